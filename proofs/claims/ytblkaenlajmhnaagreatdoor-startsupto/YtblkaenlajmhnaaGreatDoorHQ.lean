/- ownable and ownedOnce. ownedOnce. -/
import Derived.Test.YtblkaenlajmhnaaGreatDoorHO
import Derived.Test.YtblkaenlajmhnaaGreatDoorU2
namespace Go.Proofs.YtblkaenlajmhnaaGreatDoor
open Go.RowKit
attribute [local go_sem ↓] Go.wp_at_zero Go.wp_at_succ
attribute [local go_sem] After.cell After.frozen After.const
def SRet (B0 : Nat) (e : Ending) (w' : World) : Prop := ∃ v zs, e = .returned v ∧ SOwn w' B0 v zs ∧ zs.length ≤ 1000
def upTo (k : Nat) : List Int := (List.range k).map (fun i : Nat => (i : Int))
theorem upTo_succ (k : Nat) : upTo (k + 1) = upTo k ++ [(k : Int)] := by unfold upTo; rw [List.range_succ]; simp
theorem upTo_len (k : Nat) : (upTo k).length = k := by simp [upTo]
theorem upTo_rise (k : Nat) : (upTo k).Pairwise (· ≤ ·) := by
  unfold upTo
  rw [List.pairwise_map]
  exact List.Pairwise.imp (fun h => by omega) List.pairwise_lt_range
set_option maxRecDepth 100000 in
set_option maxHeartbeats 2000000 in
theorem ownable_any (m : Mach) (base bb r : Nat) (hr : r < 4) (vc vr : Value) (w : World) (hm : BerthIs w base bb m vc vr) (hn : m.n ≤ 24) :
    Calls Tryz.prog 53 #[.pointer (some ⟨bb, 0, none⟩), .int .i64 r] w fun e w' => SRet w.heap.size e w' ∧ Below w.heap.size w w' := by
  obtain ⟨hb, hc, hro, _⟩ := hm
  obtain ⟨ca, cc, rfl⟩ := ownsRow_shape hc
  have hri := ints_of_own hro
  obtain ⟨ra, rc, rfl⟩ := ownsRow_shape hro
  have HR := HidI hri
  clear hc hro hri
  by_cases h0 : r = 0
  · subst h0
    unfold newB at hb
    obtain ⟨q0, q0f⟩ := blk hb
    clear hb
    go_enter Tryz.func53, Tryz.ntmps53
    go_wp2_with (go_at_call 65; refine (unreserved_any m (.slice ca m.n cc) (.slice ra m.r rc) ca cc _ rfl hn HR.out).mono ?_; rintro e w1 ⟨v, rfl, hown, hb1⟩)
    go_ret
    refine ⟨⟨_, (freeN m m.n).map (fun i : Nat => (i : Int)), rfl, ⟨?_, ?_⟩, by rw [List.length_map]; have := freeN_le m m.n; omega⟩, hb1⟩
    · rw [List.length_map, List.map_map]; exact hown
    · rw [List.pairwise_map]
      exact List.Pairwise.imp (fun h => by omega) (List.Pairwise.filter _ List.pairwise_lt_range)
  · have h0' : ¬ (r : Int) = 0 := by omega
    clear hb HR
    obtain ⟨i0, hi, hz0, hz1, hz2⟩ := info_parts Tryz.infoInt
    have hu := Tryz.underlying23
    go_enter Tryz.func53, Tryz.ntmps53
    go_wp2_with (go_at_call 83; refine (mostOf_any r hr _).mono ?_; rintro e w1 ⟨⟨M, rfl, hM⟩, hw⟩; obtain rfl := hw.symm)
    go_loopw [5, 16] (fun v i wr => ∃ k : Nat, k ≤ M ∧ i = .int .i64 k ∧ SOwn wr w.heap.size v (upTo k) ∧ Below w.heap.size w wr) (fun _ i _ => M - (intOf i).toNat)
    case atStart => exact ⟨0, by omega, rfl, ⟨World.ownsRow_nil _ _ _ _, by simp [upTo]⟩, Below.refl _ _⟩
    case round =>
      obtain ⟨k, hk, rfl, hs, hb⟩ := hrel
      have HI : Hid (SOwn wr w.heap.size u5 (upTo k) ∧ Below w.heap.size w wr ∧ w.heap.size ≤ wr.heap.size) := ⟨hs, hb, hb.size⟩
      obtain ⟨va, vcap, rfl⟩ := ownsRow_shape hs.1
      clear hs hb
      by_cases hlt : k < M
      · have hlt' : (k : Int) < M := by omega
        have hlk := upTo_len k
        go_wp2_with (at_builtin; refine wpList_append_own _ rfl _ _ _ rfl w.heap.size 3 i0 _ 1 8 hu hi hz0 hz1 hz2 rfl (by omega) _ (upTo k).length _ rfl (HI.out.1.1.alloc _) ⟨wr.heap.size, 0, none⟩ 1 1 [.int .i64 k] rfl rfl (cell_one_new _ _ _) (by intro u hu; simp at hu; subst hu; rfl) (by unfold maxLen; omega) (by omega) (by have := HI.out.2.2; simp; omega) ?_; intro v' w1 hown hgrow _; have HX : Hid (_ ∧ _) := ⟨hown, hgrow⟩; clear hown hgrow)
        go_roundw
        case rel =>
          refine ⟨k + 1, by omega, by go_num, ⟨?_, upTo_rise _⟩, (HI.out.2.1.alloc HI.out.2.2 _).grown HX.out.2 (by have := HI.out.2.2; simp; omega) (fun q hq => (HI.out.1.1.lt q hq).1)⟩
          rw [upTo_succ]
          simpa using HX.out.1
        case measure => simp [intOf]; omega
      · have hlt' : ¬ (k : Int) < M := by omega
        go_wp2
        go_ret
        exact ⟨⟨_, _, rfl, HI.out.1, by rw [upTo_len]; omega⟩, HI.out.2.1⟩
end Go.Proofs.YtblkaenlajmhnaaGreatDoor
namespace Go.Proofs.YtblkaenlajmhnaaGreatDoor
open Go.RowKit
attribute [local go_sem ↓] Go.wp_at_zero Go.wp_at_succ
attribute [local go_sem] After.cell After.frozen After.const
theorem del1_any (v : Value) (zs : List Int) (base p : Nat) (w : World) (h : SOwn w base v zs) (hn : zs.length ≤ 1000) (hp : p < zs.length) :
    Calls Tryz.prog 82 #[v, .int .i64 p, .int .i64 ((p : Int) + 1)] w fun e w' => ∃ v' zs', e = .returned v' ∧ SOwn w' base v' zs' ∧ zs'.length ≤ zs.length ∧ Below base w w' := del_any v zs base p w h hn hp
theorem Ints.at {w : World} {a : Option Addr} {n c : Nat} {R : Nat → Int} (h : Ints w (.slice a n c) n R) (h0 : 0 < n) : ∃ b o, a = some ⟨b, o, none⟩ ∧ IntAt w b o n R := by
  obtain ⟨_, _, e, _, _, h3⟩ := h
  cases e
  exact h3 h0
theorem Ints.len {w : World} {a : Option Addr} {n c : Nat} {R : Nat → Int} (h : Ints w (.slice a n c) n R) : n ≤ 9223372036854775807 := by
  obtain ⟨_, _, e, _, h2, _⟩ := h
  exact h2
set_option maxRecDepth 100000 in
set_option maxHeartbeats 4000000 in
theorem ownedOnce_any (bv v : Value) (n D r : Nat) (hr : r < 4) (zs : List Int) (wB w : World) (h : Boxes wB bv n D) (hn : n ≤ 1099511627776) (hb : Below wB.heap.size wB w) (hs : SOwn w wB.heap.size v zs) (hz : zs.length ≤ 1000) :
    Calls Tryz.prog 52 #[bv, .int .i64 r, v] w fun e w' => YN e ∧ Below wB.heap.size wB w' := by
  have hF := h
  obtain ⟨ao, cap, rfl, _, hm, _⟩ := h
  obtain ⟨va, vc, rfl⟩ := ownsRow_shape hs.1
  have HF : Hid (Boxes wB (.slice ao n cap) n D ∧ Below wB.heap.size wB w ∧ SOwn w wB.heap.size (.slice va zs.length vc) zs) := ⟨hF, hb, hs⟩
  clear hF hb hs
  go_enter Tryz.func52, Tryz.ntmps52
  go_wp2
  go_loopw [2, 16] (fun u i wr => ∃ (k : Nat) (ys : List Int), k ≤ n ∧ i = .int .i64 k ∧ SOwn wr wB.heap.size u ys ∧ ys.length ≤ 1000 ∧ Below wB.heap.size wB wr) (fun _ i _ => n - (intOf i).toNat)
  case atStart => exact ⟨0, zs, by omega, rfl, HF.out.2.2, hz, HF.out.2.1⟩
  case round =>
    obtain ⟨k, ys, hk, rfl, hs, hy, hb⟩ := hrel
    have HR : Hid (SOwn wr wB.heap.size u2 ys ∧ Below wB.heap.size wB wr ∧ wB.heap.size ≤ wr.heap.size) := ⟨hs, hb, hb.size⟩
    by_cases hlt : k < n
    · have kn : (k : Int) < n := by omega
      obtain ⟨aoB, capB, heB, _, _, hF⟩ := HF.out.1
      cases heB
      obtain ⟨b, o, hao, hbl2, hF2⟩ := hF (by omega)
      subst hao
      obtain ⟨nm, A, N, C, R, e0, e1, e2, e3, e4, hG, hI, hDD⟩ := hF2 k hlt
      have cc : ∀ j, wr.cell? ⟨b, j, none⟩ = wB.cell? ⟨b, j, none⟩ := fun j => hb.cell (p := ⟨b, j, none⟩) hbl2
      replace e0 := (cc _).trans e0
      replace e1 := (cc _).trans e1
      replace e2 := (cc _).trans e2
      replace e3 := (cc _).trans e3
      replace e4 := (cc _).trans e4
      have HG : Hid (Ints wB (.slice (A r) (N r) (C r)) (N r) (R r)) := hG r hr
      clear hF hF2 hb hG hI hDD hs cc
      go_wp2_with fail
      have hba : Below wr.heap.size wr (wr.alloc (.cells #[.string nm, .slice (A 0) (N 0) (C 0), .slice (A 1) (N 1) (C 1), .slice (A 2) (N 2) (C 2), .slice (A 3) (N 3) (C 3)] 63)) := (Below.refl _ _).alloc (Nat.le_refl _) _
      refine (owned_any A N C r hr _).mono ?_
      rintro e w3 ⟨rfl, hb3⟩
      have hb3' : Below wr.heap.size wr w3 := hba.trans (hb3.mono hba.size)
      have HT : Hid (SOwn w3 wB.heap.size u2 ys ∧ Below wB.heap.size wB w3) := ⟨⟨ownsRow_below HR.out.1.1 hb3', HR.out.1.2⟩, HR.out.2.1.trans (hb3'.mono HR.out.2.2)⟩
      clear hba hb3 hb3' e0 e1 e2 e3 e4
      obtain ⟨ar, har⟩ : ∃ a, a = A r := ⟨_, rfl⟩
      obtain ⟨nr, hnr⟩ : ∃ a, a = N r := ⟨_, rfl⟩
      obtain ⟨cr, hcr⟩ : ∃ a, a = C r := ⟨_, rfl⟩
      rw [← har, ← hnr, ← hcr] at HG
      rw [← har, ← hnr, ← hcr]
      clear har hnr hcr
      have hnr := HG.out.len
      go_wp2_with fail
      refine (isSorted_any (.slice ar nr cr) nr (R r) w3 (HG.out.ext HT.out.2)).mono ?_
      rintro e w4 ⟨⟨bs, rfl⟩, hb4⟩
      have HU : Hid (SOwn w4 wB.heap.size u2 ys ∧ Below wB.heap.size wB w4) := ⟨⟨ownsRow_below HT.out.1.1 hb4, HT.out.1.2⟩, HT.out.2.trans (hb4.mono HT.out.2.size)⟩
      clear hb4
      cases bs with
      | false =>
        go_wp2
        go_ret
        exact ⟨⟨_, rfl⟩, HU.out.2⟩
      | true =>
        go_wp2
        go_loopw [2, 29] (fun u i wq => ∃ (j : Nat) (ys' : List Int), j ≤ nr ∧ i = .int .i64 j ∧ SOwn wq wB.heap.size u ys' ∧ ys'.length ≤ 1000 ∧ Below wB.heap.size wB wq) (fun _ i _ => nr - (intOf i).toNat)
        case atStart => exact ⟨0, ys, by omega, rfl, HU.out.1, hy, HU.out.2⟩
        case round =>
          obtain ⟨j, ys', hj, rfl, hs', hy', hb'⟩ := hrel
          have HV : Hid (SOwn wr wB.heap.size u2 ys' ∧ Below wB.heap.size wB wr) := ⟨hs', hb'⟩
          clear hs'
          by_cases hjl : j < nr
          · have jn : (j : Int) < nr := by omega
            obtain ⟨g, p, rfl, hc⟩ := HG.out.at (by omega)
            have hgl : g < wB.heap.size := block_lt_of_cell (hc 0 (by omega))
            have c0 : wr.cell? ⟨g, p + j, none⟩ = some (.int .i64 (R r j)) := (hb'.cell (p := ⟨g, p + j, none⟩) hgl).trans (hc j hjl)
            clear hc hb'
            go_wp2_with fail
            refine (search_any u2 ys' wB.heap.size (R r j) wr HV.out.1 hy').mono ?_
            rintro e w5 ⟨⟨pl, f, rfl, hf⟩, q, rfl⟩
            cases f with
            | false =>
              go_wp2
              go_ret
              exact ⟨⟨_, rfl⟩, HV.out.2.drewN q⟩
            | true =>
              have hpl := hf rfl
              clear hf
              go_wp2_with fail
              refine (del1_any u2 ys' wB.heap.size pl (wr.drewN q) HV.out.1 hy' hpl).mono ?_
              rintro e w6 ⟨v6, zs6, rfl, hs6, hl6, hb6⟩
              have HW : Hid (SOwn w6 wB.heap.size v6 zs6 ∧ Below wB.heap.size wB w6) := ⟨hs6, (HV.out.2.drewN q).trans hb6⟩
              clear hs6 hb6
              go_wp2
              go_roundw
              case rel => exact ⟨j + 1, zs6, by omega, by go_num, HW.out.1, by omega, HW.out.2⟩
              case measure => simp [intOf]; omega
          · obtain rfl : j = nr := by omega
            clear hb'
            go_wp2
            go_roundw
            case rel => exact ⟨k + 1, ys', by omega, by go_num, HV.out.1, hy', HV.out.2⟩
            case measure => simp [intOf]; omega
    · obtain rfl : k = n := by omega
      clear hb hs
      go_wp2
      go_ret
      exact ⟨⟨_, rfl⟩, HR.out.2.1⟩
end Go.Proofs.YtblkaenlajmhnaaGreatDoor
