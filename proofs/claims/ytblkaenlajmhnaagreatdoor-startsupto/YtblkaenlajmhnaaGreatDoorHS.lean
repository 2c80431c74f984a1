/- mayHave. recall. -/
import Derived.Test.YtblkaenlajmhnaaGreatDoorHQ
namespace Go.Proofs.YtblkaenlajmhnaaGreatDoor
open Go.RowKit
attribute [local go_sem ↓] Go.wp_at_zero Go.wp_at_succ
attribute [local go_sem] After.cell After.frozen After.const
theorem BerthIs.ext {w w' : World} {base bb : Nat} {m : Mach} {vc vr : Value} (h : BerthIs w base bb m vc vr) (hb : Below w.heap.size w w') : BerthIs w' base bb m vc vr := by
  obtain ⟨h1, h2, h3, h4, h5, h6⟩ := h
  exact ⟨(hb.block _ (Array.getElem?_eq_some_iff.1 h1).1).trans h1, ownsRow_below h2 hb, ownsRow_below h3 hb, h4, h5.below hb, h6.below hb⟩
set_option maxRecDepth 100000 in
set_option maxHeartbeats 4000000 in
theorem mayHave_any (m : Mach) (base bb : Nat) (vc vr bv : Value) (n D : Nat) (w : World) (hm : BerthIs w base bb m vc vr) (hmn : m.n ≤ 24) (h : Boxes w bv n D) (hn : n ≤ 1099511627776) :
    Calls Tryz.prog 30 #[.pointer (some ⟨bb, 0, none⟩), bv] w fun e w' => YN e ∧ Below w.heap.size w w' := by
  have hF := h
  obtain ⟨ao, cap, rfl, _, hmx, _⟩ := h
  have HF : Hid (Boxes w (.slice ao n cap) n D ∧ BerthIs w base bb m vc vr) := ⟨hF, hm⟩
  clear hF hm
  by_cases hn12 : n ≤ 12
  · have hn12' : ¬ (12 : Int) < n := by omega
    go_enter Tryz.func30, Tryz.ntmps30
    go_wp2
    go_loopw [14] (fun i wr => ∃ k : Nat, k ≤ n ∧ i = .int .i64 k ∧ Below w.heap.size w wr) (fun i _ => n - (intOf i).toNat)
    case atStart => exact ⟨0, by omega, rfl, Below.refl _ _⟩
    case round =>
      obtain ⟨k, hk, rfl, hb⟩ := hrel
      have HB : Hid (Below w.heap.size w wr ∧ w.heap.size ≤ wr.heap.size) := ⟨hb, hb.size⟩
      by_cases hlt : k < n
      · have kn : (k : Int) < n := by omega
        obtain ⟨ao', cap', he, _, _, hF⟩ := HF.out.1.ext hb
        cases he
        obtain ⟨b, o, hao, hbl2, hF2⟩ := hF (by omega)
        subst hao
        obtain ⟨nm, A, N, C, R, e0, e1, e2, e3, e4, _, _, _⟩ := hF2 k hlt
        have hba : Below wr.heap.size wr (wr.alloc (.cells #[.string nm, .slice (A 0) (N 0) (C 0), .slice (A 1) (N 1) (C 1), .slice (A 2) (N 2) (C 2), .slice (A 3) (N 3) (C 3)] 63)) := (Below.refl _ _).alloc (Nat.le_refl _) _
        have HA : Hid (Below w.heap.size w (wr.alloc (.cells #[.string nm, .slice (A 0) (N 0) (C 0), .slice (A 1) (N 1) (C 1), .slice (A 2) (N 2) (C 2), .slice (A 3) (N 3) (C 3)] 63))) := HB.out.1.trans (hba.mono HB.out.2)
        by_cases hk0 : k = 0
        · subst hk0
          simp only [Nat.zero_mul, Nat.add_zero] at e0 e1 e2 e3 e4
          clear hF hF2 hb hba
          go_wp2_with fail
          obtain ⟨W1, hW1⟩ : ∃ W1, W1 = wr.alloc (.cells #[.string nm, .slice (A 0) (N 0) (C 0), .slice (A 1) (N 1) (C 1), .slice (A 2) (N 2) (C 2), .slice (A 3) (N 3) (C 3)] 63) := ⟨_, rfl⟩
          have k6 : W1.heap[wr.heap.size]? = some (.cells #[.string nm, .slice (A 0) (N 0) (C 0), .slice (A 1) (N 1) (C 1), .slice (A 2) (N 2) (C 2), .slice (A 3) (N 3) (C 3)] 63 (0, 0)) := by rw [hW1]; exact heap_alloc_new _ _
          have b6 : Below wr.heap.size wr W1 := by rw [hW1]; exact (Below.refl _ _).alloc (Nat.le_refl _) _
          rw [← hW1] at HA ⊢
          clear hW1
          have H6 : Hid (W1.heap[wr.heap.size]? = some (.cells #[.string nm, .slice (A 0) (N 0) (C 0), .slice (A 1) (N 1) (C 1), .slice (A 2) (N 2) (C 2), .slice (A 3) (N 3) (C 3)] 63 (0, 0)) ∧ w.heap.size ≤ W1.heap.size) := ⟨k6, HA.out.size⟩
          obtain ⟨q6, q6f⟩ := blk k6
          clear k6 e0 e1 e2 e3 e4
          go_quiet (fail)
          go_wp2_with (first
            | (go_at_call 50; refine (isName_any nm _).mono ?_; rintro e w3 ⟨⟨b1, rfl⟩, hb3⟩; have h3 := HidI ((HA.out.drewN nq).trans (hb3.mono H6.out.2)); have k63 := (hb3.block wr.heap.size (Array.getElem?_eq_some_iff.1 H6.out.1).1).trans H6.out.1; obtain ⟨q63, q63f⟩ := blk k63; clear k63 hb3; cases b1)
            | (go_at_call 51; refine (ownsAny_any A N C _).mono ?_; rintro e w4 ⟨⟨b2, rfl⟩, hb4⟩; have h4 := HidI (h3.out.trans (hb4.mono h3.out.size)); clear hb4; cases b2))
          all_goals first
            | (go_ret; exact ⟨⟨_, rfl⟩, h3.out⟩)
            | (go_ret; exact ⟨⟨_, rfl⟩, h4.out⟩)
            | (go_roundw
               case rel => exact ⟨1, by omega, by go_num, h4.out⟩
               case measure => simp [intOf]; omega)
        · obtain ⟨k', rfl⟩ : ∃ k', k = k' + 1 := ⟨k - 1, by omega⟩
          obtain ⟨nm', _, _, _, _, e0', _⟩ := hF2 k' (by omega)
          clear hF hF2 hb hba
          go_wp2_with fail
          obtain ⟨W1, hW1⟩ : ∃ W1, W1 = wr.alloc (.cells #[.string nm, .slice (A 0) (N 0) (C 0), .slice (A 1) (N 1) (C 1), .slice (A 2) (N 2) (C 2), .slice (A 3) (N 3) (C 3)] 63) := ⟨_, rfl⟩
          have k6 : W1.heap[wr.heap.size]? = some (.cells #[.string nm, .slice (A 0) (N 0) (C 0), .slice (A 1) (N 1) (C 1), .slice (A 2) (N 2) (C 2), .slice (A 3) (N 3) (C 3)] 63 (0, 0)) := by rw [hW1]; exact heap_alloc_new _ _
          have b6 : Below wr.heap.size wr W1 := by rw [hW1]; exact (Below.refl _ _).alloc (Nat.le_refl _) _
          rw [← hW1] at HA ⊢
          clear hW1
          have H6 : Hid (W1.heap[wr.heap.size]? = some (.cells #[.string nm, .slice (A 0) (N 0) (C 0), .slice (A 1) (N 1) (C 1), .slice (A 2) (N 2) (C 2), .slice (A 3) (N 3) (C 3)] 63 (0, 0)) ∧ w.heap.size ≤ W1.heap.size) := ⟨k6, HA.out.size⟩
          obtain ⟨q6, q6f⟩ := blk k6
          have e7 : W1.cell? ⟨b, o + k' * 5, none⟩ = some (.string nm') := (b6.cell (p := ⟨b, o + k' * 5, none⟩) hbl2).trans e0'
          have b3 : (0 : Int) ≤ k' := by omega
          have b4 : (k' : Int) < n := by omega
          have b5 : ((k' : Int) + 1 == 0) = false := by simp; omega
          have b5' : ¬ (k' : Int) + 1 = 0 := by omega
          have b6 : IntKind.i64.wrap (k' : Int) = k' := by rw [IntKind.wrap_i64]; omega
          have b7 : IntKind.i64.wrap ((k' : Int) + 1 - 1) = k' := by rw [Int.add_sub_cancel]; exact b6
          clear e0'
          clear k6 e0 e1 e2 e3 e4
          go_quiet (fail)
          generalize Op.bytesLess nm'.toList nm.toList = bo
          cases bo
          all_goals
            go_wp2_with (first
              | (go_at_call 50; refine (isName_any nm _).mono ?_; rintro e w3 ⟨⟨b1, rfl⟩, hb3⟩; have h3 := HidI ((HA.out.drewN nq).trans (hb3.mono H6.out.2)); have k63 := (hb3.block wr.heap.size (Array.getElem?_eq_some_iff.1 H6.out.1).1).trans H6.out.1; obtain ⟨q63, q63f⟩ := blk k63; clear k63 hb3; cases b1)
              | (go_at_call 51; refine (ownsAny_any A N C _).mono ?_; rintro e w4 ⟨⟨b2, rfl⟩, hb4⟩; have h4 := HidI (h3.out.trans (hb4.mono h3.out.size)); clear hb4; cases b2))
          all_goals first
            | (go_ret; exact ⟨⟨_, rfl⟩, h3.out⟩)
            | (go_ret; exact ⟨⟨_, rfl⟩, h4.out⟩)
            | (go_roundw
               case rel => exact ⟨k' + 1 + 1, by omega, by go_num, h4.out⟩
               case measure => simp [intOf]; omega)
      · obtain rfl : k = n := by omega
        clear hb
        go_wp2
        go_loopw [47] (fun i wr => ∃ r : Nat, r ≤ 4 ∧ i = .int .i64 r ∧ Below w.heap.size w wr) (fun i _ => 4 - (intOf i).toNat)
        case atStart => exact ⟨0, by omega, rfl, HB.out.1⟩
        case round =>
          obtain ⟨r, hr, rfl, hb⟩ := hrel
          have HC : Hid (Below w.heap.size w wr ∧ w.heap.size ≤ wr.heap.size) := ⟨hb, hb.size⟩
          clear hb
          by_cases hr4 : r < 4
          · have hr4' : (r : Int) < 4 := by omega
            go_wp2_with (first
              | (go_at_call 53; refine (ownable_any m base bb r hr4 vc vr wr (HF.out.2.ext HC.out.1) hmn).mono ?_; rintro e w3 ⟨⟨v3, zs3, rfl, hs3, hl3⟩, hb3⟩; have h3 := HidI (And.intro hs3 hb3); clear hs3 hb3)
              | (go_at_call 52; refine (ownedOnce_any _ v3 k D r hr4 zs3 wr w3 (HF.out.1.ext HC.out.1) hn h3.out.2 h3.out.1 hl3).mono ?_; rintro e w4 ⟨⟨b4, rfl⟩, hb4⟩; have h4 := HidI (HC.out.1.trans (hb4.mono HC.out.2)); clear hb4; cases b4))
            all_goals first
              | (go_ret; exact ⟨⟨_, rfl⟩, h4.out⟩)
              | (go_roundw
                 case rel => exact ⟨r + 1, by omega, by go_num, h4.out⟩
                 case measure => simp [intOf]; omega)
          · have hr4' : ¬ (r : Int) < 4 := by omega
            go_wp2
            go_ret
            exact ⟨⟨_, rfl⟩, HC.out.1⟩
  · have hn12' : (12 : Int) < n := by omega
    go_enter Tryz.func30, Tryz.ntmps30
    go_wp2
    go_ret
    exact ⟨⟨_, rfl⟩, Below.refl _ _⟩
end Go.Proofs.YtblkaenlajmhnaaGreatDoor
namespace Go.Proofs.YtblkaenlajmhnaaGreatDoor
open Go.RowKit
attribute [local go_sem ↓] Go.wp_at_zero Go.wp_at_succ
attribute [local go_sem] After.cell After.frozen After.const
set_option maxRecDepth 100000 in
set_option maxHeartbeats 4000000 in
theorem recall_any (m : Mach) (base bb : Nat) (vc vr fv : Value) (n L : Nat) (w : World) (hm : BerthIs w base bb m vc vr) (hmn : m.n ≤ 24) (hn : n * 16 ≤ 140737488355328) (hL : L ≤ 1048576) (h : Files w fv n L) (henv : Env w) :
    Calls Tryz.prog 14 #[.pointer (some ⟨bb, 0, none⟩), fv] w fun e w' => ReadPost L w.heap.size e w' ∧ Below w.heap.size w w' := by
  have HF : Hid (Files w fv n L ∧ BerthIs w base bb m vc vr ∧ Env w) := ⟨h, hm, henv⟩
  clear h hm henv
  go_enter Tryz.func14, Tryz.ntmps14
  go_wp2_with fail
  refine (textsOf_any fv n L w hn HF.out.1).mono ?_
  rintro e w1 ⟨tv, k, xs, rfl, hown, hk, hsh, hb1⟩
  have hx := texts_of_own hown hsh
  obtain ⟨ta, tc, rfl⟩ := ownsRow_shape hown
  have H1 : Hid (Below w.heap.size w w1 ∧ w.heap.size ≤ w1.heap.size) := ⟨hb1, hb1.size⟩
  clear hown hsh hb1
  by_cases k0 : k = 0
  · subst k0
    go_wp2
    go_ret2
    exact ⟨⟨.slice none 0 0, true, 0, [], rfl, World.ownsRow_nil _ _ _ _, by omega, BoxRow.nil _ _ _⟩, H1.out.1⟩
  · by_cases k1 : k = 1
    · subst k1
      obtain ⟨ts, _, hl, hs, hc⟩ := hx
      obtain ⟨t, rfl⟩ : ∃ t, ts = [t] := by
        match ts, hl with
        | [t], _ => exact ⟨t, rfl⟩
      have htL : t.size ≤ L := hs t (by simp)
      rcases hc with ⟨_, h10⟩ | ⟨g, cap, he, _, hgl, hcell⟩
      · omega
      cases he
      have c0 : w1.cell? ⟨g, 0, none⟩ = some (.string t) := hcell 0 t rfl
      clear hcell hs hl
      go_wp2_with fail
      refine (read_any t L w1 htL hL (HF.out.2.2.ext H1.out.1)).mono ?_
      rintro e w3 ⟨hb3, v, ok, nb, xb, rfl, hown, hnb, hrow⟩
      have H3 : Hid (w3.ownsRow w1.heap.size 63 5 v nb xb ∧ BoxRow w1.heap.size w3 (40 * L + 88) xb ∧ Below w.heap.size w w3) := ⟨hown, hrow, H1.out.1.trans (hb3.mono H1.out.2)⟩
      clear hown hrow hb3
      cases ok with
      | false =>
        go_wp2
        go_ret2
        exact ⟨⟨v, false, nb, xb, rfl, ownsRow_base H3.out.1 H1.out.2, hnb, H3.out.2.1.base H1.out.2⟩, H3.out.2.2⟩
      | true =>
        go_wp2_with (go_at_call 30; refine (mayHave_any m base bb vc vr v nb (40 * L + 88) w3 (HF.out.2.1.ext H3.out.2.2) hmn (boxes_of_own H3.out.1 H3.out.2.1) (by omega)).mono ?_; rintro e w4 ⟨⟨b4, rfl⟩, hb4⟩; have H4 := HidI hb4; clear hb4; cases b4)
        all_goals
          go_ret2
          exact ⟨⟨v, _, nb, xb, rfl, ownsRow_below (ownsRow_base H3.out.1 H1.out.2) H4.out, hnb, (H3.out.2.1.base H1.out.2).keep (.below H4.out)⟩, H3.out.2.2.trans (H4.out.mono H3.out.2.2.size)⟩
    · have h0' : ¬ (k : Int) = 0 := by omega
      have h1' : (1 : Int) < k := by omega
      go_wp2
      go_ret2
      exact ⟨⟨.slice none 0 0, false, 0, [], rfl, World.ownsRow_nil _ _ _ _, by omega, BoxRow.nil _ _ _⟩, H1.out.1⟩
end Go.Proofs.YtblkaenlajmhnaaGreatDoor
