/- The document's own world: ints, Boxed of none, Begin. Free of a new world, by the document. -/
import Derived.Test.YtblkaenlajmhnaaGreatDoorB1
import Derived.Test.YtblkaenlajmhnaaGreatDoorU1
namespace Go.Proofs.YtblkaenlajmhnaaGreatDoor
open Go.RowKit
attribute [local go_sem ↓] Go.wp_at_zero Go.wp_at_succ
attribute [local go_sem] After.cell After.frozen After.const
set_option maxRecDepth 100000 in
set_option maxHeartbeats 1000000 in
theorem intsCopy_any (ro : Option Addr) (rb rp r rcap : Nat) (R : Nat → Int) (w : World) (hr : r * 8 ≤ 140737488355328) (ha : 0 < r → ro = some ⟨rb, rp, none⟩) (hi : IntAt w rb rp r R) :
    Calls Tryz.prog 22 #[.slice ro r rcap] w fun e w' => e = .returned (.slice (some ⟨w.heap.size, 0, none⟩) r r) ∧ w'.rowIs w.heap.size 3 r (fun j => .int .i64 (R j)) ∧ Below w.heap.size w w' := by
  obtain ⟨W1, hmk, ⟨f, r1⟩, hB1, hs1⟩ := ex_make (P := Tryz.prog) w 23 3 _ 1 8 r r rfl Tryz.underlying23 Tryz.infoInt (by omega) (by omega)
  obtain ⟨W2, hcp, r2, hg2, hs2⟩ := ex_copy (P := Tryz.prog) W1 23 3 _ 1 8 Tryz.underlying23 Tryz.infoInt w.heap.size 0 r r (r * 1) f r1 ro rb rp r rcap r (by simp) (fun j => .int .i64 (R j)) ha
    (fun j hj => (hB1.cell (p := ⟨rb, rp + j, none⟩) (block_lt_of_cell (hi j (by omega)))).trans (hi j (by omega))) (fun _ _ => rfl) (by omega)
  have H : Hid (W2.rowIs w.heap.size 3 r (fun j => .int .i64 (R j)) ∧ Below w.heap.size w W2) := ⟨by simpa using r2.congr (g := fun j => .int .i64 (R j)) (fun j hj => by rw [if_pos (by omega)]; rfl), hB1.grown hg2 (by omega) (fun k hk => by cases hk; omega)⟩
  clear r1 r2 hB1 hg2 hs1 hs2 hi ha
  go_enter Tryz.func22, Tryz.ntmps22
  go_wp2
  go_ret
  exact ⟨rfl, H.out⟩
set_option maxRecDepth 100000 in
set_option maxHeartbeats 1000000 in
theorem boxed_none (w : World) : Calls Tryz.prog 21 #[.slice none 0 0] w fun e w' => e = .returned (.slice none 0 0) ∧ w' = w := by
  go_enter Tryz.func21, Tryz.ntmps21
  go_wp2
  refine wp_loop_rounds 1 ?_
  rw [rounds_succ]
  go_wp2
  go_ret
  exact ⟨rfl, rfl⟩
structure WorldIs (w : World) (base ww c q : Nat) (m : Mach) : Prop where
  blk : w.heap[ww]? = some (.cells #[.slice (some ⟨c, 0, none⟩) m.n m.n, .slice (some ⟨q, 0, none⟩) m.r m.r, .int .i64 m.p, .slice none 0 0, .slice none 0 0, .slice none 0 0, .slice none 0 0] 67 (0, 0))
  cpus : w.rowIs c 46 (m.n * 3) (cpuCell m.S m.N m.C)
  res : w.rowIs q 3 m.r (fun j => .int .i64 (m.R j))
  base : base ≤ ww ∧ base ≤ c ∧ base ≤ q
set_option maxRecDepth 100000 in
set_option maxHeartbeats 2000000 in
theorem begin_any (m : Mach) (w : World) (hm : m.At w) :
    Calls Tryz.prog 10 #[m.val, .slice none 0 0] w fun e w' => ∃ ww c q, e = .returned (.pointer (some ⟨ww, 0, none⟩)) ∧ WorldIs w' w.heap.size ww c q m ∧ Below w.heap.size w w' := by
  obtain ⟨ao, b, o, n, cap, S, N, C, ro, rb, rp, r, rcap, R, p⟩ := m
  obtain ⟨ncap, nmax, addr, cpus, rc, rmax, raddr, ints⟩ := hm
  simp only [Mach.val] at *
  obtain ⟨W0, hW0⟩ : ∃ W0, W0 = (w.alloc (.cells #[.slice ao n cap, .slice ro r rcap, .int .i64 p] 25)).alloc (.cells #[.slice none 0 0, .slice none 0 0, .int .i64 p, .slice none 0 0, .slice none 0 0, .slice none 0 0, .slice none 0 0] 67) := ⟨_, rfl⟩
  have hs0 : W0.heap.size = w.heap.size + 1 + 1 := by rw [hW0]; simp
  have hB0 : Below w.heap.size w W0 := by rw [hW0]; exact ((Below.refl _ _).alloc (Nat.le_refl _) _).alloc (by simp) _
  have k0 : W0.heap[w.heap.size]? = some (.cells #[.slice ao n cap, .slice ro r rcap, .int .i64 p] 25 (0, 0)) := by rw [hW0]; exact heap_alloc2_old _ _ _
  have k1 : W0.heap[w.heap.size + 1]? = some (.cells #[.slice none 0 0, .slice none 0 0, .int .i64 p, .slice none 0 0, .slice none 0 0, .slice none 0 0, .slice none 0 0] 67 (0, 0)) := by rw [hW0]; exact heap_alloc2_new _ _ _
  obtain ⟨W1, hmk1, ⟨f1, r1⟩, hB1, hs1⟩ := ex_make (P := Tryz.prog) W0 22 46 _ 3 24 n n rfl Tryz.underlying22 Tryz.info22 (by omega) (by omega)
  rw [hs0] at r1 hmk1 hs1
  have k0' := (hB1.block _ (by omega)).trans k0
  have k1' := (hB1.block _ (by omega)).trans k1
  have c1 := blk_set (i := 0) (.slice (some ⟨w.heap.size + 1 + 1, 0, none⟩) n n) k1'
  have c0 := blk_other (a := ⟨w.heap.size + 1, 0, none⟩) (.slice (some ⟨w.heap.size + 1 + 1, 0, none⟩) n n) k0' (by simp)
  simp only [List.setIfInBounds_toArray, List.set_cons_zero] at c1
  have rr := r1.setOther (a := ⟨w.heap.size + 1, 0, none⟩) (by show w.heap.size + 1 + 1 ≠ w.heap.size + 1; omega) (.slice (some ⟨w.heap.size + 1 + 1, 0, none⟩) n n)
  have hBw : Below w.heap.size w (W1.setCell ⟨w.heap.size + 1, 0, none⟩ (.slice (some ⟨w.heap.size + 1 + 1, 0, none⟩) n n)) := (ext_trans hB0 hB1).setCell (by show w.heap.size ≤ w.heap.size + 1; omega) _
  obtain ⟨W2, hcp, r2, hg2, hs2⟩ := ex_copy (P := Tryz.prog) (W1.setCell ⟨w.heap.size + 1, 0, none⟩ (.slice (some ⟨w.heap.size + 1 + 1, 0, none⟩) n n)).drew 22 46 _ 3 24 Tryz.underlying22 Tryz.info22 (w.heap.size + 1 + 1) 0 n n (n * 3) f1 rr.drew ao b o n cap n (by simp) (cpuCell S N C) addr
    (fun j hj => (hBw.cell (p := ⟨b, o + j, none⟩) (block_lt_of_cell (cpus.flat j hj))).trans (cpus.flat j hj)) (fun _ _ => rfl) (by omega)
  obtain ⟨p0, p0f⟩ := blk k0'
  obtain ⟨p1, p1f⟩ := blk k1'
  obtain ⟨s0, s0f⟩ := blk c0
  obtain ⟨s1, s1f⟩ := blk c1
  have d0 := (hg2.block w.heap.size (by simp; omega) (ne_some (by omega))).trans c0
  have d1 := (hg2.block (w.heap.size + 1) (by simp; omega) (ne_some (by omega))).trans c1
  have hBw2 : Below w.heap.size w W2 := hBw.drew.grown hg2 (by simp; omega) (fun k hk => by cases hk; omega)
  obtain ⟨t0, t0f⟩ := blk d0
  have hz2 : W2.heap.size = w.heap.size + 1 + 1 + 1 := by rw [hs2]; simp; omega
  have HM : Hid (W2.rowIs (w.heap.size + 1 + 1) 46 (n * 3) (cpuCell S N C) ∧ Below w.heap.size w W2 ∧ W2.heap[w.heap.size + 1]? = some (.cells #[.slice (some ⟨w.heap.size + 1 + 1, 0, none⟩) n n, .slice none 0 0, .int .i64 p, .slice none 0 0, .slice none 0 0, .slice none 0 0, .slice none 0 0] 67 (0, 0)) ∧ IntAt w rb rp r R ∧ W2.heap.size = w.heap.size + 1 + 1 + 1) :=
    ⟨r2.congr (fun j hj => by rw [if_pos ⟨Nat.zero_le _, by omega⟩]; rfl), hBw2, d1, ints, hz2⟩
  rw [hW0] at hmk1
  clear hW0 hs0 hB0 k0 k1 k0' k1' c0 c1 rr hBw d0 d1 hBw2 r1 r2 hg2 hB1 cpus ints addr hz2 hs1 hs2
  go_enter Tryz.func10, Tryz.ntmps10
  go_wp2_with (go_at_call 21; refine (boxed_none _).mono ?_; rintro e w' ⟨rfl, rfl⟩)
  go_region
  go_wp2_with fail
  refine (intsCopy_any ro rb rp r rcap R _ rmax raddr (HM.out.2.2.2.1.ext HM.out.2.1)).mono ?_
  rintro e w3 ⟨rfl, r3, hb3⟩
  have hz := HM.out.2.2.2.2
  have d1 := (hb3.block (w.heap.size + 1) (by omega)).trans HM.out.2.2.1
  have d2 := blk_set (i := 1) (.slice (some ⟨W2.heap.size, 0, none⟩) r r) d1
  simp only [List.setIfInBounds_toArray, List.set_cons_zero, List.set_cons_succ] at d2
  obtain ⟨q1, q1f⟩ := blk d1
  have HF : Hid ((w3.setCell ⟨w.heap.size + 1, 1, none⟩ (.slice (some ⟨W2.heap.size, 0, none⟩) r r)).rowIs W2.heap.size 3 r (fun j => .int .i64 (R j)) ∧ Below w.heap.size w (w3.setCell ⟨w.heap.size + 1, 1, none⟩ (.slice (some ⟨W2.heap.size, 0, none⟩) r r)) ∧
      (w3.setCell ⟨w.heap.size + 1, 1, none⟩ (.slice (some ⟨W2.heap.size, 0, none⟩) r r)).rowIs (w.heap.size + 1 + 1) 46 (n * 3) (cpuCell S N C) ∧ W2.heap.size = w.heap.size + 1 + 1 + 1 ∧
      (w3.setCell ⟨w.heap.size + 1, 1, none⟩ (.slice (some ⟨W2.heap.size, 0, none⟩) r r)).heap[w.heap.size + 1]? = some (.cells #[.slice (some ⟨w.heap.size + 1 + 1, 0, none⟩) n n, .slice (some ⟨W2.heap.size, 0, none⟩) r r, .int .i64 p, .slice none 0 0, .slice none 0 0, .slice none 0 0, .slice none 0 0] 67 (0, 0))) :=
    ⟨r3.setOther (by show W2.heap.size ≠ w.heap.size + 1; omega) _, (HM.out.2.1.trans (hb3.mono (by omega))).setCell (by show w.heap.size ≤ w.heap.size + 1; omega) _, (HM.out.1.of_block (hb3.block _ (by omega))).setOther (by show w.heap.size + 1 + 1 ≠ w.heap.size + 1; omega) _, hz, d2⟩
  clear r3 hb3 d1 d2 hz
  go_wp2_with fail
  go_ret
  obtain ⟨h1, h2, h3, h4, h5⟩ := HF.out
  exact ⟨w.heap.size + 1, w.heap.size + 1 + 1, W2.heap.size, rfl, ⟨h5, h3, h1, by omega, by omega, by omega⟩, h2⟩
end Go.Proofs.YtblkaenlajmhnaaGreatDoor
namespace Go.Proofs.YtblkaenlajmhnaaGreatDoor
open Go.RowKit
attribute [local go_sem ↓] Go.wp_at_zero Go.wp_at_succ
attribute [local go_sem] After.cell After.frozen After.const
set_option maxRecDepth 100000 in
set_option maxHeartbeats 1000000 in
theorem freeCPU_any (m : Mach) (base ww c q : Nat) (x : Int) (w : World) (hm : WorldIs w base ww c q m) (hr : m.r * 8 ≤ 140737488355328) :
    Calls Tryz.prog 23 #[.pointer (some ⟨ww, 0, none⟩), .int .i64 x] w fun e w' => Ans (¬ among m.R m.r x) e ∧ w' = w := by
  obtain ⟨hb, hc, hr2, _⟩ := hm
  obtain ⟨q0, q0f⟩ := blk hb
  have HI : Hid (IntAt w q 0 m.r m.R) := fun i hi => by rw [Nat.zero_add]; exact hr2.cell hi
  clear hb hc hr2
  by_cases ha : among m.R m.r x
  · have HA : Hid (among m.R m.r x) := ha
    clear ha
    go_enter Tryz.func23, Tryz.ntmps23
    go_wp2_with (go_at_call 43; refine (in_any (some ⟨q, 0, none⟩) q 0 m.r m.r m.R x _ (by omega) (fun _ => rfl) HI.out).mono ?_; rintro e w1 ⟨he, hw⟩; obtain rfl := hw.symm; obtain rfl := he.is_true HA.out; clear he)
    refine wp_loop_rounds 1 ?_
    rw [rounds_succ]
    go_wp2
    go_ret
    exact ⟨.no (fun h => h HA.out), rfl⟩
  · have HA : Hid (¬ among m.R m.r x) := ha
    clear ha
    go_enter Tryz.func23, Tryz.ntmps23
    go_wp2_with (go_at_call 43; refine (in_any (some ⟨q, 0, none⟩) q 0 m.r m.r m.R x _ (by omega) (fun _ => rfl) HI.out).mono ?_; rintro e w1 ⟨he, hw⟩; obtain rfl := hw.symm; obtain rfl := he.is_false HA.out; clear he)
    refine wp_loop_rounds 1 ?_
    rw [rounds_succ]
    go_wp2
    go_ret
    exact ⟨.yes HA.out, rfl⟩
theorem WorldIs.of_below {w w' : World} {base ww c q : Nat} {m : Mach} (h : WorldIs w base ww c q m) (hb : Below w.heap.size w w') : WorldIs w' base ww c q m :=
  ⟨(hb.block ww (Array.getElem?_eq_some_iff.1 h.blk).1).trans h.blk, h.cpus.of_block (hb.block _ h.cpus.lt), h.res.of_block (hb.block _ h.res.lt), h.base⟩
set_option maxRecDepth 100000 in
set_option maxHeartbeats 2000000 in
theorem worldFree_any (m : Mach) (base ww c q : Nat) (w : World) (hm : WorldIs w base ww c q m) (hr : m.r * 8 ≤ 140737488355328) (hn : m.n ≤ 24) :
    Calls Tryz.prog 11 #[.pointer (some ⟨ww, 0, none⟩)] w fun e w' => ∃ v, e = .returned (.agg #[v, .slice none 0 0, .slice none 0 0, .slice none 0 0]) ∧ w'.ownsRow w.heap.size 3 1 v (freeN m m.n).length (freeV m m.n) ∧ Below w.heap.size w w' := by
  obtain ⟨i0, hi, hz0, hz1, hz2⟩ := info_parts Tryz.infoInt
  have hu := Tryz.underlying23
  have hwl : ww < w.heap.size := (Array.getElem?_eq_some_iff.1 hm.blk).1
  obtain ⟨W0, hW0⟩ : ∃ W0, W0 = (w.alloc (.cells #[.slice none 0 0, .slice none 0 0, .slice none 0 0, .slice none 0 0] 39)).alloc (.cells #[.slice none 0 0, .slice none 0 0, .slice none 0 0, .slice none 0 0] 39) := ⟨_, rfl⟩
  have hs0 : W0.heap.size = w.heap.size + 1 + 1 := by rw [hW0]; simp
  have hB0 : Below w.heap.size w W0 := by rw [hW0]; exact ((Below.refl _ _).alloc (Nat.le_refl _) _).alloc (by simp) _
  have k0 : W0.heap[w.heap.size]? = some (.cells #[.slice none 0 0, .slice none 0 0, .slice none 0 0, .slice none 0 0] 39 (0, 0)) := by rw [hW0]; exact heap_alloc2_old _ _ _
  have k1 : W0.heap[w.heap.size + 1]? = some (.cells #[.slice none 0 0, .slice none 0 0, .slice none 0 0, .slice none 0 0] 39 (0, 0)) := by rw [hW0]; exact heap_alloc2_new _ _ _
  have HW : Hid (WorldIs w base ww c q m ∧ W0.heap.size = w.heap.size + 1 + 1 ∧ Below w.heap.size w W0 ∧ W0.heap[w.heap.size]? = some (.cells #[.slice none 0 0, .slice none 0 0, .slice none 0 0, .slice none 0 0] 39 (0, 0)) ∧ W0.heap[w.heap.size + 1]? = some (.cells #[.slice none 0 0, .slice none 0 0, .slice none 0 0, .slice none 0 0] 39 (0, 0))) := ⟨hm, hs0, hB0, k0, k1⟩
  clear hm hs0 hB0 k0 k1
  go_enter Tryz.func11, Tryz.ntmps11
  go_wp2_with fail
  rw [← hW0]
  clear hW0
  go_loopw [4] (fun i wr => ∃ k : Nat, k ≤ m.n ∧ i = .int .i64 k ∧ ∃ va vcap, wr.heap[w.heap.size + 1]? = some (.cells #[.slice va (freeN m k).length vcap, .slice none 0 0, .slice none 0 0, .slice none 0 0] 39 (0, 0)) ∧
     wr.ownsRow (w.heap.size + 1 + 1) 3 1 (.slice va (freeN m k).length vcap) (freeN m k).length (freeV m k) ∧ Below (w.heap.size + 1) W0 wr ∧ w.heap.size + 1 < wr.heap.size) (fun i _ => m.n - (intOf i).toNat)
  case atStart => exact ⟨0, by omega, rfl, none, 0, HW.out.2.2.2.2, World.ownsRow_nil _ _ _ _, Below.refl _ _, by have := HW.out.2.1; omega⟩
  case round =>
    obtain ⟨k, hk, rfl, va, vcap, hg, hown, hb, hz⟩ := hrel
    have hbw : Below w.heap.size w wr := HW.out.2.2.1.trans (hb.mono (by omega))
    have hwr : WorldIs wr base ww c q m := HW.out.1.of_below hbw
    have HR : Hid (wr.heap[w.heap.size + 1]? = some (.cells #[.slice va (freeN m k).length vcap, .slice none 0 0, .slice none 0 0, .slice none 0 0] 39 (0, 0)) ∧
     wr.ownsRow (w.heap.size + 1 + 1) 3 1 (.slice va (freeN m k).length vcap) (freeN m k).length (freeV m k) ∧ Below (w.heap.size + 1) W0 wr ∧ WorldIs wr base ww c q m) := ⟨hg, hown, hb, hwr⟩
    obtain ⟨q0, q0f⟩ := blk hwr.blk
    obtain ⟨q1, q1f⟩ := blk hg
    have hlen := freeN_le m k
    clear hg hown hb hbw hwr
    by_cases hlt : k < m.n
    · by_cases hres : resB m k = true
      · go_wp2_with (go_at_call 23; refine (freeCPU_any m base ww c q k _ HR.out.2.2.2 hr).mono ?_; rintro e w1 ⟨he, hw⟩; obtain rfl := hw.symm; obtain rfl := he.is_false (fun h => h ((resB_iff m k).1 hres)); clear he)
        go_roundw
        case rel =>
          refine ⟨k + 1, by omega, by go_num, va, vcap, ?_, ?_, HR.out.2.2.1, hz⟩
          · rw [freeN_miss hres]; exact HR.out.1
          · unfold freeV; rw [freeN_miss hres]; exact HR.out.2.1
        case measure => simp [intOf]; omega
      · have hres' : resB m k = false := by simpa using hres
        have HN : Hid (¬ among m.R m.r (k : Int)) := fun h => hres ((resB_iff m k).2 h)
        clear hres
        go_wp2_with (first
          | (go_at_call 23; refine (freeCPU_any m base ww c q k _ HR.out.2.2.2 hr).mono ?_; rintro e w1 ⟨he, hw⟩; obtain rfl := hw.symm; obtain rfl := he.is_true HN.out; clear he)
          | (at_builtin; refine wpList_append_own _ rfl _ _ _ rfl (w.heap.size + 1 + 1) 3 i0 _ 1 8 hu hi hz0 hz1 hz2 rfl (by omega) _ (freeN m k).length (freeV m k) rfl (HR.out.2.1.alloc _) ⟨wr.heap.size, 0, none⟩ 1 1 [.int .i64 k] rfl rfl (cell_one_new _ _ _) (by intro u hu; simp at hu; subst hu; rfl) (by unfold maxLen; omega) (by omega) (by simp; omega) ?_; intro v' w1 hown hgrow _; obtain ⟨va', vc', hv'⟩ := ownsRow_shape hown; subst hv'; have kq := (hgrow.block (w.heap.size + 1) (by simp; omega) (fun e => by have := (HR.out.2.1.lt _ e.symm).1; omega)).trans ((Below.heap_alloc _ _ _ hz).trans HR.out.1); obtain ⟨z1, z1f⟩ := blk kq))
        have HO : Hid ((w1.setCell ⟨w.heap.size + 1, 0, none⟩ (.slice va' ((freeN m k).length + 1) vc')).heap[w.heap.size + 1]? = some (.cells #[.slice va' ((freeN m k).length + 1) vc', .slice none 0 0, .slice none 0 0, .slice none 0 0] 39 (0, 0)) ∧
            (w1.setCell ⟨w.heap.size + 1, 0, none⟩ (.slice va' ((freeN m k).length + 1) vc')).ownsRow (w.heap.size + 1 + 1) 3 1 (.slice va' ((freeN m k).length + 1) vc') (freeN m (k + 1)).length (freeV m (k + 1)) ∧
            Below (w.heap.size + 1) W0 (w1.setCell ⟨w.heap.size + 1, 0, none⟩ (.slice va' ((freeN m k).length + 1) vc')) ∧ w.heap.size + 1 < w1.heap.size) := by
          refine ⟨blk_set _ kq, ?_, (((HR.out.2.2.1.alloc (by omega) _).grown hgrow (by simp; omega) (fun p hp => by have := (HR.out.2.1.lt p hp).1; omega)).setCell (Nat.le_refl _) _), by have := hgrow.size; simp at this; omega⟩
          have h2 := ownsRow_setCell_below hown (a := ⟨w.heap.size + 1, 0, none⟩) (Nat.lt_succ_self _) (.slice va' ((freeN m k).length + 1) vc')
          unfold freeV; rw [freeN_hit hres']
          simpa [freeV] using h2
        clear hown hgrow kq
        go_wp2
        go_roundw
        case rel =>
          refine ⟨k + 1, by omega, by go_num, va', vc', ?_, ?_, HO.out.2.2.1, by simpa using HO.out.2.2.2⟩
          · have := HO.out.1; rw [freeN_hit hres']; simpa using this
          · have := HO.out.2.1; rw [freeN_hit hres'] at this ⊢; simpa using this
        case measure => simp [intOf]; omega
    · have : k = m.n := by omega
      subst this
      go_wp2_with fail
      obtain ⟨wo, rfl⟩ : ∃ wo, wo = wr := ⟨_, rfl⟩
      go_loopw [6] (fun i wr => ∃ k : Nat, k ≤ 3 ∧ i = .int .i64 k ∧ wr = wo) (fun i _ => 3 - (intOf i).toNat)
      case atStart => exact ⟨0, by omega, rfl, rfl⟩
      case round =>
        obtain ⟨k, hk, rfl, hw⟩ := hrel
        obtain rfl := hw.symm
        by_cases hlt : k < 3
        · rcases (show k = 0 ∨ k = 1 ∨ k = 2 by omega) with rfl | rfl | rfl <;> (
            go_wp2
            refine wp_loop_rounds 1 ?_
            rw [rounds_succ]
            go_wp2
            go_roundw
            case rel => first | exact ⟨1, by omega, rfl, trivial⟩ | exact ⟨2, by omega, rfl, trivial⟩ | exact ⟨3, by omega, rfl, trivial⟩
            case measure => simp [intOf])
        · have : k = 3 := by omega
          subst this
          have kz := (HR.out.2.2.1.block w.heap.size (by omega)).trans HW.out.2.2.2.1
          obtain ⟨y0, y0f⟩ := blk kz
          have KZ : Hid (wo.heap[w.heap.size]? = some (.cells #[.slice none 0 0, .slice none 0 0, .slice none 0 0, .slice none 0 0] 39 (0, 0))) := kz
          clear kz
          go_wp2_with fail
          have z3 := blk_set (i := 3) (.slice none 0 0) (blk_set (i := 2) (.slice none 0 0) (blk_set (i := 1) (.slice none 0 0) (blk_set (i := 0) (.slice va (freeN m m.n).length vcap) KZ.out)))
          simp only [List.setIfInBounds_toArray, List.set_cons_zero, List.set_cons_succ] at z3
          obtain ⟨z, _⟩ := blk z3
          refine bodyPost_ret (v := .agg #[.slice va (freeN m m.n).length vcap, .slice none 0 0, .slice none 0 0, .slice none 0 0]) (by simp [results, Tryz.results11, go_sem, z]) rfl ⟨_, rfl, ?_, ?_⟩
          · exact ownsRow_base (ownsRow_setCell_below (ownsRow_setCell_below (ownsRow_setCell_below (ownsRow_setCell_below HR.out.2.1 (by show w.heap.size < w.heap.size + 1 + 1; omega) _) (by show w.heap.size < w.heap.size + 1 + 1; omega) _) (by show w.heap.size < w.heap.size + 1 + 1; omega) _) (by show w.heap.size < w.heap.size + 1 + 1; omega) _) (by omega)
          · exact ((((HW.out.2.2.1.trans (HR.out.2.2.1.mono (by omega))).setCell (Nat.le_refl _) _).setCell (Nat.le_refl _) _).setCell (Nat.le_refl _) _).setCell (Nat.le_refl _) _
end Go.Proofs.YtblkaenlajmhnaaGreatDoor
