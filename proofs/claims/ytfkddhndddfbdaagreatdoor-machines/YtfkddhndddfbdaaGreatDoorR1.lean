/- The document's own world: ints, Boxed of none, Begin. -/
import Derived.Test.YtfkddhndddfbdaaGreatDoorB1
namespace Go.Proofs.YtfkddhndddfbdaaGreatDoor
open Go.RowKit
attribute [local go_sem ↓] Go.wp_at_zero Go.wp_at_succ
attribute [local go_sem] After.cell After.frozen After.const

set_option maxRecDepth 100000 in
set_option maxHeartbeats 1000000 in
theorem intsCopy_any (ro : Option Addr) (rb rp r rcap : Nat) (R : Nat → Int) (w : World) (hr : r * 8 ≤ 140737488355328) (ha : 0 < r → ro = some ⟨rb, rp, none⟩) (hi : IntAt w rb rp r R) :
    Calls Tryz.prog 64 #[.slice ro r rcap] w fun e w' => e = .returned (.slice (some ⟨w.heap.size, 0, none⟩) r r) ∧ w'.rowIs w.heap.size 3 r (fun j => .int .i64 (R j)) ∧ Below w.heap.size w w' := by
  obtain ⟨W1, hmk, ⟨f, r1⟩, hB1, hs1⟩ := ex_make (P := Tryz.prog) w 23 3 _ 1 8 r r rfl Tryz.underlying23 Tryz.infoInt (by omega) (by omega)
  obtain ⟨W2, hcp, r2, hg2, hs2⟩ := ex_copy (P := Tryz.prog) W1 23 3 _ 1 8 Tryz.underlying23 Tryz.infoInt w.heap.size 0 r r (r * 1) f r1 ro rb rp r rcap r (by simp) (fun j => .int .i64 (R j)) ha
    (fun j hj => (hB1.cell (p := ⟨rb, rp + j, none⟩) (block_lt_of_cell (hi j (by omega)))).trans (hi j (by omega))) (fun _ _ => rfl) (by omega)
  have H : Hid (W2.rowIs w.heap.size 3 r (fun j => .int .i64 (R j)) ∧ Below w.heap.size w W2) := ⟨by simpa using r2.congr (g := fun j => .int .i64 (R j)) (fun j hj => by rw [if_pos (by omega)]; rfl), hB1.grown hg2 (by omega) (fun k hk => by cases hk; omega)⟩
  clear r1 r2 hB1 hg2 hs1 hs2 hi ha
  go_enter Tryz.func64, Tryz.ntmps64
  go_wp2
  go_ret
  exact ⟨rfl, H.out⟩

set_option maxRecDepth 100000 in
set_option maxHeartbeats 1000000 in
theorem boxed_none (w : World) : Calls Tryz.prog 63 #[.slice none 0 0] w fun e w' => e = .returned (.slice none 0 0) ∧ w' = w := by
  go_enter Tryz.func63, Tryz.ntmps63
  go_wp2
  refine wp_loop_rounds 1 ?_
  rw [rounds_succ]
  go_wp2
  go_ret
  exact ⟨rfl, rfl⟩

/-- The document's world's own block: its machine, no devices, no boxes. -/
structure WorldIs (w : World) (base ww c q : Nat) (m : Mach) : Prop where
  blk : w.heap[ww]? = some (.cells #[.slice (some ⟨c, 0, none⟩) m.n m.n, .slice (some ⟨q, 0, none⟩) m.r m.r, .int .i64 m.p, .slice none 0 0, .slice none 0 0, .slice none 0 0, .slice none 0 0] 123 (0, 0))
  cpus : w.rowIs c 107 (m.n * 3) (cpuCell m.S m.N m.C)
  res : w.rowIs q 3 m.r (fun j => .int .i64 (m.R j))
  base : base ≤ ww ∧ base ≤ c ∧ base ≤ q

set_option maxRecDepth 100000 in
set_option maxHeartbeats 2000000 in
theorem begin_any (m : Mach) (w : World) (hm : m.At w) :
    Calls Tryz.prog 22 #[m.val, .slice none 0 0] w fun e w' => ∃ ww c q, e = .returned (.pointer (some ⟨ww, 0, none⟩)) ∧ WorldIs w' w.heap.size ww c q m ∧ Below w.heap.size w w' := by
  obtain ⟨ao, b, o, n, cap, S, N, C, ro, rb, rp, r, rcap, R, p⟩ := m
  obtain ⟨ncap, nmax, addr, cpus, rc, rmax, raddr, ints⟩ := hm
  simp only [Mach.val] at *
  obtain ⟨W0, hW0⟩ : ∃ W0, W0 = (w.alloc (.cells #[.slice ao n cap, .slice ro r rcap, .int .i64 p] 25)).alloc (.cells #[.slice none 0 0, .slice none 0 0, .int .i64 p, .slice none 0 0, .slice none 0 0, .slice none 0 0, .slice none 0 0] 123) := ⟨_, rfl⟩
  have hs0 : W0.heap.size = w.heap.size + 1 + 1 := by rw [hW0]; simp
  have hB0 : Below w.heap.size w W0 := by rw [hW0]; exact ((Below.refl _ _).alloc (Nat.le_refl _) _).alloc (by simp) _
  have k0 : W0.heap[w.heap.size]? = some (.cells #[.slice ao n cap, .slice ro r rcap, .int .i64 p] 25 (0, 0)) := by rw [hW0]; exact heap_alloc2_old _ _ _
  have k1 : W0.heap[w.heap.size + 1]? = some (.cells #[.slice none 0 0, .slice none 0 0, .int .i64 p, .slice none 0 0, .slice none 0 0, .slice none 0 0, .slice none 0 0] 123 (0, 0)) := by rw [hW0]; exact heap_alloc2_new _ _ _
  obtain ⟨W1, hmk1, ⟨f1, r1⟩, hB1, hs1⟩ := ex_make (P := Tryz.prog) W0 22 107 _ 3 24 n n rfl Tryz.underlying22 Tryz.info22 (by omega) (by omega)
  rw [hs0] at r1 hmk1 hs1
  have k0' := (hB1.block _ (by omega)).trans k0
  have k1' := (hB1.block _ (by omega)).trans k1
  have c1 := blk_set (i := 0) (.slice (some ⟨w.heap.size + 1 + 1, 0, none⟩) n n) k1'
  have c0 := blk_other (a := ⟨w.heap.size + 1, 0, none⟩) (.slice (some ⟨w.heap.size + 1 + 1, 0, none⟩) n n) k0' (by simp)
  simp only [List.setIfInBounds_toArray, List.set_cons_zero] at c1
  have rr := r1.setOther (a := ⟨w.heap.size + 1, 0, none⟩) (by show w.heap.size + 1 + 1 ≠ w.heap.size + 1; omega) (.slice (some ⟨w.heap.size + 1 + 1, 0, none⟩) n n)
  have hBw : Below w.heap.size w (W1.setCell ⟨w.heap.size + 1, 0, none⟩ (.slice (some ⟨w.heap.size + 1 + 1, 0, none⟩) n n)) := (ext_trans hB0 hB1).setCell (by show w.heap.size ≤ w.heap.size + 1; omega) _
  obtain ⟨W2, hcp, r2, hg2, hs2⟩ := ex_copy (P := Tryz.prog) (W1.setCell ⟨w.heap.size + 1, 0, none⟩ (.slice (some ⟨w.heap.size + 1 + 1, 0, none⟩) n n)).drew 22 107 _ 3 24 Tryz.underlying22 Tryz.info22 (w.heap.size + 1 + 1) 0 n n (n * 3) f1 rr.drew ao b o n cap n (by simp) (cpuCell S N C) addr
    (fun j hj => (hBw.cell (p := ⟨b, o + j, none⟩) (block_lt_of_cell (cpus.flat j hj))).trans (cpus.flat j hj)) (fun _ _ => rfl) (by omega)
  obtain ⟨p0, p0f⟩ := blk k0'
  obtain ⟨p1, p1f⟩ := blk k1'
  obtain ⟨s0, s0f⟩ := blk c0
  obtain ⟨s1, s1f⟩ := blk c1
  have d0 := (hg2.block w.heap.size (by simp; omega) (ne_some (by omega))).trans c0
  have d1 := (hg2.block (w.heap.size + 1) (by simp; omega) (ne_some (by omega))).trans c1
  have hBw2 : Below w.heap.size w W2 := hBw.drew.grown hg2 (by simp; omega) (fun k hk => by cases hk; omega)
  obtain ⟨t0, t0f⟩ := blk d0
  have hz2 : W2.heap.size = w.heap.size + 1 + 1 + 1 := by rw [hs2]; simp; omega
  have HM : Hid (W2.rowIs (w.heap.size + 1 + 1) 107 (n * 3) (cpuCell S N C) ∧ Below w.heap.size w W2 ∧ W2.heap[w.heap.size + 1]? = some (.cells #[.slice (some ⟨w.heap.size + 1 + 1, 0, none⟩) n n, .slice none 0 0, .int .i64 p, .slice none 0 0, .slice none 0 0, .slice none 0 0, .slice none 0 0] 123 (0, 0)) ∧ IntAt w rb rp r R ∧ W2.heap.size = w.heap.size + 1 + 1 + 1) :=
    ⟨r2.congr (fun j hj => by rw [if_pos ⟨Nat.zero_le _, by omega⟩]; rfl), hBw2, d1, ints, hz2⟩
  rw [hW0] at hmk1
  clear hW0 hs0 hB0 k0 k1 k0' k1' c0 c1 rr hBw d0 d1 hBw2 r1 r2 hg2 hB1 cpus ints addr hz2 hs1 hs2
  go_enter Tryz.func22, Tryz.ntmps22
  go_wp2_with (go_at_call 63; refine (boxed_none _).mono ?_; rintro e w' ⟨rfl, rfl⟩)
  go_region
  go_wp2_with fail
  refine (intsCopy_any ro rb rp r rcap R _ rmax raddr (HM.out.2.2.2.1.ext HM.out.2.1)).mono ?_
  rintro e w3 ⟨rfl, r3, hb3⟩
  have hz := HM.out.2.2.2.2
  have d1 := (hb3.block (w.heap.size + 1) (by omega)).trans HM.out.2.2.1
  have d2 := blk_set (i := 1) (.slice (some ⟨W2.heap.size, 0, none⟩) r r) d1
  simp only [List.setIfInBounds_toArray, List.set_cons_zero, List.set_cons_succ] at d2
  obtain ⟨q1, q1f⟩ := blk d1
  have HF : Hid ((w3.setCell ⟨w.heap.size + 1, 1, none⟩ (.slice (some ⟨W2.heap.size, 0, none⟩) r r)).rowIs W2.heap.size 3 r (fun j => .int .i64 (R j)) ∧ Below w.heap.size w (w3.setCell ⟨w.heap.size + 1, 1, none⟩ (.slice (some ⟨W2.heap.size, 0, none⟩) r r)) ∧
      (w3.setCell ⟨w.heap.size + 1, 1, none⟩ (.slice (some ⟨W2.heap.size, 0, none⟩) r r)).rowIs (w.heap.size + 1 + 1) 107 (n * 3) (cpuCell S N C) ∧ W2.heap.size = w.heap.size + 1 + 1 + 1 ∧
      (w3.setCell ⟨w.heap.size + 1, 1, none⟩ (.slice (some ⟨W2.heap.size, 0, none⟩) r r)).heap[w.heap.size + 1]? = some (.cells #[.slice (some ⟨w.heap.size + 1 + 1, 0, none⟩) n n, .slice (some ⟨W2.heap.size, 0, none⟩) r r, .int .i64 p, .slice none 0 0, .slice none 0 0, .slice none 0 0, .slice none 0 0] 123 (0, 0))) :=
    ⟨r3.setOther (by show W2.heap.size ≠ w.heap.size + 1; omega) _, (HM.out.2.1.trans (hb3.mono (by omega))).setCell (by show w.heap.size ≤ w.heap.size + 1; omega) _, (HM.out.1.of_block (hb3.block _ (by omega))).setOther (by show w.heap.size + 1 + 1 ≠ w.heap.size + 1; omega) _, hz, d2⟩
  clear r3 hb3 d1 d2 hz
  go_wp2_with fail
  go_ret
  obtain ⟨h1, h2, h3, h4, h5⟩ := HF.out
  exact ⟨w.heap.size + 1, w.heap.size + 1 + 1, W2.heap.size, rfl, ⟨h5, h3, h1, by omega, by omega, by omega⟩, h2⟩
end Go.Proofs.YtfkddhndddfbdaaGreatDoor
