/- Boxes of a berth that has none. copyGrant. copyGrant. -/
import Derived.Test.YtblkaenlajmhnaaGreatDoorI5
namespace Go.Proofs.YtblkaenlajmhnaaGreatDoor
open Go.RowKit
attribute [local go_sem ↓] Go.wp_at_zero Go.wp_at_succ
attribute [local go_sem] After.cell After.frozen After.const
def Len0 (e : Ending) : Prop := ∃ a c, e = .returned (.slice a 0 c)
set_option maxRecDepth 100000 in
set_option maxHeartbeats 1000000 in
theorem boxes_nil (bb base : Nat) (m : Mach) (vc vr : Value) (w : World) (h : BerthIs w base bb m vc vr) :
    Calls Tryz.prog 8 #[.pointer (some ⟨bb, 0, none⟩)] w fun e w' => Len0 e ∧ Below w.heap.size w w' := by
  have hb := h.blk
  unfold newB at hb
  obtain ⟨q0, q0f⟩ := blk hb
  clear hb h
  go_enter Tryz.func8, Tryz.ntmps8
  go_wp2_with fail
  refine (cloneB_any (.slice none 0 0) 0 0 0 0 [] w (by omega) (World.ownsRow_nil _ _ _ _) (BoxRow.nil _ _ _)).mono ?_
  rintro e w1 ⟨⟨v1, rfl, hown⟩, hb1⟩
  obtain ⟨a1, c1, rfl⟩ := ownsRow_shape hown
  have H1 := HidI hb1
  clear hown hb1
  go_wp2
  refine wp_loop_rounds 1 ?_
  rw [rounds_succ]
  go_wp2
  go_ret
  exact ⟨⟨a1, c1, rfl⟩, H1.out⟩
end Go.Proofs.YtblkaenlajmhnaaGreatDoor
namespace Go.Proofs.YtblkaenlajmhnaaGreatDoor
open Go.RowKit
attribute [local go_sem ↓] Go.wp_at_zero Go.wp_at_succ
attribute [local go_sem] After.cell After.frozen After.const
def SliceRet (e : Ending) : Prop := ∃ a n c, e = .returned (.slice a n c)
theorem cloneI_any (a : Option Addr) (n c : Nat) (R : Nat → Int) (w : World) (h : Ints w (.slice a n c) n R) (hn : n * 8 ≤ 140737488355328) :
    Calls Tryz.prog 37 #[.slice a n c] w fun e w' => SliceRet e ∧ Below w.heap.size w w' := by
  cases a with
  | none =>
    refine (Tryz.slices_Clone_int_nil n c w).mono ?_
    rintro e w' ⟨rfl, rfl⟩
    exact ⟨⟨_, _, _, rfl⟩, Below.refl _ _⟩
  | some a =>
    by_cases h0 : n = 0
    · subst h0
      refine (Tryz.slices_Clone_int_zero a c w).mono ?_
      rintro e w' ⟨v', rfl, hown, _, hb⟩
      obtain ⟨x, y, rfl⟩ := ownsRow_shape hown
      exact ⟨⟨_, _, _, rfl⟩, hb⟩
    · obtain ⟨b, o, e, hc⟩ := h.at (by omega)
      cases e
      refine (Tryz.slices_Clone_int b o n c ((List.range n).map R) w (by simp) hn (fun j hj => by
        have hj' : j < n := by simpa using hj
        rw [hc j hj']
        simp [List.getD, hj'])).mono ?_
      rintro e w' ⟨v', rfl, hown, _, hb⟩
      obtain ⟨x, y, rfl⟩ := ownsRow_shape hown
      exact ⟨⟨_, _, _, rfl⟩, hb⟩
end Go.Proofs.YtblkaenlajmhnaaGreatDoor
namespace Go.Proofs.YtblkaenlajmhnaaGreatDoor
open Go.RowKit
attribute [local go_sem ↓] Go.wp_at_zero Go.wp_at_succ
attribute [local go_sem] After.cell After.frozen After.const
theorem ixG0 (a b c : Value) (w : World) : Sem.run Tryz.prog (Instr.index 37 (.agg #[a, b, c]) (.int .i64 0)) w = .ok a w := by kernel_rfl
theorem ixG1 (a b c : Value) (w : World) : Sem.run Tryz.prog (Instr.index 37 (.agg #[a, b, c]) (.int .i64 1)) w = .ok b w := by kernel_rfl
theorem ixG2 (a b c : Value) (w : World) : Sem.run Tryz.prog (Instr.index 37 (.agg #[a, b, c]) (.int .i64 2)) w = .ok c w := by kernel_rfl
def GRet (e : Ending) : Prop := ∃ A N C, e = .returned (GVal A N C)
def Sl4 (w : World) (b : Nat) : Prop := ∃ (A : Nat → Option Addr) (N C : Nat → Nat), w.heap[b]? = some (.cells #[.slice (A 0) (N 0) (C 0), .slice (A 1) (N 1) (C 1), .slice (A 2) (N 2) (C 2), .slice (A 3) (N 3) (C 3)] 39 (0, 0))
theorem Sl4.set {w : World} {b j : Nat} (h : Sl4 w b) (hj : j < 4) (a : Option Addr) (n c : Nat) : Sl4 (w.setCell ⟨b, j, none⟩ (.slice a n c)) b := by
  obtain ⟨A, N, C, h⟩ := h
  refine ⟨fun q => if q = j then a else A q, fun q => if q = j then n else N q, fun q => if q = j then c else C q, ?_⟩
  have e := blk_set (i := j) (.slice a n c) h
  have hj4 : j = 0 ∨ j = 1 ∨ j = 2 ∨ j = 3 := by omega
  rcases hj4 with rfl | rfl | rfl | rfl <;> exact e
theorem Sl4.ext {w w' : World} {b : Nat} (h : Sl4 w b) (hb : Below w.heap.size w w') : Sl4 w' b := by
  obtain ⟨A, N, C, h⟩ := h
  exact ⟨A, N, C, (hb.block b (Array.getElem?_eq_some_iff.1 h).1).trans h⟩
theorem grant_result (X : World) (b : Nat) (v0 v1 v2 v3 : Value) (h : X.heap[b]? = some (.cells #[v0, v1, v2, v3] 39 (0, 0))) (tmps : Array Value) (h2 : tmps.getD 2 undef = .pointer (some ⟨b, 0, none⟩)) :
    (results Tryz.f19 tmps).run Tryz.prog X = .ok (.agg #[v0, v1, v2, v3]) X := by
  obtain ⟨f, _⟩ := blk h
  have g0 := (f 0).trans (show _ = some v0 from rfl)
  have g1 := (f 1).trans (show _ = some v1 from rfl)
  have g2 := (f 2).trans (show _ = some v2 from rfl)
  have g3 := (f 3).trans (show _ = some v3 from rfl)
  rw [Array.getD_eq_getD_getElem?] at h2
  simp [results, Tryz.results19, go_sem, h2, g0, g1, g2, g3]
set_option maxRecDepth 100000 in
set_option maxHeartbeats 2000000 in
theorem copyGrant_any (A : Nat → Option Addr) (N C : Nat → Nat) (R : Nat → Nat → Int) (w : World) (h : GInts w A N C R) (hn : ∀ q, q < 4 → N q * 8 ≤ 140737488355328) :
    Calls Tryz.prog 19 #[GVal A N C] w fun e w' => GRet e ∧ Below w.heap.size w w' := by
  have H0 := HidI (And.intro h hn)
  clear h hn
  unfold GVal
  go_enter Tryz.func19, Tryz.ntmps19
  go_wp2_with fail
  obtain ⟨W0, hW0⟩ : ∃ W0, W0 = (w.alloc (.cells #[.slice (A 0) (N 0) (C 0), .slice (A 1) (N 1) (C 1), .slice (A 2) (N 2) (C 2), .slice (A 3) (N 3) (C 3)] 39)).alloc (.cells #[.slice none 0 0, .slice none 0 0, .slice none 0 0, .slice none 0 0] 39) := ⟨_, rfl⟩
  have b0 : Below w.heap.size w W0 := by rw [hW0]; exact ((Below.refl _ _).alloc (Nat.le_refl _) _).alloc (by simp) _
  have kA : W0.heap[w.heap.size]? = some (.cells #[.slice (A 0) (N 0) (C 0), .slice (A 1) (N 1) (C 1), .slice (A 2) (N 2) (C 2), .slice (A 3) (N 3) (C 3)] 39 (0, 0)) := by rw [hW0]; exact heap_alloc2_old _ _ _
  have k0 : Sl4 W0 w.heap.size := ⟨A, N, C, kA⟩
  have k1 : Sl4 W0 (w.heap.size + 1) := ⟨fun _ => none, fun _ => 0, fun _ => 0, by rw [hW0]; exact heap_alloc2_new _ _ _⟩
  rw [← hW0]
  clear hW0
  refine (cloneI_any (A 0) (N 0) (C 0) (R 0) W0 ((H0.out.1 0 (by omega)).ext b0) (H0.out.2 0 (by omega))).mono ?_
  rintro e w1 ⟨⟨a', n', c', rfl⟩, hb1⟩
  have H1 := HidI (And.intro (b0.trans (hb1.mono b0.size)) (And.intro (k0.ext hb1) (k1.ext hb1)))
  have k2 := (hb1.block _ (Array.getElem?_eq_some_iff.1 kA).1).trans kA
  obtain ⟨q0, q0f⟩ := blk k2
  have k3 := blk_set (i := 0) (.slice a' n' c') k2
  obtain ⟨q1, q1f⟩ := blk k3
  have HS := HidI (H1.out.2.1.set (j := 0) (by omega) a' n' c')
  have HS1 : Hid (Sl4 (w1.setCell ⟨w.heap.size, 0, none⟩ (.slice a' n' c')) (w.heap.size + 1)) := by
    obtain ⟨x, y, z, h⟩ := H1.out.2.2
    exact ⟨x, y, z, blk_other (a := ⟨w.heap.size, 0, none⟩) _ h (by simp)⟩
  clear b0 k0 k1 hb1 k2 k3 kA
  go_wp2_with fail
  go_loopw [11] (fun i wr => ∃ k : Nat, k ≤ 3 ∧ i = .int .i64 k ∧ Sl4 wr w.heap.size ∧ Sl4 wr (w.heap.size + 1) ∧ Below w.heap.size w wr) (fun i _ => 3 - (intOf i).toNat)
  case atStart => exact ⟨0, by omega, rfl, HS.out, HS1.out, H1.out.1.setCell (Nat.le_refl _) _⟩
  case round =>
    obtain ⟨k, hk, rfl, hs, hs1, hb⟩ := hrel
    have HR := HidI (And.intro hs (And.intro hs1 hb))
    clear hs1 hb q0 q0f q1 q1f
    have x0 := ixG0
    have x1 := ixG1
    have x2 := ixG2
    by_cases hlt : k < 3
    · clear hs
      obtain ⟨kz, hkz⟩ : ∃ kz : Int, kz = k := ⟨_, rfl⟩
      rw [← hkz]
      rcases (show k = 0 ∨ k = 1 ∨ k = 2 by omega) with rfl | rfl | rfl
      · obtain rfl : kz = 0 := by omega
        clear hkz
        go_wp2_with fail
        refine (cloneI_any (A 1) (N 1) (C 1) (R 1) wr ((H0.out.1 1 (by omega)).ext HR.out.2.2) (H0.out.2 1 (by omega))).mono ?_
        rintro e w3 ⟨⟨a3, n3, c3, rfl⟩, hb3⟩
        have H3 := HidI (And.intro (HR.out.1.ext hb3) (And.intro (HR.out.2.1.ext hb3) (HR.out.2.2.trans (hb3.mono HR.out.2.2.size))))
        obtain ⟨A3, N3, C3, k3⟩ := HR.out.1.ext hb3
        obtain ⟨q3, q3f⟩ := blk k3
        clear hb3 k3
        go_wp2_with fail
        go_roundw
        case rel =>
          refine ⟨1, by omega, rfl, H3.out.1.set (j := 1) (by omega) _ _ _, ?_, H3.out.2.2.setCell (Nat.le_refl _) _⟩
          obtain ⟨x, y, z, h⟩ := H3.out.2.1
          exact ⟨x, y, z, blk_other _ h (by simp)⟩
        case measure => simp [intOf]
      · obtain rfl : kz = 1 := by omega
        clear hkz
        go_wp2_with fail
        refine (cloneI_any (A 2) (N 2) (C 2) (R 2) wr ((H0.out.1 2 (by omega)).ext HR.out.2.2) (H0.out.2 2 (by omega))).mono ?_
        rintro e w3 ⟨⟨a3, n3, c3, rfl⟩, hb3⟩
        have H3 := HidI (And.intro (HR.out.1.ext hb3) (And.intro (HR.out.2.1.ext hb3) (HR.out.2.2.trans (hb3.mono HR.out.2.2.size))))
        obtain ⟨A3, N3, C3, k3⟩ := HR.out.1.ext hb3
        obtain ⟨q3, q3f⟩ := blk k3
        clear hb3 k3
        go_wp2_with fail
        go_roundw
        case rel =>
          refine ⟨2, by omega, rfl, H3.out.1.set (j := 2) (by omega) _ _ _, ?_, H3.out.2.2.setCell (Nat.le_refl _) _⟩
          obtain ⟨x, y, z, h⟩ := H3.out.2.1
          exact ⟨x, y, z, blk_other _ h (by simp)⟩
        case measure => simp [intOf]
      · obtain rfl : kz = 2 := by omega
        clear hkz
        go_wp2_with fail
        refine (cloneI_any (A 3) (N 3) (C 3) (R 3) wr ((H0.out.1 3 (by omega)).ext HR.out.2.2) (H0.out.2 3 (by omega))).mono ?_
        rintro e w3 ⟨⟨a3, n3, c3, rfl⟩, hb3⟩
        have H3 := HidI (And.intro (HR.out.1.ext hb3) (And.intro (HR.out.2.1.ext hb3) (HR.out.2.2.trans (hb3.mono HR.out.2.2.size))))
        obtain ⟨A3, N3, C3, k3⟩ := HR.out.1.ext hb3
        obtain ⟨q3, q3f⟩ := blk k3
        clear hb3 k3
        go_wp2_with fail
        go_roundw
        case rel =>
          refine ⟨3, by omega, rfl, H3.out.1.set (j := 3) (by omega) _ _ _, ?_, H3.out.2.2.setCell (Nat.le_refl _) _⟩
          obtain ⟨x, y, z, h⟩ := H3.out.2.1
          exact ⟨x, y, z, blk_other _ h (by simp)⟩
        case measure => simp [intOf]
    · obtain rfl : k = 3 := by omega
      obtain ⟨A3, N3, C3, k3⟩ := hs
      obtain ⟨q3, q3f⟩ := blk k3
      obtain ⟨A4, N4, C4, k4⟩ := HR.out.2.1
      obtain ⟨q4, q4f⟩ := blk k4
      clear k3
      go_wp2
      refine bodyPost_ret (grant_result _ (w.heap.size + 1) _ _ _ _ (blk_set (i := 3) (.slice (A3 3) (N3 3) (C3 3)) (blk_set (i := 2) (.slice (A3 2) (N3 2) (C3 2)) (blk_set (i := 1) (.slice (A3 1) (N3 1) (C3 1)) (blk_set (i := 0) (.slice (A3 0) (N3 0) (C3 0)) k4)))) _ rfl) rfl ⟨⟨A3, N3, C3, rfl⟩, ?_⟩
      have z1 : w.heap.size ≤ w.heap.size + 1 := by omega
      exact (((HR.out.2.2.setCell z1 _).setCell z1 _).setCell z1 _).setCell z1 _
end Go.Proofs.YtblkaenlajmhnaaGreatDoor
