/- sameGrant: are two grants the same lists? -/
import Derived.Test.YtblkaenlajmhnaaGreatDoorS1
import Derived.Test.YtblkaenlajmhnaaGreatDoorM1
namespace Go.Proofs.YtblkaenlajmhnaaGreatDoor
open Go.RowKit
attribute [local go_sem ↓] Go.wp_at_zero Go.wp_at_succ
attribute [local go_sem] After.cell After.frozen After.const
def GVal (A : Nat → Option Addr) (N C : Nat → Nat) : Value := .agg #[.slice (A 0) (N 0) (C 0), .slice (A 1) (N 1) (C 1), .slice (A 2) (N 2) (C 2), .slice (A 3) (N 3) (C 3)]
def GInts (w : World) (A : Nat → Option Addr) (N C : Nat → Nat) (R : Nat → Nat → Int) : Prop := ∀ q, q < 4 → Ints w (.slice (A q) (N q) (C q)) (N q) (R q)
theorem GInts.ext {w w' : World} {A : Nat → Option Addr} {N C : Nat → Nat} {R : Nat → Nat → Int} (h : GInts w A N C R) (hb : Below w.heap.size w w') : GInts w' A N C R := fun q hq => (h q hq).ext hb
def sameG (N : Nat → Nat) (R : Nat → Nat → Int) (N' : Nat → Nat) (R' : Nat → Nat → Int) (k : Nat) : Prop := ∀ q, q < k → sameI (N q) (R q) (N' q) (R' q)
theorem sameG.one {N N' : Nat → Nat} {R R' : Nat → Nat → Int} : sameG N R N' R' 1 ↔ sameI (N 0) (R 0) (N' 0) (R' 0) := by
  refine ⟨fun h => h 0 (by omega), fun h q hq => ?_⟩
  obtain rfl : q = 0 := by omega
  exact h
theorem sameG.succ {N N' : Nat → Nat} {R R' : Nat → Nat → Int} {k : Nat} (h : sameG N R N' R' k) (hs : sameI (N k) (R k) (N' k) (R' k)) : sameG N R N' R' (k + 1) := fun q hq => by
  rcases Nat.lt_succ_iff_lt_or_eq.1 hq with h1 | h1
  · exact h q h1
  · subst h1; exact hs
theorem sameG.step_yes {r : Bool} {N N' : Nat → Nat} {R R' : Nat → Nat → Int} {k : Nat} (h : r = true ↔ sameG N R N' R' (k + 1)) (hs : sameI (N (k + 1)) (R (k + 1)) (N' (k + 1)) (R' (k + 1))) : r = true ↔ sameG N R N' R' (k + 1 + 1) :=
  h.trans ⟨fun h => h.succ hs, fun h q hq => h q (by omega)⟩
theorem sameG.step_no {r : Bool} {N N' : Nat → Nat} {R R' : Nat → Nat → Int} {k : Nat} (_ : r = true ↔ sameG N R N' R' (k + 1)) (hs : ¬ sameI (N (k + 1)) (R (k + 1)) (N' (k + 1)) (R' (k + 1))) : false = true ↔ sameG N R N' R' (k + 1 + 1) :=
  ⟨fun h => (by cases h), fun h => absurd (h (k + 1) (by omega)) hs⟩
set_option maxRecDepth 100000 in
set_option maxHeartbeats 4000000 in
theorem sameGrant_any (A A' : Nat → Option Addr) (N C N' C' : Nat → Nat) (R R' : Nat → Nat → Int) (w : World) (h : GInts w A N C R) (h' : GInts w A' N' C' R') :
    Calls Tryz.prog 12 #[GVal A N C, GVal A' N' C'] w fun e w' => Ans (sameG N R N' R' 4) e ∧ Below w.heap.size w w' := by
  unfold GVal
  obtain ⟨W0, hW0⟩ : ∃ W0, W0 = (w.alloc (.cells #[.slice (A 0) (N 0) (C 0), .slice (A 1) (N 1) (C 1), .slice (A 2) (N 2) (C 2), .slice (A 3) (N 3) (C 3)] 39)).alloc (.cells #[.slice (A' 0) (N' 0) (C' 0), .slice (A' 1) (N' 1) (C' 1), .slice (A' 2) (N' 2) (C' 2), .slice (A' 3) (N' 3) (C' 3)] 39) := ⟨_, rfl⟩
  have hB0 : Below w.heap.size w W0 := by rw [hW0]; exact ((Below.refl _ _).alloc (Nat.le_refl _) _).alloc (by simp) _
  have k0 : W0.heap[w.heap.size]? = some (.cells #[.slice (A 0) (N 0) (C 0), .slice (A 1) (N 1) (C 1), .slice (A 2) (N 2) (C 2), .slice (A 3) (N 3) (C 3)] 39 (0, 0)) := by rw [hW0]; exact heap_alloc2_old _ _ _
  have k1 : W0.heap[w.heap.size + 1]? = some (.cells #[.slice (A' 0) (N' 0) (C' 0), .slice (A' 1) (N' 1) (C' 1), .slice (A' 2) (N' 2) (C' 2), .slice (A' 3) (N' 3) (C' 3)] 39 (0, 0)) := by rw [hW0]; exact heap_alloc2_new _ _ _
  have hs0 : w.heap.size + 1 < W0.heap.size := by rw [hW0]; simp
  have HB : Hid (Below w.heap.size w W0 ∧ GInts W0 A N C R ∧ GInts W0 A' N' C' R') := ⟨hB0, h.ext hB0, h'.ext hB0⟩
  obtain ⟨q0, q0f⟩ := blk k0
  obtain ⟨q1, q1f⟩ := blk k1
  have HK : Hid (W0.heap[w.heap.size]? = some (.cells #[.slice (A 0) (N 0) (C 0), .slice (A 1) (N 1) (C 1), .slice (A 2) (N 2) (C 2), .slice (A 3) (N 3) (C 3)] 39 (0, 0)) ∧ W0.heap[w.heap.size + 1]? = some (.cells #[.slice (A' 0) (N' 0) (C' 0), .slice (A' 1) (N' 1) (C' 1), .slice (A' 2) (N' 2) (C' 2), .slice (A' 3) (N' 3) (C' 3)] 39 (0, 0))) := ⟨k0, k1⟩
  clear hB0 h h' k0 k1
  go_enter Tryz.func12, Tryz.ntmps12
  go_wp2_with (go_at_call 25; rw [← hW0]; clear hW0; refine (sameInts_any _ _ (N 0) (N' 0) (R 0) (R' 0) W0 (HB.out.2.1 0 (by omega)) (HB.out.2.2 0 (by omega))).mono ?_; rintro e w1 ⟨he, hb1⟩; obtain ⟨r0, rfl, hr0⟩ := he; have H1 : Hid (Below W0.heap.size W0 w1 ∧ (r0 = true ↔ sameG N R N' R' 1)) := ⟨hb1, hr0.trans sameG.one.symm⟩; clear hb1 hr0)
  go_wp2_with fail
  go_loopw [5, 6] (fun s i wr => ∃ q : Nat, q ≤ 3 ∧ i = .int .i64 q ∧ ∃ r : Bool, s = .bool r ∧ Below W0.heap.size W0 wr ∧ (r = true ↔ sameG N R N' R' (q + 1))) (fun _ i _ => 3 - (intOf i).toNat)
  case atStart => exact ⟨0, by omega, rfl, r0, rfl, H1.out.1, H1.out.2⟩
  case round =>
    obtain ⟨q, hq, rfl, r, rfl, hb, hr⟩ := hrel
    have HR : Hid (Below W0.heap.size W0 wr ∧ (r = true ↔ sameG N R N' R' (q + 1))) := ⟨hb, hr⟩
    obtain ⟨y0, y0f⟩ := blk ((hb.block w.heap.size (by omega)).trans HK.out.1)
    obtain ⟨y1, y1f⟩ := blk ((hb.block (w.heap.size + 1) hs0).trans HK.out.2)
    have hz0 : w.heap.size < wr.heap.size := by have := hb.size; omega
    have hz1 : w.heap.size + 1 < wr.heap.size := by have := hb.size; omega
    clear q0 q0f q1 q1f hb hr
    by_cases hlt : q < 3
    · by_cases hS : sameI (N (q + 1)) (R (q + 1)) (N' (q + 1)) (R' (q + 1))
      · have HS : Hid (sameI (N (q + 1)) (R (q + 1)) (N' (q + 1)) (R' (q + 1))) := hS
        clear hS
        rcases (show q = 0 ∨ q = 1 ∨ q = 2 by omega) with rfl | rfl | rfl <;> (
          go_wp2
          refine wp_region_after (by kernel_rfl) (by kernel_rfl) ?_
          repeat (go_big_quiet_step (first | (go_at_call 25; exact Calls.after_yes HS.out (sameInts_any _ _ _ _ _ _ _ (((HB.out.2.1.ext HR.out.1).ext (After.later _)) _ (by omega)) (((HB.out.2.2.ext HR.out.1).ext (After.later _)) _ (by omega))))))
          refine wpQuiet_nil ?_
          rintro _ ⟨⟨w1, hw1⟩, rfl⟩
          cases r <;> (
            go_wp2
            go_roundw
            case rel => exact ⟨_ + 1, by omega, by go_num, _, rfl, ext_trans HR.out.1 hw1, sameG.step_yes HR.out.2 HS.out⟩
            case measure => simp [intOf]))
      · have HS : Hid (¬ sameI (N (q + 1)) (R (q + 1)) (N' (q + 1)) (R' (q + 1))) := hS
        clear hS
        rcases (show q = 0 ∨ q = 1 ∨ q = 2 by omega) with rfl | rfl | rfl <;> (
          go_wp2
          refine wp_region_after (by kernel_rfl) (by kernel_rfl) ?_
          repeat (go_big_quiet_step (first | (go_at_call 25; exact Calls.after_no HS.out (sameInts_any _ _ _ _ _ _ _ (((HB.out.2.1.ext HR.out.1).ext (After.later _)) _ (by omega)) (((HB.out.2.2.ext HR.out.1).ext (After.later _)) _ (by omega))))))
          refine wpQuiet_nil ?_
          rintro _ ⟨⟨w1, hw1⟩, rfl⟩
          cases r <;> (
            go_wp2
            go_roundw
            case rel => exact ⟨_ + 1, by omega, by go_num, _, rfl, ext_trans HR.out.1 hw1, sameG.step_no HR.out.2 HS.out⟩
            case measure => simp [intOf]))
    · have : q = 3 := by omega
      subst this
      go_wp2_with fail
      go_ret
      exact ⟨⟨r, rfl, HR.out.2⟩, ext_trans HB.out.1 HR.out.1⟩
end Go.Proofs.YtblkaenlajmhnaaGreatDoor
