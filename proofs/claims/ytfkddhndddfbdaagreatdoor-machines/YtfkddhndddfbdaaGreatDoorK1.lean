/- next: a mark that none has yet. -/
import Derived.Test.YtfkddhndddfbdaaGreatDoorK0
import Derived.Deep.RegionHeld3
import Derived.Deep.RegionLaw
import Derived.Deep.AppendLies
namespace Go.Proofs.YtfkddhndddfbdaaGreatDoor
open Go.RowKit
attribute [local go_sem ↓] Go.wp_at_zero Go.wp_at_succ
attribute [local go_sem] After.cell After.frozen After.const

set_option maxRecDepth 100000 in
set_option maxHeartbeats 2000000 in
theorem next0 (g : Nat) (G : Nat → Value) (c : Nat → Nat) (w : World) (n L : Nat) (ms : List Value) (hrow : w.rowIs g 67 24 G) (hg : c g = 1) (ht : Top c w) (hn : G 14 = .int .i64 (n : Int)) (hm : RowC c w 5 3 1 (G 15) L ms) (hL : L + 4 ≤ 1000000000000) (hnn : n + 1 ≤ 1000000000000) :
    Calls Tryz.prog 216 #[.pointer (some ⟨g, 11, none⟩), .int .i64 0] w fun e w' => e = .returned (.int .i64 ((n : Int) + 1)) ∧ ∃ c' G', w'.rowIs g 67 24 G' ∧ c' g = 1 ∧ G' 14 = .int .i64 ((n : Int) + 1) ∧ (∀ j, j ≠ 14 → j ≠ 15 → G' j = G j) ∧
       RowC c' w' 5 3 1 (G' 15) (L + 4) (ms ++ List.replicate 4 (.int .i64 ((n : Int) + 1))) ∧ Turn (fun y => y = 1 ∨ y = 5) c w c' w' := by
  obtain ⟨i0, hi, hz0, hz1, hz2⟩ := info_parts Tryz.infoInt
  have hu := Tryz.underlying23
  have q14 := hrow.cell (i := 14) (by omega)
  rw [hn] at q14
  have qf := hrow.frozen
  have H0 : Hid (w.rowIs g 67 24 G ∧ RowC c w 5 3 1 (G 15) L ms) := ⟨hrow, hm⟩
  clear hrow hm
  go_enter Tryz.func216, Tryz.ntmps216
  go_wp2_with fail
  go_loopw [5] (fun i wr => ∃ k : Nat, k ≤ 4 ∧ i = .int .i64 k ∧ ∃ c' G', wr.rowIs g 67 24 G' ∧ c' g = 1 ∧ G' 14 = .int .i64 ((n : Int) + 1) ∧ (∀ j, j ≠ 14 → j ≠ 15 → G' j = G j) ∧
       RowC c' wr 5 3 1 (G' 15) (L + k) (ms ++ List.replicate k (.int .i64 ((n : Int) + 1))) ∧ Turn (fun y => y = 1 ∨ y = 5) c w c' wr) (fun i _ => 4 - (intOf i).toNat)
  case atStart =>
    refine ⟨0, by omega, rfl, c, _, H0.out.1.set 14 _, hg, rfl, fun j h1 _ => by simp [h1], ?_, (Turn.refl ht).set (fun k _ e => .inl (by rw [e]; exact hg)) _⟩
    have h := H0.out.2.turn (S := fun y => y = 1) ((Turn.refl ht).set (a := ⟨g, 14, none⟩) (fun k _ e => by rw [e]; exact hg) (.int .i64 ((n : Int) + 1))) (by omega)
    simpa using h
  case round =>
    obtain ⟨k, hk, rfl, c', G', hr, hcg, h14, hG, hm, htn⟩ := hrel
    have HR : Hid (wr.rowIs g 67 24 G' ∧ c' g = 1 ∧ (∀ j, j ≠ 14 → j ≠ 15 → G' j = G j) ∧ RowC c' wr 5 3 1 (G' 15) (L + k) (ms ++ List.replicate k (.int .i64 ((n : Int) + 1))) ∧ Turn (fun y => y = 1 ∨ y = 5) c w c' wr ∧ G' 14 = .int .i64 ((n : Int) + 1)) := ⟨hr, hcg, hG, hm, htn, h14⟩
    have p14 := hr.cell (i := 14) (by omega)
    rw [h14] at p14
    have p15 := hr.cell (i := 15) (by omega)
    have pf := hr.frozen
    have hgl := hr.lt
    have PF := pf 15
    clear hr hcg h14 hG hm htn q14 qf H0
    by_cases hlt : k < 4
    · have HOWN : Hid ((wr.alloc (.cells #[.int .i64 ((n : Int) + 1)] 3)).drew.ownsRow 0 3 1 (G' 15) (L + k) (ms ++ List.replicate k (.int .i64 ((n : Int) + 1)))) := (HR.out.2.2.2.1.1.alloc _).drew
      have hne : some g ≠ (G' 15).ownBlock := fun e => by have h1 := HR.out.2.2.2.1.2 g e.symm; have h2 := HR.out.2.1; omega
      go_wp2
      go_region_law ((refine step_append_lies _ (by rfl) (.tmp 24) (.tmp 29) 23 (by rfl) 0 3 i0 (.int .i64 0) 1 8 hu hi hz0 hz1 hz2 (by rfl) (by omega) (G' 15) (L + k) (ms ++ List.replicate k (.int .i64 ((n : Int) + 1))) (by rfl) HOWN.out ⟨wr.heap.size, 0, none⟩ 1 1 [.int .i64 ((n : Int) + 1)] (by rfl) (by rfl) (cell_one_new _ _ _) (by intro u hu; simp at hu; subst hu; rfl) (by omega) (by unfold maxLen; omega) (by omega) (by omega) (wr.heap.size + 1) (by simp) ?_; intro g' cap w1 hown1 hgrow hat hlt'; have e14 := (hgrow.cell_far ⟨g, 14, none⟩ (by simp; omega) hne).trans ((World.cell?_alloc_past _ _ _ hgl).trans p14); have e15 := (hgrow.cell_far ⟨g, 15, none⟩ (by simp; omega) hne).trans ((World.cell?_alloc_past _ _ _ hgl).trans p15); have ef := (hgrow.frozen_far ⟨g, 15, none⟩ (by simp; omega) hne).trans ((World.frozen?_alloc_past _ _ _ hgl).trans PF)))
      all_goals
        obtain ⟨c'', r1, r2, r3, r4, _, _⟩ := field_app HR.out.1 HR.out.2.1 HR.out.2.2.2.2.1 (.inl rfl) (.inr rfl) (by omega) HR.out.2.2.2.1 (((Below.refl _ _).alloc (Nat.le_refl _) _).drew) hown1 hgrow hat (by simp)
        clear hown1 hgrow hat e14 e15 ef
        go_wp2
        go_roundw
        · refine ⟨k + 1, by omega, by simp, c'', _, r1, r2, ?_, fun j h1 h2 => ?_, ?_, r4⟩
          · rw [if_neg (by omega)]; exact HR.out.2.2.2.2.2
          · rw [if_neg h2]; exact HR.out.2.2.1 j h1 h2
          · rw [if_pos rfl, List.replicate_succ', ← List.append_assoc]; exact r3
        · simp [intOf]; omega
    · have : k = 4 := by omega
      subst this
      go_wp2
      go_ret
      exact ⟨rfl, c', G', HR.out.1, HR.out.2.1, HR.out.2.2.2.2.2, HR.out.2.2.1, HR.out.2.2.2.1, HR.out.2.2.2.2.1⟩

set_option maxRecDepth 100000 in
set_option maxHeartbeats 2000000 in
theorem next1 (g : Nat) (G : Nat → Value) (c : Nat → Nat) (w : World) (n L : Nat) (ms : List Value) (hrow : w.rowIs g 67 24 G) (hg : c g = 1) (ht : Top c w) (hn : G 14 = .int .i64 (n : Int)) (hm : RowC c w 6 3 1 (G 16) L ms) (hL : L + 4 ≤ 1000000000000) (hnn : n + 1 ≤ 1000000000000) :
    Calls Tryz.prog 216 #[.pointer (some ⟨g, 11, none⟩), .int .i64 1] w fun e w' => e = .returned (.int .i64 ((n : Int) + 1)) ∧ ∃ c' G', w'.rowIs g 67 24 G' ∧ c' g = 1 ∧ G' 14 = .int .i64 ((n : Int) + 1) ∧ (∀ j, j ≠ 14 → j ≠ 16 → G' j = G j) ∧
       RowC c' w' 6 3 1 (G' 16) (L + 4) (ms ++ List.replicate 4 (.int .i64 ((n : Int) + 1))) ∧ Turn (fun y => y = 1 ∨ y = 6) c w c' w' := by
  obtain ⟨i0, hi, hz0, hz1, hz2⟩ := info_parts Tryz.infoInt
  have hu := Tryz.underlying23
  have q14 := hrow.cell (i := 14) (by omega)
  rw [hn] at q14
  have qf := hrow.frozen
  have H0 : Hid (w.rowIs g 67 24 G ∧ RowC c w 6 3 1 (G 16) L ms) := ⟨hrow, hm⟩
  clear hrow hm
  go_enter Tryz.func216, Tryz.ntmps216
  go_wp2_with fail
  go_loopw [5] (fun i wr => ∃ k : Nat, k ≤ 4 ∧ i = .int .i64 k ∧ ∃ c' G', wr.rowIs g 67 24 G' ∧ c' g = 1 ∧ G' 14 = .int .i64 ((n : Int) + 1) ∧ (∀ j, j ≠ 14 → j ≠ 16 → G' j = G j) ∧
       RowC c' wr 6 3 1 (G' 16) (L + k) (ms ++ List.replicate k (.int .i64 ((n : Int) + 1))) ∧ Turn (fun y => y = 1 ∨ y = 6) c w c' wr) (fun i _ => 4 - (intOf i).toNat)
  case atStart =>
    refine ⟨0, by omega, rfl, c, _, H0.out.1.set 14 _, hg, rfl, fun j h1 _ => by simp [h1], ?_, (Turn.refl ht).set (fun k _ e => .inl (by rw [e]; exact hg)) _⟩
    have h := H0.out.2.turn (S := fun y => y = 1) ((Turn.refl ht).set (a := ⟨g, 14, none⟩) (fun k _ e => by rw [e]; exact hg) (.int .i64 ((n : Int) + 1))) (by omega)
    simpa using h
  case round =>
    obtain ⟨k, hk, rfl, c', G', hr, hcg, h14, hG, hm, htn⟩ := hrel
    have HR : Hid (wr.rowIs g 67 24 G' ∧ c' g = 1 ∧ (∀ j, j ≠ 14 → j ≠ 16 → G' j = G j) ∧ RowC c' wr 6 3 1 (G' 16) (L + k) (ms ++ List.replicate k (.int .i64 ((n : Int) + 1))) ∧ Turn (fun y => y = 1 ∨ y = 6) c w c' wr ∧ G' 14 = .int .i64 ((n : Int) + 1)) := ⟨hr, hcg, hG, hm, htn, h14⟩
    have p14 := hr.cell (i := 14) (by omega)
    rw [h14] at p14
    have p15 := hr.cell (i := 16) (by omega)
    have pf := hr.frozen
    have hgl := hr.lt
    have PF := pf 16
    clear hr hcg h14 hG hm htn q14 qf H0
    by_cases hlt : k < 4
    · have HOWN : Hid ((wr.alloc (.cells #[.int .i64 ((n : Int) + 1)] 3)).drew.ownsRow 0 3 1 (G' 16) (L + k) (ms ++ List.replicate k (.int .i64 ((n : Int) + 1)))) := (HR.out.2.2.2.1.1.alloc _).drew
      have hne : some g ≠ (G' 16).ownBlock := fun e => by have h1 := HR.out.2.2.2.1.2 g e.symm; have h2 := HR.out.2.1; omega
      go_wp2
      go_region_law ((refine step_append_lies _ (by rfl) (.tmp 24) (.tmp 29) 23 (by rfl) 0 3 i0 (.int .i64 0) 1 8 hu hi hz0 hz1 hz2 (by rfl) (by omega) (G' 16) (L + k) (ms ++ List.replicate k (.int .i64 ((n : Int) + 1))) (by rfl) HOWN.out ⟨wr.heap.size, 0, none⟩ 1 1 [.int .i64 ((n : Int) + 1)] (by rfl) (by rfl) (cell_one_new _ _ _) (by intro u hu; simp at hu; subst hu; rfl) (by omega) (by unfold maxLen; omega) (by omega) (by omega) (wr.heap.size + 1) (by simp) ?_; intro g' cap w1 hown1 hgrow hat hlt'; have e14 := (hgrow.cell_far ⟨g, 14, none⟩ (by simp; omega) hne).trans ((World.cell?_alloc_past _ _ _ hgl).trans p14); have e15 := (hgrow.cell_far ⟨g, 16, none⟩ (by simp; omega) hne).trans ((World.cell?_alloc_past _ _ _ hgl).trans p15); have ef := (hgrow.frozen_far ⟨g, 16, none⟩ (by simp; omega) hne).trans ((World.frozen?_alloc_past _ _ _ hgl).trans PF)))
      all_goals
        obtain ⟨c'', r1, r2, r3, r4, _, _⟩ := field_app HR.out.1 HR.out.2.1 HR.out.2.2.2.2.1 (.inl rfl) (.inr rfl) (by omega) HR.out.2.2.2.1 (((Below.refl _ _).alloc (Nat.le_refl _) _).drew) hown1 hgrow hat (by simp)
        clear hown1 hgrow hat e14 e15 ef
        go_wp2
        go_roundw
        · refine ⟨k + 1, by omega, by simp, c'', _, r1, r2, ?_, fun j h1 h2 => ?_, ?_, r4⟩
          · rw [if_neg (by omega)]; exact HR.out.2.2.2.2.2
          · rw [if_neg h2]; exact HR.out.2.2.1 j h1 h2
          · rw [if_pos rfl, List.replicate_succ', ← List.append_assoc]; exact r3
        · simp [intOf]; omega
    · have : k = 4 := by omega
      subst this
      go_wp2
      go_ret
      exact ⟨rfl, c', G', HR.out.1, HR.out.2.1, HR.out.2.2.2.2.2, HR.out.2.2.1, HR.out.2.2.2.1, HR.out.2.2.2.2.1⟩

set_option maxRecDepth 100000 in
set_option maxHeartbeats 2000000 in
theorem next2 (g : Nat) (G : Nat → Value) (c : Nat → Nat) (w : World) (n L : Nat) (ms : List Value) (hrow : w.rowIs g 67 24 G) (hg : c g = 1) (ht : Top c w) (hn : G 14 = .int .i64 (n : Int)) (hm : RowC c w 7 3 1 (G 17) L ms) (hL : L + 4 ≤ 1000000000000) (hnn : n + 1 ≤ 1000000000000) :
    Calls Tryz.prog 216 #[.pointer (some ⟨g, 11, none⟩), .int .i64 2] w fun e w' => e = .returned (.int .i64 ((n : Int) + 1)) ∧ ∃ c' G', w'.rowIs g 67 24 G' ∧ c' g = 1 ∧ G' 14 = .int .i64 ((n : Int) + 1) ∧ (∀ j, j ≠ 14 → j ≠ 17 → G' j = G j) ∧
       RowC c' w' 7 3 1 (G' 17) (L + 4) (ms ++ List.replicate 4 (.int .i64 ((n : Int) + 1))) ∧ Turn (fun y => y = 1 ∨ y = 7) c w c' w' := by
  obtain ⟨i0, hi, hz0, hz1, hz2⟩ := info_parts Tryz.infoInt
  have hu := Tryz.underlying23
  have q14 := hrow.cell (i := 14) (by omega)
  rw [hn] at q14
  have qf := hrow.frozen
  have H0 : Hid (w.rowIs g 67 24 G ∧ RowC c w 7 3 1 (G 17) L ms) := ⟨hrow, hm⟩
  clear hrow hm
  go_enter Tryz.func216, Tryz.ntmps216
  go_wp2_with fail
  go_loopw [5] (fun i wr => ∃ k : Nat, k ≤ 4 ∧ i = .int .i64 k ∧ ∃ c' G', wr.rowIs g 67 24 G' ∧ c' g = 1 ∧ G' 14 = .int .i64 ((n : Int) + 1) ∧ (∀ j, j ≠ 14 → j ≠ 17 → G' j = G j) ∧
       RowC c' wr 7 3 1 (G' 17) (L + k) (ms ++ List.replicate k (.int .i64 ((n : Int) + 1))) ∧ Turn (fun y => y = 1 ∨ y = 7) c w c' wr) (fun i _ => 4 - (intOf i).toNat)
  case atStart =>
    refine ⟨0, by omega, rfl, c, _, H0.out.1.set 14 _, hg, rfl, fun j h1 _ => by simp [h1], ?_, (Turn.refl ht).set (fun k _ e => .inl (by rw [e]; exact hg)) _⟩
    have h := H0.out.2.turn (S := fun y => y = 1) ((Turn.refl ht).set (a := ⟨g, 14, none⟩) (fun k _ e => by rw [e]; exact hg) (.int .i64 ((n : Int) + 1))) (by omega)
    simpa using h
  case round =>
    obtain ⟨k, hk, rfl, c', G', hr, hcg, h14, hG, hm, htn⟩ := hrel
    have HR : Hid (wr.rowIs g 67 24 G' ∧ c' g = 1 ∧ (∀ j, j ≠ 14 → j ≠ 17 → G' j = G j) ∧ RowC c' wr 7 3 1 (G' 17) (L + k) (ms ++ List.replicate k (.int .i64 ((n : Int) + 1))) ∧ Turn (fun y => y = 1 ∨ y = 7) c w c' wr ∧ G' 14 = .int .i64 ((n : Int) + 1)) := ⟨hr, hcg, hG, hm, htn, h14⟩
    have p14 := hr.cell (i := 14) (by omega)
    rw [h14] at p14
    have p15 := hr.cell (i := 17) (by omega)
    have pf := hr.frozen
    have hgl := hr.lt
    have PF := pf 17
    clear hr hcg h14 hG hm htn q14 qf H0
    by_cases hlt : k < 4
    · have HOWN : Hid ((wr.alloc (.cells #[.int .i64 ((n : Int) + 1)] 3)).drew.ownsRow 0 3 1 (G' 17) (L + k) (ms ++ List.replicate k (.int .i64 ((n : Int) + 1)))) := (HR.out.2.2.2.1.1.alloc _).drew
      have hne : some g ≠ (G' 17).ownBlock := fun e => by have h1 := HR.out.2.2.2.1.2 g e.symm; have h2 := HR.out.2.1; omega
      go_wp2
      go_region_law ((refine step_append_lies _ (by rfl) (.tmp 24) (.tmp 29) 23 (by rfl) 0 3 i0 (.int .i64 0) 1 8 hu hi hz0 hz1 hz2 (by rfl) (by omega) (G' 17) (L + k) (ms ++ List.replicate k (.int .i64 ((n : Int) + 1))) (by rfl) HOWN.out ⟨wr.heap.size, 0, none⟩ 1 1 [.int .i64 ((n : Int) + 1)] (by rfl) (by rfl) (cell_one_new _ _ _) (by intro u hu; simp at hu; subst hu; rfl) (by omega) (by unfold maxLen; omega) (by omega) (by omega) (wr.heap.size + 1) (by simp) ?_; intro g' cap w1 hown1 hgrow hat hlt'; have e14 := (hgrow.cell_far ⟨g, 14, none⟩ (by simp; omega) hne).trans ((World.cell?_alloc_past _ _ _ hgl).trans p14); have e15 := (hgrow.cell_far ⟨g, 17, none⟩ (by simp; omega) hne).trans ((World.cell?_alloc_past _ _ _ hgl).trans p15); have ef := (hgrow.frozen_far ⟨g, 17, none⟩ (by simp; omega) hne).trans ((World.frozen?_alloc_past _ _ _ hgl).trans PF)))
      all_goals
        obtain ⟨c'', r1, r2, r3, r4, _, _⟩ := field_app HR.out.1 HR.out.2.1 HR.out.2.2.2.2.1 (.inl rfl) (.inr rfl) (by omega) HR.out.2.2.2.1 (((Below.refl _ _).alloc (Nat.le_refl _) _).drew) hown1 hgrow hat (by simp)
        clear hown1 hgrow hat e14 e15 ef
        go_wp2
        go_roundw
        · refine ⟨k + 1, by omega, by simp, c'', _, r1, r2, ?_, fun j h1 h2 => ?_, ?_, r4⟩
          · rw [if_neg (by omega)]; exact HR.out.2.2.2.2.2
          · rw [if_neg h2]; exact HR.out.2.2.1 j h1 h2
          · rw [if_pos rfl, List.replicate_succ', ← List.append_assoc]; exact r3
        · simp [intOf]; omega
    · have : k = 4 := by omega
      subst this
      go_wp2
      go_ret
      exact ⟨rfl, c', G', HR.out.1, HR.out.2.1, HR.out.2.2.2.2.2, HR.out.2.2.1, HR.out.2.2.2.1, HR.out.2.2.2.2.1⟩
end Go.Proofs.YtfkddhndddfbdaaGreatDoor
