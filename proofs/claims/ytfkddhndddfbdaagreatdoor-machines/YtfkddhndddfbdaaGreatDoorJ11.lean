/- Game.looks at a new berth: the walk. -/
import Derived.Test.YtfkddhndddfbdaaGreatDoorJ10
namespace Go.Proofs.YtfkddhndddfbdaaGreatDoor
open Go.RowKit
attribute [local go_sem ↓] Go.wp_at_zero Go.wp_at_succ

set_option maxRecDepth 100000 in
set_option maxHeartbeats 1000000 in
theorem gameLooks0_any (g base bb ww cw qw : Nat) (m : Mach) (vc vr : Value) (G : Nat → Value) (c : Nat → Nat) (w : World) (n : Nat) (Li Lb Lo : List (Value × Nat)) (Eo : List (Value × Value)) (oa : Option Addr) (oc : Nat) (hs : St c w g G n Li Lb Lo) (hw : Wt c w G [] [] Eo) (h2 : Two c w base bb ww cw qw m vc vr)
    (h0 : G 0 = .pointer (some ⟨bb, 0, none⟩)) (h1 : G 1 = .pointer (some ⟨ww, 0, none⟩)) (h6 : G 6 = .slice oa 0 oc) (h3 : Eo.length ≤ 10) (h3' : 2 ≤ Eo.length) (hmn : m.n ≤ 24) (hmr : m.r * 8 ≤ 140737488355328) (hn : n ≤ 100000) (hi : Li.length ≤ 100000) (hb : Lb.length ≤ 100000) (ho : Lo.length ≤ 100000) :
    Calls Tryz.prog 71 #[.pointer (some ⟨g, 0, none⟩)] w fun e w' => e = .returned (.bool true) ∧ ∃ c' G' n' Li' Lb' Lo' oa' oc', St c' w' g G' n' Li' Lb' Lo' ∧ Wt c' w' G' [] [] [] ∧ G' 6 = .slice oa' 0 oc' ∧ (∀ j, j < 11 → j ≠ 6 → G' j = G j) ∧ n' ≤ n + 100 ∧ Li'.length ≤ Li.length + 100 ∧ Lb'.length ≤ Lb.length + 100 ∧ Lo'.length ≤ Lo.length + 100 ∧ Turn (fun z => z ≠ 0 ∧ z ≠ 14) c w c' w' := by
  have q0 := hs.row.cell (i := 0) (by omega)
  have q1 := hs.row.cell (i := 1) (by omega)
  rw [h0] at q0
  rw [h1] at q1
  have y6 : w.cell? ⟨ww, 6, none⟩ = some (.slice none 0 0) := by obtain ⟨z, _⟩ := blk h2.world.blk; exact z 6
  have y7 := (berthIs_cells h2.berth).1
  have H0 := Hid.in (And.intro hs (And.intro hw h2))
  have HG := Hid.in (And.intro h0 (And.intro h1 h6))
  clear hs hw h2 h0 h1 h6
  go_enter Tryz.func71, Tryz.ntmps71
  go_wp2_with (first
    | (go_at_call 20; refine (berthBoxes_any bb w y7).mono ?_; rintro e w1 ⟨rfl, hw1⟩; obtain rfl := hw1.symm)
    | (go_at_call 123; refine (worldBoxes_any ww none 0 0 w y6).mono ?_; rintro e w1 ⟨rfl, hw1⟩; obtain rfl := hw1.symm)
    | (go_at_call 124; refine (sameBoxes0_any _ _ _ _ _).mono ?_; rintro e w1 ⟨rfl, hw1⟩; obtain rfl := hw1.symm))
  go_wp2_with (go_at_call 125; refine Calls.mono (keepBoxes0_any g G c w (.slice none 0 0) [] H0.out.1.row H0.out.1.col H0.out.1.top H0.out.2.1.b (RowC.nil _ _ _ _ _) (by simp)) ?_; rintro e w1 ⟨rfl, c1, G1, k1, k2, k3, k4, k5⟩; have k6 := kept_boxes H0.out.1 H0.out.2.1 k1 k2 k3 k4 k5; have p0 := k1.cell (i := 0) (by omega); rw [k3 0 (by omega) (by omega), HG.out.1] at p0; have p1 := k1.cell (i := 1) (by omega); rw [k3 1 (by omega) (by omega), HG.out.2.1] at p1; have H1 := Hid.in (And.intro k6.1 (And.intro k6.2 (And.intro k3 (And.intro (H0.out.2.2.turn k5 (by omega)) k5)))); clear k1 k2 k3 k4 k5 k6)
  go_wp2_with (go_at_call 125; refine Calls.mono (keepBoxes0_any g G1 c1 w1 (.slice none 0 0) _ H1.out.1.row H1.out.1.col H1.out.1.top H1.out.2.1.b (RowC.nil _ _ _ _ _) (by simp)) ?_; rintro e w2 ⟨rfl, c2, G2, k1, k2, k3, k4, k5⟩; have k6 := kept_boxes H1.out.1 H1.out.2.1 k1 k2 k3 k4 k5; have v0 := k1.cell (i := 0) (by omega); rw [k3 0 (by omega) (by omega), H1.out.2.2.1 0 (by omega) (by omega), HG.out.1] at v0; have v1 := k1.cell (i := 1) (by omega); rw [k3 1 (by omega) (by omega), H1.out.2.2.1 1 (by omega) (by omega), HG.out.2.1] at v1; have H2 := Hid.in (And.intro k6.1 (And.intro k6.2 (And.intro k3 (And.intro (H1.out.2.2.2.1.turn k5 (by omega)) k5)))); clear k1 k2 k3 k4 k5 k6)
  clear p0 p1 q0 q1 y6 y7
  have gl2 : g < w2.heap.size := H2.out.1.row.lt
  go_wp2_with fail
  refine Calls.mono (berthFree_any m base bb vc vr w2 H2.out.2.2.2.1.berth hmn) ?_
  rintro e w3 ⟨v, rfl, o3, b3⟩
  obtain ⟨a3, p3, rfl⟩ := ownsRow_shape o3
  have u0 := (b3.cell (p := ⟨g, 0, none⟩) gl2).trans v0
  have u1 := (b3.cell (p := ⟨g, 1, none⟩) gl2).trans v1
  have H3 := Hid.in (And.intro o3 b3)
  have gl3 : g < w3.heap.size := Nat.lt_of_lt_of_le gl2 b3.size
  clear o3 b3 v0 v1
  go_wp2_with fail
  obtain ⟨W3, hW3⟩ : ∃ W, W = w3.alloc (.cells #[.slice a3 (freeN m m.n).length p3, .slice none 0 0, .slice none 0 0, .slice none 0 0] 42) := ⟨_, rfl⟩
  obtain ⟨e8, he8⟩ : ∃ e, e = w3.heap.size := ⟨_, rfl⟩
  have B3 : Below w3.heap.size w3 W3 := by rw [hW3]; exact (Below.refl _ _).alloc (Nat.le_refl _) _
  have K8 : W3.heap[e8]? = some (.cells #[.slice a3 (freeN m m.n).length p3, .slice none 0 0, .slice none 0 0, .slice none 0 0] 42 (0, 0)) := by rw [hW3, he8]; exact heap_alloc_new _ _
  have S3 : e8 < W3.heap.size := (Array.getElem?_eq_some_iff.1 K8).1
  have u0' := (B3.cell (p := ⟨g, 0, none⟩) gl3).trans u0
  have u1' := (B3.cell (p := ⟨g, 1, none⟩) gl3).trans u1
  have gl3' : g < W3.heap.size := Nat.lt_of_lt_of_le gl3 B3.size
  have H4 := Hid.in (And.intro (ownsRow_below H3.out.1 B3) (And.intro (ext_trans H3.out.2 B3) (And.intro K8 (And.intro (show w2.heap.size ≤ e8 by rw [he8]; exact H3.out.2.size) (show ∀ b, (Value.slice a3 (freeN m m.n).length p3).ownBlock = some b → b < e8 from fun b hb => by rw [he8]; exact (H3.out.1.lt b hb).2)))))
  rw [← hW3, ← he8]
  clear hW3 he8 B3 K8 u0 u1 gl3 H3
  clear w3
  refine Calls.mono (berthFree_any m base bb vc vr W3 (H2.out.2.2.2.1.turn ((Turn.refl (S := fun _ => False) H2.out.1.top).below H4.out.2.1) (fun h => h)).berth hmn) ?_
  rintro e w4 ⟨v, rfl, o4, b4⟩
  obtain ⟨a4, p4, rfl⟩ := ownsRow_shape o4
  have u0 := (b4.cell (p := ⟨g, 0, none⟩) gl3').trans u0'
  have u1 := (b4.cell (p := ⟨g, 1, none⟩) gl3').trans u1'
  have H5 := Hid.in (And.intro o4 b4)
  have gl4 : g < w4.heap.size := Nat.lt_of_lt_of_le gl3' b4.size
  clear o4 b4 u0' u1'
  go_wp2_with fail
  obtain ⟨W4, hW4⟩ : ∃ W, W = w4.alloc (.cells #[.slice a4 (freeN m m.n).length p4, .slice none 0 0, .slice none 0 0, .slice none 0 0] 42) := ⟨_, rfl⟩
  obtain ⟨e9, he9⟩ : ∃ e, e = w4.heap.size := ⟨_, rfl⟩
  have B4 : Below w4.heap.size w4 W4 := by rw [hW4]; exact (Below.refl _ _).alloc (Nat.le_refl _) _
  have K9 : W4.heap[e9]? = some (.cells #[.slice a4 (freeN m m.n).length p4, .slice none 0 0, .slice none 0 0, .slice none 0 0] 42 (0, 0)) := by rw [hW4, he9]; exact heap_alloc_new _ _
  have u0' := (B4.cell (p := ⟨g, 0, none⟩) gl4).trans u0
  have u1' := (B4.cell (p := ⟨g, 1, none⟩) gl4).trans u1
  have B34 : Below W3.heap.size W3 W4 := ext_trans H5.out.2 B4
  have H6 := Hid.in (And.intro (ownsRow_below H4.out.1 B34) (And.intro (ext_trans H4.out.2.1 B34) (And.intro ((B34.block _ S3).trans H4.out.2.2.1) (And.intro K9 (And.intro (ownsRow_below H5.out.1 B4) (And.intro H4.out.2.2.2.1 (And.intro (show w2.heap.size ≤ e9 by rw [he9]; exact Nat.le_trans H4.out.2.1.size H5.out.2.size) (And.intro (show ∀ b, (Value.slice a3 (freeN m m.n).length p3).ownBlock = some b → b < W3.heap.size from fun b hb => Nat.lt_trans (H4.out.2.2.2.2 b hb) S3) H4.out.2.1.size))))))))
  rw [← hW4, ← he9]
  clear hW4 he9 B4 K9 u0 u1 gl4 H4 H5 B34 S3
  clear w4
  refine Calls.mono (worldFree_any m base ww cw qw W4 (H2.out.2.2.2.1.turn ((Turn.refl (S := fun _ => False) H2.out.1.top).below H6.out.2.1) (fun h => h)).world hmr hmn) ?_
  rintro e w5 ⟨v, rfl, o5, b5⟩
  obtain ⟨a5, p5, rfl⟩ := ownsRow_shape o5
  rw [freeV_eq] at o5
  have H7 := Hid.in (And.intro o5 b5)
  clear o5 b5 u0' u1'
  have l8 : e8 < w5.heap.size := Nat.lt_of_lt_of_le (Array.getElem?_eq_some_iff.1 H6.out.2.2.1).1 H7.out.2.size
  have l9 : e9 < w5.heap.size := Nat.lt_of_lt_of_le (Array.getElem?_eq_some_iff.1 H6.out.2.2.2.1).1 H7.out.2.size
  have z8 := (blk ((H7.out.2.block _ (Array.getElem?_eq_some_iff.1 H6.out.2.2.1).1).trans H6.out.2.2.1)).1
  have z9 := (blk ((H7.out.2.block _ (Array.getElem?_eq_some_iff.1 H6.out.2.2.2.1).1).trans H6.out.2.2.2.1)).1
  go_wp2_with fail
  obtain ⟨W5, hW5⟩ : ∃ W, W = w5.alloc (.cells #[.slice a5 (freeN m m.n).length p5, .slice none 0 0, .slice none 0 0, .slice none 0 0] 42) := ⟨_, rfl⟩
  obtain ⟨e10, he10⟩ : ∃ e, e = w5.heap.size := ⟨_, rfl⟩
  have B5 : Below w5.heap.size w5 W5 := by rw [hW5]; exact (Below.refl _ _).alloc (Nat.le_refl _) _
  have K10 : W5.heap[e10]? = some (.cells #[.slice a5 (freeN m m.n).length p5, .slice none 0 0, .slice none 0 0, .slice none 0 0] 42 (0, 0)) := by rw [hW5, he10]; exact heap_alloc_new _ _
  have B45 : Below W4.heap.size W4 W5 := ext_trans H7.out.2 B5
  have o3' := ownsRow_below H6.out.1 B45
  have o4' := ownsRow_below H6.out.2.2.2.2.1 B45
  rw [freeV_eq] at o3' o4'
  have HL := Hid.in (show Told3 w2 W5 e8 e9 e10 a3 a4 a5 p3 p4 p5 (freeN m m.n).length (freeI m) from ⟨ext_trans H6.out.2.1 B45, o3', ⟨W3.heap.size, H6.out.2.2.2.2.2.2.2.1, H6.out.2.2.2.2.2.2.2.2, o4'⟩, ownsRow_base (ownsRow_below H7.out.1 B5) (Nat.zero_le _), (B45.block _ (Array.getElem?_eq_some_iff.1 H6.out.2.2.1).1).trans H6.out.2.2.1, (B45.block _ (Array.getElem?_eq_some_iff.1 H6.out.2.2.2.1).1).trans H6.out.2.2.2.1, K10⟩)
  have Hl := Hid.in (And.intro H6.out.2.2.2.2.2.1 H6.out.2.2.2.2.2.2.1)
  rw [← hW5, ← he10]
  clear hW5 he10 B5 K10 B45 o3' o4' H6 H7 z8 z9 l8 l9
  clear w5
  clear gl3'
  clear W3 W4
  generalize hN : (freeN m m.n).length = N
  have hN24 : N ≤ 24 := by have := freeN_le m m.n; omega
  rw [hN] at HL
  clear hN
  refine Calls.mono (sameGrant1_any a3 a5 N p3 p5 _ _ (freeI m) W5 HL.out.x HL.out.y) ?_
  rintro e W6 ⟨rfl, b6⟩
  have HL6 := Hid.in (HL.out.mono b6)
  clear b6 HL
  clear W5
  have z9 := (blk HL6.out.k9).1
  have z10 := (blk HL6.out.k10).1
  go_wp2_with fail
  clear z9 z10
  refine Calls.mono (sameGrant1_any a4 a5 N p4 p5 _ _ (freeI m) W6 HL6.out.z.choose_spec.2.2 HL6.out.y) ?_
  rintro e W7 ⟨rfl, b7⟩
  have HL7 := Hid.in (HL6.out.mono b7)
  clear b7 HL6
  clear W6
  obtain ⟨c3, t3, rx, rz, y8, y9⟩ := told3_dye HL7.out H2.out.1.top Hl.out.1 Hl.out.2
  have H8 : Hid (St c3 W7.drew g G2 n Li Lb Lo ∧ Wt c3 W7.drew G2 [] ([] ++ [(Value.slice none 0 0, Value.slice none 0 0)] ++ [(Value.slice none 0 0, Value.slice none 0 0)]) Eo ∧ RowC c3 W7.drew 1000 3 1 (.slice a3 N p3) N (IL (freeI m)) ∧ RowC c3 W7.drew 1004 3 1 (.slice a4 N p4) N (IL (freeI m)) ∧ Two c3 W7.drew base bb ww cw qw m vc vr ∧ Turn (fun _ => False) c2 w2 c3 W7.drew ∧ c3 e8 = 0 ∧ c3 e9 = 0 ∧ W7.drew.heap[e9]? = some (.cells #[.slice a4 N p4, .slice none 0 0, .slice none 0 0, .slice none 0 0] 42 (0, 0))) :=
    ⟨H2.out.1.turn t3.drew (fun _ _ _ h => h), H2.out.2.1.turn t3.drew (fun _ _ h => h), rx.turn (Turn.refl (S := fun _ => False) t3.top).drew (fun h => h), rz.turn (Turn.refl (S := fun _ => False) t3.top).drew (fun h => h), H2.out.2.2.2.1.turn t3.drew (fun h => h), t3.drew, y8, y9, HL7.out.k9⟩
  have z8 := (blk HL7.out.k8).1
  clear t3 rx rz y8 y9 HL7
  go_wp2_with fail
  go_region_law (go_simp; go_at_call 126; refine Calls.mono (keepGrant1_any g G2 c3 W7.drew n Li Lb Lo [] _ _ a3 N p3 (freeI m) H8.out.1 H8.out.2.1 H8.out.2.2.1 (by omega) (by simp)) ?_; rintro e W8 ⟨rfl, c4, G4, x8, k1, k2, k3, k4⟩; have H9 := Hid.in (And.intro k1 (And.intro k2 (And.intro k3 (And.intro (H8.out.2.2.2.1.turn k4 (by omega)) (And.intro (H8.out.2.2.2.2.1.turn k4 (by omega)) (And.intro k4 (k4.blk0 (by omega) H8.out.2.2.2.2.2.2.2.1 H8.out.2.2.2.2.2.2.2.2))))))); clear k1 k2 k3 k4; dsimp only)
  all_goals
    have H10 : Hid (St c4 W8.drew g G4 n Li Lb Lo ∧ Wt c4 W8.drew G4 [x8] ([] ++ [(Value.slice none 0 0, Value.slice none 0 0)] ++ [(Value.slice none 0 0, Value.slice none 0 0)]) Eo ∧ RowC c4 W8.drew 1004 3 1 (.slice a4 N p4) N (IL (freeI m)) ∧ Two c4 W8.drew base bb ww cw qw m vc vr ∧ Turn (fun y => y = 1 ∨ y = 8 ∨ y = 9) c3 W7.drew c4 W8.drew) :=
      have td : Turn (fun _ => False) c4 W8 c4 W8.drew := (Turn.refl H9.out.1.top).drew
      ⟨H9.out.1.turn td (fun _ _ _ h => h), H9.out.2.1.turn td (fun _ _ h => h), H9.out.2.2.2.1.turn td (fun h => h), H9.out.2.2.2.2.1.turn td (fun h => h), H9.out.2.2.2.2.2.1.drew⟩
    clear z8
    have z9 := (blk H9.out.2.2.2.2.2.2.2).1
    go_wp2_with fail
    go_region_law (go_simp; go_at_call 126; refine Calls.mono (keepGrant1_any g G4 c4 W8.drew n Li Lb Lo [x8] _ _ a4 N p4 (freeI m) H10.out.1 H10.out.2.1 H10.out.2.2.1 (by omega) (by simp)) ?_; rintro e W9 ⟨rfl, c5, G5, x9, k1, k2, k3, k4⟩; have H11 := Hid.in (And.intro k1 (And.intro k2 (And.intro k3 (And.intro (H10.out.2.2.2.1.turn k4 (by omega)) k4)))); clear k1 k2 k3 k4; dsimp only)
    all_goals
      clear z9
      have hd7 := (berthIs_cells H11.out.2.2.2.1.berth).2
      have e0 : G5 0 = .pointer (some ⟨bb, 0, none⟩) := (H11.out.2.2.1 0 (by omega) (by omega)).trans ((H9.out.2.2.1 0 (by omega) (by omega)).trans ((H2.out.2.2.1 0 (by omega) (by omega)).trans ((H1.out.2.2.1 0 (by omega) (by omega)).trans HG.out.1)))
      have e6 : G5 6 = .slice oa 0 oc := (H11.out.2.2.1 6 (by omega) (by omega)).trans ((H9.out.2.2.1 6 (by omega) (by omega)).trans ((H2.out.2.2.1 6 (by omega) (by omega)).trans ((H1.out.2.2.1 6 (by omega) (by omega)).trans HG.out.2.2)))
      have HE := Hid.in (And.intro e0 (And.intro e6 hd7))
      clear e0 e6 hd7
      go_wp2_with (go_at_call 76; refine Calls.mono (refused0_any g bb G5 c5 W9 n Li Lb Lo _ _ Eo oa oc H11.out.1 H11.out.2.1 HE.out.1 HE.out.2.1 (by omega) HE.out.2.2) ?_; rintro e W10 ⟨rfl, c6, G6, oa6, oc6, k1, k2, k3, k4, k5⟩; have H12 := Hid.in (And.intro k1 (And.intro k2 (And.intro k3 (And.intro k4 k5)))); clear k1 k2 k3 k4 k5)
      go_wp2_with (go_at_call 27; refine Calls.mono (looksMany_any g G6 c6 W10 n Li Lb Lo _ _ _ H12.out.1 H12.out.2.1 (by simp) (by simp) (by simp; omega) (by omega) (by omega) (by omega) (by omega) (by simp; omega)) ?_; rintro e W11 ⟨rfl, c7, G7, Li7, Lb7, Lo7, k1, k2, k3, k4, k5, k6, k7⟩; have H13 := Hid.in (And.intro k1 (And.intro k2 (And.intro k3 (And.intro k4 (And.intro k5 (And.intro k6 k7)))))); clear k1 k2 k3 k4 k5 k6 k7)
      go_ret
      have q1 := H13.out.2.2.2.1
      have q2 := H13.out.2.2.2.2.1
      have q3 := H13.out.2.2.2.2.2.1
      simp only [List.length_append, List.length_cons, List.length_nil] at q1 q2 q3
      refine ⟨rfl, c7, G7, _, Li7, Lb7, Lo7, oa6, oc6, H13.out.1, H13.out.2.1, (H13.out.2.2.1 6 (by omega)).trans H12.out.2.2.1, fun j hj h6 => ?_, by simp only [List.length_append, List.length_cons, List.length_nil]; omega, by omega, by omega, by omega, ?_⟩
      · exact (H13.out.2.2.1 j hj).trans ((H12.out.2.2.2.1 j hj h6).trans ((H11.out.2.2.1 j (by omega) (by omega)).trans ((H9.out.2.2.1 j (by omega) (by omega)).trans ((H2.out.2.2.1 j (by omega) (by omega)).trans (H1.out.2.2.1 j (by omega) (by omega))))))
      · exact (((((H1.out.2.2.2.2.mono (by omega)).trans (H2.out.2.2.2.2.mono (by omega))).trans (H8.out.2.2.2.2.2.1.mono (fun _ h => h.elim))).trans (H10.out.2.2.2.2.mono (by omega))).trans (H11.out.2.2.2.2.mono (by omega))).trans ((H12.out.2.2.2.2.mono (by omega)).trans (H13.out.2.2.2.2.2.2))
end Go.Proofs.YtfkddhndddfbdaaGreatDoor
