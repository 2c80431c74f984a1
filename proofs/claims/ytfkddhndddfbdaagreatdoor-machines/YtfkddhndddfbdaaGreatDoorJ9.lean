/- Game.disk, refused of a berth that did nothing on the disk. -/
import Derived.Test.YtfkddhndddfbdaaGreatDoorJ8
namespace Go.Proofs.YtfkddhndddfbdaaGreatDoor
open Go.RowKit
attribute [local go_sem ↓] Go.wp_at_zero Go.wp_at_succ

set_option maxRecDepth 100000 in
theorem cloneOps0_any (w : World) : Calls Tryz.prog 165 #[.slice none 0 0] w fun e w' => e = .returned (.slice none 0 0) ∧ w' = w := by
  have heq := fun (W : World) => Lib.run_eql_slice_nil (P := Tryz.prog) W 58 155 none 0 0 0 0 Tryz.underlying58
  go_enter Tryz.func165, Tryz.ntmps165
  go_wp2
  go_ret
  exact ⟨rfl, rfl⟩
set_option maxRecDepth 100000 in
theorem cloneBoxes0_any (w : World) : Calls Tryz.prog 60 #[.slice none 0 0] w fun e w' => e = .returned (.slice none 0 0) ∧ w' = w := by
  have heq := fun (W : World) => Lib.run_eql_slice_nil (P := Tryz.prog) W 38 101 none 0 0 0 0 Tryz.underlying38
  go_enter Tryz.func60, Tryz.ntmps60
  go_wp2
  go_ret
  exact ⟨rfl, rfl⟩
set_option maxRecDepth 100000 in
theorem diskDone0_any (bb : Nat) (w : World) (h : w.cell? ⟨bb, 7, none⟩ = some (.slice none 0 0)) : Calls Tryz.prog 98 #[.pointer (some ⟨bb, 7, none⟩)] w fun e w' => e = .returned (.slice none 0 0) ∧ w' = w := by
  go_enter Tryz.func98, Tryz.ntmps98
  go_wp2_with (go_at_call 165; refine (cloneOps0_any _).mono ?_; rintro e w1 ⟨rfl, hw1⟩; obtain rfl := hw1.symm)
  go_ret
  exact ⟨rfl, rfl⟩
set_option maxRecDepth 100000 in
theorem berthDisk_any (bb : Nat) (w : World) (h : w.cell? ⟨bb, 7, none⟩ = some (.slice none 0 0)) : Calls Tryz.prog 51 #[.pointer (some ⟨bb, 0, none⟩)] w fun e w' => e = .returned (.slice none 0 0) ∧ w' = w := by
  go_enter Tryz.func51, Tryz.ntmps51
  go_wp2_with (go_at_call 98; refine (diskDone0_any bb _ h).mono ?_; rintro e w1 ⟨rfl, hw1⟩; obtain rfl := hw1.symm)
  go_ret
  exact ⟨rfl, rfl⟩
set_option maxRecDepth 100000 in
theorem berthBoxes_any (bb : Nat) (w : World) (h : w.cell? ⟨bb, 6, none⟩ = some (.slice none 0 0)) : Calls Tryz.prog 20 #[.pointer (some ⟨bb, 0, none⟩)] w fun e w' => e = .returned (.slice none 0 0) ∧ w' = w := by
  go_enter Tryz.func20, Tryz.ntmps20
  go_wp2_with (go_at_call 60; refine (cloneBoxes0_any _).mono ?_; rintro e w1 ⟨rfl, hw1⟩; obtain rfl := hw1.symm)
  refine wp_loop_rounds 1 ?_
  rw [rounds_succ]
  go_wp2
  go_ret
  exact ⟨rfl, rfl⟩
set_option maxRecDepth 100000 in
theorem worldBoxes_any (ww : Nat) (ao : Option Addr) (n cap : Nat) (w : World) (h : w.cell? ⟨ww, 6, none⟩ = some (.slice ao n cap)) : Calls Tryz.prog 123 #[.pointer (some ⟨ww, 0, none⟩)] w fun e w' => e = .returned (.slice ao n cap) ∧ w' = w := by
  go_enter Tryz.func123, Tryz.ntmps123
  go_wp2
  go_ret
  exact ⟨rfl, rfl⟩

theorem copy0 (W : World) (ao : Option Addr) (ac : Nat) : (Builtin.copy_ #[58, 58] 3 #[.slice ao 0 ac, .slice none 0 0]).run Tryz.prog W = .ok (.int .i64 0) W := by
  have hu := Tryz.underlying58
  obtain ⟨i1, hi', hz0', hz1', hz2'⟩ := info_parts Tryz.infoOp
  cases ao <;> simp [Builtin.copy_, run_underlying hu, sizeOf, typeInfo, hi', Builtin.lenOf, Builtin.firstCells, storeCells, goInt]
theorem Wt.congr {c : Nat → Nat} {w : World} {G G' : Nat → Value} {ws : List GW} {Eb Eo : List (Value × Value)} (h : Wt c w G ws Eb Eo) (hG : ∀ j, 18 ≤ j → G' j = G j) : Wt c w G' ws Eb Eo :=
  ⟨by rw [hG 18 (by omega), hG 19 (by omega)]; exact h.g, by rw [hG 20 (by omega), hG 21 (by omega)]; exact h.b, by rw [hG 22 (by omega), hG 23 (by omega)]; exact h.o⟩
/-- Behind keepOps. -/
theorem kept_ops {c c' : Nat → Nat} {w w' : World} {g n : Nat} {G G' : Nat → Value} {Li Lb Lo : List (Value × Nat)} {ws : List GW} {Eb Eo Eo' : List (Value × Value)} (hs : St c w g G n Li Lb Lo) (hw : Wt c w G ws Eb Eo) (hr : w'.rowIs g 67 24 G') (hc : c' g = 1) (hG : ∀ j, j ≠ 22 → j ≠ 23 → G' j = G j)
    (hE : WaitE 12 13 200 58 155 4 c' w' (G' 22) (G' 23) Eo') (t : Turn (fun z => z = 1 ∨ z = 12 ∨ z = 13) c w c' w') : St c' w' g G' n Li Lb Lo ∧ Wt c' w' G' ws Eb Eo' := by
  refine ⟨⟨hr, hc, t.top, (hG 14 (by omega) (by omega)).trans hs.cnt, ?_, ?_, ?_⟩, ⟨?_, ?_, hE⟩⟩
  · rw [hG 11 (by omega) (by omega), hG 15 (by omega) (by omega)]; exact hs.ints.turn t (by omega) (by omega) (by omega)
  · rw [hG 12 (by omega) (by omega), hG 16 (by omega) (by omega)]; exact hs.boxes.turn t (by omega) (by omega) (by omega)
  · rw [hG 13 (by omega) (by omega), hG 17 (by omega) (by omega)]; exact hs.ops.turn t (by omega) (by omega) (by omega)
  · rw [hG 18 (by omega) (by omega), hG 19 (by omega) (by omega)]; exact hw.g.turn t (by omega) (by omega) (by omega) (by omega)
  · rw [hG 20 (by omega) (by omega), hG 21 (by omega) (by omega)]; exact hw.b.turn t (by omega) (by omega) (by omega)

set_option maxRecDepth 100000 in
set_option maxHeartbeats 400000 in
theorem gameDisk0_any (g bb : Nat) (G : Nat → Value) (c : Nat → Nat) (w : World) (n : Nat) (Li Lb Lo : List (Value × Nat)) (ws : List GW) (Eb Eo : List (Value × Value)) (oa : Option Addr) (oc : Nat) (hs : St c w g G n Li Lb Lo) (hw : Wt c w G ws Eb Eo)
    (h0 : G 0 = .pointer (some ⟨bb, 0, none⟩)) (h6 : G 6 = .slice oa 0 oc) (h3 : Eo.length ≤ 1000) (hd : w.cell? ⟨bb, 7, none⟩ = some (.slice none 0 0)) :
    Calls Tryz.prog 70 #[.pointer (some ⟨g, 0, none⟩)] w fun e w' => e = .returned (.bool true) ∧ ∃ c' G' oa' oc', St c' w' g G' n Li Lb Lo ∧ Wt c' w' G' ws Eb (Eo ++ [(.slice none 0 0, .slice none 0 0), (.slice none 0 0, .slice none 0 0)]) ∧ G' 6 = .slice oa' 0 oc' ∧ (∀ j, j < 11 → j ≠ 6 → G' j = G j) ∧ Turn (fun z => z = 1 ∨ z = 12 ∨ z = 13) c w c' w' := by
  obtain ⟨W1, hmk, ⟨f, r1⟩, hB1, hs1⟩ := ex_make (P := Tryz.prog) w 58 155 _ 4 56 0 0 rfl Tryz.underlying58 Tryz.infoOp (by omega) (by omega)
  have q0 := hs.row.cell (i := 0) (by omega)
  have q6 := hs.row.cell (i := 6) (by omega)
  have qf := hs.row.frozen
  rw [h0] at q0
  rw [h6] at q6
  have H0 : Hid (St c w g G n Li Lb Lo ∧ Wt c w G ws Eb Eo ∧ Below w.heap.size w W1) := ⟨hs, hw, hB1⟩
  have hs1' := hs.below hB1
  have k6 := hs1'.row.cell (i := 6) (by omega)
  have kf := hs1'.row.frozen
  rw [h6] at k6
  have t6 : Turn (fun z => z = 1) c w c (W1.setCell ⟨g, 6, none⟩ (.slice (some ⟨w.heap.size, 0, none⟩) 0 0)) := ((Turn.refl hs.top).below hB1).set (fun k _ e => by rw [e]; exact hs.col) _
  have H6 : Hid (St c (W1.setCell ⟨g, 6, none⟩ (.slice (some ⟨w.heap.size, 0, none⟩) 0 0)) g (fun i => if i = 6 then .slice (some ⟨w.heap.size, 0, none⟩) 0 0 else G i) n Li Lb Lo ∧ Wt c (W1.setCell ⟨g, 6, none⟩ (.slice (some ⟨w.heap.size, 0, none⟩) 0 0)) (fun i => if i = 6 then .slice (some ⟨w.heap.size, 0, none⟩) 0 0 else G i) ws Eb Eo ∧ Turn (fun z => z = 1) c w c (W1.setCell ⟨g, 6, none⟩ (.slice (some ⟨w.heap.size, 0, none⟩) 0 0))) :=
    ⟨hs1'.set 6 (by omega) _, (hw.turn t6 (fun z hz => by omega)).congr (fun j hj => if_neg (by omega)), t6⟩
  have hcp := fun W => copy0 W (some ⟨w.heap.size, 0, none⟩) 0
  clear hs hw hs1' hB1 hs1 r1 t6
  go_enter Tryz.func70, Tryz.ntmps70
  go_wp2_with (first
    | (go_at_call 51; refine (berthDisk_any bb _ hd).mono ?_; rintro e w1 ⟨rfl, hw1⟩; obtain rfl := hw1.symm)
    | (go_at_call 120; refine (sameOps0_any _ _ _ _ _).mono ?_; rintro e w1 ⟨rfl, hw1⟩; obtain rfl := hw1.symm))
  refine wp_loop_rounds 1 ?_
  rw [rounds_succ]
  go_wp2_with (go_at_call 122; refine Calls.mono (keepOps0_any g _ c _ (.slice none 0 0) Eo H6.out.1.row H6.out.1.col H6.out.1.top H6.out.2.1.o (RowC.nil _ _ _ _ _) (by omega)) ?_; rintro e w7 ⟨rfl, c7, G7, k1, k2, k3, k4, k5⟩; have k7 := Hid.in (And.intro (kept_ops H6.out.1 H6.out.2.1 k1 k2 k3 k4 k5) (And.intro k3 k5)); clear k1 k2 k3 k4 k5)
  go_wp2_with (go_at_call 122; refine Calls.mono (keepOps0_any g G7 c7 w7 (.slice none 0 0) (Eo ++ [(.slice none 0 0, .slice none 0 0)]) k7.out.1.1.row k7.out.1.1.col k7.out.1.1.top k7.out.1.2.o (RowC.nil _ _ _ _ _) (by simp; omega)) ?_; rintro e w8 ⟨rfl, c8, G8, k1, k2, k3, k4, k5⟩; have k8 := Hid.in (And.intro (kept_ops k7.out.1.1 k7.out.1.2 k1 k2 k3 k4 k5) (And.intro k3 k5)); clear k1 k2 k3 k4 k5)
  go_ret
  refine ⟨rfl, c8, G8, some ⟨w.heap.size, 0, none⟩, 0, k8.out.1.1, ?_, ?_, fun j j1 j2 => ?_, (H6.out.2.2.mono (fun z h => by omega)).trans (k7.out.2.2.trans k8.out.2.2)⟩
  · have h := k8.out.1.2
    rw [List.append_assoc] at h
    exact h
  · rw [k8.out.2.1 6 (by omega) (by omega), k7.out.2.1 6 (by omega) (by omega)]; rfl
  · rw [k8.out.2.1 j (by omega) (by omega), k7.out.2.1 j (by omega) (by omega)]; exact if_neg j2

set_option maxRecDepth 100000 in
set_option maxHeartbeats 400000 in
theorem refused0_any (g bb : Nat) (G : Nat → Value) (c : Nat → Nat) (w : World) (n : Nat) (Li Lb Lo : List (Value × Nat)) (ws : List GW) (Eb Eo : List (Value × Value)) (oa : Option Addr) (oc : Nat) (hs : St c w g G n Li Lb Lo) (hw : Wt c w G ws Eb Eo)
    (h0 : G 0 = .pointer (some ⟨bb, 0, none⟩)) (h6 : G 6 = .slice oa 0 oc) (h3 : Eo.length ≤ 1000) (hd : w.cell? ⟨bb, 7, none⟩ = some (.slice none 0 0)) :
    Calls Tryz.prog 76 #[.pointer (some ⟨g, 0, none⟩)] w fun e w' => e = .returned (.bool true) ∧ ∃ c' G' oa' oc', St c' w' g G' n Li Lb Lo ∧ Wt c' w' G' ws Eb (Eo ++ [(.slice none 0 0, .slice none 0 0), (.slice none 0 0, .slice none 0 0)]) ∧ G' 6 = .slice oa' 0 oc' ∧ (∀ j, j < 11 → j ≠ 6 → G' j = G j) ∧ Turn (fun z => z = 1 ∨ z = 12 ∨ z = 13) c w c' w' := by
  have q6 := hs.row.cell (i := 6) (by omega)
  rw [h6] at q6
  have H0 := Hid.in (And.intro hs hw)
  clear hs hw
  go_enter Tryz.func76, Tryz.ntmps76
  go_wp2_with (go_at_call 70; refine Calls.mono (gameDisk0_any g bb G c w n Li Lb Lo ws Eb Eo oa oc H0.out.1 H0.out.2 h0 h6 h3 hd) ?_; rintro e w1 ⟨rfl, c', G', oa', oc', r1, r2, r3, r4, r5⟩; have p6 := r1.row.cell (i := 6) (by omega); rw [r3] at p6; have H1 := Hid.in (And.intro r1 (And.intro r2 (And.intro r3 (And.intro r4 r5)))); clear r1 r2 r3 r4 r5)
  go_ret
  exact ⟨rfl, c', G', oa', oc', H1.out⟩
end Go.Proofs.YtfkddhndddfbdaaGreatDoor
