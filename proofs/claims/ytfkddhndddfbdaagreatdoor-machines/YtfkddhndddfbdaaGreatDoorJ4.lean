/- keepBoxes, keepOps of lists that hold nothing. -/
import Derived.Test.YtfkddhndddfbdaaGreatDoorJ3
import Derived.Test.YtfkddhndddfbdaaGreatDoorK6
namespace Go.Proofs.YtfkddhndddfbdaaGreatDoor
open Go.RowKit
attribute [local go_sem ↓] Go.wp_at_zero Go.wp_at_succ
attribute [local go_sem] After.cell After.frozen After.const

theorem Hid.in {p : Prop} (h : p) : Hid p := h
/-- Lists that wait, each of which holds nothing, and their copies. -/
structure WaitE (x1 x2 y eL e sz : Nat) (c : Nat → Nat) (w : World) (v1 v2 : Value) (L : List (Value × Value)) : Prop where
  rows : RowC c w x1 eL 1 v1 L.length (L.map Prod.fst)
  were : RowC c w x2 eL 1 v2 L.length (L.map Prod.snd)
  each : ∀ i p, L[i]? = some p → RowC c w (y + i) e sz p.1 0 [] ∧ p.2 = .slice none 0 0
theorem WaitE.turn {S : Nat → Prop} {x1 x2 y eL e sz : Nat} {c c' : Nat → Nat} {w w' : World} {v1 v2 : Value} {L : List (Value × Value)} (h : WaitE x1 x2 y eL e sz c w v1 v2 L) (t : Turn S c w c' w') (h1 : ¬ S x1) (h2 : ¬ S x2) (hk : ∀ k, k < L.length → ¬ S (y + k)) : WaitE x1 x2 y eL e sz c' w' v1 v2 L :=
  ⟨h.rows.turn t h1, h.were.turn t h2, fun i p hp => ⟨(h.each i p hp).1.turn t (hk _ (by rcases Nat.lt_or_ge i L.length with h3 | h3; exact h3; rw [List.getElem?_eq_none h3] at hp; cases hp)), (h.each i p hp).2⟩⟩

/-- Behind the first of the two appends. -/
theorem keep_first {x1 x2 y eL e sz g T j1 j2 g1 cap1 H : Nat} {c : Nat → Nat} {w wA w1 : World} {G : Nat → Value} {v : Value} {L : List (Value × Value)} (hT : w.rowIs g T 24 G) (hg : c g = 1) (ht : Top c w) (hw : WaitE x1 x2 y eL e sz c w (G j1) (G j2) L)
    (hx : 1 < x1 ∧ x1 ≠ x2 ∧ 1 < x2 ∧ x1 < y ∧ x2 < y) (hA : Below w.heap.size w wA) (o1 : w1.ownsRow 0 eL 1 (.slice (some ⟨g1, 0, none⟩) (L.length + 1) cap1) (L.length + 1) (L.map Prod.fst ++ [v])) (gr : wA.grownBy w1 (G j1).ownBlock) (hat : (G j1).ownBlock = some g1 ∨ g1 = H) (hH : wA.heap.size = H) :
    ∃ c1, (w1.setCell ⟨g, j1, none⟩ (.slice (some ⟨g1, 0, none⟩) (L.length + 1) cap1)).rowIs g T 24 (fun i => if i = j1 then .slice (some ⟨g1, 0, none⟩) (L.length + 1) cap1 else G i) ∧ c1 g = 1 ∧
      RowC c1 (w1.setCell ⟨g, j1, none⟩ (.slice (some ⟨g1, 0, none⟩) (L.length + 1) cap1)) x1 eL 1 (.slice (some ⟨g1, 0, none⟩) (L.length + 1) cap1) (L.length + 1) (L.map Prod.fst ++ [v]) ∧
      RowC c1 (w1.setCell ⟨g, j1, none⟩ (.slice (some ⟨g1, 0, none⟩) (L.length + 1) cap1)) x2 eL 1 (G j2) L.length (L.map Prod.snd) ∧
      Turn (fun z => z = 1 ∨ z = x1) c w c1 (w1.setCell ⟨g, j1, none⟩ (.slice (some ⟨g1, 0, none⟩) (L.length + 1) cap1)) ∧ some g ≠ (G j2).ownBlock := by
  obtain ⟨c1, r1, r2, r3, r4, r5, r6⟩ := field_app (S := fun z => z = 1 ∨ z = x1) hT hg (Turn.refl ht) (.inl rfl) (.inr rfl) (by omega) hw.rows hA o1 gr hat hH
  exact ⟨c1, r1, r2, r3, hw.were.turn r5 (by omega), r5, fun e => by have := hw.were.2 g e.symm; omega⟩

theorem keep_second {x1 x2 y eL e sz g T j1 j2 g2 cap2 H : Nat} {c c1 : Nat → Nat} {w W1 wB w2 : World} {G G1 : Nat → Value} {v : Value} {L : List (Value × Value)} (hw : WaitE x1 x2 y eL e sz c w (G j1) (G j2) L) (hv : RowC c w (y + L.length) e sz v 0 [])
    (hx : 1 < x1 ∧ x1 ≠ x2 ∧ 1 < x2 ∧ x1 < y ∧ x2 < y) (hj : j1 ≠ j2) (hT : W1.rowIs g T 24 G1) (hG : ∀ j, j ≠ j1 → G1 j = G j) (hg : c1 g = 1) (r3 : RowC c1 W1 x1 eL 1 (G1 j1) (L.length + 1) (L.map Prod.fst ++ [v])) (r4 : RowC c1 W1 x2 eL 1 (G1 j2) L.length (L.map Prod.snd)) (t : Turn (fun z => z = 1 ∨ z = x1) c w c1 W1)
    (hB : Below W1.heap.size W1 wB) (o2 : w2.ownsRow 0 eL 1 (.slice (some ⟨g2, 0, none⟩) (L.length + 1) cap2) (L.length + 1) (L.map Prod.snd ++ [.slice none 0 0])) (gr : wB.grownBy w2 (G1 j2).ownBlock) (hat : (G1 j2).ownBlock = some g2 ∨ g2 = H) (hH : wB.heap.size = H) :
    ∃ c' G', (w2.setCell ⟨g, j2, none⟩ (.slice (some ⟨g2, 0, none⟩) (L.length + 1) cap2)).rowIs g T 24 G' ∧ c' g = 1 ∧ (∀ j, j ≠ j1 → j ≠ j2 → G' j = G j) ∧
      WaitE x1 x2 y eL e sz c' (w2.setCell ⟨g, j2, none⟩ (.slice (some ⟨g2, 0, none⟩) (L.length + 1) cap2)) (G' j1) (G' j2) (L ++ [(v, .slice none 0 0)]) ∧ Turn (fun z => z = 1 ∨ z = x1 ∨ z = x2) c w c' (w2.setCell ⟨g, j2, none⟩ (.slice (some ⟨g2, 0, none⟩) (L.length + 1) cap2)) := by
  obtain ⟨c2, s1, s2, s3, s4, s5, s6⟩ := field_app (S := fun z => z = 1 ∨ z = x1 ∨ z = x2) (c := c) (w := w) hT hg (t.mono (fun z h => by omega)) (.inl rfl) (.inr (.inr rfl)) (by omega) r4 hB o2 gr hat hH
  refine ⟨c2, _, s1, s2, fun j h1 h2 => (if_neg h2).trans (hG j h1), ⟨?_, ?_, fun i p hp => ?_⟩, s4⟩
  · have h := r3.turn s5 (by omega)
    simpa [hj] using h
  · simpa using s3
  · rcases Nat.lt_or_ge i L.length with hi' | hi'
    · rw [List.getElem?_append_left hi'] at hp
      have he := hw.each i p hp
      exact ⟨(he.1.turn t (by omega)).turn s5 (by omega), he.2⟩
    · rw [List.getElem?_append_right hi'] at hp
      have hi0 : i = L.length := by
        rcases Nat.eq_or_lt_of_le hi' with h | h
        · exact h.symm
        · rw [List.getElem?_eq_none (by simp; omega)] at hp; cases hp
      subst hi0
      simp at hp
      subst hp
      exact ⟨(hv.turn t (by omega)).turn s5 (by omega), rfl⟩

set_option maxRecDepth 100000 in
set_option maxHeartbeats 4000000 in
theorem keepOps0_any (g : Nat) (G : Nat → Value) (c : Nat → Nat) (w : World) (v : Value) (L : List (Value × Value)) (hrow : w.rowIs g 67 24 G) (hg : c g = 1) (ht : Top c w) (hw : WaitE 12 13 200 58 155 4 c w (G 22) (G 23) L)
    (hv : RowC c w (200 + L.length) 155 4 v 0 []) (hl : L.length ≤ 1000000) :
    Calls Tryz.prog 122 #[.pointer (some ⟨g, 11, none⟩), v] w fun e w' => e = .returned (.tuple #[]) ∧ ∃ c' G', w'.rowIs g 67 24 G' ∧ c' g = 1 ∧ (∀ j, j ≠ 22 → j ≠ 23 → G' j = G j) ∧ WaitE 12 13 200 58 155 4 c' w' (G' 22) (G' 23) (L ++ [(v, .slice none 0 0)]) ∧ Turn (fun z => z = 1 ∨ z = 12 ∨ z = 13) c w c' w' := by
  obtain ⟨i0, hi, hz0, hz1, hz2⟩ := info_parts Tryz.infoOps
  obtain ⟨i1, hi', hz0', hz1', hz2'⟩ := info_parts Tryz.infoOp
  have hu := Tryz.underlying62
  have hu' := Tryz.underlying58
  obtain ⟨ao, cap, rfl⟩ := ownsRow_shape hv.1
  have hgl := hrow.lt
  have g22 := hrow.cell (i := 22) (by omega)
  have f22 := hrow.frozen 22
  have H0 : Hid (w.rowIs g 67 24 G ∧ WaitE 12 13 200 58 155 4 c w (G 22) (G 23) L ∧ RowC c w (200 + L.length) 155 4 (.slice ao 0 cap) 0 [] ∧ some g ≠ (G 22).ownBlock) := ⟨hrow, hw, hv, fun e => by have := hw.rows.2 g e.symm; omega⟩
  have hao : (ao = none ∧ cap = 0) ∨ ∃ gb, ao = some ⟨gb, 0, none⟩ := by
    rcases hv.1.2 with ⟨h1, _⟩ | ⟨gb, cp, cur, h1, _⟩
    · injection h1 with e1 _ e3
      exact .inl ⟨e1, e3⟩
    · injection h1 with e1 _ e3
      exact .inr ⟨gb, e1⟩
  clear hrow hw hv
  rcases hao with ⟨rfl, rfl⟩ | ⟨gb, rfl⟩
  all_goals
    go_enter Tryz.func122, Tryz.ntmps122
    go_wp2_with (first
      | (at_builtin; refine wpList_append_lies _ rfl (.tmp 12) (.tmp 14) _ rfl 0 58 i0 _ 1 24 hu hi hz0 hz1 hz2 rfl (by omega) (G 22) L.length (L.map Prod.fst) rfl (H0.out.2.1.rows.1.alloc _) ⟨w.heap.size, 0, none⟩ 1 1 [_] rfl rfl (World.news_of_block (heap_alloc_new _ _)) (one_all rfl) (by omega) (by unfold maxLen; omega) (by omega) (by omega) _ rfl ?_; intro g1 cap1 w1 o1 gr1 at1 lt1; have e22 := (gr1.cell_far ⟨g, 22, none⟩ (by simp; omega) H0.out.2.2.2).trans ((World.cell?_alloc_past _ _ _ hgl).trans g22); have k22 := (gr1.frozen_far ⟨g, 22, none⟩ (by simp; omega) H0.out.2.2.2).trans ((World.frozen?_alloc_past _ _ _ hgl).trans f22); obtain ⟨c1, r1, r2, r3, r4, r5, r6⟩ := keep_first (j1 := 22) (j2 := 23) H0.out.1 hg ht H0.out.2.1 (by omega) ((Below.refl _ _).alloc (Nat.le_refl _) _) o1 gr1 at1 rfl; have q23 := r1.cell (i := 23) (by omega); have z23 := r1.frozen 23; have ql := r1.lt; have HC1 : Hid (c1 g = 1) := r2; have HR1 : Hid (RowC c1 (w1.setCell ⟨g, 22, none⟩ (.slice (some ⟨g1, 0, none⟩) (L.length + 1) cap1)) 13 58 1 (G 23) L.length (L.map Prod.snd) ∧ some g ≠ (G 23).ownBlock) := ⟨r4, r6⟩; have HT1 : Hid ((w1.setCell ⟨g, 22, none⟩ (.slice (some ⟨g1, 0, none⟩) (L.length + 1) cap1)).rowIs g 67 24 (fun i => if i = 22 then (.slice (some ⟨g1, 0, none⟩) (L.length + 1) cap1) else G i)) := r1; have HU1 := Hid.in r3; have HV1 := Hid.in r5; clear o1 gr1 at1 lt1 r1 r2 r3 r4 r5 r6)
      | (at_builtin; refine wpList_append_lies _ rfl (.tmp 22) (.tmp 24) _ rfl 0 58 i0 _ 1 24 hu hi hz0 hz1 hz2 rfl (by omega) (G 23) L.length (L.map Prod.snd) rfl (HR1.out.1.1.alloc _) ⟨w1.heap.size, 0, none⟩ 1 1 [.slice none 0 0] rfl rfl (World.news_of_block (by rw [show w1.heap.size = (w1.setCell ⟨g, 22, none⟩ (.slice (some ⟨g1, 0, none⟩) (L.length + 1) cap1)).heap.size by simp]; exact heap_alloc_new _ _)) (one_all rfl) (by omega) (by unfold maxLen; omega) (by omega) (by omega) _ rfl ?_; intro g2 cap2 w2 o2 gr2 at2 lt2; have e23 := (gr2.cell_far ⟨g, 23, none⟩ (by simp at ql; simp; omega) HR1.out.2).trans ((World.cell?_alloc_past _ _ _ ql).trans q23); have k23 := (gr2.frozen_far ⟨g, 23, none⟩ (by simp at ql; simp; omega) HR1.out.2).trans ((World.frozen?_alloc_past _ _ _ ql).trans z23); have HF := Hid.in (keep_second (j1 := 22) (j2 := 23) H0.out.2.1 H0.out.2.2.1 (by omega) (by omega) HT1.out (fun j hj => if_neg hj) HC1.out HU1.out HR1.out.1 HV1.out ((Below.refl _ _).alloc (Nat.le_refl _) _) o2 gr2 at2 rfl); clear o2 gr2 at2 lt2))
    go_end0
    exact ⟨rfl, HF.out⟩
set_option maxRecDepth 100000 in
set_option maxHeartbeats 4000000 in
theorem keepBoxes0_any (g : Nat) (G : Nat → Value) (c : Nat → Nat) (w : World) (v : Value) (L : List (Value × Value)) (hrow : w.rowIs g 67 24 G) (hg : c g = 1) (ht : Top c w) (hw : WaitE 10 11 100 38 101 5 c w (G 20) (G 21) L)
    (hv : RowC c w (100 + L.length) 101 5 v 0 []) (hl : L.length ≤ 1000000) :
    Calls Tryz.prog 125 #[.pointer (some ⟨g, 11, none⟩), v] w fun e w' => e = .returned (.tuple #[]) ∧ ∃ c' G', w'.rowIs g 67 24 G' ∧ c' g = 1 ∧ (∀ j, j ≠ 20 → j ≠ 21 → G' j = G j) ∧ WaitE 10 11 100 38 101 5 c' w' (G' 20) (G' 21) (L ++ [(v, .slice none 0 0)]) ∧ Turn (fun z => z = 1 ∨ z = 10 ∨ z = 11) c w c' w' := by
  obtain ⟨i0, hi, hz0, hz1, hz2⟩ := info_parts Tryz.infoBoxes
  have hu := Tryz.underlying61
  obtain ⟨ao, cap, rfl⟩ := ownsRow_shape hv.1
  have hgl := hrow.lt
  have g22 := hrow.cell (i := 20) (by omega)
  have f22 := hrow.frozen 20
  have H0 : Hid (w.rowIs g 67 24 G ∧ WaitE 10 11 100 38 101 5 c w (G 20) (G 21) L ∧ RowC c w (100 + L.length) 101 5 (.slice ao 0 cap) 0 [] ∧ some g ≠ (G 20).ownBlock) := ⟨hrow, hw, hv, fun e => by have := hw.rows.2 g e.symm; omega⟩
  have hao : (ao = none ∧ cap = 0) ∨ ∃ gb, ao = some ⟨gb, 0, none⟩ := by
    rcases hv.1.2 with ⟨h1, _⟩ | ⟨gb, cp, cur, h1, _⟩
    · injection h1 with e1 _ e3
      exact .inl ⟨e1, e3⟩
    · injection h1 with e1 _ e3
      exact .inr ⟨gb, e1⟩
  clear hrow hw hv
  rcases hao with ⟨rfl, rfl⟩ | ⟨gb, rfl⟩
  all_goals
    go_enter Tryz.func125, Tryz.ntmps125
    go_wp2_with fail
    refine wp_loop_rounds 1 ?_
    rw [rounds_succ]
    go_wp2_with (first
      | (at_builtin; refine wpList_append_lies _ rfl (.tmp 31) (.tmp 33) _ rfl 0 38 i0 _ 1 24 hu hi hz0 hz1 hz2 rfl (by omega) (G 20) L.length (L.map Prod.fst) rfl (H0.out.2.1.rows.1.alloc _) ⟨w.heap.size, 0, none⟩ 1 1 [_] rfl rfl (World.news_of_block (heap_alloc_new _ _)) (one_all rfl) (by omega) (by unfold maxLen; omega) (by omega) (by omega) _ rfl ?_; intro g1 cap1 w1 o1 gr1 at1 lt1; have e22 := (gr1.cell_far ⟨g, 20, none⟩ (by simp; omega) H0.out.2.2.2).trans ((World.cell?_alloc_past _ _ _ hgl).trans g22); have k22 := (gr1.frozen_far ⟨g, 20, none⟩ (by simp; omega) H0.out.2.2.2).trans ((World.frozen?_alloc_past _ _ _ hgl).trans f22); obtain ⟨c1, r1, r2, r3, r4, r5, r6⟩ := keep_first (j1 := 20) (j2 := 21) H0.out.1 hg ht H0.out.2.1 (by omega) ((Below.refl _ _).alloc (Nat.le_refl _) _) o1 gr1 at1 rfl; have q23 := r1.cell (i := 21) (by omega); have z23 := r1.frozen 21; have ql := r1.lt; have HC1 : Hid (c1 g = 1) := r2; have HR1 : Hid (RowC c1 (w1.setCell ⟨g, 20, none⟩ (.slice (some ⟨g1, 0, none⟩) (L.length + 1) cap1)) 11 38 1 (G 21) L.length (L.map Prod.snd) ∧ some g ≠ (G 21).ownBlock) := ⟨r4, r6⟩; have HT1 : Hid ((w1.setCell ⟨g, 20, none⟩ (.slice (some ⟨g1, 0, none⟩) (L.length + 1) cap1)).rowIs g 67 24 (fun i => if i = 20 then (.slice (some ⟨g1, 0, none⟩) (L.length + 1) cap1) else G i)) := r1; have HU1 := Hid.in r3; have HV1 := Hid.in r5; clear o1 gr1 at1 lt1 r1 r2 r3 r4 r5 r6)
      | (at_builtin; refine wpList_append_lies _ rfl (.tmp 41) (.tmp 43) _ rfl 0 38 i0 _ 1 24 hu hi hz0 hz1 hz2 rfl (by omega) (G 21) L.length (L.map Prod.snd) rfl (HR1.out.1.1.alloc _) ⟨w1.heap.size, 0, none⟩ 1 1 [.slice none 0 0] rfl rfl (World.news_of_block (by rw [show w1.heap.size = (w1.setCell ⟨g, 20, none⟩ (.slice (some ⟨g1, 0, none⟩) (L.length + 1) cap1)).heap.size by simp]; exact heap_alloc_new _ _)) (one_all rfl) (by omega) (by unfold maxLen; omega) (by omega) (by omega) _ rfl ?_; intro g2 cap2 w2 o2 gr2 at2 lt2; have e23 := (gr2.cell_far ⟨g, 21, none⟩ (by simp at ql; simp; omega) HR1.out.2).trans ((World.cell?_alloc_past _ _ _ ql).trans q23); have k23 := (gr2.frozen_far ⟨g, 21, none⟩ (by simp at ql; simp; omega) HR1.out.2).trans ((World.frozen?_alloc_past _ _ _ ql).trans z23); have HF := Hid.in (keep_second (j1 := 20) (j2 := 21) H0.out.2.1 H0.out.2.2.1 (by omega) (by omega) HT1.out (fun j hj => if_neg hj) HC1.out HU1.out HR1.out.1 HV1.out ((Below.refl _ _).alloc (Nat.le_refl _) _) o2 gr2 at2 rfl); clear o2 gr2 at2 lt2))
    go_end0
    exact ⟨rfl, HF.out⟩
end Go.Proofs.YtfkddhndddfbdaaGreatDoor
