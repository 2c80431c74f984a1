/- sameOps, sameBoxes of lists that hold nothing; waits. -/
import Derived.Test.YtfkddhndddfbdaaGreatDoorJ4
namespace Go.Proofs.YtfkddhndddfbdaaGreatDoor
open Go.RowKit
attribute [local go_sem ↓] Go.wp_at_zero Go.wp_at_succ
attribute [local go_sem] After.cell After.frozen After.const

set_option maxRecDepth 100000 in
set_option maxHeartbeats 1000000 in
theorem sameOps0_any (ao bo : Option Addr) (ac bc : Nat) (w : World) : Calls Tryz.prog 120 #[.slice ao 0 ac, .slice bo 0 bc] w fun e w' => e = .returned (.bool true) ∧ w' = w := by
  go_enter Tryz.func120, Tryz.ntmps120
  go_wp2_with fail
  refine wp_loop_rounds 1 ?_
  rw [rounds_succ]
  go_wp2
  go_ret
  exact ⟨rfl, rfl⟩
set_option maxRecDepth 100000 in
set_option maxHeartbeats 1000000 in
theorem sameBoxes0_any (ao bo : Option Addr) (ac bc : Nat) (w : World) : Calls Tryz.prog 124 #[.slice ao 0 ac, .slice bo 0 bc] w fun e w' => e = .returned (.bool true) ∧ w' = w := by
  go_enter Tryz.func124, Tryz.ntmps124
  go_wp2_with fail
  refine wp_loop_rounds 1 ?_
  rw [rounds_succ]
  go_wp2
  go_ret
  exact ⟨rfl, rfl⟩

theorem flat_get {α : Type} (f : α → List Value) (h4 : ∀ x, (f x).length = 4) : ∀ (ws : List α) (k q : Nat) (x : α), ws[k]? = some x → q < 4 → (ws.flatMap f)[k * 4 + q]? = (f x)[q]?
  | [], k, q, x, h, _ => by simp at h
  | a :: ws, 0, q, x, h, hq => by
    simp at h; subst h
    rw [List.flatMap_cons, List.getElem?_append_left (by rw [h4]; omega)]
    congr 1; omega
  | a :: ws, k + 1, q, x, h, hq => by
    rw [List.flatMap_cons, List.getElem?_append_right (by rw [h4]; omega), h4, show (k + 1) * 4 + q - 4 = k * 4 + q by omega]
    exact flat_get f h4 ws k q x (by simpa using h) hq

theorem sameG_refl (N : Nat → Nat) (R : Nat → Nat → Int) : sameG N R N R 4 := fun _ _ => ⟨rfl, fun _ _ => rfl⟩

/-- What a row of waiting grants shows of its number k. -/
theorem grants_at {c : Nat → Nat} {w : World} {x : Nat} {v : Value} {ws : List GW} {f : GW → List Value} {k : Nat} {p : GW} (h : RowC c w x 42 4 v ws.length (ws.flatMap f)) (h4 : ∀ x, (f x).length = 4) (hk : ws[k]? = some p) :
    ∃ b cap, v = .slice (some ⟨b, 0, none⟩) ws.length cap ∧ b < w.heap.size ∧ w.cell? ⟨b, k * 4, none⟩ = (f p)[0]? ∧ w.cell? ⟨b, k * 4 + 1, none⟩ = (f p)[1]? ∧ w.cell? ⟨b, k * 4 + 2, none⟩ = (f p)[2]? ∧ w.cell? ⟨b, k * 4 + 3, none⟩ = (f p)[3]? := by
  have hlt : k < ws.length := by
    rcases Nat.lt_or_ge k ws.length with h1 | h1
    · exact h1
    · rw [List.getElem?_eq_none h1] at hk; cases hk
  obtain ⟨b, cap, rfl, _, hb⟩ := h.1.form (by omega)
  refine ⟨b, cap, rfl, hb, ?_, ?_, ?_, ?_⟩
  · rw [h.1.cellAt _ (by omega)]; exact flat_get f h4 ws k 0 p hk (by omega)
  · rw [h.1.cellAt _ (by omega)]; exact flat_get f h4 ws k 1 p hk (by omega)
  · rw [h.1.cellAt _ (by omega)]; exact flat_get f h4 ws k 2 p hk (by omega)
  · rw [h.1.cellAt _ (by omega)]; exact flat_get f h4 ws k 3 p hk (by omega)

/-- What a row of waiting lists shows of its number k. -/
theorem lists_at {x1 x2 y eL e sz k : Nat} {c : Nat → Nat} {w : World} {v1 v2 : Value} {L : List (Value × Value)} (h : WaitE x1 x2 y eL e sz c w v1 v2 L) (hk : k < L.length) :
    ∃ b1 p1 b2 p2 ao ac, v1 = .slice (some ⟨b1, 0, none⟩) L.length p1 ∧ v2 = .slice (some ⟨b2, 0, none⟩) L.length p2 ∧ b1 < w.heap.size ∧ b2 < w.heap.size ∧ w.cell? ⟨b1, k, none⟩ = some (.slice ao 0 ac) ∧ w.cell? ⟨b2, k, none⟩ = some (.slice none 0 0) := by
  obtain ⟨b1, p1, rfl, _, l1⟩ := h.rows.1.form (by omega)
  obtain ⟨b2, p2, rfl, _, l2⟩ := h.were.1.form (by omega)
  have hx : L[k]? = some L[k] := List.getElem?_eq_getElem hk
  obtain ⟨he, h2⟩ := h.each k _ hx
  obtain ⟨ao, ac, h1⟩ := ownsRow_shape he.1
  refine ⟨b1, p1, b2, p2, ao, ac, rfl, rfl, l1, l2, ?_, ?_⟩
  · rw [h.rows.1.cellAt k (by omega), List.getElem?_map, hx, ← h1]; rfl
  · rw [h.were.1.cellAt k (by omega), List.getElem?_map, hx, ← h2]; rfl

set_option maxRecDepth 100000 in
set_option maxHeartbeats 4000000 in
theorem waits_any (g : Nat) (G : Nat → Value) (c : Nat → Nat) (w : World) (ws : List GW) (Lb Lo : List (Value × Value)) (hrow : w.rowIs g 67 24 G) (hG : WaitG c w (G 18) (G 19) ws)
    (hB : WaitE 10 11 100 38 101 5 c w (G 20) (G 21) Lb) (hO : WaitE 12 13 200 58 155 4 c w (G 22) (G 23) Lo) (hl1 : ws.length ≤ 1000000) (hl2 : Lb.length ≤ 1000000) (hl3 : Lo.length ≤ 1000000) :
    Calls Tryz.prog 81 #[.pointer (some ⟨g, 11, none⟩)] w fun e w' => e = .returned (.bool true) ∧ Below w.heap.size w w' := by
  have hgl := hrow.lt
  have H0 : Hid (w.rowIs g 67 24 G ∧ WaitG c w (G 18) (G 19) ws ∧ WaitE 10 11 100 38 101 5 c w (G 20) (G 21) Lb ∧ WaitE 12 13 200 58 155 4 c w (G 22) (G 23) Lo) := ⟨hrow, hG, hB, hO⟩
  obtain ⟨a1, c1, e1⟩ := ownsRow_shape hG.rows.1
  obtain ⟨a2, c2, e2⟩ := ownsRow_shape hG.were.1
  obtain ⟨a3, c3, e3⟩ := ownsRow_shape hB.rows.1
  obtain ⟨a4, c4, e4⟩ := ownsRow_shape hB.were.1
  obtain ⟨a5, c5, e5⟩ := ownsRow_shape hO.rows.1
  obtain ⟨a6, c6, e6⟩ := ownsRow_shape hO.were.1
  have g18 := hrow.cell (i := 18) (by omega)
  have g19 := hrow.cell (i := 19) (by omega)
  have g20 := hrow.cell (i := 20) (by omega)
  have g21 := hrow.cell (i := 21) (by omega)
  have g22 := hrow.cell (i := 22) (by omega)
  have g23 := hrow.cell (i := 23) (by omega)
  rw [e1] at g18
  rw [e2] at g19
  rw [e3] at g20
  rw [e4] at g21
  rw [e5] at g22
  rw [e6] at g23
  have HS : Hid (G 18 = .slice a1 ws.length c1 ∧ G 19 = .slice a2 ws.length c2 ∧ G 20 = .slice a3 Lb.length c3 ∧ G 21 = .slice a4 Lb.length c4 ∧ G 22 = .slice a5 Lo.length c5 ∧ G 23 = .slice a6 Lo.length c6) := ⟨e1, e2, e3, e4, e5, e6⟩
  have HCE : Hid (w.cell? ⟨g, 18, none⟩ = some (.slice a1 ws.length c1) ∧ w.cell? ⟨g, 19, none⟩ = some (.slice a2 ws.length c2) ∧ w.cell? ⟨g, 20, none⟩ = some (.slice a3 Lb.length c3) ∧ w.cell? ⟨g, 21, none⟩ = some (.slice a4 Lb.length c4) ∧ w.cell? ⟨g, 22, none⟩ = some (.slice a5 Lo.length c5) ∧ w.cell? ⟨g, 23, none⟩ = some (.slice a6 Lo.length c6)) := ⟨g18, g19, g20, g21, g22, g23⟩
  clear hrow hG hB hO e1 e2 e3 e4 e5 e6 g18 g19 g20 g21 g22 g23
  go_enter Tryz.func81, Tryz.ntmps81
  go_wp2_with fail
  go_loopw [3, 4] (fun s i wr => ∃ k : Nat, k ≤ ws.length ∧ i = .int .i64 k ∧ s = .bool true ∧ Below w.heap.size w wr) (fun _ i _ => ws.length - (intOf i).toNat)
  case atStart => exact ⟨0, by omega, rfl, rfl, Below.refl _ _⟩
  case round =>
    obtain ⟨k, hk, rfl, rfl, hb⟩ := hrel
    have HR : Hid (Below w.heap.size w wr) := hb
    have g18 := (hb.cell (p := ⟨g, 18, none⟩) hgl).trans HCE.out.1
    have g19 := (hb.cell (p := ⟨g, 19, none⟩) hgl).trans HCE.out.2.1
    have gl : g < wr.heap.size := Nat.lt_of_lt_of_le hgl hb.size
    by_cases hlt : k < ws.length
    · have hx : ws[k]? = some ws[k] := List.getElem?_eq_getElem hlt
      obtain ⟨b1, cp1, q1, l1, d0, d1, d2, d3⟩ := grants_at H0.out.2.1.rows (fun _ => rfl) hx
      obtain ⟨b2, cp2, q2, l2, f0, f1, f2, f3⟩ := grants_at H0.out.2.1.were (fun _ => rfl) hx
      rw [HS.out.1] at q1
      rw [HS.out.2.1] at q2
      injection q1 with q1 _ q1'
      injection q2 with q2 _ q2'
      subst q1; subst q1'; subst q2; subst q2'
      have d0 := (hb.cell (p := ⟨b1, k * 4, none⟩) l1).trans d0
      have d1 := (hb.cell (p := ⟨b1, k * 4 + 1, none⟩) l1).trans d1
      have d2 := (hb.cell (p := ⟨b1, k * 4 + 2, none⟩) l1).trans d2
      have d3 := (hb.cell (p := ⟨b1, k * 4 + 3, none⟩) l1).trans d3
      have f0 := (hb.cell (p := ⟨b2, k * 4, none⟩) l2).trans f0
      have f1 := (hb.cell (p := ⟨b2, k * 4 + 1, none⟩) l2).trans f1
      have f2 := (hb.cell (p := ⟨b2, k * 4 + 2, none⟩) l2).trans f2
      have f3 := (hb.cell (p := ⟨b2, k * 4 + 3, none⟩) l2).trans f3
      have l1 : b1 < wr.heap.size := Nat.lt_of_lt_of_le l1 hb.size
      have l2 : b2 < wr.heap.size := Nat.lt_of_lt_of_le l2 hb.size
      have HK : Hid (k < ws.length) := hlt
      generalize hp : ws[k] = p at *
      simp only [GW.one, GW.two, List.getElem?_cons_zero, List.getElem?_cons_succ] at d0 d1 d2 d3 f0 f1 f2 f3
      have HE := Hid.in (H0.out.2.1.each k p hx)
      have kn : (k : Int) < ws.length := by omega
      have k0 : (0 : Int) ≤ (k : Int) := by omega
      clear hb hx hp
      go_wp2
      refine wp_region_after (by kernel_rfl) (by kernel_rfl) ?_
      repeat (go_big_quiet_step (first | (go_at_call 24; exact Calls.after ((sameGrant_any p.A p.A' p.N p.C p.N p.C' (fun q j => (p.X q).getD j 0) (fun q j => (p.X q).getD j 0) _ (fun q hq => ((ints_of_IL (HE.out q hq).1.1).ext HR.out).ext (After.later _)) (fun q hq => ((ints_of_IL (HE.out q hq).2.1.1).ext HR.out).ext (After.later _))).mono (fun e w' h => ⟨h.1.is_true (sameG_refl _ _), h.2⟩)))))
      refine wpQuiet_nil ?_
      rintro _ ⟨⟨w1, hw1⟩, rfl⟩
      go_wp2
      go_roundw
      case rel => exact ⟨k + 1, by have := HK.out; omega, by go_num, rfl, ext_trans HR.out hw1⟩
      case measure => have := HK.out; simp [intOf]; omega
    · have : k = ws.length := by omega
      subst this
      go_wp2_with fail
      obtain ⟨wo, rfl⟩ : ∃ wo, wo = wr := ⟨_, rfl⟩
      go_loopw [3, 6] (fun s i wq => ∃ k : Nat, k ≤ Lb.length ∧ i = .int .i64 k ∧ s = .bool true ∧ Below w.heap.size w wq) (fun _ i _ => Lb.length - (intOf i).toNat)
      case atStart => exact ⟨0, by omega, rfl, rfl, HR.out⟩
      case round =>
        obtain ⟨k, hk, rfl, rfl, hb⟩ := hrel
        have HR : Hid (Below w.heap.size w wr) := hb
        have g18 := (hb.cell (p := ⟨g, 20, none⟩) hgl).trans HCE.out.2.2.1
        have g19 := (hb.cell (p := ⟨g, 21, none⟩) hgl).trans HCE.out.2.2.2.1
        have gl : g < wr.heap.size := Nat.lt_of_lt_of_le hgl hb.size
        by_cases hlt : k < Lb.length
        · obtain ⟨b1, p1, b2, p2, ao, ac, q1, q2, l1, l2, d0, f0⟩ := lists_at H0.out.2.2.1 hlt
          rw [HS.out.2.2.1] at q1
          rw [HS.out.2.2.2.1] at q2
          injection q1 with q1 _ q1'
          injection q2 with q2 _ q2'
          subst q1; subst q1'; subst q2; subst q2'
          have d0 := (hb.cell (p := ⟨b1, k, none⟩) l1).trans d0
          have f0 := (hb.cell (p := ⟨b2, k, none⟩) l2).trans f0
          have l1 : b1 < wr.heap.size := Nat.lt_of_lt_of_le l1 hb.size
          have l2 : b2 < wr.heap.size := Nat.lt_of_lt_of_le l2 hb.size
          have kn : (k : Int) < Lb.length := by omega
          have k0 : (0 : Int) ≤ (k : Int) := by omega
          have HK : Hid (k < Lb.length) := hlt
          clear hb
          go_wp2
          refine wp_region_after (by kernel_rfl) (by kernel_rfl) ?_
          repeat (go_big_quiet_step (first | (go_at_call 124; exact Calls.after ((sameBoxes0_any _ _ _ _ _).mono (fun e w' h => ⟨h.1, by rw [h.2]; exact Below.refl _ _⟩)))))
          refine wpQuiet_nil ?_
          rintro _ ⟨⟨w1, hw1⟩, rfl⟩
          go_wp2
          go_roundw
          case rel => exact ⟨k + 1, by have := HK.out; omega, by go_num, rfl, ext_trans HR.out hw1⟩
          case measure => have := HK.out; simp [intOf]; omega
        · have : k = Lb.length := by omega
          subst this
          go_wp2_with fail
          obtain ⟨wp, rfl⟩ : ∃ wp, wp = wr := ⟨_, rfl⟩
          go_loopw [3, 8] (fun s i wq => ∃ k : Nat, k ≤ Lo.length ∧ i = .int .i64 k ∧ s = .bool true ∧ Below w.heap.size w wq) (fun _ i _ => Lo.length - (intOf i).toNat)
          case atStart => exact ⟨0, by omega, rfl, rfl, HR.out⟩
          case round =>
            obtain ⟨k, hk, rfl, rfl, hb⟩ := hrel
            have HR : Hid (Below w.heap.size w wr) := hb
            have g18 := (hb.cell (p := ⟨g, 22, none⟩) hgl).trans HCE.out.2.2.2.2.1
            have g19 := (hb.cell (p := ⟨g, 23, none⟩) hgl).trans HCE.out.2.2.2.2.2
            have gl : g < wr.heap.size := Nat.lt_of_lt_of_le hgl hb.size
            by_cases hlt : k < Lo.length
            · obtain ⟨b1, p1, b2, p2, ao, ac, q1, q2, l1, l2, d0, f0⟩ := lists_at H0.out.2.2.2 hlt
              rw [HS.out.2.2.2.2.1] at q1
              rw [HS.out.2.2.2.2.2] at q2
              injection q1 with q1 _ q1'
              injection q2 with q2 _ q2'
              subst q1; subst q1'; subst q2; subst q2'
              have d0 := (hb.cell (p := ⟨b1, k, none⟩) l1).trans d0
              have f0 := (hb.cell (p := ⟨b2, k, none⟩) l2).trans f0
              have l1 : b1 < wr.heap.size := Nat.lt_of_lt_of_le l1 hb.size
              have l2 : b2 < wr.heap.size := Nat.lt_of_lt_of_le l2 hb.size
              have kn : (k : Int) < Lo.length := by omega
              have k0 : (0 : Int) ≤ (k : Int) := by omega
              have HK : Hid (k < Lo.length) := hlt
              clear hb
              go_wp2
              refine wp_region_after (by kernel_rfl) (by kernel_rfl) ?_
              repeat (go_big_quiet_step (first | (go_at_call 120; exact Calls.after ((sameOps0_any _ _ _ _ _).mono (fun e w' h => ⟨h.1, by rw [h.2]; exact Below.refl _ _⟩)))))
              refine wpQuiet_nil ?_
              rintro _ ⟨⟨w1, hw1⟩, rfl⟩
              go_wp2
              go_roundw
              case rel => exact ⟨k + 1, by have := HK.out; omega, by go_num, rfl, ext_trans HR.out hw1⟩
              case measure => have := HK.out; simp [intOf]; omega
            · have : k = Lo.length := by omega
              subst this
              go_wp2_with fail
              go_ret
              exact ⟨rfl, HR.out⟩
end Go.Proofs.YtfkddhndddfbdaaGreatDoor
