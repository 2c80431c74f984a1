/- Text: the checkpoint's text. -/
import Derived.Test.YtblkaenlajmhnaaGreatDoorHH
import Derived.Test.YtblkaenlajmhnaaGreatDoorHD
import Derived.Shelf.Strings.BuilderF
namespace Go.Proofs.YtblkaenlajmhnaaGreatDoor
open Go.RowKit
attribute [local go_sem ↓] Go.wp_at_zero Go.wp_at_succ
attribute [local go_sem] After.cell After.frozen After.const
set_option maxRecDepth 100000 in
set_option maxHeartbeats 4000000 in
theorem head_any (n : Nat) (s : ByteArray) (w : World) (hn : n ≤ 9223372036854775807) (hs : s.size ≤ 140737488355328) (henv : Env w) :
    Calls Tryz.prog 60 #[.int .i64 n, .string s] w fun e w' => TextUpTo 100 e ∧ Below w.heap.size w w' := by
  have HE : Hid (Env w) := henv
  clear henv
  go_enter Tryz.func60, Tryz.ntmps60
  go_wp2_with (first
    | (go_at_call 88; refine (itoa_any (n : Int) w ⟨by omega, by omega⟩ HE.out).mono ?_; rintro e w1 ⟨hb1, t1, rfl, ht1⟩; have l1 : t1.size ≤ 1000 := by omega)
    | (go_at_call 90; refine (checkSum_any s _ hs).mono ?_; rintro e w2 ⟨⟨x, rfl, x0, x1⟩, hw⟩; obtain rfl := hw.symm)
    | (go_at_call 89; refine (formatUint_any x _ x0 x1 (HE.out.ext hb1)).mono ?_; rintro e w3 ⟨⟨t3, rfl, ht3⟩, hb3⟩))
  go_ret
  refine ⟨⟨_, rfl, ?_⟩, hb1.trans (hb3.mono hb1.size)⟩
  simp only [ByteArray.size_append]
  have e1 : (⟨#[98, 111, 120, 101, 115, 32]⟩ : ByteArray).size = 6 := rfl
  have e2 : (⟨#[32]⟩ : ByteArray).size = 1 := rfl
  have e3 : (⟨#[10]⟩ : ByteArray).size = 1 := rfl
  omega
def BoxAt (w : World) (b o D : Nat) : Prop := ∃ (nm : ByteArray) (A : Nat → Option Addr) (N C : Nat → Nat) (R : Nat → Nat → Int),
  w.cell? ⟨b, o, none⟩ = some (.string nm) ∧ w.cell? ⟨b, o + 1, none⟩ = some (.slice (A 0) (N 0) (C 0)) ∧ w.cell? ⟨b, o + 2, none⟩ = some (.slice (A 1) (N 1) (C 1)) ∧ w.cell? ⟨b, o + 3, none⟩ = some (.slice (A 2) (N 2) (C 2)) ∧ w.cell? ⟨b, o + 4, none⟩ = some (.slice (A 3) (N 3) (C 3)) ∧
  GInts w A N C R ∧ (∀ q, q < 4 → ∀ i, i < N q → I64 (R q i)) ∧ 22 * (N 0 + N 1 + N 2 + N 3) + 10 * nm.size ≤ D
def Boxes (w : World) (v : Value) (n D : Nat) : Prop := ∃ ao cap, v = .slice ao n cap ∧ n ≤ cap ∧ n ≤ 9223372036854775807 ∧ (0 < n → ∃ b o, ao = some ⟨b, o, none⟩ ∧ b < w.heap.size ∧ ∀ i, i < n → BoxAt w b (o + i * 5) D)
theorem BoxAt.ext {w w' : World} {b o D : Nat} (h : BoxAt w b o D) (hl : b < w.heap.size) (hb : Below w.heap.size w w') : BoxAt w' b o D := by
  obtain ⟨nm, A, N, C, R, h0, h1, h2, h3, h4, hG, hI, hD⟩ := h
  have c : ∀ j, w'.cell? ⟨b, j, none⟩ = w.cell? ⟨b, j, none⟩ := fun j => hb.cell (p := ⟨b, j, none⟩) hl
  exact ⟨nm, A, N, C, R, (c _).trans h0, (c _).trans h1, (c _).trans h2, (c _).trans h3, (c _).trans h4, hG.ext hb, hI, hD⟩
theorem Boxes.ext {w w' : World} {v : Value} {n D : Nat} (h : Boxes w v n D) (hb : Below w.heap.size w w') : Boxes w' v n D := by
  obtain ⟨ao, cap, rfl, h1, h2, h3⟩ := h
  refine ⟨ao, cap, rfl, h1, h2, fun h0 => ?_⟩
  obtain ⟨b, o, rfl, hl, hi⟩ := h3 h0
  exact ⟨b, o, rfl, Nat.lt_of_lt_of_le hl hb.size, fun i hin => (hi i hin).ext hl hb⟩
theorem bld_below {B b : Nat} {bs : List Value} {w w1 : World} (h : Lib.IsBuilderF 113 5 B b bs w) (hb : Below w.heap.size w w1) : Lib.IsBuilderF 113 5 B b bs w1 := by
  have hg : w.grownBy w1 none := ⟨hb.os, hb.tape, hb.output, hb.size, fun k hk _ => hb.block k hk⟩
  have one : ∀ p, Lib.BuilderAtF 113 5 B b p bs w → Lib.BuilderAtF 113 5 B b p bs w1 := by
    rintro p ⟨hB, v, hw, ho, hn⟩
    refine ⟨hB, v, (hb.block _ (Array.getElem?_eq_some_iff.1 hw).1).trans hw, ho.kept hg ?_, hn⟩
    cases hv : v.ownBlock with
    | none => exact .inl rfl
    | some g => exact .inr (by simp)
  exact h.elim (fun x => .inl (one _ x)) (fun x => .inr (one _ x))
theorem layB : Lays.n166 Tryz.prog Tryz.lays156_ren := { Tryz.lays156 with }
set_option maxRecDepth 100000 in
set_option maxHeartbeats 4000000 in
theorem text_any (v : Value) (n D : Nat) (w : World) (h : Boxes w v n D) (hn : n * (D + 12) ≤ 140737488355000) (hnD : n ≤ 1099511627776) (hD : D ≤ 1099511627776) (henv : Env w) :
    Calls Tryz.prog 35 #[v] w fun e w' => TextUpTo (n * (D + 12) + 100) e ∧ Below w.heap.size w w' := by
  have hF := h
  obtain ⟨ao, cap, rfl, _, hm, _⟩ := h
  have HF : Hid (Boxes w (.slice ao n cap) n D ∧ Env w) := ⟨hF, henv⟩
  clear hF henv
  go_enter Tryz.func35, Tryz.ntmps35
  go_wp2_with fail
  obtain ⟨W0, hW0⟩ : ∃ W0, W0 = w.alloc (.cells #[.pointer none, .slice none 0 0] 113) := ⟨_, rfl⟩
  rw [← hW0]
  have hbl : Lib.IsBuilderF 113 5 w.heap.size w.heap.size (Lib.byteCells []) W0 := .inl ⟨Nat.le_refl _, .slice none 0 0, by rw [hW0]; exact heap_alloc_new _ _, World.ownsRowF_nil _ _ _ _, by simp [Value.ownBlock]⟩
  have hB0 : Below w.heap.size w W0 := by rw [hW0]; exact (Below.refl _ _).alloc (Nat.le_refl _) _
  have H0 : Hid (Lib.IsBuilderF 113 5 w.heap.size w.heap.size (Lib.byteCells []) W0 ∧ Below w.heap.size w W0) := ⟨hbl, hB0⟩
  clear hbl hB0 hW0
  go_loopw [8] (fun i wr => ∃ (k : Nat) (l : List UInt8), k ≤ n ∧ i = .int .i64 k ∧ Lib.IsBuilderF 113 5 w.heap.size w.heap.size (Lib.byteCells l) wr ∧ l.length ≤ k * (D + 12) ∧ Below w.heap.size w wr) (fun i _ => n - (intOf i).toNat)
  case atStart => exact ⟨0, [], by omega, rfl, H0.out.1, by simp, H0.out.2⟩
  case round =>
    obtain ⟨k, l, hk, rfl, hbl, hl, hb⟩ := hrel
    have HR : Hid (Lib.IsBuilderF 113 5 w.heap.size w.heap.size (Lib.byteCells l) wr ∧ Below w.heap.size w wr ∧ l.length ≤ k * (D + 12) ∧ w.heap.size ≤ wr.heap.size) := ⟨hbl, hb, hl, hb.size⟩
    have hkD : k * (D + 12) ≤ n * (D + 12) := Nat.mul_le_mul_right _ hk
    by_cases hlt : k < n
    · have kn : (k : Int) < n := by omega
      have hkD1 : (k + 1) * (D + 12) ≤ n * (D + 12) := Nat.mul_le_mul_right _ hlt
      have hkS : (k + 1) * (D + 12) = k * (D + 12) + (D + 12) := Nat.succ_mul _ _
      obtain ⟨ao', cap', he, _, _, hF⟩ := HF.out.1.ext hb
      cases he
      obtain ⟨b, o, hao, hbl2, hF2⟩ := hF (by omega)
      subst hao
      obtain ⟨nm, A, N, C, R, e0, e1, e2, e3, e4, hG, hI, hDD⟩ := hF2 k hlt
      have HG : Hid (GInts wr A N C R ∧ (∀ q, q < 4 → ∀ i, i < N q → I64 (R q i)) ∧ Env wr) := ⟨hG, hI, HF.out.2.ext hb⟩
      have hNq : ∀ q, q < 4 → N q ≤ 1099511627776 := fun q hq => by
        have : q = 0 ∨ q = 1 ∨ q = 2 ∨ q = 3 := by omega
        rcases this with rfl | rfl | rfl | rfl <;> omega
      have HN : Hid (∀ q, q < 4 → N q ≤ 1099511627776) := hNq
      clear hF hF2 hb hG hI hNq hbl hl
      go_wp2_with fail
      have hba : Below wr.heap.size wr (wr.alloc (.cells #[.string nm, .slice (A 0) (N 0) (C 0), .slice (A 1) (N 1) (C 1), .slice (A 2) (N 2) (C 2), .slice (A 3) (N 3) (C 3)] 63)) := (Below.refl _ _).alloc (Nat.le_refl _) _
      refine (line_any nm A N C R _ (HG.out.1.ext hba) HG.out.2.1 (by omega) HN.out (HG.out.2.2.ext hba)).mono ?_
      rintro e w3 ⟨⟨t, rfl, ht⟩, hb3⟩
      have hb3' : Below wr.heap.size wr w3 := hba.trans (hb3.mono hba.size)
      have HT : Hid (Below wr.heap.size wr w3 ∧ t.size ≤ D + 12 ∧ wr.heap.size ≤ w3.heap.size) := ⟨hb3', by omega, hb3'.size⟩
      clear hba hb3 hb3' ht
      go_wp2_with (go_at_call 58; refine (Any.Builder_WriteString_f layB Tryz.Builder_Extra_156 w.heap.size w.heap.size (Lib.byteCells l) t w3 (bld_below HR.out.1 HT.out.1) (by have := HT.out.2.1; have := HR.out.2.2.1; simp only [Lib.byteCells, List.length_map]; omega) (by have := HT.out.2.2; have := HR.out.2.2.2; omega)).mono ?_; rintro e w4 ⟨rfl, hbl4, hb4⟩; have H4 : Hid (_ ∧ Below w.heap.size w3 w4) := ⟨hbl4, hb4⟩; clear hbl4 hb4)
      go_roundw
      case rel => exact ⟨k + 1, l ++ t.data.toList, by omega, by go_num, by rw [Lib.byteCells_append, ← Lib.strCells_eq]; exact .inr H4.out.1, by have := HT.out.2.1; have := HR.out.2.2.1; have e := Lib.size_eq t; simp only [List.length_append]; omega, HR.out.2.1.trans ((HT.out.1.mono HR.out.2.2.2).trans H4.out.2)⟩
      case measure => simp [intOf]; omega
    · obtain rfl : k = n := by omega
      clear hb hbl hl
      go_wp2_with fail
      refine (Tryz.Builder_String_any_f w.heap.size w.heap.size l wr HR.out.1 HR.out.2.2.2).mono ?_
      rintro e w3 ⟨rfl, hbl3, hb3⟩
      have H3 : Hid (Lib.IsBuilderF 113 5 w.heap.size w.heap.size (Lib.byteCells l) w3 ∧ Below w.heap.size w w3) := ⟨hbl3, HR.out.2.1.trans hb3⟩
      clear hbl3 hb3
      go_wp2_with fail
      have hsz : (⟨l.toArray⟩ : ByteArray).size ≤ k * (D + 12) := by have := HR.out.2.2.1; simpa [ByteArray.size] using this
      refine (head_any k ⟨l.toArray⟩ w3 hm (by omega) (HF.out.2.ext H3.out.2)).mono ?_
      rintro e w4 ⟨⟨t4, rfl, ht4⟩, hb4⟩
      have H4 : Hid (Below w3.heap.size w3 w4 ∧ w.heap.size ≤ w3.heap.size ∧ w3.heap.size ≤ w4.heap.size) := ⟨hb4, H3.out.2.size, hb4.size⟩
      clear hb4
      go_wp2_with fail
      refine (Tryz.Builder_String_any_f w.heap.size w.heap.size l w4 (bld_below H3.out.1 H4.out.1) (by have := H4.out.2.1; have := H4.out.2.2; omega)).mono ?_
      rintro e w5 ⟨rfl, hbl5, hb5⟩
      have H5 : Hid (Below w.heap.size w4 w5) := hb5
      clear hbl5 hb5
      have hl5 : t4.size + (⟨l.toArray⟩ : ByteArray).size ≤ 9223372036854775807 := by omega
      go_wp2
      go_ret
      refine ⟨⟨_, rfl, ?_⟩, H3.out.2.trans ((H4.out.1.mono H4.out.2.1).trans H5.out)⟩
      simp only [ByteArray.size_append]
      omega
end Go.Proofs.YtblkaenlajmhnaaGreatDoor
