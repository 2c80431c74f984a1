/- QuoteToASCII, as far as lengths go. -/
import Derived.Test.YtblkaenlajmhnaaGreatDoorHE
import Derived.Laws.BitsLemmas
import Derived.Test.YtblkaenlajmhnaaGreatDoorHC
namespace Go.Proofs.YtblkaenlajmhnaaGreatDoor
open Go.RowKit
attribute [local go_sem ↓] Go.wp_at_zero Go.wp_at_succ
attribute [local go_sem] After.cell After.frozen After.const
set_option linter.unusedVariables false in
theorem Env.low {B : Nat} {w w' : World} (h : Env w) (hb : Below B w w') (h14 : 14 ≤ B) (hB : B ≤ w.heap.size) : Env w' := by
  have c : ∀ b o, b < 14 → w'.cell? ⟨b, o, none⟩ = w.cell? ⟨b, o, none⟩ := fun b o hl => hb.cell (p := ⟨b, o, none⟩) (Nat.lt_of_lt_of_le hl h14)
  refine ⟨Nat.le_trans h.size hb.size, ?_, ?_, ?_, var?_below hb Tryz.pow_named (Nat.lt_of_lt_of_le (by decide) h14) h.pow, ⟨fun k hk => ?_, fun i hi => ?_⟩, fun j hj => ?_⟩
  · rw [c _ _ (by decide)]; exact h.syn
  · rw [c _ _ (by decide)]; exact h.ran
  · rw [c _ _ (by decide)]; exact h.fail
  · rw [c _ _ (by decide)]; exact h.utf.1 k hk
  · rw [c _ _ (by decide), c _ _ (by decide)]; exact h.utf.2 i hi
  · rw [c _ _ (by decide)]; exact h.db64 j hj
theorem own_buf_below {B : Nat} {v : Value} {n : Nat} {xs : List Value} {W0 w w1 : World} (h : Lib.OwnBuf B 5 v n xs W0 w) (hb : Below w.heap.size w w1) : Lib.OwnBuf B 5 v n xs W0 w1 := by
  have hg : w.grownBy w1 none := ⟨hb.os, hb.tape, hb.output, hb.size, fun k hk _ => hb.block k hk⟩
  refine ⟨h.1.kept hg ?_, h.2.1.trans (hb.mono h.2.2), Nat.le_trans h.2.2 hb.size⟩
  cases hv : v.ownBlock with
  | none => exact .inl rfl
  | some g => exact .inr (by simp)
theorem and15b (x : Int) (h0 : 0 ≤ x) (h1 : x < 256) : 0 ≤ bits BinOp.and IntKind.u8 x 15 ∧ bits BinOp.and IntKind.u8 x 15 < 16 := by
  rw [u8_and15 x h0 h1]
  omega
set_option maxHeartbeats 8000000 in
set_option maxRecDepth 1000000 in
theorem quotedWith_any (B : Nat) (ga : Option Addr) (n c : Nat) (xs : List Value) (s : ByteArray) (W0 w : World) (hb : Lib.OwnBuf B 5 (.slice ga n c) n xs W0 w) (hu : U8s xs) (hroom : n + s.size ≤ c) (hc : c ≤ 9223372036854775807) (hlen : n + 10 * s.size + 12 ≤ 140737488355328) (h14 : 14 ≤ B) (hBW : B ≤ W0.heap.size) (henv : Env W0) :
    Calls Tryz.prog 128 #[.slice ga n c, .string s, .int .u8 34, .bool true, .bool false] w (EscPost B (n + 10 * s.size + 2) W0) := by
  obtain ⟨i0, hi, hz0, hz1, hz2⟩ := info_parts Tryz.infoByte
  have t37 := Tryz.underlying111
  have t9 := Tryz.underlying9
  have HU : Hid (U8s xs ∧ Env W0) := ⟨hu, henv⟩
  clear hu henv
  have f0 : decide ((c : Int) - n < s.size) = false := decide_eq_false (by omega)
  have f1 : ¬ ((c : Int) - n < s.size) := by omega
  go_enter Tryz.func128, Tryz.ntmps128
  go_wp2_with (at_builtin; refine Lib.wpList_append_byte rfl _ _ 111 rfl B 5 i0 t37 hi hz0 hz1 hz2 _ _ _ rfl W0 _ _ (by assumption) rfl (by omega) ?_; intro _ _ hb)
  go_loopw [0, 1] (fun v a wr => ∃ (m : Nat) (ys : List Value) (t : ByteArray), a = .string t ∧ Lib.OwnBuf B 5 v m ys W0 wr ∧ U8s ys ∧ m + 10 * t.size ≤ n + 1 + 10 * s.size ∧ t.size ≤ s.size) (fun _ a _ => strLen a)
  case atStart => exact ⟨_, _, s, rfl, hb, HU.out.1.one _, by omega, Nat.le_refl _⟩
  case round =>
    clear hb
    obtain ⟨m, ys, t, rfl, hb, huu, hmm, hts⟩ := hrel
    have HY : Hid (U8s ys ∧ Env wr) := ⟨huu, HU.out.2.low hb.2.1 h14 hBW⟩
    clear huu
    by_cases h0 : t.size = 0
    · have h0' : decide ((0 : Int) < t.size) = false := decide_eq_false (by omega)
      have hb0 : ¬ (0 : Int) < t.size := by omega
      go_wp2_with (at_builtin; refine Lib.wpList_append_byte rfl _ _ 111 rfl B 5 i0 t37 hi hz0 hz1 hz2 _ _ _ rfl W0 _ _ (by assumption) rfl (by omega) ?_; intro _ _ hb)
      go_ret
      exact .of hb (by omega) (HY.out.1.one _)
    · have h0' : (0 : Int) < t.size := by omega
      have h0i : 0 < t.size := by omega
      obtain ⟨r, k, hd⟩ : ∃ r k : Nat, Lib.decodeGo t = (r, k) := ⟨_, _, rfl⟩
      have hr : r ≤ 2147483647 ∧ 1 ≤ k ∧ k ≤ t.size := by
        have hd' : Utf8.decode t 0 = (r, k) := by
          unfold Lib.decodeGo at hd
          rwa [if_neg (by omega)] at hd
        have e1 := decode_le t 0
        have e2 := Lib.decode_width_pos t 0 (by omega)
        have e3 := Lib.width_le t (by omega)
        rw [hd'] at e1 e2 e3
        exact ⟨e1, e2, e3⟩
      have c1 : (0 : Int) ≤ (k : Int) := by omega
      have c2 : (k : Int) ≤ t.size := by omega
      have z9 : (t.extract k t.size).size = t.size - k := by rw [ByteArray.size_extract]; omega
      obtain ⟨b0, hb0⟩ : ∃ b0, ((t[0]'h0i).toNat : Int) = b0 := ⟨_, rfl⟩
      have hbb : 0 ≤ b0 ∧ b0 < 256 := by rw [← hb0]; have := (t[0]'h0i).toNat_lt; omega
      have d0 : 0 ≤ b0 / 16 := by omega
      have d1 : b0 / 16 < 16 := by omega
      obtain ⟨d2, d3⟩ := and15b b0 hbb.1 hbb.2
      clear hbb
      go_wp2_with (first
        | (go_at_call 121; refine (Tryz.utf8_DecodeRuneInString t wr HY.out.2.utf).mono ?_; rintro e w3 ⟨he, hb3⟩; rw [hd] at he; subst he; replace hb := own_buf_below hb hb3; clear hb3)
        | (go_at_call 149; refine (esc_any B _ _ _ (r : Int) W0 _ hb HY.out.1 (by omega) (by omega) (by omega)).mono ?_; clear hb; rintro e w4 ⟨v', n', xs', rfl, hb, hn', hu'⟩)
        | (at_builtin; first
          | (refine Lib.wpList_append_byte rfl _ _ 111 rfl B 5 i0 t37 hi hz0 hz1 hz2 _ _ _ rfl W0 _ _ (by assumption) rfl (by first | omega | (simp only [Lib.size_two]; omega)) ?_; intro _ _ hb)
          | (refine Lib.wpList_append_text rfl _ _ 111 9 rfl B 5 i0 t37 t9 hi hz0 hz1 hz2 _ _ _ rfl W0 (by assumption) _ rfl (by first | omega | (simp only [Lib.size_two]; omega)) ?_; intro _ _ hb)))
      all_goals
        refine ⟨⟨_, _, _, rfl, hb, ?_, ?_, ?_⟩, ?_⟩
        · repeat' first
            | exact HY.out.1
            | exact hu'
            | exact U8s.str _
            | refine U8s.one ?_ _
            | refine U8s.app ?_ ?_
        · simp only [ByteArray.size_extract, Lib.size_two]; omega
        · simp only [ByteArray.size_extract]; omega
        · show (t.extract _ t.size).size < t.size
          simp only [ByteArray.size_extract]; omega
end Go.Proofs.YtblkaenlajmhnaaGreatDoor
