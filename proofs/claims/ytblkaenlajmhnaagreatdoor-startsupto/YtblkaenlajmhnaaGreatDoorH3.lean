/- What lies laid at a start; numbers to text and text to numbers. -/
import Derived.Test.YtblkaenlajmhnaaGreatDoorH2
import Derived.WalkSmall
import Derived.Lib.ItoaLen
import Derived.Lib.AppendIntMem
import Derived.Lib.AtoiErrMem
import Derived.Lib.AtoiAllCases
import Derived.Shelf.Spec.TrailingZeros
namespace Go.Proofs.YtblkaenlajmhnaaGreatDoor
open Go.RowKit
attribute [local go_sem ↓] Go.wp_at_zero Go.wp_at_succ
attribute [local go_sem] After.cell After.frozen After.const
structure Env (w : World) : Prop where
  size : 14 ≤ w.heap.size
  syn : ∃ te pe, w.cell? ⟨1, 0, none⟩ = some (.iface te pe)
  ran : ∃ te pe, w.cell? ⟨6, 0, none⟩ = some (.iface te pe)
  fail : ∃ te pe, w.cell? ⟨0, 0, none⟩ = some (.iface te pe)
  pow : Lib.TabIs Tryz.prog w "internal/strconv.uint64pow10" .u64 Lib.pow10Tab
  utf : Lib.Utf8Tabs 3 4 w
  db64 : TabAt 13 Lib.deBruijn64tab w
theorem Tryz.pow_named : Tryz.prog.globalNamed "internal/strconv.uint64pow10" = some 5 := by kernel_rfl
theorem Env.ext {w w' : World} (h : Env w) (hb : Below w.heap.size w w') : Env w' := by
  have c : ∀ b o, b < 14 → w'.cell? ⟨b, o, none⟩ = w.cell? ⟨b, o, none⟩ := fun b o hl => hb.cell (p := ⟨b, o, none⟩) (Nat.lt_of_lt_of_le hl h.size)
  refine ⟨Nat.le_trans h.size hb.size, ?_, ?_, ?_, var?_below hb Tryz.pow_named (Nat.lt_of_lt_of_le (by decide) h.size) h.pow, ⟨fun k hk => ?_, fun i hi => ?_⟩, fun j hj => ?_⟩
  · rw [c _ _ (by decide)]; exact h.syn
  · rw [c _ _ (by decide)]; exact h.ran
  · rw [c _ _ (by decide)]; exact h.fail
  · rw [c _ _ (by decide)]; exact h.utf.1 k hk
  · rw [c _ _ (by decide), c _ _ (by decide)]; exact h.utf.2 i hi
  · rw [c _ _ (by decide)]; exact h.db64 j hj
def I64 (z : Int) : Prop := -9223372036854775808 ≤ z ∧ z ≤ 9223372036854775807
theorem atoi_any (s : ByteArray) (w : World) (hs : s.size ≤ 281474976710656) (he : Env w) :
    Calls Tryz.prog 101 #[.string s] w fun e w' => Below w.heap.size w w' ∧
      ((∃ v, e = .returned (.tuple #[.int .i64 v, .nilIface]) ∧ I64 v) ∨ ∃ v t p, e = .returned (.tuple #[.int .i64 v, .iface t p])) := by
  rcases h : Lib.atoiAll s.data.toList with v | _ | _
  · refine (Tryz.strconv_Atoi_ok s (by omega) v h w).mono ?_
    rintro e w' ⟨rfl, hw⟩
    refine ⟨?_, .inl ⟨v, rfl, Lib.atoiAll_bounds h⟩⟩
    rcases hw with rfl | ⟨t, rfl⟩
    · exact Below.refl _ _
    · exact Lib.bytesWorld_below _ _ _
  · obtain ⟨te, pe, hv⟩ := he.syn
    refine (Tryz.strconv_Atoi_syntax s hs h _ w hv (.inr ⟨te, pe, rfl⟩)).mono ?_
    rintro e w' ⟨N, rfl, _, _, hb⟩
    exact ⟨hb, .inr ⟨_, _, _, rfl⟩⟩
  · obtain ⟨te, pe, hv⟩ := he.ran
    refine (Tryz.strconv_Atoi_range s hs h _ w hv (.inr ⟨te, pe, rfl⟩)).mono ?_
    rintro e w' ⟨N, rfl, _, _, hb⟩
    exact ⟨hb, .inr ⟨_, _, _, rfl⟩⟩
theorem itoa_any (z : Int) (w : World) (hz : I64 z) (he : Env w) :
    Calls Tryz.prog 88 #[.int .i64 z] w fun e w' => Below w.heap.size w w' ∧ ∃ t : ByteArray, e = .returned (.string t) ∧ t.size ≤ 21 := by
  refine (Tryz.strconv_Itoa z hz.1 hz.2 w he.pow).mono ?_
  rintro e w' ⟨rfl, k, os, rfl⟩
  exact ⟨Lib.below_grow _ _ (Nat.le_refl _) _ _, _, rfl, by have := Lib.itoa_length_le z hz.1 hz.2; simpa [ByteArray.size] using this⟩
end Go.Proofs.YtblkaenlajmhnaaGreatDoor
