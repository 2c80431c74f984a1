/- General: worlds behind a world; a region that draws its order whose operations read and whose callees make new blocks alone: one walk serves every order. -/
import Derived.Test.YtfkddhndddfbdaaGreatDoorRows
import Derived.WalkKit
import Derived.WalkSpells
import Derived.WalkLawsBesides
import Derived.Deep.QuietTactic
import Derived.BigQuiet
import Derived.Deep.RegionWith
import Derived.Deep.RegionHeld3
import Derived.Deep.DrawnRows
namespace Go.Proofs.YtfkddhndddfbdaaGreatDoor
open Go.RowKit

/-- A world in which all that was there in W is as it was: W with draws and new blocks. -/
structure After (W : World) where
  val : World
  later : Below W.heap.size W val
theorem After.cell {W : World} (x : After W) {b o : Nat} (h : b < W.heap.size) : x.val.cell? ⟨b, o, none⟩ = W.cell? ⟨b, o, none⟩ := x.later.cell (p := ⟨b, o, none⟩) h
theorem After.frozen {W : World} (x : After W) {b o : Nat} (h : b < W.heap.size) : x.val.frozen? ⟨b, o, none⟩ = W.frozen? ⟨b, o, none⟩ := x.later.frozen (p := ⟨b, o, none⟩) h

theorem _root_.Go.RowKit.Below.drewN {B : Nat} {a w : World} (h : Below B a w) (n : Nat) : Below B a (w.drewN n) := ⟨h.os, h.tape, h.output, h.size, h.block⟩
theorem After.const {W : World} {p : Prop} : (After W → p) ↔ p := ⟨fun h => h ⟨W, Below.refl _ _⟩, fun h _ => h⟩

theorem bcell {W w1 : World} (hb : Below W.heap.size W w1) : (∀ b o, b < W.heap.size → w1.cell? ⟨b, o, none⟩ = W.cell? ⟨b, o, none⟩) ∧ (∀ b o, b < W.heap.size → w1.frozen? ⟨b, o, none⟩ = W.frozen? ⟨b, o, none⟩) :=
  ⟨fun b o h => hb.cell (p := ⟨b, o, none⟩) h, fun b o h => hb.frozen (p := ⟨b, o, none⟩) h⟩
theorem ext_trans {a b c : World} (h : Below a.heap.size a b) (k : Below b.heap.size b c) : Below a.heap.size a c := h.trans (k.mono h.size)

/-- One walk of the text's order serves every order, at the class 'After W', W the world as the region begins. -/
theorem wp_region_after {P : Program} {id : Nat} {Q : Exit → Act → World → Prop} {a : Act} {w : World} {l : List Oper} (hm : P.follows .mixedOrders = true) (hB : Region.lexB .any l.toArray = true)
    (h : wpQuiet P l.toArray (fun w' => ∃ x : After w, w' = x.val) (fun a' => ∀ w', (∃ x : After w, w' = x.val) → Q .normal a' w') l a) : (Code.region id l.toArray true).wp P Q a w :=
  wp_region_quiet (C := fun w' => ∃ x : After w, w' = x.val) hm hB ⟨⟨w.drew, (Below.refl _ _).drew⟩, rfl⟩ (by simpa using h)
/-- A callee's contract, met in a world of the class. -/
theorem Calls.after {P : Program} {f : FuncId} {args : Array Value} {W : World} {x : After W} {v : Value}
    (h : Calls P f args x.val fun e w' => e = .returned v ∧ Below x.val.heap.size x.val w') : Calls P f args x.val fun e w'' => e = .returned v ∧ ∃ y : After W, w'' = y.val :=
  h.mono fun _ w' ⟨he, hm⟩ => ⟨he, ⟨w', ext_trans x.later hm⟩, rfl⟩

/-- the answer is a bool that says whether P -/
def Ans (P : Prop) (e : Ending) : Prop := ∃ r : Bool, e = .returned (.bool r) ∧ (r = true ↔ P)
theorem Ans.yes {P : Prop} (h : P) : Ans P (.returned (.bool true)) := ⟨true, rfl, by simp [h]⟩
theorem Ans.no {P : Prop} (h : ¬ P) : Ans P (.returned (.bool false)) := ⟨false, rfl, by simp [h]⟩
theorem Ans.is_true {P : Prop} {e : Ending} (h : Ans P e) (hp : P) : e = .returned (.bool true) := by
  obtain ⟨r, rfl, hr⟩ := h
  rw [hr.2 hp]
theorem Ans.is_false {P : Prop} {e : Ending} (h : Ans P e) (hp : ¬ P) : e = .returned (.bool false) := by
  obtain ⟨r, rfl, hr⟩ := h
  cases r
  · rfl
  · exact absurd (hr.1 rfl) hp
theorem Ans.cases {P : Prop} {e : Ending} (h : Ans P e) : (P ∧ e = .returned (.bool true)) ∨ (¬ P ∧ e = .returned (.bool false)) := by
  by_cases hp : P
  · exact .inl ⟨hp, h.is_true hp⟩
  · exact .inr ⟨hp, h.is_false hp⟩
theorem Ans.dec {P : Prop} [Decidable P] {e : Ending} (h : Ans P e) : e = .returned (.bool (decide P)) := by
  by_cases hp : P
  · rw [h.is_true hp]; simp [hp]
  · rw [h.is_false hp]; simp [hp]
theorem Calls.after_yes {P : Program} {f : FuncId} {args : Array Value} {W : World} {x : After W} {A : Prop} (hA : A)
    (h : Calls P f args x.val fun e w' => Ans A e ∧ Below x.val.heap.size x.val w') : Calls P f args x.val fun e w'' => e = .returned (.bool true) ∧ ∃ y : After W, w'' = y.val :=
  Calls.after (h.mono fun _ _ ⟨he, hm⟩ => ⟨he.is_true hA, hm⟩)
theorem Calls.after_no {P : Program} {f : FuncId} {args : Array Value} {W : World} {x : After W} {A : Prop} (hA : ¬ A)
    (h : Calls P f args x.val fun e w' => Ans A e ∧ Below x.val.heap.size x.val w') : Calls P f args x.val fun e w'' => e = .returned (.bool false) ∧ ∃ y : After W, w'' = y.val :=
  Calls.after (h.mono fun _ _ ⟨he, hm⟩ => ⟨he.is_false hA, hm⟩)
end Go.Proofs.YtfkddhndddfbdaaGreatDoor
