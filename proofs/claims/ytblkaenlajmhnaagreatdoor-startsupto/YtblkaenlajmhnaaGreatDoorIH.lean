/- Starts: whatever the machine, the files and the names that run, of bulk at most the row's bound: Restart refuses what is no machine, gives a berth without boxes out of no files, and out of any files a berth, or one without boxes and the word that they are corrupt. The row's statement, and its tied card. -/
import Derived.Test.YtblkaenlajmhnaaGreatDoorID
import Derived.Test.YtblkaenlajmhnaaGreatDoorIE
import Derived.Test.YtblkaenlajmhnaaGreatDoorIF
import Derived.Deep.DeepHandedRow
import Derived.Deep.DeepWitnessRowRef
namespace Go.Proofs.YtblkaenlajmhnaaGreatDoor
open Go Go.ChangeShapes Go.WideShapes Go.ChangeAt Go.RowKit Go.Lib
set_option maxRecDepth 100000 in
theorem globals_le {w : World} (h : w.ShapedOpen Tryz.prog) : Tryz.prog.globals.size ≤ w.heap.size := by
  obtain ⟨h1, _⟩ := h
  have hn : Tryz.prog.globals.size = 14 := by kernel_rfl
  have hs : (((begin Tryz.prog (fun _ _ => 0) default).world.heap[13]?).bind Obj.row?).isSome = true := by kernel_rfl
  obtain ⟨⟨zero, t⟩, e⟩ := Option.isSome_iff_exists.1 hs
  obtain ⟨cs, hc, _⟩ := h1 13 zero t (by rw [hn]; omega) e
  have := (Array.getElem?_eq_some_iff.1 hc).1
  omega
def startArgs : Array Value := #[.agg #[.slice none 0 0, .slice none 0 0, .int .i64 0], .slice none 0 0, .slice none 0 0]
set_option maxRecDepth 100000 in
theorem starts_lifted (os : Os) (started : os.Started) (H : Type) (enc : TypeId × Value → H) (F : Stop.Interp) :
    ReturnsInHanded {} Tryz.checked os 3 .any ((Rows.OpenSpec.upto Rows.startsSpec).preRow enc Tryz.prog Tryz.f3 Rows.startsUptoRow.domain false Rows.startsUptoRow.laid) (((Rows.OpenSpec.upto Rows.startsSpec).at F).post enc Tryz.prog Tryz.f3 false true false false) := by
  have hx : DataW.whole enc Tryz.checked.prog (({ World.settled Tryz.prog os with heap := tabled (World.settled Tryz.prog os).heap } : World).forCall (fun _ _ => 0) ⟨#[], startArgs, []⟩).memory (Func.params Tryz.f3).toList Rows.startsSpec.vars false startArgs.toList 8 = some ([.agg [.nil, .nil, .lit (.int .i64 0)], .nil, .nil], [], []) := by kernel_rfl
  refine returnsInHanded_of_row (C := Tryz.checked) (s := Rows.OpenSpec.upto Rows.startsSpec) ownKnobNone started (by kernel_rfl) Tryz.func3
    (witness_row_atRef (enc := enc) (C := Tryz.checked) false { World.settled Tryz.prog os with heap := tabled (World.settled Tryz.prog os).heap } startArgs rfl (by kernel_rfl) (by kernel_rfl) (by kernel_rfl)
      (OpenSpec.preRow_of_cond 8 hx (by kernel_rfl) (fun k hk => by cases hk; kernel_rfl) (by kernel_rfl) (tabled_met os _))) ?_
  intro W base args ds gs before hval hW _ hcond hsz hL hsh _
  have hL' := hL
  rw [MakeChecks.laidMetH_plain _ _ _ (by kernel_rfl)] at hL'
  have henv : Env W := env_of_laid (globals_le hsh) (laidMet.reads hL' (by simp [Rows.startsUptoRow])) (laidMet.reads hL' (by simp [Rows.startsUptoRow])) (laidMet.reads hL' (by simp [Rows.startsUptoRow])) (laidMet.reads hL' (by simp [Rows.startsUptoRow]))
    (laidMet.reads hL' (by simp [Rows.startsUptoRow])) (laidMet.reads hL' (by simp [Rows.startsUptoRow])) (laidMet.reads hL' (by simp [Rows.startsUptoRow]))
  exact starts_contract H enc W base args ds gs before henv hval hW hsz (hcond _ rfl)
set_option maxRecDepth 100000 in
theorem starts_said : Rows.StartsUptoSaid :=
  OpenClaim.holds_of_cond 3 Tryz.f3 rfl rfl rfl rfl rfl rfl rfl ⟨rfl, rfl, rfl, rfl, rfl⟩ rfl rfl rfl rfl rfl (by kernel_rfl) Tryz.func3 startsUpto_closed
    (of_decide_eq_true (by kernel_rfl)) (by unfold Func.isWrapper; first | (rw [if_pos (by decide +kernel)]; kernel_rfl) | (rw [if_neg (by decide +kernel)]; exact ⟨rfl, rfl⟩))
    (fun os started H enc _ F => by rw [OpenClaim.pre_eq_preRow]; exact starts_lifted os started H enc F)
theorem starts_plain (f : FuncId) (fn : Func) (hf : Tryz.pinned.checked.prog.funcNamed "berth/berthlaw.Starts" = some f) (hfn : Tryz.pinned.checked.prog.funcs[f]? = some fn) :
    true = Tryz.pinned.checked.prog.looks [] ∧ ∀ (j : Nat) t, fn.params[j]? = some t → Tryz.pinned.checked.prog.wantsStandIn t = false := by
  obtain rfl : f = 3 := Option.some.inj ((show Tryz.prog.funcNamed "berth/berthlaw.Starts" = some 3 by kernel_rfl).symm.trans hf) |>.symm
  obtain rfl : fn = Tryz.f3 := (Option.some.inj (Tryz.func3.symm.trans hfn)).symm
  refine ⟨by kernel_rfl, fun j t ht => ?_⟩
  rw [Tryz.params3] at ht
  have hm := Array.mem_of_getElem? ht
  simp only [List.mem_toArray, List.mem_cons, List.not_mem_nil, or_false] at hm
  rcases hm with rfl | rfl | rfl
  · exact (show Tryz.prog.wantsStandIn 25 = false by kernel_rfl)
  · exact (show Tryz.prog.wantsStandIn 26 = false by kernel_rfl)
  · exact (show Tryz.prog.wantsStandIn 27 = false by kernel_rfl)
theorem startsUpto_card : Rows.StartsUptoCardSaid :=
  Claim7.holds_tied_plain_at .later [] _ _ _ _ starts_said (fun _ h => by cases h) (by kernel_rfl) (fun _ h => by cases h) startsUpto_row_tie rfl ⟨rfl, rfl⟩ (by kernel_rfl) rfl starts_plain (by kernel_rfl)
#print axioms startsUpto_card
end Go.Proofs.YtblkaenlajmhnaaGreatDoor
