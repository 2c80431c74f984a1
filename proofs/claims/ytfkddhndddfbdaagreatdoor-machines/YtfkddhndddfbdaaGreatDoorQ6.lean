/- Machines: for every machine, well formed or none, Start answers as the document says, and a new berth shows what the document says. The statement is the tied card of the law; it has no conditions beyond those of its row. -/
import Derived.Test.YtfkddhndddfbdaaGreatDoorQ4
import Derived.SevenTiedAt
namespace Go.Proofs.YtfkddhndddfbdaaGreatDoor
open Go

theorem machines_plain (f : FuncId) (fn : Func) (hf : Tryz.pinned.checked.prog.funcNamed "berth/berthlaw.Machines" = some f) (hfn : Tryz.pinned.checked.prog.funcs[f]? = some fn) :
    true = Tryz.pinned.checked.prog.looks [] ∧ ∀ (j : Nat) t, fn.params[j]? = some t → Tryz.pinned.checked.prog.wantsStandIn t = false := by
  obtain rfl : f = 3 := Option.some.inj ((show Tryz.prog.funcNamed "berth/berthlaw.Machines" = some 3 by kernel_rfl).symm.trans hf) |>.symm
  obtain rfl : fn = Tryz.f3 := (Option.some.inj (Tryz.func3.symm.trans hfn)).symm
  refine ⟨by kernel_rfl, fun j t ht => ?_⟩
  rw [Tryz.params3] at ht
  obtain rfl : t = 25 := by simpa using Array.mem_of_getElem? ht
  exact (show Tryz.prog.wantsStandIn 25 = false by kernel_rfl)

theorem machines_wf : Rows.machinesRow.wfByText (OpenSpec.ofChange Rows.machinesSpec) = true := by kernel_rfl
theorem machines_goes : true = Rows.machinesRow.goesBy Tryz.pinned.checked.prog := by kernel_rfl
theorem machines_main : Tryz.pinned.checked.prog.mainIs = some (Rows.machinesCard.stood.harness.1, Rows.machinesCard.stood.harness.2.toList) := by kernel_rfl
theorem machines_card : Rows.MachinesCardSaid :=
  ⟨Claim7.tied_new_at .later Rows.machinesCard.laidKinds true (Claim7.new_of_sixth machines_said _ _ rfl ⟨rfl, rfl⟩ machines_main rfl machines_plain) machines_wf, (fun _ h => (by cases h)), machines_row_tie, (fun h => (by cases h)), machines_goes⟩
#print axioms machines_card
end Go.Proofs.YtfkddhndddfbdaaGreatDoor
