/- The closed facts of the row of machines, one by one. -/
import Derived.Test.YtfkddhndddfbdaaGreatDoorRows
import Derived.JoinedOf
import Derived.KernelRfl
namespace Go.Proofs.YtfkddhndddfbdaaGreatDoor

set_option maxRecDepth 100000 in
theorem machines_c0 : (Rows.machinesRow.wf (OpenSpec.ofChange Rows.machinesSpec)) = true := by kernel_rfl
set_option maxRecDepth 100000 in
theorem machines_c1 : (laidOutB Tryz.prog) = true := by kernel_rfl
set_option maxRecDepth 100000 in
theorem machines_c2 : (mapsRowed Tryz.prog) = true := by kernel_rfl
set_option maxRecDepth 100000 in
theorem machines_c3 : (Tryz.f3.params.all (Tryz.prog.readableRec ·)) = true := by kernel_rfl
set_option maxRecDepth 100000 in
theorem machines_c4 : (namedTie Tryz.prog Rows.machinesRow.named Rows.machinesSpec.vars) = true := by kernel_rfl
set_option maxRecDepth 100000 in
theorem machines_c5 : ((Rows.machinesRow.stops == [])) = true := by kernel_rfl
set_option maxRecDepth 100000 in
theorem machines_c6 : ((Tryz.prog.stops == [])) = true := by kernel_rfl
set_option maxRecDepth 100000 in
theorem machines_c7 : ((Rows.machinesRow.knobs == [])) = true := by kernel_rfl
set_option maxRecDepth 100000 in
theorem machines_c8 : ((Tryz.prog.stopKnobs == [])) = true := by kernel_rfl
set_option maxRecDepth 100000 in
theorem machines_c9 : ((Rows.machinesRow.inPlace == Tryz.prog.inPlace 3)) = true := by kernel_rfl
set_option maxRecDepth 100000 in
theorem machines_c10 : ((Rows.machinesRow.unfollowed == Tryz.prog.unfollowed 3)) = true := by kernel_rfl
set_option maxRecDepth 100000 in
theorem machines_c11 : ((Rows.machinesRow.recurses == Tryz.prog.recurses 3)) = true := by kernel_rfl
set_option maxRecDepth 100000 in
theorem machines_c12 : ((Rows.machinesRow.named == Tryz.prog.varsNamed 3)) = true := by kernel_rfl
set_option maxRecDepth 100000 in
theorem machines_c13 : ((Rows.machinesRow.maps == (Tryz.f3.params.toList ++ Rows.machinesSpec.plain.varTypes Tryz.prog).any (Tryz.prog.mapsRec ·))) = true := by kernel_rfl
set_option maxRecDepth 100000 in
theorem machines_c14 : ((Rows.machinesRow.ifaces == (Tryz.f3.params.toList ++ Rows.machinesSpec.plain.varTypes Tryz.prog).any (Tryz.prog.ifacesRec ·))) = true := by kernel_rfl
set_option maxRecDepth 100000 in
theorem machines_c15 : ((Rows.machinesRow.mapsOut == Tryz.prog.mapsAmong Tryz.f3.resultTypes.toList)) = true := by kernel_rfl
set_option maxRecDepth 100000 in
theorem machines_c16 : ((Rows.machinesRow.loops == (Tryz.f3.params.toList ++ Rows.machinesSpec.plain.varTypes Tryz.prog).any (Tryz.prog.loopsFrom ·))) = true := by kernel_rfl
set_option maxRecDepth 100000 in
theorem machines_c17 : ((Rows.machinesRow.wideKeys == (Tryz.f3.params.toList ++ Rows.machinesSpec.plain.varTypes Tryz.prog ++ Tryz.f3.resultTypes.toList).any (Tryz.prog.wideKeysFrom ·))) = true := by kernel_rfl
set_option maxRecDepth 100000 in
theorem machines_c18 : (Rows.machinesSpec.vars.all (Tryz.prog.varReadable ·)) = true := by kernel_rfl
set_option maxRecDepth 100000 in
theorem machines_c19 : (Tryz.f3.resultTypes.all (fun t => Tryz.prog.readableRec t && decide (t < Tryz.prog.types.size))) = true := by kernel_rfl
set_option maxRecDepth 100000 in
theorem machines_c20 : ((Rows.machinesRow.ifacesOut == Tryz.f3.resultTypes.toList.any (Tryz.prog.ifacesRec ·))) = true := by kernel_rfl
set_option maxRecDepth 100000 in
theorem machines_c21 : ((Rows.machinesRow.loopsOut == Tryz.f3.resultTypes.toList.any (Tryz.prog.loopsFrom ·))) = true := by kernel_rfl
set_option maxRecDepth 100000 in
theorem machines_c22 : ((Rows.machinesRow.plainKeys == Tryz.prog.plainKeys)) = true := by kernel_rfl
set_option maxRecDepth 100000 in
theorem machines_c23 : (Rows.machinesRow.shortTexts.isNone) = true := by kernel_rfl
set_option maxRecDepth 100000 in
theorem machines_c24 : (Tryz.prog.stopsHeard) = true := by kernel_rfl
set_option maxRecDepth 100000 in
theorem machines_c25 : (Tryz.prog.mayEnter) = true := by kernel_rfl
set_option maxRecDepth 100000 in
theorem machines_c26 : ((Rows.machinesRow.lifted == Tryz.prog.liftsFinal)) = true := by kernel_rfl
set_option maxRecDepth 100000 in
theorem machines_c27 : ((Tryz.prog.make == some Rows.machinesRow.make)) = true := by kernel_rfl
set_option maxRecDepth 100000 in
theorem machines_c28 : ((Rows.machinesRow.kinds == (if Rows.machinesRow.domain.isEmpty then [] else Tryz.f3.params.toList.map fun t => match Tryz.prog.underlying t with | some (.int k) => some k | _ => none))) = true := by kernel_rfl
set_option maxRecDepth 100000 in
theorem machines_c29 : ((Rows.machinesRow.pinned == Rows.machinesRow.pinnedBy)) = true := by kernel_rfl
set_option maxRecDepth 100000 in
theorem machines_c30 : ((Rows.machinesRow.veiled == (Tryz.f3.params.toList ++ Rows.machinesSpec.plain.varTypes Tryz.prog ++ Tryz.f3.resultTypes.toList).any (Tryz.prog.veiledRec ·))) = true := by kernel_rfl
set_option maxRecDepth 100000 in
theorem machines_c31 : (Rows.machinesRow.veiledFits Tryz.prog Tryz.f3.params.toList (Tryz.f3.params.toList ++ Rows.machinesSpec.plain.varTypes Tryz.prog ++ Tryz.f3.resultTypes.toList)) = true := by kernel_rfl
theorem machines_and {a b : Bool} (ha : a = true) (hb : b = true) : (a && b) = true := by rw [ha, hb]; rfl
set_option maxRecDepth 100000 in
theorem machines_closed : joinedFacts Tryz.prog 3 Tryz.f3 Rows.machinesSpec Rows.machinesRow = true :=
  machines_and (machines_and (machines_and (machines_and (machines_and (machines_and (machines_and (machines_and (machines_and (machines_and (machines_and (machines_and (machines_and (machines_and (machines_and (machines_and (machines_and (machines_and (machines_and (machines_and (machines_and (machines_and (machines_and (machines_and (machines_and (machines_and (machines_and (machines_and (machines_and (machines_and (machines_and (machines_c0) machines_c1) machines_c2) machines_c3) machines_c4) machines_c5) machines_c6) machines_c7) machines_c8) machines_c9) machines_c10) machines_c11) machines_c12) machines_c13) machines_c14) machines_c15) machines_c16) machines_c17) machines_c18) machines_c19) machines_c20) machines_c21) machines_c22) machines_c23) machines_c24) machines_c25) machines_c26) machines_c27) machines_c28) machines_c29) machines_c30) machines_c31
end Go.Proofs.YtfkddhndddfbdaaGreatDoor
