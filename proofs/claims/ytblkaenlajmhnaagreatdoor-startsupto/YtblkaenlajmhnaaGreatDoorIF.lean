/- The closed facts of the row of startsUpto, one by one. -/
import Derived.Test.YtblkaenlajmhnaaGreatDoorRows
import Derived.JoinedOf
import Derived.KernelRfl
namespace Go.Proofs.YtblkaenlajmhnaaGreatDoor
set_option maxRecDepth 100000 in
theorem startsUpto_c0 : (Rows.startsUptoRow.wf (OpenSpec.ofChange Rows.startsSpec)) = true := by kernel_rfl
set_option maxRecDepth 100000 in
theorem startsUpto_c1 : (laidOutB Tryz.prog) = true := by kernel_rfl
set_option maxRecDepth 100000 in
theorem startsUpto_c2 : (mapsRowed Tryz.prog) = true := by kernel_rfl
set_option maxRecDepth 100000 in
theorem startsUpto_c3 : (Tryz.f3.params.all (Tryz.prog.readableRec ·)) = true := by kernel_rfl
set_option maxRecDepth 100000 in
theorem startsUpto_c4 : (namedTie Tryz.prog Rows.startsUptoRow.named Rows.startsSpec.vars) = true := by kernel_rfl
set_option maxRecDepth 100000 in
theorem startsUpto_c5 : ((Rows.startsUptoRow.stops == [])) = true := by kernel_rfl
set_option maxRecDepth 100000 in
theorem startsUpto_c6 : ((Tryz.prog.stops == [])) = true := by kernel_rfl
set_option maxRecDepth 100000 in
theorem startsUpto_c7 : ((Rows.startsUptoRow.knobs == [])) = true := by kernel_rfl
set_option maxRecDepth 100000 in
theorem startsUpto_c8 : ((Tryz.prog.stopKnobs == [])) = true := by kernel_rfl
set_option maxRecDepth 100000 in
theorem startsUpto_c9 : ((Rows.startsUptoRow.inPlace == Tryz.prog.inPlace 3)) = true := by kernel_rfl
set_option maxRecDepth 100000 in
theorem startsUpto_c10 : ((Rows.startsUptoRow.unfollowed == Tryz.prog.unfollowed 3)) = true := by kernel_rfl
set_option maxRecDepth 100000 in
theorem startsUpto_c11 : ((Rows.startsUptoRow.recurses == Tryz.prog.recurses 3)) = true := by kernel_rfl
set_option maxRecDepth 100000 in
theorem startsUpto_c12 : ((Rows.startsUptoRow.named == Tryz.prog.varsNamed 3)) = true := by kernel_rfl
set_option maxRecDepth 100000 in
theorem startsUpto_c13 : ((Rows.startsUptoRow.maps == (Tryz.f3.params.toList ++ Rows.startsSpec.plain.varTypes Tryz.prog).any (Tryz.prog.mapsRec ·))) = true := by kernel_rfl
set_option maxRecDepth 100000 in
theorem startsUpto_c14 : ((Rows.startsUptoRow.ifaces == (Tryz.f3.params.toList ++ Rows.startsSpec.plain.varTypes Tryz.prog).any (Tryz.prog.ifacesRec ·))) = true := by kernel_rfl
set_option maxRecDepth 100000 in
theorem startsUpto_c15 : ((Rows.startsUptoRow.mapsOut == Tryz.prog.mapsAmong Tryz.f3.resultTypes.toList)) = true := by kernel_rfl
set_option maxRecDepth 100000 in
theorem startsUpto_c16 : ((Rows.startsUptoRow.loops == (Tryz.f3.params.toList ++ Rows.startsSpec.plain.varTypes Tryz.prog).any (Tryz.prog.loopsFrom ·))) = true := by kernel_rfl
set_option maxRecDepth 100000 in
theorem startsUpto_c17 : ((Rows.startsUptoRow.wideKeys == (Tryz.f3.params.toList ++ Rows.startsSpec.plain.varTypes Tryz.prog ++ Tryz.f3.resultTypes.toList).any (Tryz.prog.wideKeysFrom ·))) = true := by kernel_rfl
set_option maxRecDepth 100000 in
theorem startsUpto_c18 : (Rows.startsSpec.vars.all (Tryz.prog.varReadable ·)) = true := by kernel_rfl
set_option maxRecDepth 100000 in
theorem startsUpto_c19 : (Tryz.f3.resultTypes.all (fun t => Tryz.prog.readableRec t && decide (t < Tryz.prog.types.size))) = true := by kernel_rfl
set_option maxRecDepth 100000 in
theorem startsUpto_c20 : ((Rows.startsUptoRow.ifacesOut == Tryz.f3.resultTypes.toList.any (Tryz.prog.ifacesRec ·))) = true := by kernel_rfl
set_option maxRecDepth 100000 in
theorem startsUpto_c21 : ((Rows.startsUptoRow.loopsOut == Tryz.f3.resultTypes.toList.any (Tryz.prog.loopsFrom ·))) = true := by kernel_rfl
set_option maxRecDepth 100000 in
theorem startsUpto_c22 : ((Rows.startsUptoRow.plainKeys == Tryz.prog.plainKeys)) = true := by kernel_rfl
set_option maxRecDepth 100000 in
theorem startsUpto_c23 : (Rows.startsUptoRow.shortTexts.isNone) = true := by kernel_rfl
set_option maxRecDepth 100000 in
theorem startsUpto_c24 : (Tryz.prog.stopsHeard) = true := by kernel_rfl
set_option maxRecDepth 100000 in
theorem startsUpto_c25 : (Tryz.prog.mayEnter) = true := by kernel_rfl
set_option maxRecDepth 100000 in
theorem startsUpto_c26 : ((Rows.startsUptoRow.lifted == Tryz.prog.liftsFinal)) = true := by kernel_rfl
set_option maxRecDepth 100000 in
theorem startsUpto_c27 : ((Tryz.prog.make == some Rows.startsUptoRow.make)) = true := by kernel_rfl
set_option maxRecDepth 100000 in
theorem startsUpto_c28 : ((Rows.startsUptoRow.kinds == (if Rows.startsUptoRow.domain.isEmpty then [] else Tryz.f3.params.toList.map fun t => match Tryz.prog.underlying t with | some (.int k) => some k | _ => none))) = true := by kernel_rfl
set_option maxRecDepth 100000 in
theorem startsUpto_c29 : ((Rows.startsUptoRow.pinned == Rows.startsUptoRow.pinnedBy)) = true := by kernel_rfl
set_option maxRecDepth 100000 in
theorem startsUpto_c30 : ((Rows.startsUptoRow.veiled == (Tryz.f3.params.toList ++ Rows.startsSpec.plain.varTypes Tryz.prog ++ Tryz.f3.resultTypes.toList).any (Tryz.prog.veiledRec ·))) = true := by kernel_rfl
set_option maxRecDepth 100000 in
theorem startsUpto_c31 : (Rows.startsUptoRow.veiledFits Tryz.prog Tryz.f3.params.toList (Tryz.f3.params.toList ++ Rows.startsSpec.plain.varTypes Tryz.prog ++ Tryz.f3.resultTypes.toList)) = true := by kernel_rfl
theorem startsUpto_and {a b : Bool} (ha : a = true) (hb : b = true) : (a && b) = true := by rw [ha, hb]; rfl
set_option maxRecDepth 100000 in
theorem startsUpto_closed : joinedFacts Tryz.prog 3 Tryz.f3 Rows.startsSpec Rows.startsUptoRow = true :=
  startsUpto_and (startsUpto_and (startsUpto_and (startsUpto_and (startsUpto_and (startsUpto_and (startsUpto_and (startsUpto_and (startsUpto_and (startsUpto_and (startsUpto_and (startsUpto_and (startsUpto_and (startsUpto_and (startsUpto_and (startsUpto_and (startsUpto_and (startsUpto_and (startsUpto_and (startsUpto_and (startsUpto_and (startsUpto_and (startsUpto_and (startsUpto_and (startsUpto_and (startsUpto_and (startsUpto_and (startsUpto_and (startsUpto_and (startsUpto_and (startsUpto_and (startsUpto_c0) startsUpto_c1) startsUpto_c2) startsUpto_c3) startsUpto_c4) startsUpto_c5) startsUpto_c6) startsUpto_c7) startsUpto_c8) startsUpto_c9) startsUpto_c10) startsUpto_c11) startsUpto_c12) startsUpto_c13) startsUpto_c14) startsUpto_c15) startsUpto_c16) startsUpto_c17) startsUpto_c18) startsUpto_c19) startsUpto_c20) startsUpto_c21) startsUpto_c22) startsUpto_c23) startsUpto_c24) startsUpto_c25) startsUpto_c26) startsUpto_c27) startsUpto_c28) startsUpto_c29) startsUpto_c30) startsUpto_c31
end Go.Proofs.YtblkaenlajmhnaaGreatDoor
