/- Part 52 of the proof that Devices answers true and leaves its input as it was, for input of bulk at most the bound of its row: G5. -/
import Derived.Test.YtojoafcnijajmaaGreatDoorRows
import Derived.JoinedOf
import Derived.KernelRfl
namespace Go.Proofs.YtojoafcnijajmaaGreatDoor
set_option maxRecDepth 100000 in
theorem devicesUpto_c0:(Rows.devicesUptoRow.wf (OpenSpec.ofChange Rows.devicesSpec)) = true:=by kernel_rfl
set_option maxRecDepth 100000 in
theorem devicesUpto_c1:(laidOutB Tryz.prog) = true:=by kernel_rfl
set_option maxRecDepth 100000 in
theorem devicesUpto_c2:(mapsRowed Tryz.prog) = true:=by kernel_rfl
set_option maxRecDepth 100000 in
theorem devicesUpto_c3:(Tryz.f3.params.all (Tryz.prog.readableRec ·)) = true:=by kernel_rfl
set_option maxRecDepth 100000 in
theorem devicesUpto_c4:(namedTie Tryz.prog Rows.devicesUptoRow.named Rows.devicesSpec.vars) = true:=by kernel_rfl
set_option maxRecDepth 100000 in
theorem devicesUpto_c5:((Rows.devicesUptoRow.stops == [])) = true:=by kernel_rfl
set_option maxRecDepth 100000 in
theorem devicesUpto_c6:((Tryz.prog.stops == [])) = true:=by kernel_rfl
set_option maxRecDepth 100000 in
theorem devicesUpto_c7:((Rows.devicesUptoRow.knobs == [])) = true:=by kernel_rfl
set_option maxRecDepth 100000 in
theorem devicesUpto_c8:((Tryz.prog.stopKnobs == [])) = true:=by kernel_rfl
set_option maxRecDepth 100000 in
theorem devicesUpto_c9:((Rows.devicesUptoRow.inPlace == Tryz.prog.inPlace 3)) = true:=by kernel_rfl
set_option maxRecDepth 100000 in
theorem devicesUpto_c10:((Rows.devicesUptoRow.unfollowed == Tryz.prog.unfollowed 3)) = true:=by kernel_rfl
set_option maxRecDepth 100000 in
theorem devicesUpto_c11:((Rows.devicesUptoRow.recurses == Tryz.prog.recurses 3)) = true:=by kernel_rfl
set_option maxRecDepth 100000 in
theorem devicesUpto_c12:((Rows.devicesUptoRow.named == Tryz.prog.varsNamed 3)) = true:=by kernel_rfl
set_option maxRecDepth 100000 in
theorem devicesUpto_c13:((Rows.devicesUptoRow.maps == (Tryz.f3.params.toList ++ Rows.devicesSpec.plain.varTypes Tryz.prog).any (Tryz.prog.mapsRec ·))) = true:=by kernel_rfl
set_option maxRecDepth 100000 in
theorem devicesUpto_c14:((Rows.devicesUptoRow.ifaces == (Tryz.f3.params.toList ++ Rows.devicesSpec.plain.varTypes Tryz.prog).any (Tryz.prog.ifacesRec ·))) = true:=by kernel_rfl
set_option maxRecDepth 100000 in
theorem devicesUpto_c15:((Rows.devicesUptoRow.mapsOut == Tryz.prog.mapsAmong Tryz.f3.resultTypes.toList)) = true:=by kernel_rfl
set_option maxRecDepth 100000 in
theorem devicesUpto_c16:((Rows.devicesUptoRow.loops == (Tryz.f3.params.toList ++ Rows.devicesSpec.plain.varTypes Tryz.prog).any (Tryz.prog.loopsFrom ·))) = true:=by kernel_rfl
set_option maxRecDepth 100000 in
theorem devicesUpto_c17:((Rows.devicesUptoRow.wideKeys == (Tryz.f3.params.toList ++ Rows.devicesSpec.plain.varTypes Tryz.prog ++ Tryz.f3.resultTypes.toList).any (Tryz.prog.wideKeysFrom ·))) = true:=by kernel_rfl
set_option maxRecDepth 100000 in
theorem devicesUpto_c18:(Rows.devicesSpec.vars.all (Tryz.prog.varReadable ·)) = true:=by kernel_rfl
set_option maxRecDepth 100000 in
theorem devicesUpto_c19:(Tryz.f3.resultTypes.all (fun t=>Tryz.prog.readableRec t && decide (t < Tryz.prog.types.size))) = true:=by kernel_rfl
set_option maxRecDepth 100000 in
theorem devicesUpto_c20:((Rows.devicesUptoRow.ifacesOut == Tryz.f3.resultTypes.toList.any (Tryz.prog.ifacesRec ·))) = true:=by kernel_rfl
set_option maxRecDepth 100000 in
theorem devicesUpto_c21:((Rows.devicesUptoRow.loopsOut == Tryz.f3.resultTypes.toList.any (Tryz.prog.loopsFrom ·))) = true:=by kernel_rfl
set_option maxRecDepth 100000 in
theorem devicesUpto_c22:((Rows.devicesUptoRow.plainKeys == Tryz.prog.plainKeys)) = true:=by kernel_rfl
set_option maxRecDepth 100000 in
theorem devicesUpto_c23:(Rows.devicesUptoRow.shortTexts.isNone) = true:=by kernel_rfl
set_option maxRecDepth 100000 in
theorem devicesUpto_c24:(Tryz.prog.stopsHeard) = true:=by kernel_rfl
set_option maxRecDepth 100000 in
theorem devicesUpto_c25:(Tryz.prog.mayEnter) = true:=by kernel_rfl
set_option maxRecDepth 100000 in
theorem devicesUpto_c26:((Rows.devicesUptoRow.lifted == Tryz.prog.liftsFinal)) = true:=by kernel_rfl
set_option maxRecDepth 100000 in
theorem devicesUpto_c27:((Tryz.prog.make == some Rows.devicesUptoRow.make)) = true:=by kernel_rfl
set_option maxRecDepth 100000 in
theorem devicesUpto_c28:((Rows.devicesUptoRow.kinds == (if Rows.devicesUptoRow.domain.isEmpty then [] else Tryz.f3.params.toList.map fun t=>match Tryz.prog.underlying t with | some (.int k)=>some k | _=>none))) = true:=by kernel_rfl
set_option maxRecDepth 100000 in
theorem devicesUpto_c29:((Rows.devicesUptoRow.pinned == Rows.devicesUptoRow.pinnedBy)) = true:=by kernel_rfl
set_option maxRecDepth 100000 in
theorem devicesUpto_c30:((Rows.devicesUptoRow.veiled == (Tryz.f3.params.toList ++ Rows.devicesSpec.plain.varTypes Tryz.prog ++ Tryz.f3.resultTypes.toList).any (Tryz.prog.veiledRec ·))) = true:=by kernel_rfl
set_option maxRecDepth 100000 in
theorem devicesUpto_c31:(Rows.devicesUptoRow.veiledFits Tryz.prog Tryz.f3.params.toList (Tryz.f3.params.toList ++ Rows.devicesSpec.plain.varTypes Tryz.prog ++ Tryz.f3.resultTypes.toList)) = true:=by kernel_rfl
theorem devicesUpto_and {a b:Bool} (ha:a = true) (hb:b = true):(a && b) = true:=by rw [ha,hb]; rfl
set_option maxRecDepth 100000 in
theorem devicesUpto_closed:joinedFacts Tryz.prog 3 Tryz.f3 Rows.devicesSpec Rows.devicesUptoRow = true :=
  devicesUpto_and (devicesUpto_and (devicesUpto_and (devicesUpto_and (devicesUpto_and (devicesUpto_and (devicesUpto_and (devicesUpto_and (devicesUpto_and (devicesUpto_and (devicesUpto_and (devicesUpto_and (devicesUpto_and (devicesUpto_and (devicesUpto_and (devicesUpto_and (devicesUpto_and (devicesUpto_and (devicesUpto_and (devicesUpto_and (devicesUpto_and (devicesUpto_and (devicesUpto_and (devicesUpto_and (devicesUpto_and (devicesUpto_and (devicesUpto_and (devicesUpto_and (devicesUpto_and (devicesUpto_and (devicesUpto_and (devicesUpto_c0) devicesUpto_c1) devicesUpto_c2) devicesUpto_c3) devicesUpto_c4) devicesUpto_c5) devicesUpto_c6) devicesUpto_c7) devicesUpto_c8) devicesUpto_c9) devicesUpto_c10) devicesUpto_c11) devicesUpto_c12) devicesUpto_c13) devicesUpto_c14) devicesUpto_c15) devicesUpto_c16) devicesUpto_c17) devicesUpto_c18) devicesUpto_c19) devicesUpto_c20) devicesUpto_c21) devicesUpto_c22) devicesUpto_c23) devicesUpto_c24) devicesUpto_c25) devicesUpto_c26) devicesUpto_c27) devicesUpto_c28) devicesUpto_c29) devicesUpto_c30) devicesUpto_c31
end Go.Proofs.YtojoafcnijajmaaGreatDoor
