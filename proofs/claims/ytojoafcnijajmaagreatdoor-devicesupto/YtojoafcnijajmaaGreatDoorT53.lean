/- Part 53 of the proof that Devices answers true and leaves its input as it was, for input of bulk at most the bound of its row: G6. -/
import Derived.Test.YtojoafcnijajmaaGreatDoorT50
import Derived.Test.YtojoafcnijajmaaGreatDoorT51
import Derived.Test.YtojoafcnijajmaaGreatDoorT52
import Derived.Test.YtojoafcnijajmaaGreatDoorCards
import Derived.Test.YtojoafcnijajmaaGreatDoorTie
import Derived.SevenTiedAt
namespace Go.Proofs.YtojoafcnijajmaaGreatDoor
open Go Go.ChangeShapes Go.WideShapes Go.ChangeAt Go.RowKit Go.Conc
theorem ownKnobD:ownKnob Tryz.prog.godebug = none:=by kernel_rfl
set_option maxRecDepth 100000 in
theorem globals_le {w:World} (h:w.ShapedOpen Tryz.prog):Tryz.prog.globals.size ≤ w.heap.size:=by
  obtain ⟨h1,_⟩:=h
  have hn:Tryz.prog.globals.size = 14:=by kernel_rfl
  have hs:(((begin Tryz.prog (fun _ _=>0) default).world.heap[13]?).bind Obj.row?).isSome = true:=by kernel_rfl
  obtain ⟨⟨zero,t⟩,e⟩:=Option.isSome_iff_exists.1 hs
  obtain ⟨cs,hc,_⟩:=h1 13 zero t (by rw [hn]; omega) e
  have:=(Array.getElem?_eq_some_iff.1 hc).1
  omega
def devArgs:Array Value:=#[.agg #[.slice none 0 0,.slice none 0 0,.int .i64 0],.slice none 0 0]
set_option maxRecDepth 100000 in
theorem devices_witness (os:Os) (H:Type) (enc:TypeId × Value → H) :
    ∃ (w:World) (tape:Tape) (i:Input),w.os = os ∧ (w.forCall tape i).Shaped Tryz.checked.prog ∧ i.vars = [] ∧ Input.okWide Tryz.checked.prog (w.forCall tape i) .any w.heap.size 3 i ∧
      (((Rows.OpenSpec.upto Rows.devicesSpec).pre enc Tryz.checked.prog Tryz.f3 [] false (w.forCall tape i).memory i.args ∧ laidMetH Tryz.prog Rows.devicesUptoRow.laid (w.forCall tape i).memory) ∧ sizedMet enc Tryz.checked.prog Tryz.f3 (Rows.OpenSpec.upto Rows.devicesSpec) false (w.forCall tape i).memory i.args) ∧
      ({}:Assume).holds Tryz.checked.prog (lone (Frame.enter Tryz.checked.prog 3 i.args .normal) [] (w.forCall tape i)):=by
  have hok:Input.okWideB Tryz.checked.prog (({ World.settled Tryz.prog os with heap:=tabled (World.settled Tryz.prog os).heap }:World).forCall (fun _ _=>0) ⟨#[],devArgs,[]⟩) 3 ⟨#[],devArgs,[]⟩ = true:=by kernel_rfl
  have hx:DataW.whole enc Tryz.checked.prog (({ World.settled Tryz.prog os with heap:=tabled (World.settled Tryz.prog os).heap }:World).forCall (fun _ _=>0) ⟨#[],devArgs,[]⟩).memory (Func.params Tryz.f3).toList Rows.devicesSpec.vars false devArgs.toList 8 = some ([.agg [.nil,.nil,.lit (.int .i64 0)],.nil],[],[]):=by kernel_rfl
  have hsz:Rows.devicesSpec.sizedB enc Tryz.checked.prog Tryz.f3 false (({ World.settled Tryz.prog os with heap:=tabled (World.settled Tryz.prog os).heap }:World).forCall (fun _ _=>0) ⟨#[],devArgs,[]⟩).memory devArgs 8 = true:=by kernel_rfl
  refine ⟨{ World.settled Tryz.prog os with heap:=tabled (World.settled Tryz.prog os).heap },fun _ _=>0,⟨#[],devArgs,[]⟩,rfl,tabled_shaped os _,(Input.okWide_of_okWideB (base:=0) hok).1,(Input.okWide_of_okWideB hok).2,
    ⟨⟨(OpenSpec.pre_some (s:=Rows.OpenSpec.upto Rows.devicesSpec) (k:=Rows.uptoSmall) rfl [] false _ _).2 ⟨_,_,_,DataW.Whole_of_whole hx,rfl,by kernel_rfl⟩,tabled_met os _⟩,sizedMet_of_sizedB hsz⟩,?_⟩
  simp only [Assume.holds]
  exact ⟨by simp,by simp,fun _=>Modest.zero,by simp,by simp⟩
set_option maxRecDepth 100000 in
theorem devices_lifted (os:Os) (started:os.Started) (H:Type) (enc:TypeId × Value → H) (F:Stop.Interp) :
    ReturnsInLeavingWide {} Tryz.checked os 3 .any (fun w args=>((Rows.OpenSpec.upto Rows.devicesSpec).pre enc Tryz.prog Tryz.f3 [] false w args ∧ laidMetH Tryz.prog Rows.devicesUptoRow.laid w) ∧ sizedMet enc Tryz.prog Tryz.f3 (Rows.OpenSpec.upto Rows.devicesSpec) false w args)
      (((Rows.OpenSpec.upto Rows.devicesSpec).at F).post enc Tryz.prog Tryz.f3 false true false false):=by
  refine returnsInLeavingWide_of_good (C:=Tryz.checked) ownKnobD started (devices_witness os H enc) ?_
  intro w tape i _ hshape _ hok hpre _
  obtain ⟨_,_,_,fn',hfn',_,_,_,_,hval⟩:=hok
  have e:fn' = Tryz.f3:=Option.some.inj (hfn'.symm.trans Tryz.func3)
  subst e
  obtain ⟨⟨hp1,_⟩,hz⟩:=hpre
  obtain ⟨ds,gs,before,hw,_,hk⟩:=(OpenSpec.pre_some (s:=Rows.OpenSpec.upto Rows.devicesSpec) (k:=Rows.uptoSmall) rfl _ _ _ _).1 hp1
  have hw':=DataW.Whole.of_heap (w':=w.forCall tape i) (by rfl) hw
  obtain ⟨N,last,o,w',t',g1,g2,g3,g4⟩:=devices_contract H enc (w.forCall tape i) w.heap.size i.args ds gs before (globals_le hshape) hval hw' (hz.weights hw) hk
  refine ⟨N,last,o,w',t',g1,g2,g3,?_⟩
  obtain ⟨v,hv,hp,hrest⟩:=g4
  exact ⟨v,hv,ChangeSpec.post_blind hp,hrest⟩
set_option maxRecDepth 100000 in
theorem devices_said:Rows.DevicesUptoSaid :=
  holds_of_cond_leaving 3 Tryz.f3 rfl rfl rfl rfl rfl rfl rfl ⟨rfl,rfl,rfl,rfl,rfl⟩ rfl rfl rfl rfl rfl (by kernel_rfl) Tryz.func3 devicesUpto_closed
    (of_decide_eq_true (by kernel_rfl)) (by unfold Func.isWrapper; first | (rw [if_pos (by decide +kernel)]; kernel_rfl) | (rw [if_neg (by decide +kernel)]; exact ⟨rfl,rfl⟩))
    (fun os started H enc _ F=>devices_lifted os started H enc F)
theorem devices_plain (f:FuncId) (fn:Func) (hf:Tryz.pinned.checked.prog.funcNamed "berth/berthlaw.Devices" = some f) (hfn:Tryz.pinned.checked.prog.funcs[f]? = some fn) :
    true = Tryz.pinned.checked.prog.looks [] ∧ ∀ (j:Nat) t,fn.params[j]? = some t → Tryz.pinned.checked.prog.wantsStandIn t = false:=by
  obtain rfl:f = 3:=Option.some.inj ((show Tryz.prog.funcNamed "berth/berthlaw.Devices" = some 3 by kernel_rfl).symm.trans hf) |>.symm
  obtain rfl:fn = Tryz.f3:=(Option.some.inj (Tryz.func3.symm.trans hfn)).symm
  refine ⟨by kernel_rfl,fun j t ht=>?_⟩
  rw [Tryz.params3] at ht
  have hm:=Array.mem_of_getElem? ht
  simp only [List.mem_toArray,List.mem_cons,List.not_mem_nil,or_false] at hm
  rcases hm with rfl | rfl
  · exact (show Tryz.prog.wantsStandIn 25 = false by kernel_rfl)
  · exact (show Tryz.prog.wantsStandIn 26 = false by kernel_rfl)
theorem devices_wf:Rows.devicesUptoRow.wfByText (Rows.OpenSpec.upto Rows.devicesSpec) = true:=by kernel_rfl
theorem devices_goes:true = Rows.devicesUptoRow.goesBy Tryz.pinned.checked.prog:=by kernel_rfl
theorem devices_main:Tryz.pinned.checked.prog.mainIs = some (Rows.devicesUptoCard.stood.harness.1,Rows.devicesUptoCard.stood.harness.2.toList):=by kernel_rfl
theorem devicesUpto_card:Rows.DevicesUptoCardSaid :=
  ⟨Claim7.tied_new_at .later Rows.devicesUptoCard.laidKinds true (Claim7.new_of_sixth devices_said _ _ rfl ⟨rfl,rfl⟩ devices_main rfl devices_plain) devices_wf,(fun _ h=>(by cases h)),devicesUpto_row_tie,(fun h=>(by cases h)),devices_goes⟩
end Go.Proofs.YtojoafcnijajmaaGreatDoor
