/- Widths answers true and leaves its input as it was, for every input of bulk at most the bound of its row. -/
import Derived.Test.YtfpaamhppamcoaaGreatDoorT47
set_option linter.all false
set_option maxRecDepth 100000
namespace Go.Proofs.YtfpaamhppamcoaaGreatDoor
open Go.Proofs.Tryz
section
open Go Go.ChangeShapes Go.WideShapes Go.ChangeAt Go.RowKit Go.Conc
def lN:Array Value:= #[.agg #[.slice none 0 0,.slice none 0 0,.int .i64 0],.slice none 0 0,.agg #[.int .i64 0,.int .i64 0,.int .i64 0,.int .i64 0]]
theorem vZ (os)(H)(enc):uW os H enc:=by
 have a:Input.okWideB Tryz.checked.prog (({World.settled prog os with heap:=iJ (World.settled prog os).heap}:World).forCall (λ_ _=>0) ⟨#[],lN,[]⟩) 3 ⟨#[],lN,[]⟩=true:=by kernel_rfl
 have hx:DataW.whole enc Tryz.checked.prog (({World.settled prog os with heap:=iJ (World.settled prog os).heap}:World).forCall (λ_ _=>0) ⟨#[],lN,[]⟩).memory (Func.params Tryz.f3).toList Rows.widthsSpec.vars false lN.toList 8=some ([.agg [.nil,.nil,.lit (.int .i64 0)],.nil,.agg [.lit (.int .i64 0),.agg [.lit (.int .i64 0),.lit (.int .i64 0),.lit (.int .i64 0)]]],[],[]):=by kernel_rfl
 have b:Rows.widthsSpec.sizedB enc Tryz.checked.prog Tryz.f3 false (({World.settled prog os with heap:=iJ (World.settled prog os).heap}:World).forCall (λ_ _=>0) ⟨#[],lN,[]⟩).memory lN 8=true:=by kernel_rfl
 refine⟨{World.settled prog os with heap:=iJ (World.settled prog os).heap},λ_ _=>0,⟨#[],lN,[]⟩,rfl,zT os _,(Input.okWide_of_okWideB (base:=0) a).1,(Input.okWide_of_okWideB a).2,
  ⟨⟨(OpenSpec.pre_some (s:=Rows.OpenSpec.upto Rows.widthsSpec) (k:=Rows.uptoSmall) rfl [] false _ _).2 ⟨_,_,_,DataW.Whole_of_whole hx,rfl,by kernel_rfl⟩,GU os _⟩,sizedMet_of_sizedB b⟩,?_⟩
 simp only[Assume.holds];exact⟨by simp,by simp,λ_=>Modest.zero,by simp,by simp⟩
theorem D9:Rows.WidthsUptoSaid:=
 mZ 3 Tryz.f3 rfl rfl rfl rfl rfl rfl rfl ⟨rfl,rfl,rfl,rfl,rfl⟩ rfl rfl rfl rfl rfl (by kernel_rfl) func3 qI
  (of_decide_eq_true (by kernel_rfl)) (by unfold Func.isWrapper;first|(rw[if_pos (by decide+kernel)];kernel_rfl)|(rw[if_neg (by decide+kernel)];exact⟨rfl,rfl⟩))
  (λos started H enc _ F=>zI os started H enc F (vZ os H enc))
theorem BU (f)(fn)(hf:Tryz.pinned.checked.prog.funcNamed "berth/berthkeep.Widths" =some f)(a:Tryz.pinned.checked.prog.funcs[f]? =some fn):
 true=Tryz.pinned.checked.prog.looks []/\∀(j:Nat) t,fn.params[j]? =some t->Tryz.pinned.checked.prog.wantsStandIn t=false:=by
 obtain rfl:f=3:=Option.some.inj ((show prog.funcNamed "berth/berthkeep.Widths" =some 3 by kernel_rfl).symm.trans hf)|>.symm
 obtain rfl:fn=Tryz.f3:=(Option.some.inj (func3.symm.trans a)).symm;refine⟨by kernel_rfl,λj t b=>?_⟩;rw[params3]at b;have hm:=Array.mem_of_getElem? b;simp only[List.mem_toArray,ZW,List.not_mem_nil,or_false]at hm;rcases hm with rfl|rfl|rfl
 .exact(show prog.wantsStandIn 25=false by kernel_rfl)
 .exact(show prog.wantsStandIn 26=false by kernel_rfl)
 .exact(show prog.wantsStandIn 29=false by kernel_rfl)
theorem Kj:Rows.widthsUptoRow.wfByText (Rows.OpenSpec.upto Rows.widthsSpec)=true:=by kernel_rfl
theorem Ec:true=Rows.widthsUptoRow.goesBy Tryz.pinned.checked.prog:=by kernel_rfl
theorem Ea:Tryz.pinned.checked.prog.mainIs=some (Rows.widthsUptoCard.stood.harness.1,Rows.widthsUptoCard.stood.harness.2.toList):=by kernel_rfl
theorem widthsUpto_card:Rows.WidthsUptoCardSaid:=
 ⟨Claim7.tied_new_at .later Rows.widthsUptoCard.laidKinds true (Claim7.new_of_sixth D9 _ _ rfl ⟨rfl,rfl⟩ Ea rfl BU) Kj,(λ_ h=>(by cases h)),OG,(λh=>(by cases h)),Ec⟩
end
