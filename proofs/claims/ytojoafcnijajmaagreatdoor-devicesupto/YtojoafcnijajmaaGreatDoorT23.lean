/- Part 23 of the proof that Devices answers true and leaves its input as it was, for input of bulk at most the bound of its row: YC YD. -/
import Derived.Test.YtojoafcnijajmaaGreatDoorT22
namespace Go.Proofs.YtojoafcnijajmaaGreatDoor
open Go Go.Conc
def lD:List Nat:=[5,25,28,29,66,70,30,71,72,14,15,16,17,10,62,19,59,140,108,56,60,61,142,143,144,26,27,31,32,33,34,35,36,37,42,43,44,23,139,50,45,46,100,127,55,128,129,138,146,63,64,65,67,68,69,73,74,75,76,77,78,79,80,81,82,93,94,95,96,198,110,111,97,98,99,226,191,126,192,193,190,194,141,145,168,169,185,170,171,225,199,206]
def lW:List Nat:=[22,52,54,57,125,130,131,132,195,196,227,251,252]
def lS:List Nat:=[40,38,39,41]
def cfgD:Cfg:={ fns:=lD ++ (22 :: lS),sp:=22 :: lS,mark:=fun _=>false,sg:=id,root:=3,rt:=1000000,atRoot:=true,dd:=[],kd:=.normal,pv:=fun _=>false,okF:=fun _ _=>True }
def cfgA:Cfg:={ fns:=(3 :: (lD ++ (lW ++ lS))) ++ [417,418],sp:=[417,418],mark:=fun _=>false,sg:=id,root:=1000000,rt:=0,atRoot:=false,dd:=[],kd:=.normal,pv:=fun _=>false,okF:=fun _ _=>True }
theorem cfgD_ok:CfgOk cfgD:=⟨fun _ _=>rfl,fun _=>rfl,fun _=>rfl,fun _=>rfl,fun _ h=>Bool.noConfusion h,fun _ _ _ _ _=>trivial,fun _ _ _ _ _ _ _ _ _=>trivial⟩
theorem cfgA_ok:CfgOk cfgA:=⟨fun _ _=>rfl,fun _=>rfl,fun _=>rfl,fun _=>rfl,fun _ h=>Bool.noConfusion h,fun _ _ _ _ _=>trivial,fun _ _ _ _ _ _ _ _ _=>trivial⟩
theorem pbD:∀ g ∈ lD,PB cfgD (patch shutL Tryz.prog) Tryz.prog g :=
  all_cons ⟨_,_,pf Tryz.func5 (by rfl),by kernel_rfl,rfl,Tryz.func5,by kernel_rfl⟩ <|
  all_cons ⟨_,_,pf Tryz.func25 (by rfl),by kernel_rfl,rfl,Tryz.func25,by kernel_rfl⟩ <|
  all_cons ⟨_,_,pf Tryz.func28 (by rfl),by kernel_rfl,rfl,Tryz.func28,by kernel_rfl⟩ <|
  all_cons ⟨_,_,pf Tryz.func29 (by rfl),by kernel_rfl,rfl,Tryz.func29,by kernel_rfl⟩ <|
  all_cons ⟨_,_,pf Tryz.func66 (by rfl),by kernel_rfl,rfl,Tryz.func66,by kernel_rfl⟩ <|
  all_cons ⟨_,_,pf Tryz.func70 (by rfl),by kernel_rfl,rfl,Tryz.func70,by kernel_rfl⟩ <|
  all_cons ⟨_,_,pf Tryz.func30 (by rfl),by kernel_rfl,rfl,Tryz.func30,by kernel_rfl⟩ <|
  all_cons ⟨_,_,pf Tryz.func71 (by rfl),by kernel_rfl,rfl,Tryz.func71,by kernel_rfl⟩ <|
  all_cons ⟨_,_,pf Tryz.func72 (by rfl),by kernel_rfl,rfl,Tryz.func72,by kernel_rfl⟩ <|
  all_cons ⟨_,_,pf Tryz.func14 (by rfl),by kernel_rfl,rfl,Tryz.func14,by kernel_rfl⟩ <|
  all_cons ⟨_,_,pf Tryz.func15 (by rfl),by kernel_rfl,rfl,Tryz.func15,by kernel_rfl⟩ <|
  all_cons ⟨_,_,pf Tryz.func16 (by rfl),by kernel_rfl,rfl,Tryz.func16,by kernel_rfl⟩ <|
  all_cons ⟨_,_,pf Tryz.func17 (by rfl),by kernel_rfl,rfl,Tryz.func17,by kernel_rfl⟩ <|
  all_cons ⟨_,_,pf Tryz.func10 (by rfl),by kernel_rfl,rfl,Tryz.func10,by kernel_rfl⟩ <|
  all_cons ⟨_,_,pf Tryz.func62 (by rfl),by kernel_rfl,rfl,Tryz.func62,by kernel_rfl⟩ <|
  all_cons ⟨_,_,pf Tryz.func19 (by rfl),by kernel_rfl,rfl,Tryz.func19,by kernel_rfl⟩ <|
  all_cons ⟨_,_,pf Tryz.func59 (by rfl),by kernel_rfl,rfl,Tryz.func59,by kernel_rfl⟩ <|
  all_cons ⟨_,_,pf Tryz.func140 (by rfl),by kernel_rfl,rfl,Tryz.func140,by kernel_rfl⟩ <|
  all_cons ⟨_,_,pf Tryz.func108 (by rfl),by kernel_rfl,rfl,Tryz.func108,by kernel_rfl⟩ <|
  all_cons ⟨_,_,pf Tryz.func56 (by rfl),by kernel_rfl,rfl,Tryz.func56,by kernel_rfl⟩ <|
  all_cons ⟨_,_,pf Tryz.func60 (by rfl),by kernel_rfl,rfl,Tryz.func60,by kernel_rfl⟩ <|
  all_cons ⟨_,_,pf Tryz.func61 (by rfl),by kernel_rfl,rfl,Tryz.func61,by kernel_rfl⟩ <|
  all_cons ⟨_,_,pf Tryz.func142 (by rfl),by kernel_rfl,rfl,Tryz.func142,by kernel_rfl⟩ <|
  all_cons ⟨_,_,pf Tryz.func143 (by rfl),by kernel_rfl,rfl,Tryz.func143,by kernel_rfl⟩ <|
  all_cons ⟨_,_,pf Tryz.func144 (by rfl),by kernel_rfl,rfl,Tryz.func144,by kernel_rfl⟩ <|
  all_cons ⟨_,_,pf Tryz.func26 (by rfl),by kernel_rfl,rfl,Tryz.func26,by kernel_rfl⟩ <|
  all_cons ⟨_,_,pf Tryz.func27 (by rfl),by kernel_rfl,rfl,Tryz.func27,by kernel_rfl⟩ <|
  all_cons ⟨_,_,pf Tryz.func31 (by rfl),by kernel_rfl,rfl,Tryz.func31,by kernel_rfl⟩ <|
  all_cons ⟨_,_,pf Tryz.func32 (by rfl),by kernel_rfl,rfl,Tryz.func32,by kernel_rfl⟩ <|
  all_cons ⟨_,_,pf Tryz.func33 (by rfl),by kernel_rfl,rfl,Tryz.func33,by kernel_rfl⟩ <|
  all_cons ⟨_,_,pf Tryz.func34 (by rfl),by kernel_rfl,rfl,Tryz.func34,by kernel_rfl⟩ <|
  all_cons ⟨_,_,pf Tryz.func35 (by rfl),by kernel_rfl,rfl,Tryz.func35,by kernel_rfl⟩ <|
  all_cons ⟨_,_,pf Tryz.func36 (by rfl),by kernel_rfl,rfl,Tryz.func36,by kernel_rfl⟩ <|
  all_cons ⟨_,_,pf Tryz.func37 (by rfl),by kernel_rfl,rfl,Tryz.func37,by kernel_rfl⟩ <|
  all_cons ⟨_,_,pf Tryz.func42 (by rfl),by kernel_rfl,rfl,Tryz.func42,by kernel_rfl⟩ <|
  all_cons ⟨_,_,pf Tryz.func43 (by rfl),by kernel_rfl,rfl,Tryz.func43,by kernel_rfl⟩ <|
  all_cons ⟨_,_,pf Tryz.func44 (by rfl),by kernel_rfl,rfl,Tryz.func44,by kernel_rfl⟩ <|
  all_cons ⟨_,_,pf Tryz.func23 (by rfl),by kernel_rfl,rfl,Tryz.func23,by kernel_rfl⟩ <|
  all_cons ⟨_,_,pf Tryz.func139 (by rfl),by kernel_rfl,rfl,Tryz.func139,by kernel_rfl⟩ <|
  all_cons ⟨_,_,pf Tryz.func50 (by rfl),by kernel_rfl,rfl,Tryz.func50,by kernel_rfl⟩ <|
  all_cons ⟨_,_,pf Tryz.func45 (by rfl),by kernel_rfl,rfl,Tryz.func45,by kernel_rfl⟩ <|
  all_cons ⟨_,_,pf Tryz.func46 (by rfl),by kernel_rfl,rfl,Tryz.func46,by kernel_rfl⟩ <|
  all_cons ⟨_,_,pf Tryz.func100 (by rfl),by kernel_rfl,rfl,Tryz.func100,by kernel_rfl⟩ <|
  all_cons ⟨_,_,pf Tryz.func127 (by rfl),by kernel_rfl,rfl,Tryz.func127,by kernel_rfl⟩ <|
  all_cons ⟨_,_,pf Tryz.func55 (by rfl),by kernel_rfl,rfl,Tryz.func55,by kernel_rfl⟩ <|
  all_cons ⟨_,_,pf Tryz.func128 (by rfl),by kernel_rfl,rfl,Tryz.func128,by kernel_rfl⟩ <|
  all_cons ⟨_,_,pf Tryz.func129 (by rfl),by kernel_rfl,rfl,Tryz.func129,by kernel_rfl⟩ <|
  all_cons ⟨_,_,pf Tryz.func138 (by rfl),by kernel_rfl,rfl,Tryz.func138,by kernel_rfl⟩ <|
  all_cons ⟨_,_,pf Tryz.func146 (by rfl),by kernel_rfl,rfl,Tryz.func146,by kernel_rfl⟩ <|
  all_cons ⟨_,_,pf Tryz.func63 (by rfl),by kernel_rfl,rfl,Tryz.func63,by kernel_rfl⟩ <|
  all_cons ⟨_,_,pf Tryz.func64 (by rfl),by kernel_rfl,rfl,Tryz.func64,by kernel_rfl⟩ <|
  all_cons ⟨_,_,pf Tryz.func65 (by rfl),by kernel_rfl,rfl,Tryz.func65,by kernel_rfl⟩ <|
  all_cons ⟨_,_,pf Tryz.func67 (by rfl),by kernel_rfl,rfl,Tryz.func67,by kernel_rfl⟩ <|
  all_cons ⟨_,_,pf Tryz.func68 (by rfl),by kernel_rfl,rfl,Tryz.func68,by kernel_rfl⟩ <|
  all_cons ⟨_,_,pf Tryz.func69 (by rfl),by kernel_rfl,rfl,Tryz.func69,by kernel_rfl⟩ <|
  all_cons ⟨_,_,pf Tryz.func73 (by rfl),by kernel_rfl,rfl,Tryz.func73,by kernel_rfl⟩ <|
  all_cons ⟨_,_,pf Tryz.func74 (by rfl),by kernel_rfl,rfl,Tryz.func74,by kernel_rfl⟩ <|
  all_cons ⟨_,_,pf Tryz.func75 (by rfl),by kernel_rfl,rfl,Tryz.func75,by kernel_rfl⟩ <|
  all_cons ⟨_,_,pf Tryz.func76 (by rfl),by kernel_rfl,rfl,Tryz.func76,by kernel_rfl⟩ <|
  all_cons ⟨_,_,pf Tryz.func77 (by rfl),by kernel_rfl,rfl,Tryz.func77,by kernel_rfl⟩ <|
  all_cons ⟨_,_,pf Tryz.func78 (by rfl),by kernel_rfl,rfl,Tryz.func78,by kernel_rfl⟩ <|
  all_cons ⟨_,_,pf Tryz.func79 (by rfl),by kernel_rfl,rfl,Tryz.func79,by kernel_rfl⟩ <|
  all_cons ⟨_,_,pf Tryz.func80 (by rfl),by kernel_rfl,rfl,Tryz.func80,by kernel_rfl⟩ <|
  all_cons ⟨_,_,pf Tryz.func81 (by rfl),by kernel_rfl,rfl,Tryz.func81,by kernel_rfl⟩ <|
  all_cons ⟨_,_,pf Tryz.func82 (by rfl),by kernel_rfl,rfl,Tryz.func82,by kernel_rfl⟩ <|
  all_cons ⟨_,_,pf Tryz.func93 (by rfl),by kernel_rfl,rfl,Tryz.func93,by kernel_rfl⟩ <|
  all_cons ⟨_,_,pf Tryz.func94 (by rfl),by kernel_rfl,rfl,Tryz.func94,by kernel_rfl⟩ <|
  all_cons ⟨_,_,pf Tryz.func95 (by rfl),by kernel_rfl,rfl,Tryz.func95,by kernel_rfl⟩ <|
  all_cons ⟨_,_,pf Tryz.func96 (by rfl),by kernel_rfl,rfl,Tryz.func96,by kernel_rfl⟩ <|
  all_cons ⟨_,_,pf Tryz.func198 (by rfl),by kernel_rfl,rfl,Tryz.func198,by kernel_rfl⟩ <|
  all_cons ⟨_,_,pf Tryz.func110 (by rfl),by kernel_rfl,rfl,Tryz.func110,by kernel_rfl⟩ <|
  all_cons ⟨_,_,pf Tryz.func111 (by rfl),by kernel_rfl,rfl,Tryz.func111,by kernel_rfl⟩ <|
  all_cons ⟨_,_,pf Tryz.func97 (by rfl),by kernel_rfl,rfl,Tryz.func97,by kernel_rfl⟩ <|
  all_cons ⟨_,_,pf Tryz.func98 (by rfl),by kernel_rfl,rfl,Tryz.func98,by kernel_rfl⟩ <|
  all_cons ⟨_,_,pf Tryz.func99 (by rfl),by kernel_rfl,rfl,Tryz.func99,by kernel_rfl⟩ <|
  all_cons ⟨_,_,pf Tryz.func226 (by rfl),by kernel_rfl,rfl,Tryz.func226,by kernel_rfl⟩ <|
  all_cons ⟨_,_,pf Tryz.func191 (by rfl),by kernel_rfl,rfl,Tryz.func191,by kernel_rfl⟩ <|
  all_cons ⟨_,_,pf Tryz.func126 (by rfl),by kernel_rfl,rfl,Tryz.func126,by kernel_rfl⟩ <|
  all_cons ⟨_,_,pf Tryz.func192 (by rfl),by kernel_rfl,rfl,Tryz.func192,by kernel_rfl⟩ <|
  all_cons ⟨_,_,pf Tryz.func193 (by rfl),by kernel_rfl,rfl,Tryz.func193,by kernel_rfl⟩ <|
  all_cons ⟨_,_,pf Tryz.func190 (by rfl),by kernel_rfl,rfl,Tryz.func190,by kernel_rfl⟩ <|
  all_cons ⟨_,_,pf Tryz.func194 (by rfl),by kernel_rfl,rfl,Tryz.func194,by kernel_rfl⟩ <|
  all_cons ⟨_,_,pf Tryz.func141 (by rfl),by kernel_rfl,rfl,Tryz.func141,by kernel_rfl⟩ <|
  all_cons ⟨_,_,pf Tryz.func145 (by rfl),by kernel_rfl,rfl,Tryz.func145,by kernel_rfl⟩ <|
  all_cons ⟨_,_,pf Tryz.func168 (by rfl),by kernel_rfl,rfl,Tryz.func168,by kernel_rfl⟩ <|
  all_cons ⟨_,_,pf Tryz.func169 (by rfl),by kernel_rfl,rfl,Tryz.func169,by kernel_rfl⟩ <|
  all_cons ⟨_,_,pf Tryz.func185 (by rfl),by kernel_rfl,rfl,Tryz.func185,by kernel_rfl⟩ <|
  all_cons ⟨_,_,pf Tryz.func170 (by rfl),by kernel_rfl,rfl,Tryz.func170,by kernel_rfl⟩ <|
  all_cons ⟨_,_,pf Tryz.func171 (by rfl),by kernel_rfl,rfl,Tryz.func171,by kernel_rfl⟩ <|
  all_cons ⟨_,_,pf Tryz.func225 (by rfl),by kernel_rfl,rfl,Tryz.func225,by kernel_rfl⟩ <|
  all_cons ⟨_,_,pf Tryz.func199 (by rfl),by kernel_rfl,rfl,Tryz.func199,by kernel_rfl⟩ <|
  all_cons ⟨_,_,pf Tryz.func206 (by rfl),by kernel_rfl,rfl,Tryz.func206,by kernel_rfl⟩ <|
  all_nil
theorem pS {g:Nat} {f:Func} (h:Tryz.prog.funcs[g]? = some f) (hg:(g == 22) = false ∧ (g == 52) = false ∧ shutL.contains g = true):(patch shutL Tryz.prog).funcs[g]? = some (shut f):=by
  rw [patch_func shutL Tryz.prog h]
  unfold swap
  simp only [beq_eq_false_iff_ne] at hg
  rw [if_neg hg.1,if_neg hg.2.1,if_pos hg.2.2]
theorem psD:∀ g ∈ 22 :: lS,PS (patch shutL Tryz.prog) Tryz.prog g :=
  all_cons ⟨_,_,_,pjudge,by kernel_rfl,judge_lone,fn_judge,nameJ,by rw [judge_code]; rfl⟩ <|
  all_cons ⟨_,_,_,pS Tryz.func40 ⟨rfl,rfl,rfl⟩,by kernel_rfl,rfl,Tryz.func40,by kernel_rfl,by kernel_rfl⟩ <|
  all_cons ⟨_,_,_,pS Tryz.func38 ⟨rfl,rfl,rfl⟩,by kernel_rfl,rfl,Tryz.func38,by kernel_rfl,by kernel_rfl⟩ <|
  all_cons ⟨_,_,_,pS Tryz.func39 ⟨rfl,rfl,rfl⟩,by kernel_rfl,rfl,Tryz.func39,by kernel_rfl,by kernel_rfl⟩ <|
  all_cons ⟨_,_,_,pS Tryz.func41 ⟨rfl,rfl,rfl⟩,by kernel_rfl,rfl,Tryz.func41,by kernel_rfl,by kernel_rfl⟩ <|
  all_nil
theorem plainD:PlainBodies cfgD (patch shutL Tryz.prog) Tryz.prog :=
  PlainBodies.of cfgD_ok (fun g hg=>of_decide_eq_true (show decide (g ∈ lD ++ (22 :: lS)) = true by
    simp only [valList,List.mem_cons,List.not_mem_nil,or_false] at hg
    rcases hg with rfl | rfl <;> kernel_rfl)) lD (fun g=>List.mem_append) (fun g hg hl=>by
    have h1:((22 :: lS).all fun g=>!lD.contains g) = true:=by kernel_rfl
    have:=List.all_eq_true.1 h1 g hg
    simp [hl] at this) (fun g hg e=>by
    have e':g = 3:=e
    subst e'
    exact absurd hg (of_decide_eq_true (show decide (¬ 3 ∈ lD) = true by kernel_rfl))) pbD psD
end Go.Proofs.YtojoafcnijajmaaGreatDoor

namespace Go.Proofs.YtojoafcnijajmaaGreatDoor
open Go Go.Conc
theorem all_app {p:Nat → Prop} {l m:List Nat} (h:∀ g ∈ l,p g) (k:∀ g ∈ m,p g):∀ g ∈ l ++ m,p g:=fun g hg=>(List.mem_append.1 hg).elim (h g) (k g)
theorem pbA1:∀ g ∈ 3 :: lD,PB cfgA (patch shutL Tryz.prog) (patch shutL Tryz.prog) g :=
  all_cons ⟨_,_,pf Tryz.func3 (by rfl),by kernel_rfl,rfl,pf Tryz.func3 (by rfl),by kernel_rfl⟩ <|
  all_cons ⟨_,_,pf Tryz.func5 (by rfl),by kernel_rfl,rfl,pf Tryz.func5 (by rfl),by kernel_rfl⟩ <|
  all_cons ⟨_,_,pf Tryz.func25 (by rfl),by kernel_rfl,rfl,pf Tryz.func25 (by rfl),by kernel_rfl⟩ <|
  all_cons ⟨_,_,pf Tryz.func28 (by rfl),by kernel_rfl,rfl,pf Tryz.func28 (by rfl),by kernel_rfl⟩ <|
  all_cons ⟨_,_,pf Tryz.func29 (by rfl),by kernel_rfl,rfl,pf Tryz.func29 (by rfl),by kernel_rfl⟩ <|
  all_cons ⟨_,_,pf Tryz.func66 (by rfl),by kernel_rfl,rfl,pf Tryz.func66 (by rfl),by kernel_rfl⟩ <|
  all_cons ⟨_,_,pf Tryz.func70 (by rfl),by kernel_rfl,rfl,pf Tryz.func70 (by rfl),by kernel_rfl⟩ <|
  all_cons ⟨_,_,pf Tryz.func30 (by rfl),by kernel_rfl,rfl,pf Tryz.func30 (by rfl),by kernel_rfl⟩ <|
  all_cons ⟨_,_,pf Tryz.func71 (by rfl),by kernel_rfl,rfl,pf Tryz.func71 (by rfl),by kernel_rfl⟩ <|
  all_cons ⟨_,_,pf Tryz.func72 (by rfl),by kernel_rfl,rfl,pf Tryz.func72 (by rfl),by kernel_rfl⟩ <|
  all_cons ⟨_,_,pf Tryz.func14 (by rfl),by kernel_rfl,rfl,pf Tryz.func14 (by rfl),by kernel_rfl⟩ <|
  all_cons ⟨_,_,pf Tryz.func15 (by rfl),by kernel_rfl,rfl,pf Tryz.func15 (by rfl),by kernel_rfl⟩ <|
  all_cons ⟨_,_,pf Tryz.func16 (by rfl),by kernel_rfl,rfl,pf Tryz.func16 (by rfl),by kernel_rfl⟩ <|
  all_cons ⟨_,_,pf Tryz.func17 (by rfl),by kernel_rfl,rfl,pf Tryz.func17 (by rfl),by kernel_rfl⟩ <|
  all_cons ⟨_,_,pf Tryz.func10 (by rfl),by kernel_rfl,rfl,pf Tryz.func10 (by rfl),by kernel_rfl⟩ <|
  all_cons ⟨_,_,pf Tryz.func62 (by rfl),by kernel_rfl,rfl,pf Tryz.func62 (by rfl),by kernel_rfl⟩ <|
  all_cons ⟨_,_,pf Tryz.func19 (by rfl),by kernel_rfl,rfl,pf Tryz.func19 (by rfl),by kernel_rfl⟩ <|
  all_cons ⟨_,_,pf Tryz.func59 (by rfl),by kernel_rfl,rfl,pf Tryz.func59 (by rfl),by kernel_rfl⟩ <|
  all_cons ⟨_,_,pf Tryz.func140 (by rfl),by kernel_rfl,rfl,pf Tryz.func140 (by rfl),by kernel_rfl⟩ <|
  all_cons ⟨_,_,pf Tryz.func108 (by rfl),by kernel_rfl,rfl,pf Tryz.func108 (by rfl),by kernel_rfl⟩ <|
  all_cons ⟨_,_,pf Tryz.func56 (by rfl),by kernel_rfl,rfl,pf Tryz.func56 (by rfl),by kernel_rfl⟩ <|
  all_cons ⟨_,_,pf Tryz.func60 (by rfl),by kernel_rfl,rfl,pf Tryz.func60 (by rfl),by kernel_rfl⟩ <|
  all_cons ⟨_,_,pf Tryz.func61 (by rfl),by kernel_rfl,rfl,pf Tryz.func61 (by rfl),by kernel_rfl⟩ <|
  all_cons ⟨_,_,pf Tryz.func142 (by rfl),by kernel_rfl,rfl,pf Tryz.func142 (by rfl),by kernel_rfl⟩ <|
  all_cons ⟨_,_,pf Tryz.func143 (by rfl),by kernel_rfl,rfl,pf Tryz.func143 (by rfl),by kernel_rfl⟩ <|
  all_cons ⟨_,_,pf Tryz.func144 (by rfl),by kernel_rfl,rfl,pf Tryz.func144 (by rfl),by kernel_rfl⟩ <|
  all_cons ⟨_,_,pf Tryz.func26 (by rfl),by kernel_rfl,rfl,pf Tryz.func26 (by rfl),by kernel_rfl⟩ <|
  all_cons ⟨_,_,pf Tryz.func27 (by rfl),by kernel_rfl,rfl,pf Tryz.func27 (by rfl),by kernel_rfl⟩ <|
  all_cons ⟨_,_,pf Tryz.func31 (by rfl),by kernel_rfl,rfl,pf Tryz.func31 (by rfl),by kernel_rfl⟩ <|
  all_cons ⟨_,_,pf Tryz.func32 (by rfl),by kernel_rfl,rfl,pf Tryz.func32 (by rfl),by kernel_rfl⟩ <|
  all_cons ⟨_,_,pf Tryz.func33 (by rfl),by kernel_rfl,rfl,pf Tryz.func33 (by rfl),by kernel_rfl⟩ <|
  all_cons ⟨_,_,pf Tryz.func34 (by rfl),by kernel_rfl,rfl,pf Tryz.func34 (by rfl),by kernel_rfl⟩ <|
  all_cons ⟨_,_,pf Tryz.func35 (by rfl),by kernel_rfl,rfl,pf Tryz.func35 (by rfl),by kernel_rfl⟩ <|
  all_cons ⟨_,_,pf Tryz.func36 (by rfl),by kernel_rfl,rfl,pf Tryz.func36 (by rfl),by kernel_rfl⟩ <|
  all_cons ⟨_,_,pf Tryz.func37 (by rfl),by kernel_rfl,rfl,pf Tryz.func37 (by rfl),by kernel_rfl⟩ <|
  all_cons ⟨_,_,pf Tryz.func42 (by rfl),by kernel_rfl,rfl,pf Tryz.func42 (by rfl),by kernel_rfl⟩ <|
  all_cons ⟨_,_,pf Tryz.func43 (by rfl),by kernel_rfl,rfl,pf Tryz.func43 (by rfl),by kernel_rfl⟩ <|
  all_cons ⟨_,_,pf Tryz.func44 (by rfl),by kernel_rfl,rfl,pf Tryz.func44 (by rfl),by kernel_rfl⟩ <|
  all_cons ⟨_,_,pf Tryz.func23 (by rfl),by kernel_rfl,rfl,pf Tryz.func23 (by rfl),by kernel_rfl⟩ <|
  all_cons ⟨_,_,pf Tryz.func139 (by rfl),by kernel_rfl,rfl,pf Tryz.func139 (by rfl),by kernel_rfl⟩ <|
  all_cons ⟨_,_,pf Tryz.func50 (by rfl),by kernel_rfl,rfl,pf Tryz.func50 (by rfl),by kernel_rfl⟩ <|
  all_cons ⟨_,_,pf Tryz.func45 (by rfl),by kernel_rfl,rfl,pf Tryz.func45 (by rfl),by kernel_rfl⟩ <|
  all_cons ⟨_,_,pf Tryz.func46 (by rfl),by kernel_rfl,rfl,pf Tryz.func46 (by rfl),by kernel_rfl⟩ <|
  all_cons ⟨_,_,pf Tryz.func100 (by rfl),by kernel_rfl,rfl,pf Tryz.func100 (by rfl),by kernel_rfl⟩ <|
  all_cons ⟨_,_,pf Tryz.func127 (by rfl),by kernel_rfl,rfl,pf Tryz.func127 (by rfl),by kernel_rfl⟩ <|
  all_cons ⟨_,_,pf Tryz.func55 (by rfl),by kernel_rfl,rfl,pf Tryz.func55 (by rfl),by kernel_rfl⟩ <|
  all_cons ⟨_,_,pf Tryz.func128 (by rfl),by kernel_rfl,rfl,pf Tryz.func128 (by rfl),by kernel_rfl⟩ <|
  all_cons ⟨_,_,pf Tryz.func129 (by rfl),by kernel_rfl,rfl,pf Tryz.func129 (by rfl),by kernel_rfl⟩ <|
  all_cons ⟨_,_,pf Tryz.func138 (by rfl),by kernel_rfl,rfl,pf Tryz.func138 (by rfl),by kernel_rfl⟩ <|
  all_cons ⟨_,_,pf Tryz.func146 (by rfl),by kernel_rfl,rfl,pf Tryz.func146 (by rfl),by kernel_rfl⟩ <|
  all_cons ⟨_,_,pf Tryz.func63 (by rfl),by kernel_rfl,rfl,pf Tryz.func63 (by rfl),by kernel_rfl⟩ <|
  all_cons ⟨_,_,pf Tryz.func64 (by rfl),by kernel_rfl,rfl,pf Tryz.func64 (by rfl),by kernel_rfl⟩ <|
  all_cons ⟨_,_,pf Tryz.func65 (by rfl),by kernel_rfl,rfl,pf Tryz.func65 (by rfl),by kernel_rfl⟩ <|
  all_cons ⟨_,_,pf Tryz.func67 (by rfl),by kernel_rfl,rfl,pf Tryz.func67 (by rfl),by kernel_rfl⟩ <|
  all_cons ⟨_,_,pf Tryz.func68 (by rfl),by kernel_rfl,rfl,pf Tryz.func68 (by rfl),by kernel_rfl⟩ <|
  all_cons ⟨_,_,pf Tryz.func69 (by rfl),by kernel_rfl,rfl,pf Tryz.func69 (by rfl),by kernel_rfl⟩ <|
  all_cons ⟨_,_,pf Tryz.func73 (by rfl),by kernel_rfl,rfl,pf Tryz.func73 (by rfl),by kernel_rfl⟩ <|
  all_cons ⟨_,_,pf Tryz.func74 (by rfl),by kernel_rfl,rfl,pf Tryz.func74 (by rfl),by kernel_rfl⟩ <|
  all_cons ⟨_,_,pf Tryz.func75 (by rfl),by kernel_rfl,rfl,pf Tryz.func75 (by rfl),by kernel_rfl⟩ <|
  all_cons ⟨_,_,pf Tryz.func76 (by rfl),by kernel_rfl,rfl,pf Tryz.func76 (by rfl),by kernel_rfl⟩ <|
  all_cons ⟨_,_,pf Tryz.func77 (by rfl),by kernel_rfl,rfl,pf Tryz.func77 (by rfl),by kernel_rfl⟩ <|
  all_cons ⟨_,_,pf Tryz.func78 (by rfl),by kernel_rfl,rfl,pf Tryz.func78 (by rfl),by kernel_rfl⟩ <|
  all_cons ⟨_,_,pf Tryz.func79 (by rfl),by kernel_rfl,rfl,pf Tryz.func79 (by rfl),by kernel_rfl⟩ <|
  all_cons ⟨_,_,pf Tryz.func80 (by rfl),by kernel_rfl,rfl,pf Tryz.func80 (by rfl),by kernel_rfl⟩ <|
  all_cons ⟨_,_,pf Tryz.func81 (by rfl),by kernel_rfl,rfl,pf Tryz.func81 (by rfl),by kernel_rfl⟩ <|
  all_cons ⟨_,_,pf Tryz.func82 (by rfl),by kernel_rfl,rfl,pf Tryz.func82 (by rfl),by kernel_rfl⟩ <|
  all_cons ⟨_,_,pf Tryz.func93 (by rfl),by kernel_rfl,rfl,pf Tryz.func93 (by rfl),by kernel_rfl⟩ <|
  all_cons ⟨_,_,pf Tryz.func94 (by rfl),by kernel_rfl,rfl,pf Tryz.func94 (by rfl),by kernel_rfl⟩ <|
  all_cons ⟨_,_,pf Tryz.func95 (by rfl),by kernel_rfl,rfl,pf Tryz.func95 (by rfl),by kernel_rfl⟩ <|
  all_cons ⟨_,_,pf Tryz.func96 (by rfl),by kernel_rfl,rfl,pf Tryz.func96 (by rfl),by kernel_rfl⟩ <|
  all_cons ⟨_,_,pf Tryz.func198 (by rfl),by kernel_rfl,rfl,pf Tryz.func198 (by rfl),by kernel_rfl⟩ <|
  all_cons ⟨_,_,pf Tryz.func110 (by rfl),by kernel_rfl,rfl,pf Tryz.func110 (by rfl),by kernel_rfl⟩ <|
  all_cons ⟨_,_,pf Tryz.func111 (by rfl),by kernel_rfl,rfl,pf Tryz.func111 (by rfl),by kernel_rfl⟩ <|
  all_cons ⟨_,_,pf Tryz.func97 (by rfl),by kernel_rfl,rfl,pf Tryz.func97 (by rfl),by kernel_rfl⟩ <|
  all_cons ⟨_,_,pf Tryz.func98 (by rfl),by kernel_rfl,rfl,pf Tryz.func98 (by rfl),by kernel_rfl⟩ <|
  all_cons ⟨_,_,pf Tryz.func99 (by rfl),by kernel_rfl,rfl,pf Tryz.func99 (by rfl),by kernel_rfl⟩ <|
  all_cons ⟨_,_,pf Tryz.func226 (by rfl),by kernel_rfl,rfl,pf Tryz.func226 (by rfl),by kernel_rfl⟩ <|
  all_cons ⟨_,_,pf Tryz.func191 (by rfl),by kernel_rfl,rfl,pf Tryz.func191 (by rfl),by kernel_rfl⟩ <|
  all_cons ⟨_,_,pf Tryz.func126 (by rfl),by kernel_rfl,rfl,pf Tryz.func126 (by rfl),by kernel_rfl⟩ <|
  all_cons ⟨_,_,pf Tryz.func192 (by rfl),by kernel_rfl,rfl,pf Tryz.func192 (by rfl),by kernel_rfl⟩ <|
  all_cons ⟨_,_,pf Tryz.func193 (by rfl),by kernel_rfl,rfl,pf Tryz.func193 (by rfl),by kernel_rfl⟩ <|
  all_cons ⟨_,_,pf Tryz.func190 (by rfl),by kernel_rfl,rfl,pf Tryz.func190 (by rfl),by kernel_rfl⟩ <|
  all_cons ⟨_,_,pf Tryz.func194 (by rfl),by kernel_rfl,rfl,pf Tryz.func194 (by rfl),by kernel_rfl⟩ <|
  all_cons ⟨_,_,pf Tryz.func141 (by rfl),by kernel_rfl,rfl,pf Tryz.func141 (by rfl),by kernel_rfl⟩ <|
  all_cons ⟨_,_,pf Tryz.func145 (by rfl),by kernel_rfl,rfl,pf Tryz.func145 (by rfl),by kernel_rfl⟩ <|
  all_cons ⟨_,_,pf Tryz.func168 (by rfl),by kernel_rfl,rfl,pf Tryz.func168 (by rfl),by kernel_rfl⟩ <|
  all_cons ⟨_,_,pf Tryz.func169 (by rfl),by kernel_rfl,rfl,pf Tryz.func169 (by rfl),by kernel_rfl⟩ <|
  all_cons ⟨_,_,pf Tryz.func185 (by rfl),by kernel_rfl,rfl,pf Tryz.func185 (by rfl),by kernel_rfl⟩ <|
  all_cons ⟨_,_,pf Tryz.func170 (by rfl),by kernel_rfl,rfl,pf Tryz.func170 (by rfl),by kernel_rfl⟩ <|
  all_cons ⟨_,_,pf Tryz.func171 (by rfl),by kernel_rfl,rfl,pf Tryz.func171 (by rfl),by kernel_rfl⟩ <|
  all_cons ⟨_,_,pf Tryz.func225 (by rfl),by kernel_rfl,rfl,pf Tryz.func225 (by rfl),by kernel_rfl⟩ <|
  all_cons ⟨_,_,pf Tryz.func199 (by rfl),by kernel_rfl,rfl,pf Tryz.func199 (by rfl),by kernel_rfl⟩ <|
  all_cons ⟨_,_,pf Tryz.func206 (by rfl),by kernel_rfl,rfl,pf Tryz.func206 (by rfl),by kernel_rfl⟩ <|
  all_nil
theorem pbA2:∀ g ∈ lW,PB cfgA (patch shutL Tryz.prog) (patch shutL Tryz.prog) g :=
  all_cons ⟨_,_,pjudge,by kernel_rfl,judge_lone,pjudge,by kernel_rfl⟩ <|
  all_cons ⟨_,_,pworker,by kernel_rfl,worker_lone,pworker,by kernel_rfl⟩ <|
  all_cons ⟨_,_,pf Tryz.func54 (by rfl),by kernel_rfl,rfl,pf Tryz.func54 (by rfl),by kernel_rfl⟩ <|
  all_cons ⟨_,_,pf Tryz.func57 (by rfl),by kernel_rfl,rfl,pf Tryz.func57 (by rfl),by kernel_rfl⟩ <|
  all_cons ⟨_,_,pf Tryz.func125 (by rfl),by kernel_rfl,rfl,pf Tryz.func125 (by rfl),by kernel_rfl⟩ <|
  all_cons ⟨_,_,pf Tryz.func130 (by rfl),by kernel_rfl,rfl,pf Tryz.func130 (by rfl),by kernel_rfl⟩ <|
  all_cons ⟨_,_,pf Tryz.func131 (by rfl),by kernel_rfl,rfl,pf Tryz.func131 (by rfl),by kernel_rfl⟩ <|
  all_cons ⟨_,_,pf Tryz.func132 (by rfl),by kernel_rfl,rfl,pf Tryz.func132 (by rfl),by kernel_rfl⟩ <|
  all_cons ⟨_,_,pf Tryz.func195 (by rfl),by kernel_rfl,rfl,pf Tryz.func195 (by rfl),by kernel_rfl⟩ <|
  all_cons ⟨_,_,pf Tryz.func196 (by rfl),by kernel_rfl,rfl,pf Tryz.func196 (by rfl),by kernel_rfl⟩ <|
  all_cons ⟨_,_,pf Tryz.func227 (by rfl),by kernel_rfl,rfl,pf Tryz.func227 (by rfl),by kernel_rfl⟩ <|
  all_cons ⟨_,_,pf Tryz.func251 (by rfl),by kernel_rfl,rfl,pf Tryz.func251 (by rfl),by kernel_rfl⟩ <|
  all_cons ⟨_,_,pf Tryz.func252 (by rfl),by kernel_rfl,rfl,pf Tryz.func252 (by rfl),by kernel_rfl⟩ <|
  all_nil
theorem pbA3:∀ g ∈ lS,PB cfgA (patch shutL Tryz.prog) (patch shutL Tryz.prog) g :=
  all_cons ⟨_,_,pS Tryz.func40 ⟨rfl,rfl,rfl⟩,by kernel_rfl,rfl,pS Tryz.func40 ⟨rfl,rfl,rfl⟩,by kernel_rfl⟩ <|
  all_cons ⟨_,_,pS Tryz.func38 ⟨rfl,rfl,rfl⟩,by kernel_rfl,rfl,pS Tryz.func38 ⟨rfl,rfl,rfl⟩,by kernel_rfl⟩ <|
  all_cons ⟨_,_,pS Tryz.func39 ⟨rfl,rfl,rfl⟩,by kernel_rfl,rfl,pS Tryz.func39 ⟨rfl,rfl,rfl⟩,by kernel_rfl⟩ <|
  all_cons ⟨_,_,pS Tryz.func41 ⟨rfl,rfl,rfl⟩,by kernel_rfl,rfl,pS Tryz.func41 ⟨rfl,rfl,rfl⟩,by kernel_rfl⟩ <|
  all_nil
theorem psA:∀ g ∈ [417,418],PS (patch shutL Tryz.prog) (patch shutL Tryz.prog) g :=
  all_cons ⟨_,_,_,pal shutL,by kernel_rfl,rfl,pal shutL,by kernel_rfl,rfl⟩ <|
  all_cons ⟨_,_,_,pal2 shutL,by kernel_rfl,rfl,pal2 shutL,by kernel_rfl,rfl⟩ <|
  all_nil
theorem plainA:PlainBodies cfgA (patch shutL Tryz.prog) (patch shutL Tryz.prog) :=
  PlainBodies.of cfgA_ok (fun g hg=>of_decide_eq_true (show decide (g ∈ (3 :: (lD ++ (lW ++ lS))) ++ [417,418]) = true by
    simp only [valList,List.mem_cons,List.not_mem_nil,or_false] at hg
    rcases hg with rfl | rfl <;> kernel_rfl)) (3 :: (lD ++ (lW ++ lS))) (fun g=>List.mem_append) (fun g hg hl=>by
    have h1:([417,418].all fun g=>!(3 :: (lD ++ (lW ++ lS))).contains g) = true:=by kernel_rfl
    have:=List.all_eq_true.1 h1 g hg
    simp [hl] at this) (fun g hg e=>by
    have e':g = 1000000:=e
    subst e'
    exact absurd hg (of_decide_eq_true (show decide (¬ 1000000 ∈ 3 :: (lD ++ (lW ++ lS))) = true by kernel_rfl))) (show ∀ g ∈ (3 :: lD) ++ (lW ++ lS),PB cfgA (patch shutL Tryz.prog) (patch shutL Tryz.prog) g from all_app pbA1 (all_app pbA2 pbA3)) psA
end Go.Proofs.YtojoafcnijajmaaGreatDoor
