/- Part 47 of the proof. -/
import Derived.Test.YtfpaamhppamcoaaGreatDoorSp46
import Derived.Laws.IdiomArrays
import Derived.LaidMore
import Derived.LaidHandle
import Derived.Test.YtfpaamhppamcoaaGreatDoorCards
import Derived.Lib.LaidU8T
import Derived.PinnedBridge
import Derived.Stop.LaidErr
set_option linter.all false
set_option maxRecDepth 100000
namespace Go.Proofs.YtfpaamhppamcoaaGreatDoor
open Go.Proofs.Tryz
section
open Go Go.Conc
namespace Spent
def rt:Nat:=6
def lD0:List Nat:=[8,9,11,16,17,18,21,22,24,26,30,33,35,36,39,40,41,43,45,46,47,48,50,51,52,53,54,55,56,57,58,60,61,64,65,66,67,72,75,76]
def lD1:List Nat:=[77,78,79,80,81,82,83,84,85,86,87,89,90,91,93,94,95,102,117,119,126,127,128,129,130,131,132,133,134,135,136,137,138,139,140,146,148,149,150,157]
def lD2:List Nat:=[163,164,166,168,169,170,171,172,180,181,192,193,194,195,196,197,198,204,212,214,215,216,217,218,219,220,221,222,223,224,225,226,251,252,253,254,255,256,277,304]
def lD3:List Nat:=[320]
def lD:List Nat:=lD0++(lD1++(lD2++(lD3)))
def lW:List Nat:=[71,73,116,118,120]
def cfgD:iG:={fns:=lD++lSp,sp:=lSp,mark:=λ_=>false,sg:=id,root:=rt,rt:=1000000,jh:=true,dd:=[],kd:=.normal,pv:=λ_=>false,okF:=λ_ _=>True,gl:=glL,ext:=extL,hx:=[147],rx:=[309],hard:=true,sd:=false,bare:=true,bareOk:=λ_ _=>rfl}
def cfgA:iG:={fns:=(rt::(lD++(lW++lS4)))++lAl,sp:=lAl,mark:=λ_=>false,sg:=id,root:=1000000,rt:=0,jh:=false,dd:=[],kd:=.normal,pv:=λ_=>false,okF:=λ_ _=>True,gl:=glL,ext:=extL,hx:=[147],rx:=[309],hard:=true,sd:=true}
theorem cfgD_ok:j6 cfgD:=⟨λ_ _=>rfl,λ_=>rfl,λ_=>rfl,λ_=>rfl,λ_ h=>Bool.noConfusion h,λ_ _ _ _ _=>trivial,λ_ _ _ _ _ _ _ _ _=>trivial⟩
theorem cfgA_ok:j6 cfgA:=⟨λ_ _=>rfl,λ_=>rfl,λ_=>rfl,λ_=>rfl,λ_ h=>Bool.noConfusion h,λ_ _ _ _ _=>trivial,λ_ _ _ _ _ _ _ _ _=>trivial⟩
theorem pt {g:Nat}{fn:Func}(h:prog.funcs[g]? =some fn)(k:(!(g==42||g==69||g==88||ae.contains g)&&(okB cfgD (patch ae prog) g fn&&okB cfgA (patch ae prog) g fn))=true):PB cfgD (patch ae prog) prog g/\PB cfgA (patch ae prog) (patch ae prog) g:=by
 rw[ZQ,ZQ,Bool.not_eq_true']at k;exact⟨pbOf (pf h k.1) h k.2.1,pbOf (pf h k.1) (pf h k.1) k.2.2⟩
theorem pw {g:Nat}{fn:Func}(h:prog.funcs[g]? =some fn)(k:(!(g==42||g==69||g==88||ae.contains g)&&okB cfgA (patch ae prog) g fn)=true):PB cfgA (patch ae prog) (patch ae prog) g:=by
 rw[ZQ,Bool.not_eq_true']at k;exact pbOf (pf h k.1) (pf h k.1) k.2
theorem pt0:∀g∈lD0,PB cfgD (patch ae prog) prog g/\PB cfgA (patch ae prog) (patch ae prog) g:=
 all_cons (pt func8 (by kernel_rfl))<|
 all_cons (pt func9 (by kernel_rfl))<|
 all_cons (pt func11 (by kernel_rfl))<|
 all_cons (pt func16 (by kernel_rfl))<|
 all_cons (pt func17 (by kernel_rfl))<|
 all_cons (pt func18 (by kernel_rfl))<|
 all_cons (pt func21 (by kernel_rfl))<|
 all_cons (pt func22 (by kernel_rfl))<|
 all_cons (pt func24 (by kernel_rfl))<|
 all_cons (pt func26 (by kernel_rfl))<|
 all_cons (pt func30 (by kernel_rfl))<|
 all_cons (pt func33 (by kernel_rfl))<|
 all_cons (pt func35 (by kernel_rfl))<|
 all_cons (pt func36 (by kernel_rfl))<|
 all_cons (pt func39 (by kernel_rfl))<|
 all_cons (pt func40 (by kernel_rfl))<|
 all_cons (pt func41 (by kernel_rfl))<|
 all_cons (pt func43 (by kernel_rfl))<|
 all_cons (pt func45 (by kernel_rfl))<|
 all_cons (pt func46 (by kernel_rfl))<|
 all_cons (pt func47 (by kernel_rfl))<|
 all_cons (pt func48 (by kernel_rfl))<|
 all_cons (pt func50 (by kernel_rfl))<|
 all_cons (pt func51 (by kernel_rfl))<|
 all_cons (pt func52 (by kernel_rfl))<|
 all_cons (pt func53 (by kernel_rfl))<|
 all_cons (pt func54 (by kernel_rfl))<|
 all_cons (pt func55 (by kernel_rfl))<|
 all_cons (pt func56 (by kernel_rfl))<|
 all_cons (pt func57 (by kernel_rfl))<|
 all_cons (pt func58 (by kernel_rfl))<|
 all_cons (pt func60 (by kernel_rfl))<|
 all_cons (pt func61 (by kernel_rfl))<|
 all_cons (pt func64 (by kernel_rfl))<|
 all_cons (pt func65 (by kernel_rfl))<|
 all_cons (pt func66 (by kernel_rfl))<|
 all_cons (pt func67 (by kernel_rfl))<|
 all_cons (pt func72 (by kernel_rfl))<|
 all_cons (pt func75 (by kernel_rfl))<|
 all_cons (pt func76 (by kernel_rfl))<|
 all_nil
theorem pt1:∀g∈lD1,PB cfgD (patch ae prog) prog g/\PB cfgA (patch ae prog) (patch ae prog) g:=
 all_cons (pt func77 (by kernel_rfl))<|
 all_cons (pt func78 (by kernel_rfl))<|
 all_cons (pt func79 (by kernel_rfl))<|
 all_cons (pt func80 (by kernel_rfl))<|
 all_cons (pt func81 (by kernel_rfl))<|
 all_cons (pt func82 (by kernel_rfl))<|
 all_cons (pt func83 (by kernel_rfl))<|
 all_cons (pt func84 (by kernel_rfl))<|
 all_cons (pt func85 (by kernel_rfl))<|
 all_cons (pt func86 (by kernel_rfl))<|
 all_cons (pt func87 (by kernel_rfl))<|
 all_cons (pt func89 (by kernel_rfl))<|
 all_cons (pt func90 (by kernel_rfl))<|
 all_cons (pt func91 (by kernel_rfl))<|
 all_cons (pt func93 (by kernel_rfl))<|
 all_cons (pt func94 (by kernel_rfl))<|
 all_cons (pt func95 (by kernel_rfl))<|
 all_cons (pt func102 (by kernel_rfl))<|
 all_cons (pt func117 (by kernel_rfl))<|
 all_cons (pt func119 (by kernel_rfl))<|
 all_cons (pt func126 (by kernel_rfl))<|
 all_cons (pt func127 (by kernel_rfl))<|
 all_cons (pt func128 (by kernel_rfl))<|
 all_cons (pt func129 (by kernel_rfl))<|
 all_cons (pt func130 (by kernel_rfl))<|
 all_cons (pt func131 (by kernel_rfl))<|
 all_cons (pt func132 (by kernel_rfl))<|
 all_cons (pt func133 (by kernel_rfl))<|
 all_cons (pt func134 (by kernel_rfl))<|
 all_cons (pt func135 (by kernel_rfl))<|
 all_cons (pt func136 (by kernel_rfl))<|
 all_cons (pt func137 (by kernel_rfl))<|
 all_cons (pt func138 (by kernel_rfl))<|
 all_cons (pt func139 (by kernel_rfl))<|
 all_cons (pt func140 (by kernel_rfl))<|
 all_cons (pt func146 (by kernel_rfl))<|
 all_cons (pt func148 (by kernel_rfl))<|
 all_cons (pt func149 (by kernel_rfl))<|
 all_cons (pt func150 (by kernel_rfl))<|
 all_cons (pt func157 (by kernel_rfl))<|
 all_nil
theorem pt2:∀g∈lD2,PB cfgD (patch ae prog) prog g/\PB cfgA (patch ae prog) (patch ae prog) g:=
 all_cons (pt func163 (by kernel_rfl))<|
 all_cons (pt func164 (by kernel_rfl))<|
 all_cons (pt func166 (by kernel_rfl))<|
 all_cons (pt func168 (by kernel_rfl))<|
 all_cons (pt func169 (by kernel_rfl))<|
 all_cons (pt func170 (by kernel_rfl))<|
 all_cons (pt func171 (by kernel_rfl))<|
 all_cons (pt func172 (by kernel_rfl))<|
 all_cons (pt func180 (by kernel_rfl))<|
 all_cons (pt func181 (by kernel_rfl))<|
 all_cons (pt func192 (by kernel_rfl))<|
 all_cons (pt func193 (by kernel_rfl))<|
 all_cons (pt func194 (by kernel_rfl))<|
 all_cons (pt func195 (by kernel_rfl))<|
 all_cons (pt func196 (by kernel_rfl))<|
 all_cons (pt func197 (by kernel_rfl))<|
 all_cons (pt func198 (by kernel_rfl))<|
 all_cons (pt func204 (by kernel_rfl))<|
 all_cons (pt func212 (by kernel_rfl))<|
 all_cons (pt func214 (by kernel_rfl))<|
 all_cons (pt func215 (by kernel_rfl))<|
 all_cons (pt func216 (by kernel_rfl))<|
 all_cons (pt func217 (by kernel_rfl))<|
 all_cons (pt func218 (by kernel_rfl))<|
 all_cons (pt func219 (by kernel_rfl))<|
 all_cons (pt func220 (by kernel_rfl))<|
 all_cons (pt func221 (by kernel_rfl))<|
 all_cons (pt func222 (by kernel_rfl))<|
 all_cons (pt func223 (by kernel_rfl))<|
 all_cons (pt func224 (by kernel_rfl))<|
 all_cons (pt func225 (by kernel_rfl))<|
 all_cons (pt func226 (by kernel_rfl))<|
 all_cons (pt func251 (by kernel_rfl))<|
 all_cons (pt func252 (by kernel_rfl))<|
 all_cons (pt func253 (by kernel_rfl))<|
 all_cons (pt func254 (by kernel_rfl))<|
 all_cons (pt func255 (by kernel_rfl))<|
 all_cons (pt func256 (by kernel_rfl))<|
 all_cons (pt func277 (by kernel_rfl))<|
 all_cons (pt func304 (by kernel_rfl))<|
 all_nil
theorem pt3:∀g∈lD3,PB cfgD (patch ae prog) prog g/\PB cfgA (patch ae prog) (patch ae prog) g:=
 all_cons (pt func320 (by kernel_rfl))<|
 all_nil
theorem ptD:∀g∈lD,PB cfgD (patch ae prog) prog g/\PB cfgA (patch ae prog) (patch ae prog) g:=all_app pt0 (all_app pt1 (all_app pt2 (pt3)))
theorem pbD:∀g∈lD,PB cfgD (patch ae prog) prog g:=λg a=>(ptD g a).1
theorem pbW:∀g∈lW,PB cfgA (patch ae prog) (patch ae prog) g:=
 all_cons (pw func71 (by kernel_rfl))<|
 all_cons (pw func73 (by kernel_rfl))<|
 all_cons (pw func116 (by kernel_rfl))<|
 all_cons (pw func118 (by kernel_rfl))<|
 all_cons (pw func120 (by kernel_rfl))<|
 all_nil
theorem pbAS:∀g∈lS4,PB cfgA (patch ae prog) (patch ae prog) g:=
 all_cons ⟨_,_,pjudge,by kernel_rfl,jK,pjudge,by kernel_rfl⟩<|
 all_cons ⟨_,_,jq,by kernel_rfl,kr,jq,by kernel_rfl⟩<|
 all_cons ⟨_,_,ptext,by kernel_rfl,lh,ptext,by kernel_rfl⟩<|
 all_cons ⟨_,_,pS func62 ⟨rfl,rfl⟩,by kernel_rfl,rfl,pS func62 ⟨rfl,rfl⟩,by kernel_rfl⟩<|
 all_cons ⟨_,_,pS func63 ⟨rfl,rfl⟩,by kernel_rfl,rfl,pS func63 ⟨rfl,rfl⟩,by kernel_rfl⟩<|
 all_nil
theorem pbA:∀g∈rt::(lD++(lW++lS4)),PB cfgA (patch ae prog) (patch ae prog) g:=all_cons (pw func6 (by kernel_rfl)) (all_app (λg a=>(ptD g a).2) (all_app pbW pbAS))
theorem psSp:∀g∈lSp,PS (patch ae prog) prog g:=
 all_cons psJudge<|all_cons psText<|
 all_cons ⟨_,_,_,pS func62 ⟨rfl,rfl⟩,by kernel_rfl,rfl,func62,by kernel_rfl,by kernel_rfl⟩<|
 all_cons ⟨_,_,_,pS func63 ⟨rfl,rfl⟩,by kernel_rfl,rfl,func63,by kernel_rfl,by kernel_rfl⟩<|
 all_nil
theorem shutAll:∀g∈ae,∃f',(patch ae prog).funcs[g]? =some (shut f'):=
 all_cons ⟨_,pS func62 ⟨rfl,rfl⟩⟩<|
 all_cons ⟨_,pS func63 ⟨rfl,rfl⟩⟩<|
 all_nil
theorem plainD:aH cfgD (patch ae prog) prog:=
 aH.of cfgD_ok extL_ok rtL_ok hardL_ok (λg a=>by
  have h:(dS.all λg=>(lD++lSp).contains g)=true:=by kernel_rfl
  have:=ZU.1 h g a;exact List.mem_of_elem_eq_true this) lD (λg=>aaz) (λg a hl=>by
  have b:(lSp.all λg=> !lD.contains g)=true:=by kernel_rfl
  have:=ZU.1 b g a;simp[hl]at this) (λg a e=>by
  have c:g=rt:=e;subst c;exact absurd a (of_decide_eq_true (show decide (¬rt∈lD)=true by kernel_rfl))) pbD psSp
theorem plainA:aH cfgA (patch ae prog) (patch ae prog):=
 aH.of cfgA_ok extL_okP rtL_okP hardL_okP (λg a=>by
  have h:(dS.all λg=>((rt::(lD++(lW++lS4)))++lAl).contains g)=true:=by kernel_rfl
  have:=ZU.1 h g a;exact List.mem_of_elem_eq_true this) (rt::(lD++(lW++lS4))) (λg=>aaz) (λg a hl=>by
  have b:(lAl.all λg=> !(rt::(lD++(lW++lS4))).contains g)=true:=by kernel_rfl
  have:=ZU.1 b g a;simp[hl]at this) (λg a e=>by
  have c:g=1000000:=e;subst c;exact absurd a (of_decide_eq_true (show decide (¬1000000∈rt::(lD++(lW++lS4)))=true by kernel_rfl))) pbA psAl
theorem root_body:∃c,Func.body Tryz.f6=some c/\bA cfgD (patch ae prog) rt c=true/\sgC cfgD c=c/\(∃k,Func.results Tryz.f6= #[.tmp k]):=⟨_,rfl,by kernel_rfl,by kernel_rfl,_,rfl⟩
theorem isLaw:LawOk cfgD cfgA rt Tryz.f6:=
 {plainD:=plainD,plainA:=plainA,sp:=rfl,sp0:=rfl,sd:=rfl,root:=rfl,rt:=rfl,mark:=λ_=>rfl,mark0:=λ_=>rfl,gl:=rfl,gl0:=rfl,okF:=λ_ _=>trivial,at1:=rfl,dd:=rfl,kd:=rfl,pv:=λ_=>rfl,at0:=rfl,dd0:=rfl,kd0:=rfl,
  init:=by kernel_rfl,away:=by kernel_rfl,mem0:=by kernel_rfl,np1:=by kernel_rfl,np2:=by kernel_rfl,np3:=by kernel_rfl,pr:=pf func6 (by rfl),ar:=func6,body:=root_body,ntmps:=of_decide_eq_true (by kernel_rfl)}
end Spent
end
section
open Go.RowKit Go.Conc Go.ConcN
theorem spent_good (M:Z.cz)(so:Option Addr)(n cap:Nat)(T:Nat->Z.eU)(a:Addr)(w:World)(hE:EnvX w (CB w))(g:M.At w)(K:∀i,i<M.n->Z.In64 (M.S i)/\Z.In64 (M.C i))(hp:Z.In64 M.p)(G:Z.ScrS w so n cap T)
 (hF:w.cell? ⟨0,0,none⟩=some (.iface 345 (.pointer (some a))))(N:CB w a.block)(hG:prog.globals.size<=w.heap.size)
 (ha:∀x,M.ao=some x->CB w x.block\/(M.n=0/\M.cap=0))(hb:∀x,M.ro=some x->CB w x.block\/(M.r=0/\M.gD=0))(hc:∀x,so=some x->CB w x.block\/(n=0/\cap=0))
 (hd:∀i,i<n->∀x,(T i).ao=some x->CB w x.block\/((T i).n=0/\(T i).cap=0)):
 GoodRun 6 #[M.val,.slice so n cap] w:=by
 have h0:CB w 0:=jY hF;obtain⟨s,lv,hl,t,z,hs,_,_,hcell⟩:=twin_world True ((patch ae prog)).globals.size (λ_=>False) (CB w) w hG (λb h=>h) h0 (λ_ h=>h.elim)
 have L:WR ((patch ae prog)).globals.size (CB w) (idQ True (CB w)) s w:=by
  have e:(λc=>CB w c/\¬False)=CB w:=by funext c;simp
  rw[e]at t;exact t
 have cell:∀{a v},w.cell? a=some v->s.cell? a=some (lv v):=λh=>(hcell _ _ h).2 (λh=>h)
 have same:∀{a v},w.cell? a=some v->jH (CB w) v->s.cell? a=some v:=λh y=>by rw[cell h,hl.same _ y]
 obtain⟨m,W,ka⟩:=mD hl M.ao M.n M.cap ha;obtain⟨l,V,kb⟩:=mD hl M.ro M.r M.gD hb;obtain⟨q,U,kc⟩:=mD hl so n cap hc
 obtain⟨A,hA⟩:=choose1 (R:=λi x=>i<n->lv (.slice (T i).ao (T i).n (T i).cap)=.slice x (T i).n (T i).cap/\(0< (T i).cap->x=(T i).ao)) (λi=>by
  by_cases d:i<n
  .obtain⟨x,D,P⟩:=mD hl (T i).ao (T i).n (T i).cap (hd i d)
   exact⟨x,λ_=>⟨D,P⟩⟩
  .exact⟨none,λh=>absurd h d⟩)
 have J:∀f,Z.cz.At {M with ao:=m,ro:=l} (ay s f):=λf=>⟨g.ncap,g.nmax,λh=>(ka (ZO h g.ncap)).trans (g.addr h),λi d=>⟨same (g.dA i d).1 trivial,same (g.dA i d).2.1 trivial,same (g.dA i d).2.2 trivial⟩,g.rc,g.rmax,λh=>(kb (ZO h g.rc)).trans (g.raddr h),λi d=>same (g.ints i d) trivial⟩
 have I:∀f,Z.ScrS (ay s f) q n cap (λi=>{T i with ao:=A i}):=λf=>by
  refine⟨G.room,G.many,λE=>?_,λi d=>?_⟩
  .obtain⟨b,o,e,hcs⟩:=G.cells E
   refine⟨b,o,(kc (ZO E G.room)).trans e,λi d j u hu=>?_⟩
   have key:∀u',(T i).cells[j]? =some u'->jH (CB w) u'->(Z.eU.cells {T i with ao:=A i})[j]? =some u'->s.cell? ⟨b,o+i*9+j,none⟩=some u:=λu' D P h3=>by
        rw[h3]at hu;cases hu;exact same (hcs i d j _ D) P
   have hj:j<9:=by
        have:=(ZK.1 hu).1;simpa[Z.eU.cells] using this
   obtain rfl|rfl|rfl|rfl|rfl|rfl|rfl|rfl|rfl:j=0\/j=1\/j=2\/j=3\/j=4\/j=5\/j=6\/j=7\/j=8:=by omega
   .exact key _ rfl trivial rfl
   .exact key _ rfl trivial rfl
   .exact key _ rfl trivial rfl
   .exact key _ rfl trivial rfl
   .exact key _ rfl trivial rfl
   .exact key _ rfl trivial rfl
   .exact key _ rfl trivial rfl
   .have D:=cell (hcs i d 7 (.slice (T i).ao (T i).n (T i).cap) rfl)
    rw[(hA i d).1]at D;have H:some (Value.slice (A i) (T i).n (T i).cap)=some u:=hu;cases H;exact D
   .exact key _ rfl trivial rfl
  .have h:=G.steps i d
   obtain⟨ao,cp,e,d1,d2,d3⟩:=h.dC;cases e;refine⟨h.kind,h.A,h.B,h.r,⟨A i,(T i).cap,rfl,d1,d2,λE=>?_⟩,h.few⟩;obtain⟨b,o,e,F⟩:=d3 E;exact⟨b,o,((hA i d).2 (ZO E d1)).trans e,λk Q=>⟨same (F k Q).1 trivial,same (F k Q).2 trivial⟩⟩
 have O:∀f,(ay s f).cell? ⟨0,0,none⟩=some (.iface 345 (.pointer (some a))):=λf=>same hF ⟨by decide,N⟩
 refine good_of_law Spent.isLaw Spent.shutAll (vd:=Z.vdB) Z.vdB_flat Z.workerL_any Z.judgeL_any (la:= #[.agg #[.slice m M.n M.cap,.slice l M.r M.gD,.int .i64 M.p],.slice q n cap]) (by show 2<1000;omega) hE z L ?_ ?_ λf=>?_
 .refine aF.same λv y=>?_
  simp only[List.mem_toArray,ZW,List.not_mem_nil,or_false]at y;rcases y with rfl|rfl
  .refine VR.agg (aF.same λv y=>?_)
   simp only[List.mem_toArray,ZW,List.not_mem_nil,or_false]at y;rcases y with rfl|rfl|rfl
   .rw[<-W];exact hl.self _
   .rw[<-V];exact hl.self _
   .exact VR.int _ _
  .rw[<-U];exact hl.self _
 .have k1:VR (idQ True (CB w)) (.slice m M.n M.cap) (.slice M.ao M.n M.cap):=by rw[<-W];exact hl.alike _
  have k2:VR (idQ True (CB w)) (.slice l M.r M.gD) (.slice M.ro M.r M.gD):=by rw[<-V];exact hl.alike _
  have Y:VR (idQ True (CB w)) (.slice q n cap) (.slice so n cap):=by rw[<-U];exact hl.alike _
  have X:VR (idQ True (CB w)) (.agg #[.slice m M.n M.cap,.slice l M.r M.gD,.int .i64 M.p]) M.val:=VR.agg (((aF.empty.push k1).push k2).push (VR.int _ _));exact(aF.empty.push X).push Y
 .exact Z.spent_any {M with ao:=m,ro:=l} q n cap (λi=>{T i with ao:=A i}) a (ay s f) (J f) K hp (I f) (O f)
end
section
open Go.ChangeShapes Go.WideShapes Go.ChangeAt Go.RowKit Go.Conc Go.ConcN Go.Deep Go.Joins
theorem eZ {n}(h:(Lit.int .i64 n).wf=true):Z.In64 n:=by
 simp only[Lit.wf,IntKind.min,IntKind.max,IntKind.signed,IntKind.bits,ZQ,decide_eq_true_eq,if_true]at h;unfold Z.In64;omega
theorem cb_of_shape {w}{b}{x}(h:w.shape? b=some x):CB w b:=by
 unfold World.shape? at h;cases a:w.heap[b]? with
 |none=>rw[a]at h;cases h
 |some o=>
  rw[a]at h;cases o with
  |cells xs t g=>exact⟨_,_,_,a⟩
  |_=>cases h
theorem mF {P}{w}{r}{base}{t e}{a}{l c}(hu:P.underlying t=some (.slice e))(h:Cell.okWide P w r base t (.slice (some a) l c)):CB w a.block:=by
 unfold Cell.okWide at h;rw[hu]at h;simp only[Cell.ok,hu]at h;obtain⟨_,_,_,_,row,cells,b,_⟩:=h;exact cb_of_shape b
theorem bulk_one {H}(d:DataW H):1<=Rows.uptoBulk d:=by
 cases d with
 |lit l=>cases l<;>simp[Rows.uptoBulk]
 |nil=>simp[Rows.uptoBulk]
 |ptr d=>simp[Rows.uptoBulk]
 |slice elems spare=>simp[Rows.uptoBulk]
 |agg parts=>simp[Rows.uptoBulk]
 |iface t d=>simp[Rows.uptoBulk]
 |map entries=>simp[Rows.uptoBulk]
 |held h=>simp[Rows.uptoBulk]
theorem bulk_part {H}{d}{l:List (DataW H)}(h:d∈l):Rows.uptoBulk d<=Rows.uptoBulkAll l:=by
 induction l with
 |nil=>cases h
 |cons x r a=>
  simp only[Rows.uptoBulkAll];cases ZW.1 h with
  |inl e=>subst e;omega
  |inr e=>have:=a e;omega
theorem bulk_length {H}(l:List (DataW H)):l.length<=Rows.uptoBulkAll l:=by
 induction l with
 |nil=>simp[Rows.uptoBulkAll]
 |cons x r a=>have:=bulk_one x;simp only[Rows.uptoBulkAll,List.length_cons];omega
theorem bulk_slice {H}(elems spare:List (DataW H)):elems.length<=Rows.uptoBulk (.slice elems spare):=by
 have a:=bulk_length elems;simp only[Rows.uptoBulk];omega
theorem cpuW_of_trod {H}{enc}{W}{n}{a}{cs}{x:DataW H×List MemPlace}{sp}(hc:W.cells? 0 a 3=some cs)(h:DataW.trod enc prog W 0 sp true n 81 cs=some x):
 ∃z:Int×Int×Int,W.cell? a=some (.int .i64 z.1)/\W.cell? (a.add 1)=some (.int .i64 z.2.1)/\W.cell? (a.add 2)=some (.int .i64 z.2.2)/\Z.In64 z.1/\Z.In64 z.2.2:=by
 obtain⟨q,p,o,k,rfl,hl,e,d,c⟩:=trod_struct3 underlying81 h;obtain⟨_,hlen,b⟩:=World.cells?_some hc
 match cs,hlen with
 |[c0,r,c2],_=>
  have m:prog.cellsOf 3=1:=by kernel_rfl
  simp only[m,List.drop,List.take]at e d c;obtain⟨z0,i,_,l⟩:=DataW.trod_int underlying3 e;obtain⟨j,g,_,_⟩:=DataW.trod_int underlying3 d;obtain⟨z2,f,_,w2⟩:=DataW.trod_int underlying3 c;simp only[List.cons.injEq,and_true]at i g f;subst i g f;exact⟨(z0,j,z2),by simpa[Addr.add] using b 0 (by omega),b 1 (by omega),b 2 (by omega),eZ l,eZ w2⟩
theorem machW_of_trod {H:Type}{enc:TypeId×Value->H}{W:World}{base:Nat}{v0:Value}{d0:DataW H}{p0:List MemPlace}(B:Value.okWide prog W .any base 25 v0)
 (h:DataW.Trod enc prog W 0 (λ_=>true) true 25 v0 d0 p0)(e:∀x∈d0.weights prog 25,x<=reachBytes):∃m:Z.cz,v0=m.val/\m.At W/\(∀i,i<m.n->Z.In64 (m.S i)/\Z.In64 (m.C i))/\Z.In64 m.p:=by
 obtain⟨c0,K,c2,Q,P,O,n,rfl,rfl,rfl,I,G,F⟩:=open_agg3 underlying25 (by kernel_rfl) (by kernel_rfl) B h;obtain⟨p,v,_,wp⟩:=DataW.trod_int underlying3 F;simp only[List.cons.injEq,and_true]at v;subst v;have M:prog.bytesOf 3=8:=by kernel_rfl
 have L:prog.bytesOf 81=24:=by kernel_rfl
 have E:∃(ro:Option Addr) (rb rp r gD:Nat) (R:Nat->Int),K=.slice ro r gD/\r<=gD/\r*8<=140737488355328/\(0<r->ro=some ⟨rb,rp,none⟩)/\Z.gM W rb rp r R:=by
  rcases open_ints underlying23 underlying3 (by kernel_rfl) G with⟨hcs,hx⟩|⟨a,len,cap,zs,hcs,_,hl,hm,u,hx,hcell,A⟩
  .simp only[List.cons.injEq,and_true]at hcs
   subst hcs;exact⟨none,0,0,0,0,λ_=>0,rfl,ZL _,by omega,λh=>absurd h (by omega),λi d=>absurd d (by omega)⟩
  .simp only[List.cons.injEq,and_true]at hcs
   subst hcs;subst hx;simp only[if_true]at u
   have hs:(len+(cap-len))*8<=reachBytes:=by
        have:=e ((len+(cap-len))*8) (by simp[DataW.weights,DataW.weightsEach,underlying25,underlying23,M,lits,u,Nat.min_eq_left hl]);exact this
   obtain⟨rb,rp,spot⟩:=a;refine⟨_,rb,rp,len,cap,λi=>zs.getD i 0,rfl,hl,by simp only[reachBytes]at hs;omega,λf=>?_,λi d=>?_⟩
   .have c:spot=none:=by simpa[Addr.add] using World.cell?_spot (hcell 0 (by omega))
    rw[c]
   .have hc:=hcell i (by omega)
    have c:spot=none:=by simpa[Addr.add] using World.cell?_spot (hcell 0 (by omega))
    subst c;rw[Go.WideShapes.add_plain]at hc;exact hc
 have t:∃(ao:Option Addr) (b o k cap:Nat) (S N C:Nat->Int),c0=.slice ao k cap/\k<=cap/\k*24<=140737488355328/\(0<k->ao=some ⟨b,o,none⟩)/\Z.dK W b o k S N C/\∀i,i<k->Z.In64 (S i)/\Z.In64 (C i):=by
  rcases open_slice underlying22 I with⟨hcs,hx⟩|⟨a,len,cap,m,T,D,U,hcs,_,hl,hm,g,hx,j⟩
  .simp only[List.cons.injEq,and_true]at hcs
   subst hcs;exact⟨none,0,0,0,0,λ_=>0,λ_=>0,λ_=>0,rfl,ZL _,by omega,λh=>absurd h (by omega),λi d=>absurd d (by omega),λi d=>absurd d (by omega)⟩
  .simp only[List.cons.injEq,and_true]at hcs
   subst hcs;subst hx;simp only[if_true]at g;subst g;have J:prog.cellsOf 81=3:=(by kernel_rfl);rw[J]at j
   have hs:(len+(m-len))*24<=reachBytes:=by
        have:=e ((len+(m-len))*24) (by simp[DataW.weights,DataW.weightsEach,underlying25,underlying22,L]);exact this
   obtain⟨Z,l⟩:=choose_lt (α:=Int×Int×Int) (p:=λi z=>W.cell? (a.add (i*3))=some (.int .i64 z.1)/\W.cell? ((a.add (i*3)).add 1)=some (.int .i64 z.2.1)/\W.cell? ((a.add (i*3)).add 2)=some (.int .i64 z.2.2)/\Z.In64 z.1/\Z.In64 z.2.2) (λi d=>by
        obtain⟨cs,s,q⟩:=j i d;exact cpuW_of_trod s q)
   obtain⟨b,o,spot⟩:=a;refine⟨_,b,o,len,m,λi=>(Z i).1,λi=>(Z i).2.1,λi=>(Z i).2.2,rfl,hl,by simp only[reachBytes]at hs;omega,λf=>?_,λi d=>?_,λi d=>(l i (by omega)).2.2.2⟩
   .have c:spot=none:=by simpa[Addr.add] using World.cell?_spot (l 0 (by omega)).1
    rw[c]
   .have hc:=l i (by omega)
    have c:spot=none:=by simpa[Addr.add] using World.cell?_spot (l 0 (by omega)).1
    subst c;simp only[Go.WideShapes.add_plain]at hc;exact⟨hc.1,hc.2.1,hc.2.2.1⟩
 obtain⟨ro,rb,rp,r,gD,R,rfl,s,q,y,w⟩:=E;obtain⟨ao,b,o,k,cap,S,N,C,rfl,u1,u2,u3,u4,u5⟩:=t;exact⟨⟨ao,b,o,k,cap,S,N,C,ro,rb,rp,r,gD,R,p⟩,rfl,⟨u1,u2,u3,u4,s,q,y,w⟩,u5,eZ wp⟩
section
variable {H:Type}{enc:TypeId×Value->H}{W:World}
theorem dev_of_trod {n}{a}{cs}{x}{sp}(hc:W.cells? 0 a 2=some cs)(h:DataW.trod enc prog W 0 sp true n 75 cs=some x):
 ∃z:Int×Bool,W.cell? a=some (.int .i64 z.1)/\W.cell? (a.add 1)=some (.bool z.2)/\Z.In64 z.1:=by
 obtain⟨m,l,k,rfl,hl,d,c⟩:=trod_struct2 underlying75 h;obtain⟨_,hlen,b⟩:=World.cells?_some hc
 match cs,hlen with
 |[c0,o],_=>
  have j:prog.cellsOf 3=1:=by kernel_rfl
  have i2:prog.cellsOf 4=1:=by kernel_rfl
  simp only[j,i2,List.drop,List.take]at d c;obtain⟨z0,f,_,i⟩:=DataW.trod_int underlying3 d;obtain⟨g,e,_⟩:=DataW.trod_bool underlying4 c;simp only[List.cons.injEq,and_true]at f e;subst f e;exact⟨(z0,g),by simpa[Addr.add] using b 0 (by omega),b 1 (by omega),eZ i⟩
theorem devs_of_trod {n}{c}{y}(h:DataW.trod enc prog W 0 (λ_=>true) true n 33 [c]=some y):
 ∃(k:Option Addr) (dn d u e:Nat) (v:Nat->Int) (C:Nat->Bool),c=.slice k dn d/\dn<=d/\dn<=Rows.uptoBulk y.1/\(0<dn->k=some ⟨u,e,none⟩)/\Z.DevAt W u e dn v C/\(∀x,k=some x->CB W x.block\/(dn=0/\d=0))/\∀i,i<dn->Z.In64 (v i):=by
 rcases open_slice underlying33 h with⟨hcs,hx⟩|⟨a,len,cap,m,E,D,F,hcs,_,hl,hm,l,hx,q⟩
 .simp only[List.cons.injEq,and_true]at hcs
  subst hcs;exact⟨none,0,0,0,0,λ_=>0,λ_=>false,rfl,ZL _,Nat.zero_le _,λh=>absurd h (by omega),λi g=>absurd g (by omega),λx hx=>(by cases hx),λi g=>absurd g (by omega)⟩
 .simp only[List.cons.injEq,and_true]at hcs
  subst hcs;subst hx;simp only[if_true]at l;subst l;have B:prog.cellsOf 75=2:=by kernel_rfl
  rw[B]at q
  obtain⟨Z,r⟩:=choose_lt (α:=Int×Bool) (p:=λi z=>W.cell? (a.add (i*2))=some (.int .i64 z.1)/\W.cell? ((a.add (i*2)).add 1)=some (.bool z.2)/\Z.In64 z.1) (λi g=>by
   obtain⟨cs,A,w⟩:=q i g;exact dev_of_trod A w)
  obtain⟨b,o,spot⟩:=a;refine⟨_,len,m,b,o,λi=>(Z i).1,λi=>(Z i).2,rfl,hl,?_,λt=>?_,λi g=>?_,λx hx=>?_,λi g=>(r i (by omega)).2.2⟩
  .have:=bulk_slice ((List.range len).map D) ((List.range (m-len)).map λj=>D (len+j))
   simpa using this
  .have f:spot=none:=by simpa[Addr.add] using World.cell?_spot (r 0 (by omega)).1
   rw[f]
  .have hc:=r i (by omega)
   have f:spot=none:=by simpa[Addr.add] using World.cell?_spot (r 0 (by omega)).1
   subst f;simp only[Go.WideShapes.add_plain]at hc;exact⟨hc.1,hc.2.1⟩
  .cases hx
   rcases Nat.eq_zero_or_pos m with s|s
   .exact .inr ⟨by omega,s⟩
   .exact .inl (jY (a:=(⟨b,o,spot⟩:Addr).add (0*2)) (r 0 s).1)
theorem trod_struct6 {P}{t}{f0 f1 f2 f3 f4 f5}{base fuel}{sp}{held}{cs}{x}(e:P.underlying t=some (.struct #[f0,f1,f2,f3,f4,f5]))(h:DataW.trod enc P W base sp held fuel t cs=some x):
 ∃d c b y3 y4 a n q,x=(.agg [d.1,c.1,b.1,y3.1,y4.1,a.1],q)/\DataW.trod enc P W base sp held n f0.type ((cs.drop f0.offset).take (P.cellsOf f0.type))=some d/\DataW.trod enc P W base sp held n f1.type ((cs.drop f1.offset).take (P.cellsOf f1.type))=some c/\DataW.trod enc P W base sp held n f2.type ((cs.drop f2.offset).take (P.cellsOf f2.type))=some b/\DataW.trod enc P W base sp held n f3.type ((cs.drop f3.offset).take (P.cellsOf f3.type))=some y3/\DataW.trod enc P W base sp held n f4.type ((cs.drop f4.offset).take (P.cellsOf f4.type))=some y4/\DataW.trod enc P W base sp held n f5.type ((cs.drop f5.offset).take (P.cellsOf f5.type))=some a:=by
 obtain⟨xs,n,_,rfl,hl,hlen,hf⟩:=DataW.trod_struct e h
 match xs,hlen with
 |[d,c,b,y3,y4,a],_=>exact⟨d,c,b,y3,y4,a,n,_,rfl,by simpa using hf 0 f0 rfl,by simpa using hf 1 f1 rfl,by simpa using hf 2 f2 rfl,by simpa using hf 3 f3 rfl,by simpa using hf 4 f4 rfl,by simpa using hf 5 f5 rfl⟩
structure StepInK (W:World)(a:Addr)(s:Z.eU)(bulk:Nat):Prop where
 cells:∀j u,s.cells[j]? =some u->W.cell? (a.add j)=some u
 at_:s.n<=bulk->bulk<=1048576->s.at W
 few:s.n<=bulk
 cb:∀x,s.ao=some x->CB W x.block\/(s.n=0/\s.cap=0)
theorem stepK_of_trod {n}{a}{cs}{x}(hc:W.cells? 0 a 9=some cs)(h:DataW.trod enc prog W 0 (λ_=>true) true n 84 cs=some x):
 ∃s:Z.eU,StepInK W a s (Rows.uptoBulk x.1):=by
 obtain⟨A,z,y,y3,y4,w,m,q,rfl,f0,f1,f2,f3,f4,f5⟩:=trod_struct6 underlying84 h;obtain⟨_,c,p⟩:=World.cells?_some hc
 match cs,c with
 |[c0,c1,c2,c3,c4,c5,c6,c7,c8],_=>
  have o:prog.cellsOf 3=1:=by kernel_rfl
  have i2:prog.cellsOf 4=1:=by kernel_rfl
  have i4:prog.cellsOf 29=4:=by kernel_rfl
  have i5:prog.cellsOf 33=1:=by kernel_rfl
  have i8:prog.cellsOf 27=3:=by kernel_rfl
  simp only[o,i2,i4,i5,List.drop,List.take]at f0 f1 f2 f3 f4 f5;obtain⟨z0,J,_,Q⟩:=DataW.trod_int underlying3 f0;obtain⟨M,I,_,w1⟩:=DataW.trod_int underlying3 f1;obtain⟨z2,H,_,w2⟩:=DataW.trod_int underlying3 f2;obtain⟨g0,g1,k4,_,_,f,e⟩:=trod_struct2 underlying29 f3;simp only[o,i8,List.drop,List.take]at f e;obtain⟨z4,G,_,w4⟩:=DataW.trod_int underlying3 f;obtain⟨g5,g6,g7,Y,_,v,t,r⟩:=trod_array3 underlying27 o e;obtain⟨z5,F,_,P⟩:=DataW.trod_int underlying3 v;obtain⟨L,E,_,O⟩:=DataW.trod_int underlying3 t;obtain⟨K,D,_,N⟩:=DataW.trod_int underlying3 r;obtain⟨l,dn,b,U,g,V,X,rfl,d1,d2,d3,d4,d5,d6⟩:=devs_of_trod f4;obtain⟨z9,C,_⟩:=DataW.trod_bool underlying4 f5;simp only[List.cons.injEq,and_true]at J I H G F E D C;subst J I H G F E D C
  have d:dn<=Rows.uptoBulk (DataW.agg [A.1,z.1,y.1,y3.1,y4.1,w.1]):=by
        refine ZP d2 ?_;have B:Rows.uptoBulk y4.1<=Rows.uptoBulkAll [A.1,z.1,y.1,y3.1,y4.1,w.1]:=bulk_part (by simp);simp only[Rows.uptoBulk];omega
  refine⟨⟨z0,M,z2,λk=>match k with|0=>z4|1=>z5|2=>L|_=>K,l,dn,b,V,X,z9⟩,⟨λj u hu=>?_,λB T=>⟨eZ Q,eZ w1,eZ w2,λi hi=>?_,⟨l,b,rfl,d1,d6,λR=>⟨U,g,d3 R,d4⟩⟩,ZP (ZP B T) (by omega)⟩,d,d5⟩⟩
  .have S:j<9:=by
    have:=(ZK.1 hu).1;simpa[Z.eU.cells] using this
   rw[p j S,<-hu];obtain rfl|rfl|rfl|rfl|rfl|rfl|rfl|rfl|rfl:j=0\/j=1\/j=2\/j=3\/j=4\/j=5\/j=6\/j=7\/j=8:=by omega
   all_goals rfl
  .obtain rfl|rfl|rfl|rfl:i=0\/i=1\/i=2\/i=3:=by omega
   .exact eZ w4
   .exact eZ P
   .exact eZ O
   .exact eZ N
end
theorem laidOutK:laidOutB prog=true:=by kernel_rfl
section
variable {H:Type}{enc:TypeId×Value->H}{W:World}
theorem scriptK_of_trod {base:Nat}{v1:Value}{d1:DataW H}{B:List MemPlace}(g:Value.okWide prog W .any base 26 v1)
 (h:DataW.Trod enc prog W 0 (λ_=>true) true 26 v1 d1 B)(y:Rows.uptoBulk d1<=1048576):
 ∃(so:Option Addr) (n cap:Nat) (T:Nat->Z.eU),v1=.slice so n cap/\Z.ScrS W so n cap T/\(∀x,so=some x->CB W x.block\/(n=0/\cap=0))/\(∀i,i<n->∀x,(T i).ao=some x->CB W x.block\/((T i).n=0/\(T i).cap=0)):=by
 obtain⟨fuel,h⟩:=h
 have hcell:v1.cells.toList=[v1]:=by
  unfold Value.okWide at g;rw[underlying26]at g;simp only[Cell.okWide,underlying26]at g;cases v1<;>first|rfl|(simp[Cell.ok,underlying26]at g)
 rw[hcell]at h;rcases open_slice underlying26 h with⟨hcs,hx⟩|⟨a,len,cap,m,I,D,J,hcs,_,hl,hm,l,hx,q⟩
 .simp only[List.cons.injEq,and_true]at hcs
  subst hcs;exact⟨none,0,0,λ_=>⟨0,0,0,λ_=>0,none,0,0,λ_=>0,λ_=>false,false⟩,rfl,⟨ZL _,by omega,λh=>absurd h (by omega),λi d=>absurd d (by omega)⟩,λx hx=>(by cases hx),λi d=>absurd d (by omega)⟩
 .simp only[List.cons.injEq,and_true]at hcs
  subst hcs;simp only[if_true]at l;subst l;have G:prog.cellsOf 84=9:=by kernel_rfl
  rw[G]at q;have v:d1=.slice ((List.range len).map D) ((List.range (m-len)).map λj=>D (len+j)):=congrArg Prod.fst hx
  have e:Rows.uptoBulkAll ((List.range len).map D)<=1048576:=by
   rw[v]at y;simp only[Rows.uptoBulk]at y;omega
  have hlen:len<=1048576:=by
   have:=bulk_length ((List.range len).map D);simp only[List.length_map,List.length_range]at this;omega
  haveI:Inhabited Z.eU:=⟨⟨0,0,0,λ_=>0,none,0,0,λ_=>0,λ_=>false,false⟩⟩
  obtain⟨S,C⟩:=choose_lt (α:=Z.eU) (p:=λi s=>i<len->StepInK W (a.add (i*9)) s 1048576) (n:=m) (λi d=>by
   obtain⟨cs,A,z⟩:=q i d;obtain⟨s,hs⟩:=stepK_of_trod A z;refine⟨s,λt=>?_⟩;have r:Rows.uptoBulk (D i)<=Rows.uptoBulkAll ((List.range len).map D):=bulk_part (List.mem_map.2 ⟨i,Z9.2 t,rfl⟩);exact⟨hs.cells,λ_ _=>hs.at_ hs.few (ZP r e),ZP hs.few (ZP r e),hs.cb⟩)
  have f:∀i,i<len->StepInK W (a.add (i*9)) (S i) 1048576:=λi d=>C i (by omega) d
  obtain⟨b,o,spot⟩:=a
  have k:0<len->spot=none:=λc=>by
   have F:=(f 0 c).cells 0 _ rfl;simpa[Addr.add] using World.cell?_spot F
  have w:CB W b:=by
   unfold Value.okWide at g;rw[underlying26]at g;exact mF (a:=⟨b,o,spot⟩) underlying26 g
  refine⟨some ⟨b,o,spot⟩,len,m,S,rfl,⟨hl,by omega,λc=>⟨b,o,by rw[k c],λi d j u hu=>?_⟩,λi d=>(f i d).at_ (f i d).few (ZL _)⟩,λx hx=>?_,λi d=>(f i d).cb⟩
  .have r:=(f i d).cells j u hu
   have E:=k c;subst E;rw[Go.WideShapes.add_plain,Go.WideShapes.add_plain]at r;exact r
  .cases hx
   exact .inl w
theorem machK_cb {base:Nat}{m:Z.cz}(a:Value.okWide prog W .any base 25 m.val):(∀x,m.ao=some x->CB W x.block)/\(∀x,m.ro=some x->CB W x.block):=by
 obtain⟨ao,b,o,n,cap,S,N,C,ro,rb,rp,r,gD,R,p⟩:=m;unfold Value.okWide at a;rw[underlying25]at a;obtain⟨cs,e,_,ts,g,_,f⟩:=a;cases e;have h:prog.cellTypes prog.depth 25=some [22,23,3]:=by kernel_rfl
 rw[h]at g;cases g;refine⟨λx hx=>?_,λx hx=>?_⟩
 .simp only at hx
  subst hx;obtain⟨u,d,c⟩:=f 0 _ rfl;cases d;exact mF underlying22 c
 .simp only at hx
  subst hx;obtain⟨u,d,c⟩:=f 1 _ rfl;cases d;exact mF underlying23 c
end
end
section
open Go.Lib Go.RowKit
theorem gZ {w}{n}{g t e N}{k}{zs}(j:prog.globalNamed n=some g)(i:(prog.globals[g]?).map (·.type)=some t)(hu:prog.underlying t=some (.array N e))(he:prog.underlying e=some (.int k))(d:prog.cellsOf e=1)(c:prog.cellsOf t=N)
 (h:VarReads prog w n (tabData k zs)):TabIs prog w n k zs:=by
 obtain⟨g0,t0,cs,fuel,p,b,a,f,hd⟩:=h;obtain rfl:=Option.some.inj (j.symm.trans b);obtain rfl:=Option.some.inj (i.symm.trans a);have hcs:=cells_of_tab hu he d c hd;unfold TabIs;rw[f];obtain⟨l⟩:=cs;exact congrArg (λl=>some (Array.mk l)) hcs
def rhoU:Go.Shelf.Ren:=⟨λx=>x,λn=>if n=5 then 5 else if n=119 then 316 else if n=138 then 318 else 319,λn=>if n=3 then 4 else 5⟩
theorem u8types:U8Types prog rhoU:=⟨by kernel_rfl,by kernel_rfl,by kernel_rfl,by kernel_rfl⟩
theorem u8extra:U8Extra prog rhoU:=⟨by kernel_rfl,by kernel_rfl,by kernel_rfl,by kernel_rfl,by kernel_rfl,by kernel_rfl,by kernel_rfl⟩
theorem pow10_laid:(Rows.laid_internal_strconv_uint64pow10:DataW Unit)=tabData .u64 Lib.pow10Tab:=by kernel_rfl
theorem db64_laid:(Rows.laid_math_bits_deBruijn64tab:DataW Unit)=tabData .u8 (Lib.deBruijn64tab.map λn=>((n:Nat):Int)):=by kernel_rfl
theorem accept_laid:(Rows.laid_unicode_utf8_acceptRanges:DataW Unit)=acceptData:=by kernel_rfl
theorem first_laid:Rows.laid_unicode_utf8_first=firstData:=Pinned.utf8First_eq
theorem envT_of_laid {w}(hs:prog.globals.size<=w.heap.size)
 (f:VarReads prog w "internal/strconv.uint64pow10" Rows.laid_internal_strconv_uint64pow10)(d:VarReads prog w "unicode/utf8.first" Rows.laid_unicode_utf8_first)(c:VarReads prog w "unicode/utf8.acceptRanges" Rows.laid_unicode_utf8_acceptRanges)
 (b:VarReads prog w "math/bits.deBruijn64tab" Rows.laid_math_bits_deBruijn64tab):gY w:=by
 rw[pow10_laid]at f;rw[first_laid]at d;rw[accept_laid]at c;rw[db64_laid]at b;have i:prog.globals.size=14:=by kernel_rfl
 refine⟨by omega,
  gZ (g:=3) (t:=310) (e:=125) (N:=20) (by kernel_rfl) (by kernel_rfl) (by kernel_rfl) (by kernel_rfl) (by kernel_rfl) (by kernel_rfl) f,utf8Tabs_of_readsT u8types u8extra d c,λj a=>?_⟩
 have h:=gZ (g:=13) (t:=343) (e:=5) (N:=64) (by kernel_rfl) (by kernel_rfl) (by kernel_rfl) (by kernel_rfl) (by kernel_rfl) (by kernel_rfl) b;have:=h.cell (g:=13) (by kernel_rfl) j (by simpa using a);rw[this];simp[List.getD,a]
end
section
open Go.Lib Go.RowKit Go.ChangeShapes
theorem star_err: "*errors.errorString" = "*" ++ "errors.errorString" :=by decide
theorem row_err (u)(h:prog.typeName? 3 u=some "*errors.errorString"):u=345:=
 typeName_ptr_named (nm:= "errors.errorString") (by rw[<-star_err];kernel_rfl) (by kernel_rfl) (by decide) u (by rw[<-star_err];exact h)
theorem errFailed_of_laid {W}(h:laidMet prog Rows.widthsUptoRow.laid W):∃a,W.cell? ⟨0,0,none⟩=some (.iface 345 (.pointer (some a)))/\CB W a.block:=by
 obtain⟨a,s,b,hc,_⟩:=laid_sentinel (n:= "berth/disk.ErrFailed") (g:=0) (ti:=148) (te:=347) (ts:=9) (laidMet.tail (laidMet.tail (laidMet.tail (laidMet.tail h)))) (by kernel_rfl) (by kernel_rfl) underlying148 row_err underlying345 underlying347 rfl rfl underlying9 (by kernel_rfl) (by kernel_rfl);refine⟨a,?_,jY hc⟩;rw[World.var?_cell (show prog.globalNamed "berth/disk.ErrFailed" =some 0 by kernel_rfl) b 0];rfl
theorem globals_cb {w}(h:w.ShapedOpen prog){g}(b:g<prog.globals.size)(a:(((begin prog (λ_ _=>0) default).world.heap[g]?).bind Obj.row?).isSome=true):CB w g:=by
 obtain⟨⟨zero,t⟩,e⟩:=Option.isSome_iff_exists.1 a;obtain⟨cs,hc,_⟩:=h.1 g zero t b e;exact⟨_,_,_,hc⟩
theorem all_cb {w}(h:w.ShapedOpen prog):∀g,g∈glX->CB w g:=λg a=>by
 have key:(glX.all λg=>decide (g<14)&&(((begin prog (λ_ _=>0) default).world.heap[g]?).bind Obj.row?).isSome)=true:=by kernel_rfl
 have:=ZU.1 key g a;simp only[ZQ,decide_eq_true_eq]at this;exact globals_cb h (by rw[show prog.globals.size=14 by kernel_rfl];exact this.1) this.2
end
