/- Part 7 of the proof. -/
import Derived.Test.YtfpaamhppamcoaaGreatDoorPo6
set_option linter.all false
set_option maxHeartbeats 60000000
namespace Go.Proofs.YtfpaamhppamcoaaGreatDoor
open Go.Proofs.Tryz
section
open Go Go.Conc Go.RowKit
def I4 {P}{f}{x}:(Frame.enter P f x .normal).mode=.run/\∃c,(Frame.enter P f x .normal).todo=[.code c]:=⟨rfl,_,rfl⟩
def fC {P}{a}(h:a.mode≠.run\/∃ops l k,a.todo=.inRegion ops l::k)(f)(x):a≠Frame.enter P f x .normal:=λe=>by
 rcases h with h|⟨ops,l,k,h⟩
 .rw[e]at h;exact h rfl
 .rw[e]at h
  obtain⟨c,hc⟩:=(I4 (P:=P) (f:=f) (x:=x)).2;rw[hc]at h;cases h
def pX {P}{main}{b:Frame}{a}{ops}{i}{rest}{k}{cs}{o}{x}{t}{v}(w)(h:ops[i]? =some o)(l:o.guard=none)(e:o.op=.panic x)(j:b.kind≠.early)(hx:a.eval x=.iface t v):
 ∃es,stepG P main (G (b.at a (.inRegion ops (i::rest)::k)) cs) w=.go (G {b.at a (.inRegion ops (i::rest)::k)with mode:=.panicking [{v:=.iface t v,recovered:=false}]} cs) w es:=by
 have g:(execOp a.eval o).run P w=.halt (.panic (.iface t v)) w:=by
  unfold execOp;simp[e,hx,Instr.panic,goPanic]
 rw[stepG_oper h (bq l _)];have c:((execOp a.eval o).runT P w #[]).1=.halt (.panic (.iface t v)) w:=by rw[Sem.runT_fst];exact g
 rcases d:(execOp a.eval o).runT P w #[]with⟨r,es⟩
 rw[d]at c;simp only at c;subst c;have f:(b.kind==CallKind.early)=false:=by simpa using j
 refine⟨seen P b.fn es++ #[],?_⟩;simp only[stepG.apply,d,GStep.after,G,Frame.at,Frame.raise,if_true,f,Z0,if_false]
def xh (x)(n i)(h:i<n):i< (x++Array.replicate (n-x.size) undef).size:=by simp;omega
def ig (x)(w):oG (patch ae prog) 340 x w:=by
 have he:=enter_at (P:=(patch ae prog)) (f:=340) (fn:=iH 31 "alarm") (c:=.region 0 #[bg (some 1) (.makeInterface 31 (.tmp 0)),bg none (.panic (.tmp 1))] false) x (OB ae) rfl;have hs:1< (x++Array.replicate ((iH 31 "alarm").ntmps-x.size) undef).size:=xh x 2 1 (by omega);obtain⟨T,g⟩:∃T,T=x++Array.replicate ((iH 31 "alarm").ntmps-x.size) undef:=⟨_,rfl⟩;rw[<-g]at he hs;obtain⟨ops,a⟩:∃ops,ops= #[bg (some 1) (.makeInterface 31 (.tmp 0)),bg none (.panic (.tmp 1))]:=⟨_,rfl⟩;rw[<-a]at he;have h:ops.size=2:=by rw[a];rfl
 obtain⟨v,e⟩:∃v,v=T.getD 0 undef:=⟨_,rfl⟩;refine⟨3,fun|0=>(base 340).at ⟨T,[]⟩ [.code (.region 0 ops false)]|1=>(base 340).at ⟨T,[]⟩ [.inRegion ops [0,1]]|2=>(base 340).at ⟨T.setIfInBounds 1 (.iface 31 v),[]⟩ [.inRegion ops [1]]|_=>{(base 340).at ⟨T.setIfInBounds 1 (.iface 31 v),[]⟩ [.inRegion ops [1]]with mode:=.panicking [{v:=.iface 31 v,recovered:=false}]},λ_=>w,he.symm,rfl,λd hd=>?_,_,rfl,rfl,⟨_,OB ae⟩⟩;obtain rfl|rfl|rfl:d=0\/d=1\/d=2:=by omega
 .refine⟨rfl,fC (.inr ⟨_,_,_,rfl⟩),λmain cs T=>⟨#[],?_⟩⟩
  show stepG (patch ae prog) main (G ((base 340).at _ [.code (.region 0 ops false)]) cs) _=_
  rw[stepG_region,h];rfl
 .refine⟨rfl,fC (.inr ⟨_,_,_,rfl⟩),λmain cs b=>?_⟩
  show∃es,stepG (patch ae prog) main (G ((base 340).at _ [.inRegion ops [0,1]]) cs) _=_
  rw[stepG_value (o:=bg (some 1) (.makeInterface 31 (.tmp 0))) (v:=.iface 31 v) (w':=ay w b) (by rw[a];rfl) (bq rfl _) (by decide) (by unfold execOp;simp[bg,Act.eval,e,go_sem])];exact⟨_,rfl⟩
 .refine⟨rfl,fC (.inl (by simp)),λmain cs b=>?_⟩
  exact pX (o:=bg none (.panic (.tmp 1))) _ (by rw[a];rfl) rfl rfl (by decide) (bU hs)
def gG (x)(w):oG (patch ae prog) 342 x w:=by
 have he:=enter_at (P:=(patch ae prog)) (f:=342) (fn:=iH 47 "alarm3") (c:=.region 0 #[bg (some 1) (.makeInterface 47 (.tmp 0)),bg none (.panic (.tmp 1))] false) x (z8 ae) rfl;have hs:1< (x++Array.replicate ((iH 47 "alarm3").ntmps-x.size) undef).size:=xh x 2 1 (by omega);obtain⟨T,g⟩:∃T,T=x++Array.replicate ((iH 47 "alarm3").ntmps-x.size) undef:=⟨_,rfl⟩;rw[<-g]at he hs;obtain⟨ops,a⟩:∃ops,ops= #[bg (some 1) (.makeInterface 47 (.tmp 0)),bg none (.panic (.tmp 1))]:=⟨_,rfl⟩;rw[<-a]at he;have h:ops.size=2:=by rw[a];rfl
 obtain⟨v,e⟩:∃v,v=T.getD 0 undef:=⟨_,rfl⟩;refine⟨3,fun|0=>(base 342).at ⟨T,[]⟩ [.code (.region 0 ops false)]|1=>(base 342).at ⟨T,[]⟩ [.inRegion ops [0,1]]|2=>(base 342).at ⟨T.setIfInBounds 1 (.iface 47 v),[]⟩ [.inRegion ops [1]]|_=>{(base 342).at ⟨T.setIfInBounds 1 (.iface 47 v),[]⟩ [.inRegion ops [1]]with mode:=.panicking [{v:=.iface 47 v,recovered:=false}]},λ_=>w,he.symm,rfl,λd hd=>?_,_,rfl,rfl,⟨_,z8 ae⟩⟩;obtain rfl|rfl|rfl:d=0\/d=1\/d=2:=by omega
 .refine⟨rfl,fC (.inr ⟨_,_,_,rfl⟩),λmain cs T=>⟨#[],?_⟩⟩
  show stepG (patch ae prog) main (G ((base 342).at _ [.code (.region 0 ops false)]) cs) _=_
  rw[stepG_region,h];rfl
 .refine⟨rfl,fC (.inr ⟨_,_,_,rfl⟩),λmain cs b=>?_⟩
  show∃es,stepG (patch ae prog) main (G ((base 342).at _ [.inRegion ops [0,1]]) cs) _=_
  rw[stepG_value (o:=bg (some 1) (.makeInterface 47 (.tmp 0))) (v:=.iface 47 v) (w':=ay w b) (by rw[a];rfl) (bq rfl _) (by decide) (by unfold execOp;simp[bg,Act.eval,e,go_sem])];exact⟨_,rfl⟩
 .refine⟨rfl,fC (.inl (by simp)),λmain cs b=>?_⟩
  exact pX (o:=bg none (.panic (.tmp 1))) _ (by rw[a];rfl) rfl rfl (by decide) (bU hs)
def gH (x)(w):oG (patch ae prog) 341 x w:=by
 have he:=enter_at (P:=(patch ae prog)) (f:=341) (fn:=gK 37 "alarm2") (c:=.region 0 #[bg (some 1) (.box 37 (.tmp 0)),bg (some 2) (.makeInterface 37 (.tmp 1)),bg none (.panic (.tmp 2))] false) x (xK ae) rfl;have hs:2< (x++Array.replicate ((gK 37 "alarm2").ntmps-x.size) undef).size:=xh x 3 2 (by omega);obtain⟨T,p⟩:∃T,T=x++Array.replicate ((gK 37 "alarm2").ntmps-x.size) undef:=⟨_,rfl⟩;rw[<-p]at he hs;obtain⟨ops,a⟩:∃ops,ops= #[bg (some 1) (.box 37 (.tmp 0)),bg (some 2) (.makeInterface 37 (.tmp 1)),bg none (.panic (.tmp 2))]:=⟨_,rfl⟩;rw[<-a]at he;have r:ops.size=3:=by rw[a];rfl
 obtain⟨v,m⟩:∃v,v=T.getD 0 undef:=⟨_,rfl⟩;obtain⟨q,n⟩:∃q,q=Value.pointer (some ⟨w.heap.size,0,none⟩):=⟨_,rfl⟩;obtain⟨i,b⟩:∃i,i=T.setIfInBounds 1 q:=⟨_,rfl⟩;obtain⟨h,g⟩:∃h,h=i.setIfInBounds 2 (.iface 37 q):=⟨_,rfl⟩;have l:i.getD 1 undef=q:=by rw[b];exact bU (by omega)
 have k:h.getD 2 undef=.iface 37 q:=by rw[g];exact bU (by rw[b,Array.size_setIfInBounds];exact hs)
 refine⟨4,fun|0=>(base 341).at ⟨T,[]⟩ [.code (.region 0 ops false)]|1=>(base 341).at ⟨T,[]⟩ [.inRegion ops [0,1,2]]|2=>(base 341).at ⟨i,[]⟩ [.inRegion ops [1,2]]|3=>(base 341).at ⟨h,[]⟩ [.inRegion ops [2]]|_=>{(base 341).at ⟨h,[]⟩ [.inRegion ops [2]]with mode:=.panicking [{v:=.iface 37 q,recovered:=false}]},
  fun|0=>w|1=>w|_=>w.alloc (.cells v.cells 37),he.symm,rfl,λd hd=>?_,_,rfl,rfl,⟨_,xK ae⟩⟩
 obtain rfl|rfl|rfl|rfl:d=0\/d=1\/d=2\/d=3:=by omega
 .refine⟨rfl,fC (.inr ⟨_,_,_,rfl⟩),λmain cs T=>⟨#[],?_⟩⟩
  show stepG (patch ae prog) main (G ((base 341).at _ [.code (.region 0 ops false)]) cs) _=_
  rw[stepG_region,r];rfl
 .refine⟨rfl,fC (.inr ⟨_,_,_,rfl⟩),λmain cs j=>?_⟩
  show∃es,stepG (patch ae prog) main (G ((base 341).at _ [.inRegion ops [0,1,2]]) cs) _=_
  rw[stepG_value (o:=bg (some 1) (.box 37 (.tmp 0))) (v:=q) (w':=ay (w.alloc (.cells v.cells 37)) j) (by rw[a];rfl) (bq rfl _) (by decide) (by
   rw[n];have e:(execOp (Act.mk T []).eval (bg (some 1) (.box 37 (.tmp 0))))=(do Pure.pure (Next.value (<-Instr.box 37 v))):=(by rw[m];rfl);rw[e,Sem.run_bind,OZ];rfl)]
  rw[b];exact⟨_,rfl⟩
 .refine⟨rfl,fC (.inr ⟨_,_,_,rfl⟩),λmain cs j=>?_⟩
  show∃es,stepG (patch ae prog) main (G ((base 341).at _ [.inRegion ops [1,2]]) cs) _=_
  rw[stepG_value (o:=bg (some 2) (.makeInterface 37 (.tmp 1))) (v:=.iface 37 q) (w':=ay (w.alloc (.cells v.cells 37)) j) (by rw[a];rfl) (bq rfl _) (by decide) (by unfold execOp;simp[bg,Act.eval,l,go_sem])];rw[g];exact⟨_,rfl⟩
 .refine⟨rfl,fC (.inl (by simp)),λmain cs j=>?_⟩
  exact pX (o:=bg none (.panic (.tmp 2))) _ (by rw[a];rfl) rfl rfl (by decide) k
end
section
open Go
def CB (w:World)(b:Nat):Prop:=∃xs e g,w.heap[b]? =some (.cells xs e g)
def jY {w}{a}{v}(h:w.cell? a=some v):CB w a.block:=by
 unfold World.cell? at h;cases b:w.heap[a.block]? with
 |none=>rw[b]at h;cases h
 |some o=>
  rw[b]at h;cases o with
  |cells xs t g=>exact⟨_,_,_,b⟩
  |_=>cases h
def DV (st:Prop)(Z:Nat->Prop):Rel st:=λb c=>b=c/\Z b
abbrev NA (Z:Nat->Prop):Rel False:=DV False Z
def jH (Z:Nat->Prop):Value->Prop
 |.int .u8 _=>False
 |.int _ _|.bool _|.string _|.nilIface|.pointer none|.slice none _ _=>True
 |.pointer (some a)=>Z a.block
 |.slice (some a) _ _=>Z a.block
 |.iface t (.pointer (some a))=>sO t=true/\Z a.block
 |_=>False
def sH {st}{p:Rel st}{Z}(hp:∀b,Z b->p b b){v}(h:jH Z v):VR p v v:=by
 cases v with
 |int k n=>exact VR.int _ _
 |bool b=>exact VR.bool _
 |string b=>exact VR.string _
 |nilIface=>exact VR.nilIface
 |pointer o=>
  cases o with
  |none=>exact VR.ptr trivial
  |some a=>exact VR.ptr ⟨hp _ h,rfl,rfl⟩
 |slice o l c=>
  cases o with
  |none=>exact VR.slice trivial
  |some a=>exact VR.slice ⟨hp _ h,rfl,rfl⟩
 |iface t x=>
  cases x with
  |pointer o=>
   cases o with
   |none=>exact h.elim
   |some a=>exact VR.iface h.1 (VR.ptr ⟨hp _ h.2,rfl,rfl⟩)
  |_=>exact h.elim
 |_=>exact h.elim
def KN {Z}{v}(h:jH Z v):Ae v:=by
 cases v with
 |int k n=>cases k<;>first|exact h.elim|trivial
 |_=>trivial
def iP {st}{p:Rel st}:∀v:Value,∃v',VR p v' v/\Ae v'/\∀(q:Rel False),VR q v' v'
 |.bool b=>⟨_,VR.bool b,trivial,λ_=>VR.bool b⟩
 |.int k n=>by cases k<;>first|exact⟨_,VR.int _ n,trivial,λ_=>VR.int _ n⟩|exact⟨.nilFunc,VR.gU rfl,trivial,λ_=>VR.gU rfl⟩
 |.string s=>⟨_,VR.string s,trivial,λ_=>VR.string s⟩
 |.nilIface=>⟨.nilIface,VR.nilIface,trivial,λ_=>VR.nilIface⟩
 |.agg cs=>by
  have h:∀i:Nat,∃v',∀x,cs[i]? =some x->VR p v' x/\∀(q:Rel False),VR q v' v':=λi=>by
   by_cases a:i<cs.size
   .obtain⟨v',c,_,hs⟩:=iP (p:=p) cs[i]
    refine⟨v',λx hx=>?_⟩;rw[ZM a]at hx;cases hx;exact⟨c,hs⟩
   .exact⟨undef,λx hx=>by rw[Array.getElem?_eq_none (by omega)]at hx;cases hx⟩
  have get:∀(i:Nat) x,((Array.range cs.size).map λi=>(h i).choose)[i]? =some x->i<cs.size/\x=(h i).choose:=λi x hx=>by
   rw[ac6]at hx;cases a:(Array.range cs.size)[i]? with
   |none=>rw[a]at hx;cases hx
   |some k=>
    rw[a]at hx;simp only[ads,ac2]at hx;obtain⟨f,e⟩:=ZK.1 a;have d:k=i:=by simpa using e.symm
    subst d;exact⟨by simpa using f,hx.symm⟩
  refine⟨.agg ((Array.range cs.size).map λi=>(h i).choose),VR.agg ⟨by simp,λi x y hx hy=>?_⟩,trivial,λq=>VR.agg ⟨rfl,λi x y hx hy=>?_⟩⟩
  .obtain⟨_,rfl⟩:=get i x hx
   exact((h i).choose_spec y hy).1
  .obtain⟨a,rfl⟩:=get i x hx
   obtain⟨_,rfl⟩:=get i y hy;exact((h i).choose_spec _ (ZM a)).2 q
 |.tuple cs=>by
  have h:∀i:Nat,∃v',∀x,cs[i]? =some x->VR p v' x/\∀(q:Rel False),VR q v' v':=λi=>by
   by_cases a:i<cs.size
   .obtain⟨v',c,_,hs⟩:=iP (p:=p) cs[i]
    refine⟨v',λx hx=>?_⟩;rw[ZM a]at hx;cases hx;exact⟨c,hs⟩
   .exact⟨undef,λx hx=>by rw[Array.getElem?_eq_none (by omega)]at hx;cases hx⟩
  have get:∀(i:Nat) x,((Array.range cs.size).map λi=>(h i).choose)[i]? =some x->i<cs.size/\x=(h i).choose:=λi x hx=>by
   rw[ac6]at hx;cases a:(Array.range cs.size)[i]? with
   |none=>rw[a]at hx;cases hx
   |some k=>
    rw[a]at hx;simp only[ads,ac2]at hx;obtain⟨f,e⟩:=ZK.1 a;have d:k=i:=by simpa using e.symm
    subst d;exact⟨by simpa using f,hx.symm⟩
  refine⟨.tuple ((Array.range cs.size).map λi=>(h i).choose),VR.tuple ⟨by simp,λi x y hx hy=>?_⟩,trivial,λq=>VR.tuple ⟨rfl,λi x y hx hy=>?_⟩⟩
  .obtain⟨_,rfl⟩:=get i x hx
   exact((h i).choose_spec y hy).1
  .obtain⟨a,rfl⟩:=get i x hx
   obtain⟨_,rfl⟩:=get i y hy;exact((h i).choose_spec _ (ZM a)).2 q
 |.float _ _=>⟨.nilFunc,VR.gU rfl,trivial,λ_=>VR.gU rfl⟩
 |.complex _ _ _=>⟨.nilFunc,VR.gU rfl,trivial,λ_=>VR.gU rfl⟩
 |.pointer _=>⟨.nilFunc,VR.gU rfl,trivial,λ_=>VR.gU rfl⟩
 |.slice _ _ _=>⟨.nilFunc,VR.gU rfl,trivial,λ_=>VR.gU rfl⟩
 |.map _=>⟨.nilFunc,VR.gU rfl,trivial,λ_=>VR.gU rfl⟩
 |.chan _=>⟨.nilFunc,VR.gU rfl,trivial,λ_=>VR.gU rfl⟩
 |.func _ _ _=>⟨.nilFunc,VR.gU rfl,trivial,λ_=>VR.gU rfl⟩
 |.nilFunc=>⟨.nilFunc,VR.gU rfl,trivial,λ_=>VR.gU rfl⟩
 |.iface _ _=>⟨.nilFunc,VR.gU rfl,trivial,λ_=>VR.gU rfl⟩
structure DT (st:Prop)(Z:Nat->Prop)(lv:Value->Value):Prop where
 alike:∀v,VR (DV st Z) (lv v) v
 self:∀v,VR (NA Z) (lv v) (lv v)
 Rq:∀v,Ae (lv v)
 same:∀v,jH Z v->lv v=v
 none:st->∀a,∃a':Addr,lv (.slice (some a) 0 0)=.slice (some a') 0 0/\Z a'.block
def Lx (st)(Z)(c0)(d:Z c0):∃lv,DT st Z lv:=by
 classical
 obtain⟨f,hf⟩:∃f:Value->Value,∀v,(jH Z v/\f v=v)\/(st/\¬jH Z v/\(∃a,v=.slice (some a) 0 0)/\f v=.slice (some ⟨c0,0,none⟩) 0 0)\/(¬jH Z v/\(¬(st/\∃a,v=.slice (some a) 0 0))/\f v=(iP (p:=DV st Z) v).choose):=by
  refine⟨λv=>if jH Z v then v else if st/\∃a,v=.slice (some a) 0 0 then .slice (some ⟨c0,0,none⟩) 0 0 else(iP (p:=DV st Z) v).choose,λv=>?_⟩
  by_cases hp:jH Z v
  .exact .inl ⟨hp,if_pos hp⟩
  .by_cases he:st/\∃a,v=.slice (some a) 0 0
   .exact .inr (.inl ⟨he.1,hp,he.2,by simp only[if_neg hp,if_pos he]⟩)
   .exact .inr (.inr ⟨hp,he,by simp only[if_neg hp,if_neg he]⟩)
 refine⟨f,λv=>?_,λv=>?_,λv=>?_,λv c=>?_,λhs a=>?_⟩
 .rcases hf v with⟨h,e⟩|⟨hs,_,⟨a,rfl⟩,e⟩|⟨_,_,e⟩<;>rw[e]
  .exact sH (λb hb=>⟨rfl,hb⟩) h
  .exact VR.kJ (.inr ⟨⟨rfl,rfl⟩,hs⟩)
  .exact(iP (p:=DV st Z) v).choose_spec.1
 .rcases hf v with⟨h,e⟩|⟨hs,_,⟨a,rfl⟩,e⟩|⟨_,_,e⟩<;>rw[e]
  .exact sH (λb hb=>⟨rfl,hb⟩) h
  .exact VR.slice ⟨⟨rfl,d⟩,rfl,rfl⟩
  .exact(iP (p:=DV st Z) v).choose_spec.2.2 _
 .rcases hf v with⟨h,e⟩|⟨hs,_,⟨a,rfl⟩,e⟩|⟨_,_,e⟩<;>rw[e]
  .exact KN h
  .trivial
  .exact(iP (p:=DV st Z) v).choose_spec.2.1
 .rcases hf v with⟨_,e⟩|⟨_,h,_⟩|⟨h,_⟩
  .exact e
  .exact absurd c h
  .exact absurd c h
 .rcases hf (.slice (some a) 0 0)with⟨h,e⟩|⟨_,_,_,e⟩|⟨_,h,_⟩
  .exact⟨a,e,h⟩
  .exact⟨_,e,d⟩
  .exact absurd ⟨hs,a,rfl⟩ h
def wU (st)(G)(T Z:Nat->Prop)(w)(F:G<=w.heap.size)(J:∀b,Z b->CB w b){c0}(O:Z c0)(M:∀b,T b->∃xs e g,w.heap[b]? =some (.cells xs e g)/\∀v∈xs.toList,∃k n,v=.int k n):
 ∃(f:World) (lv:Value->Value),DT st Z lv/\WR G (λc=>Z c/\¬T c) (DV st Z) f w/\WR G (λ_=>False) (NA Z) f f/\f.heap.size=w.heap.size/\(∀b xs e g,T b->w.heap[b]? =some (.cells xs e g)->f.heap[b]? =some (.cells xs e g))/\(∀b xs e g,¬T b->w.heap[b]? =some (.cells xs e g)->f.heap[b]? =some (.cells (xs.map lv) e (0,max xs.size g.2)))/\∀a v,w.cell? a=some v->(T a.block->f.cell? a=some v)/\(¬T a.block->f.cell? a=some (lv v)):=by
 classical
 obtain⟨lv,hl⟩:=Lx st Z c0 O
 obtain⟨fr,H,L⟩:∃fr:Obj->Obj,(∀xs e g,fr (.cells xs e g)=.cells (xs.map lv) e (0,max xs.size g.2))/\∀o,(∀xs e g,o≠.cells xs e g)->fr o=o:=⟨λo=>match o with
  |.cells xs e g=>.cells (xs.map lv) e (0,max xs.size g.2)
  |o=>o,λ_ _ _=>rfl,λo h=>by cases o<;>first|rfl|exact absurd rfl (h _ _ _)⟩
 obtain⟨f,D⟩:∃f:World,f={w with heap:=w.heap.mapIdx λc o=>if T c then o else fr o}:=⟨_,rfl⟩;have E:∀c,f.heap[c]? =(w.heap[c]?).map λo=>if T c then o else fr o:=λc=>by rw[D];exact Array.getElem?_mapIdx
 have u:f.heap.size=w.heap.size:=by rw[D];simp
 have j:∀b xs e g,T b->w.heap[b]? =some (.cells xs e g)->f.heap[b]? =some (.cells xs e g):=λb xs e g d h=>by rw[E,h];simp[d]
 have l:∀b xs e g,¬T b->w.heap[b]? =some (.cells xs e g)->f.heap[b]? =some (.cells (xs.map lv) e (0,max xs.size g.2)):=λb xs e g d h=>by rw[E,h];simp[d,H]
 have ints:∀{st:Prop} {p:Rel st} b xs e g,T b->w.heap[b]? =some (.cells xs e g)->aF (VR p) xs xs:=λb xs e g d h=>by
  obtain⟨K,R,g',m,N⟩:=M b d;rw[h]at m;simp only[ac2,Obj.cells.injEq]at m;obtain⟨rfl,rfl,rfl⟩:=m;refine⟨rfl,λi x y hx hy=>?_⟩;rw[hx]at hy;cases hy;obtain⟨k,n,rfl⟩:=N x (by rw[<-Array.mem_def];exact ac5 hx);exact VR.int _ _
 have q:∀(xs:Array Value) (i:Nat) x,(xs.map lv)[i]? =some x->∃y,xs[i]? =some y/\x=lv y:=λxs i x hx=>by
  rw[ac6]at hx;cases hy:xs[i]? with
  |none=>rw[hy]at hx;cases hx
  |some y=>rw[hy]at hx;exact⟨y,rfl,by simpa using hx.symm⟩
 refine⟨f,lv,hl,⟨λb c Q P h I=>?_,λb c h=>?_,λc h=>⟨rfl,h.1⟩,λb c h B=>absurd h.1 B,⟨by rw[u];exact F,F⟩⟩,⟨λb c Q P h I=>?_,λb c h=>?_,λc h=>h.elim,λb c h B=>absurd h.1 B,⟨by rw[u];exact F,by rw[u];exact F⟩⟩,u,j,l,λa v r=>?_⟩
 .rw[<-h.1,<-I.1]
 .obtain⟨rfl,t⟩:=h
  obtain⟨xs,e,g,hb⟩:=J b t
  by_cases d:T b
  .exact .inl ⟨xs,xs,e,g,g,j b xs e g d hb,hb,ints b xs e g d hb,λC=>absurd d C.2,λ_=>rfl⟩
  .refine .inl ⟨_,xs,e,_,g,l b xs e g d hb,hb,⟨by simp,λi x y hx hy=>?_⟩,λ_=>⟨rfl,by simp[Nat.le_max_left],Nat.le_max_right _ _,λi x hx=>?_⟩,λC=>absurd ⟨t,d⟩ C⟩
   .obtain⟨z,m,rfl⟩:=q xs i x hx
    rw[hy]at m;cases m;exact hl.alike _
   .obtain⟨z,_,rfl⟩:=q xs i x hx
    exact hl.Rq _
 .rw[<-h.1,<-I.1]
 .obtain⟨rfl,t⟩:=h
  obtain⟨xs,e,g,hb⟩:=J b t
  by_cases d:T b
  .have m:=j b xs e g d hb
   exact .inl ⟨xs,xs,e,g,g,m,m,ints b xs e g d hb,λC=>C.elim,λ_=>rfl⟩
  .have m:=l b xs e g d hb
   refine .inl ⟨_,_,e,_,_,m,m,⟨rfl,λi x y hx hy=>?_⟩,λC=>C.elim,λ_=>rfl⟩;rw[hx]at hy;cases hy;obtain⟨z,_,rfl⟩:=q xs i x hx;exact hl.self _
 .have hc:=jY r
  obtain⟨xs,e,g,hb⟩:=hc;unfold World.cell? at r;rw[hb]at r;simp only at r;cases A:a.spot with
  |some s=>rw[A]at r;cases r
  |none=>
   rw[A]at r;simp only[Option.isSome_none,Z0,if_false]at r;refine⟨λd=>?_,λd=>?_⟩
   .unfold World.cell?
    rw[j _ _ _ _ d hb];simp[A,r]
   .unfold World.cell?
    rw[l _ _ _ _ d hb];simp[A,r]
end
section
open Go Go.Conc Go.ConcN Go.RowKit Go.Conc.Lib
open Go.ConcR (KK wgBlock WgAt stA smA rd wr mk Payload DC0)
def Holds (K:Nat->Prop)(L:List (Nat×Obj))(u:World)(M:Nat->Prop):Prop:=∀x∈L,(M x.1\/K x.1)/\x.1<u.heap.size/\u.heap[x.1]? =some x.2
section
variable {Q:Program}{main:Bool}{K M:Nat->Prop}{S:Goroutine->World->(Nat->Prop)->Prop}{u az:World}{L:List (Nat×Obj)}{b:Frame}{a:Act}{k:List Item}{cs:List Frame}{ops:Array Oper}{i:Nat}{rest:List Nat}{o:Oper}
def Holds.nil:Holds K [] u M:=λx hx=>by cases hx
def Holds.rely (h:Holds K L u M)(r:bF K M u az):Holds K L az M:=λx hx=>by
 obtain⟨b,a,c⟩:=h x hx;exact⟨b,ZO a r.size,(r.keep _ b a).trans c⟩
def Holds.sub {a}(h:Holds K L u M)(hs:∀x∈a,x∈L):Holds K a u M:=λx hx=>h x (hs x hx)
def alloc_old (w:World)(a){c}(hc:c<w.heap.size):(w.alloc a).heap[c]? =w.heap[c]?:=by
 show(w.heap.push a)[c]? =_
 rw[ac3,if_neg (by omega)]
def tN (w:World)(a):(w.alloc a).heap[w.heap.size]? =some a:=by
 show(w.heap.push a)[w.heap.size]? =_
 rw[ac3,if_pos rfl]
def fo (w:World)(a):(w.alloc a).heap.size=w.heap.size+1:=by
 show(w.heap.push a).size=_
 rw[adC]
def Holds.new (h:Holds K L u M)(a):Holds K ((u.heap.size,a)::L) (u.alloc a) (Grow M u (u.alloc a)):=λx hx=>by
 rcases ZW.1 hx with rfl|hx
 .exact⟨.inl (.inr ⟨ZL _,by rw[fo];omega⟩),by rw[fo];omega,tN _ _⟩
 .obtain⟨d,c,b⟩:=h x hx
  exact⟨d.imp .inl id,by rw[fo];omega,(alloc_old _ _ c).trans b⟩
def Does.alloc (u)(a):Does K M u (u.alloc a) #[]:=⟨rfl,rfl,rfl,by rw[fo];omega,λc hc _=>alloc_old _ _ hc,λe he=>by simp at he⟩
def aC.make (r:∀c,K c->¬M c)(q:Holds K L u M)(l:ops[i]? =some o)(p:o.guard=none)(m:b.kind≠.early)(v:Nat->Value)(g)
 (j:∀az,(execOp a.eval o).runT Q az #[]=(.ok (.value (v az.heap.size)) (az.alloc g),#[]))
 (hc:∀n u' M',u.heap.size<=n->Holds K ((n,g)::L) u' M'->M' n->(∀c,M c->M' c)->(∀c,M' c->M c\/(u.heap.size<=c/\c<u'.heap.size))->n<u'.heap.size->u.heap.size<=u'.heap.size->bF K (λ_=>False) u u'->aC Q main K S (G (b.at (a.put o.dst (v n)) (.inRegion ops rest::k)) cs) u' M'):
 aC Q main K S (G (b.at a (.inRegion ops (i::rest)::k)) cs) u M:=
 aC.op l (bq p _) m λaz f=>by
  have e:=j az;rw[Sem.runT_eq,Prod.mk.injEq]at e;refine⟨_,_,e.1,by rw[e.2];exact Does.alloc az g,?_⟩;refine hc az.heap.size _ _ f.size ((q.rely f).new g) (.inr ⟨ZL _,by rw[fo];omega⟩) (λc h=>.inl h) (λc h=>h.imp id λx=>⟨ZP f.size x.1,x.2⟩) (by rw[fo];omega) (by have:=f.size;rw[fo];omega) ?_;exact⟨f.tape,f.os,f.output,by have:=f.size;rw[fo];omega,λd hd hl=>(alloc_old _ _ (ZO hl f.size)).trans (f.keep d (hd.elim (λh=>h.elim) .inr) hl)⟩
def aC.look (l:Holds K L u M)(g:ops[i]? =some o)(j:o.guard=none)(h:b.kind≠.early)(v)
 (f:∀az,Holds K L az M->∃es,(execOp a.eval o).runT Q az #[]=(.ok (.value v) az,es)/\∀e∈es,Ow K M e)
 (hc:aC Q main K S (G (b.at (a.put o.dst v) (.inRegion ops rest::k)) cs) u M):aC Q main K S (G (b.at a (.inRegion ops (i::rest)::k)) cs) u M:=
 aC.op g (bq j _) h λaz c=>by
  obtain⟨es,e,he⟩:=f az (l.rely c);rw[Sem.runT_eq,Prod.mk.injEq]at e;refine⟨_,_,e.1,⟨rfl,rfl,rfl,ZL _,λ_ _ _=>rfl,λm d=>?_⟩,by rw[Grow.self];exact hc.rely c⟩;rw[e.2]at d;rw[Grow.self];exact he m d
def aC.write {c}{old new}{t}(p:∀c,K c->¬M c)(C:Holds K L u M)(hm:M c)(n:(c,.cells old t)∈L)(y:ops[i]? =some o)(B:o.guard=none)(A:b.kind≠.early)
 (w:∀az,az.heap[c]? =some (.cells old t)->∃es,(execOp a.eval o).runT Q az #[]=(.ok .skip (az.setRow c new),es)/\∀e∈es,(∃x,e=⟨.cell ⟨c,x,none⟩,true,false⟩))
 (hc:∀u',Holds K ((c,.cells new t)::L.filter λx=>x.1 !=c) u' M->u.heap.size<=u'.heap.size->bF K (λ_=>False) u u'->aC Q main K S (G (b.at (a.put o.dst undef) (.inRegion ops rest::k)) cs) u' M):
 aC Q main K S (G (b.at a (.inRegion ops (i::rest)::k)) cs) u M:=
 aC.Rl y (bq B _) A λaz f=>by
  have j:=C.rely f;obtain⟨F,D,q⟩:=j _ n;obtain⟨es,e,he⟩:=w az q;rw[Sem.runT_eq,Prod.mk.injEq]at e
  have g:Grow M az (az.setRow c new)=M:=by
   funext d
   exact propext ⟨λh=>h.elim id λh=>absurd h.2 (by rw[setRow_size];omega),.inl⟩
  refine⟨_,e.1,⟨rfl,rfl,rfl,by rw[setRow_size];exact ZL _,λd hd z=>setRow_other _ _ _ _ λe=>z (by rw[e];exact hm),λE r=>?_⟩,?_⟩
  .rw[e.2]at r
   obtain⟨x,rfl⟩:=he E r;rw[g];exact .inl ⟨c,.inr ⟨_,rfl,rfl⟩,rfl,.inl hm⟩
  .rw[g]
   refine hc _ (λx hx=>?_) (by rw[setRow_size];exact f.size) ⟨f.tape,f.os,f.output,by rw[setRow_size];exact f.size,λd hd hl=>(setRow_other _ _ _ _ λe=>hd.elim id λh=>p d h (by rw[e];exact hm)).trans (f.keep d (hd.elim (λh=>h.elim) .inr) hl)⟩;rcases ZW.1 hx with rfl|hx
   .exact⟨.inl hm,by rw[setRow_size];exact D,setRow_heap _ _ _ _ _ _ q⟩
   .obtain⟨m,l⟩:=adp.1 hx
    obtain⟨k1,v,s⟩:=j x m;exact⟨k1,by rw[setRow_size];exact v,(setRow_other _ _ _ _ (by simpa using l)).trans s⟩
end
def regs:Code->List (Array Oper)
 |.region _ ops _=>[ops]
 |.seq a b=>regs a++regs b
 |.cond _ a b=>regs a++regs b
 |.block _ a|.loop a=>regs a
 |_=>[]
def AJ (f:Func)(k:Nat):Array Oper:=(regs (f.body.getD .skip))[k]?.getD #[]
abbrev mI (f:Func)(k:Nat):Code:=.region k (AJ f k) false
abbrev xP (f:Func):Code:=.seq (mI f 4) (.seq (.cond (.tmp 12) .skip (.exit 0)) (.seq (.block 1 (.seq (mI f 5) (.seq (.seq (mI f 6) (.cond (.tmp 16) (.exit 1) .skip)) (.seq (mI f 7) (mI f 8))))) (mI f 9)))
def xV:Func.body f42=some (.seq (mI f42 0) (.seq (mI f42 1) (.seq (mI f42 2) (.seq (.seq (mI f42 3) (.block 0 (.loop (xP f42)))) (.seq (mI f42 10) (.seq (mI f42 11) .ret)))))):=by kernel_rfl
def gp (ops:Array Oper)(i:Nat)(x:Op)(d:Option Nat):Prop:=∃o,ops[i]? =some o/\o.op=x/\o.dst=d/\o.guard=none
def bK {ops}{i}{x}{d}(h:(ops[i]?).map (λo=>(o.op,o.dst,o.guard))=some (x,d,none)):gp ops i x d:=by
 obtain⟨o,b,a⟩:=adf.1 h;simp only[Prod.mk.injEq]at a;exact⟨o,b,a⟩
def YK:gp (AJ f42 0) 0 (.box 31 (.tmp 0)) (some 2):=bK (by kernel_rfl)
def YJ:gp (AJ f42 0) 1 (.box 37 (.tmp 1)) (some 3):=bK (by kernel_rfl)
def YI:gp (AJ f42 0) 2 (.assign (.const (.slice none 0 0))) (some 4):=bK (by kernel_rfl)
def YH:gp (AJ f42 1) 0 (.makeSlice 87 (.const (.int .i64 4)) (.const (.int .i64 4))) (some 9):=bK (by kernel_rfl)
def YG:gp (AJ f42 1) 1 (.alloc 87) (some 5):=bK (by kernel_rfl)
def YF:gp (AJ f42 1) 2 (.store 87 (.tmp 5) (.tmp 9)) none:=bK (by kernel_rfl)
def YE:gp (AJ f42 2) 0 (.alloc 130) (some 6):=bK (by kernel_rfl)
def YD:gp (AJ f42 3) 0 (.load 37 (.tmp 3)) (some 10):=bK (by kernel_rfl)
def YC:gp (AJ f42 3) 1 (.move (.const (.int .i64 0))) (some 11):=bK (by kernel_rfl)
def XD:gp (AJ f42 4) 0 (.binOp .lss 3 (.tmp 11) (.const (.int .i64 4)) 3) (some 12):=bK (by kernel_rfl)
def YB:gp (AJ f42 5) 0 (.move (.tmp 11)) (some 13):=bK (by kernel_rfl)
def YA:gp (AJ f42 5) 1 (.index 37 (.tmp 10) (.tmp 11)) (some 14):=bK (by kernel_rfl)
def Yz:gp (AJ f42 5) 2 (.alloc 3) (some 7):=bK (by kernel_rfl)
def Yy:gp (AJ f42 5) 3 (.alloc 3) (some 8):=bK (by kernel_rfl)
def Yx:gp (AJ f42 5) 4 (.store 3 (.tmp 7) (.tmp 13)) none:=bK (by kernel_rfl)
def Yw:gp (AJ f42 5) 5 (.store 3 (.tmp 8) (.tmp 14)) none:=bK (by kernel_rfl)
def Yv:gp (AJ f42 6) 0 (.load 3 (.tmp 8)) (some 15):=bK (by kernel_rfl)
def Yu:gp (AJ f42 6) 1 (.binOp .leq 3 (.tmp 15) (.const (.int .i64 0)) 3) (some 16):=bK (by kernel_rfl)
def XC:gp (AJ f42 7) 0 (.call {callee:=.value (.func 68),args:= #[.tmp 6,.const (.int .i64 1)],argTypes:= #[130,3]}) (some 17):=bK (by kernel_rfl)
def Yt:gp (AJ f42 8) 0 (.makeFunc (.func 69) #[] #[.tmp 6,.tmp 2,.tmp 7,.tmp 8,.tmp 5]) (some 18):=bK (by kernel_rfl)
def Yr:gp (AJ f42 8) 1 (.go {callee:=.value (.tmp 18),args:= #[],argTypes:= #[]}) none:=bK (by kernel_rfl)
def Yq:gp (AJ f42 9) 0 (.binOp .add 3 (.tmp 11) (.const (.int .i64 1)) 3) (some 19):=bK (by kernel_rfl)
def Yp:gp (AJ f42 9) 1 (.move (.tmp 19)) (some 11):=bK (by kernel_rfl)
def XB:gp (AJ f42 10) 0 (.call {callee:=.value (.func 74),args:= #[.tmp 6],argTypes:= #[130]}) (some 20):=bK (by kernel_rfl)
def Yo:gp (AJ f42 11) 0 (.load 87 (.tmp 5)) (some 21):=bK (by kernel_rfl)
def Yn:gp (AJ f42 11) 1 (.assign (.tmp 21)) (some 4):=bK (by kernel_rfl)
def Q4:((List.range 12).map λk=>(AJ f42 k).size)=[3,3,1,2,1,6,2,1,2,2,1,2]:=by kernel_rfl
def Ro:Func.ntmps f42=22:=by kernel_rfl
def Uj:(Func.name f42== "runtime.NumGoroutine")=false:=by kernel_rfl
def rE:prog.funcs[42]? =some f42:=func42
def gm {P}{s}{u u'}{v}{es}(h:s.runT P u #[]=(.ok v u',es)):(do Pure.pure (Next.value (<-s)):Sem Next).runT P u #[]=(.ok (.value v) u',es):=by
 show(s.bind _).runT P u #[]=_
 rw[Sem.runT_bind',h];rfl
def G5 {P}{s}{u u'}{es}(h:s.runT P u #[]=(.ok () u',es)):(do s;Pure.pure Next.skip:Sem Next).runT P u #[]=(.ok .skip u',es):=by
 show(s.bind _).runT P u #[]=_
 rw[Sem.runT_bind',h];rfl
def Et (P)(t)(v)(w):(Instr.box t v).runT P w #[]=(.ok (.pointer (some ⟨w.heap.size,0,none⟩)) (w.alloc (.cells v.cells t)),#[]):=rfl
def zeroV:List Value:=.int .i64 0::List.replicate 16 (.bool false)
def dQ:Array Value:=(zeroV++zeroV++zeroV++zeroV).toArray
def Cq (w):(Instr.makeSlice 87 (.int .i64 4) (.int .i64 4)).runT prog w #[]=(.ok (ko w.heap.size) (w.alloc (.cells dQ 91)),#[]):=by kernel_rfl
def Cs (w):(Instr.alloc 87 true (.tuple #[])).runT prog w #[]=(.ok (ptr w.heap.size) (w.alloc (.cells #[.slice none 0 0] 87)),#[]):=by kernel_rfl
def Cr (w):(Instr.alloc 130 true (.tuple #[])).runT prog w #[]=(.ok (ptr w.heap.size) (w.alloc (wgBlock 130 0 0)),#[]):=by kernel_rfl
def pG (w):(Instr.alloc 3 true (.tuple #[])).runT prog w #[]=(.ok (ptr w.heap.size) (w.alloc (.cells #[.int .i64 0] 3)),#[]):=by kernel_rfl
def Es (w)(i:Nat)(a:i<=4)(x y):(do eqGuard .lss 3 x y (.int .i64 i) (.int .i64 4);binOp .lss 3 (.int .i64 i) (.int .i64 4):Sem Value).runT prog w #[]=(.ok (.bool (decide (i<4))) w,#[]):=by
 obtain rfl|rfl|rfl|rfl|rfl:i=0\/i=1\/i=2\/i=3\/i=4:=by omega
 all_goals kernel_rfl
def Mw (w)(i:Nat)(a:i<4)(x y):(do eqGuard .add 3 x y (.int .i64 i) (.int .i64 1);binOp .add 3 (.int .i64 i) (.int .i64 1):Sem Value).runT prog w #[]=(.ok (.int .i64 ((i+1:Nat):Int)) w,#[]):=by
 obtain rfl|rfl|rfl|rfl:i=0\/i=1\/i=2\/i=3:=by omega
 all_goals kernel_rfl
def Mv (w)(n)(x y):(do eqGuard .leq 3 x y (.int .i64 n) (.int .i64 0);binOp .leq 3 (.int .i64 n) (.int .i64 0):Sem Value).runT prog w #[]=(.ok (.bool (decide (n<=0))) w,#[]):=by
 kernel_rfl
def G7 (w)(i:Nat)(a:i<4)(c:Nat->Int):(Instr.index 37 (.agg #[.int .i64 (c 0),.int .i64 (c 1),.int .i64 (c 2),.int .i64 (c 3)]) (.int .i64 i)).runT prog w #[]=(.ok (.int .i64 (c i)) w,#[]):=by
 obtain rfl|rfl|rfl|rfl:i=0\/i=1\/i=2\/i=3:=by omega
 all_goals kernel_rfl
def xy {ty}{d}(hu:prog.underlying ty=some d)(hd:d.isRow=false){w}{c}{v}{t}(hc:w.heap[c]? =some (.cells #[v] t)):
 ∃es,(Instr.loadAt ty (ptr c)).runT prog w #[]=(.ok v w,es)/\∀e∈es,∃x,e=⟨.cell ⟨c,x,none⟩,false,false⟩:=by
 have hcell:w.cell? ⟨c,0,none⟩=some v:=by simp[World.cell?,hc]
 obtain⟨b,a⟩:=uu (Q:=prog) ⟨c,0,none⟩ ty w v d hu hd hcell;refine⟨#[⟨.cell ⟨c,0,none⟩,false,false⟩],?_,λe he=>⟨0,by simpa using he⟩⟩;rw[Sem.runT_eq];simp only[Instr.loadAt,Instr.sureAddr,ptr];simp[b,a]
def nD {ty}(g:(prog.info? ty).map (·.size)=some 1){w}{c}{x v}{t}(hc:w.heap[c]? =some (.cells #[x] t))(f:v.cells= #[v])(j:v.oneCell'=true):
 ∃es,(Instr.storeAt ty (ptr c) v).runT prog w #[]=(.ok () (w.setRow c #[v]),es)/\∀e∈es,∃x,e=⟨.cell ⟨c,x,none⟩,true,false⟩:=by
 have k:=run_storeCells_at (P:=prog) c 0 t [v] 0 #[x] w hc (by simp) (by simpa using j);have he:=jE (Q:=prog) c 0 t [v] 0 #[x] w #[] hc (by simp) (by simpa using j);cases b:prog.info? ty with
 |none=>simp[b]at g
 |some i=>
  have hs:i.size=1:=by simpa[b] using g
  have a:(storeVar ty ⟨c,0,none⟩ v).run prog w=.ok () (w.setRow c #[v]):=by
   simp[storeVar,sizeOf,typeInfo,b,f,hs,k]
  have d:(storeVar ty ⟨c,0,none⟩ v).events prog w #[]=(storeCells ⟨c,0,none⟩ [v] 0).events prog w #[]:=by
   simp[storeVar,sizeOf,typeInfo,b,f,hs]
  refine⟨(storeCells ⟨c,0,none⟩ [v] 0).events prog w #[],?_,λe h=>?_⟩
  .rw[Sem.runT_eq]
   simp only[Instr.storeAt,Instr.sureAddr,ptr];simp[a,d]
  .rcases he e h with h|⟨x,_,_,rfl⟩
   .simp at h
   .exact⟨x,rfl⟩
def lV (P)(c i n)(acc)(w)(es){v}(h:w.cell? ⟨c,i,none⟩=some v):
 (loadCellsFrom ⟨c,0,none⟩ i (n+1) acc).runT P w es=(loadCellsFrom ⟨c,0,none⟩ (i+1) n (acc.push v)).runT P w (es.push ⟨.cell ⟨c,i,none⟩,false,false⟩):=by
 have a:(⟨c,0,none⟩:Addr).add i=⟨c,i,none⟩:=by
  unfold Addr.add
  by_cases b:i=0
  .subst b;simp
  .simp[b]
 simp only[loadCellsFrom];show((load ((⟨c,0,none⟩:Addr).add i)).bind _).runT P w es=_
 rw[Sem.runT_bind',a,sG _ w es h]
def G6 {w}{c}{a b d e}{t}(hc:w.heap[c]? =some (.cells #[a,b,d,e] t)):
 ∃es,(Instr.loadAt 37 (ptr c)).runT prog w #[]=(.ok (.agg #[a,b,d,e]) w,es)/\∀f∈es,∃x,f=⟨.cell ⟨c,x,none⟩,false,false⟩:=by
 have c0:w.cell? ⟨c,0,none⟩=some a:=by simp[World.cell?,hc]
 have i:w.cell? ⟨c,1,none⟩=some b:=by simp[World.cell?,hc]
 have c2:w.cell? ⟨c,2,none⟩=some d:=by simp[World.cell?,hc]
 have c3:w.cell? ⟨c,3,none⟩=some e:=by simp[World.cell?,hc]
 have h:(loadCells ⟨c,0,none⟩ 4).runT prog w #[]=(.ok #[a,b,d,e] w,#[⟨.cell ⟨c,0,none⟩,false,false⟩,⟨.cell ⟨c,1,none⟩,false,false⟩,⟨.cell ⟨c,2,none⟩,false,false⟩,⟨.cell ⟨c,3,none⟩,false,false⟩]):=by
  unfold loadCells;rw[lV _ _ _ _ _ _ _ c0,lV _ _ _ _ _ _ _ i,lV _ _ _ _ _ _ _ c2,lV _ _ _ _ _ _ _ c3];rfl
 refine⟨#[⟨.cell ⟨c,0,none⟩,false,false⟩,⟨.cell ⟨c,1,none⟩,false,false⟩,⟨.cell ⟨c,2,none⟩,false,false⟩,⟨.cell ⟨c,3,none⟩,false,false⟩],?_,λf he=>?_⟩
 .have g:(isAgg 37).runT prog w #[]=(.ok true w,#[]):=by kernel_rfl
  have hs:(sizeOf 37).runT prog w #[]=(.ok 4 w,#[]):=by kernel_rfl
  show(loadVar 37 ⟨c,0,none⟩).runT prog w #[]=_
  unfold loadVar;show((isAgg 37).bind _).runT prog w #[]=_
  rw[Sem.runT_bind',g];simp only[if_true];show((sizeOf 37).bind _).runT prog w #[]=_
  rw[Sem.runT_bind',hs];simp only;show((loadCells ⟨c,0,none⟩ 4).bind _).runT prog w #[]=_
  rw[Sem.runT_bind',h];rfl
 .simp only[adA,ZW,adm,or_false]at he
  rcases he with rfl|rfl|rfl|rfl
  .exact⟨0,rfl⟩
  .exact⟨1,rfl⟩
  .exact⟨2,rfl⟩
  .exact⟨3,rfl⟩
def JT (f:Nat->Value):Array Value:=((List.range 22).map f).toArray
def up (f:Nat->Value)(d:Nat)(v:Value):Nat->Value:=λj=>if j=d then v else f j
def Ov (f){j}(h:j<22):(JT f).getD j undef=f j:=by
 simp[JT,ZY,h]
def Sz (f)(d)(v):(JT f).setIfInBounds d v=JT (up f d v):=by
 apply Array.ext';simp only[JT,ZN];refine List.ext_getElem? λj=>?_
 rw[List.getElem?_set]
 by_cases a:j<22
 .by_cases hd:d=j
  .subst hd
   simp[a,up]
  .simp[a,hd,up,Ne.symm hd]
 .simp[a]
  intro b;omega
def qi (f)(ds)(d)(v):(Act.mk (JT f) ds).put (some d) v=⟨JT (up f d v),ds⟩:=by
 show Act.mk ((JT f).setIfInBounds d v) ds=_
 rw[Sz]
def cK (f)(d)(v):up f d v d=v:=if_pos rfl
def bH (f){d j}(v)(h:j≠d):up f d v j=f j:=if_neg h
section
variable {ρ:Operand->Value}{o:Oper}
def FD {t}{x}(h:o.op=.box t x):execOp ρ o=(do Pure.pure (Next.value (<-Instr.box t (ρ x)))):=by unfold execOp;rw[h]
def mr {t}(h:o.op=.alloc t):execOp ρ o=(do Pure.pure (Next.value (<-Instr.alloc t true (.tuple #[])))):=by unfold execOp;rw[h]
def yF {t}{x y}(h:o.op=.makeSlice t x y):execOp ρ o=(do Pure.pure (Next.value (<-Instr.makeSlice t (ρ x) (ρ y)))):=by unfold execOp;rw[h]
def tC {t}{x}(h:o.op=.load t x):execOp ρ o=(do Pure.pure (Next.value (<-Instr.loadAt t (ρ x)))):=by unfold execOp;rw[h]
def IU {t}{x y}(h:o.op=.index t x y):execOp ρ o=(do Pure.pure (Next.value (<-Instr.index t (ρ x) (ρ y)))):=by unfold execOp;rw[h]
def qy {t}{x y}(h:o.op=.store t x y):execOp ρ o=(do Instr.storeAt t (ρ x) (ρ y);Pure.pure Next.skip):=by unfold execOp;rw[h]
def mq {op}{t s}{x y}(h:o.op=.binOp op t x y s):execOp ρ o=(do Pure.pure (Next.value (<-(do eqGuard op t x y (ρ x) (ρ y);binOp op t (ρ x) (ρ y))))):=by unfold execOp;rw[h]
def tu {x}(h:o.op=.move x\/o.op=.assign x):execOp ρ o=Pure.pure (Next.value (ρ x)):=by rcases h with h|h<;>(unfold execOp;rw[h])
end
def bQ (f)(ds){j}(h:j<22):(Act.mk (JT f) ds).eval (.tmp j)=f j:=Ov f h
def jS (f)(ds)(v):(Act.mk (JT f) ds).eval (.const v)=v:=rfl
section
variable {K M:Nat->Prop}{S:Goroutine->World->(Nat->Prop)->Prop}{u:World}{L:List (Nat×Obj)}{b:Frame}{f:Nat->Value}{k:List Item}{cs:List Frame}{ops:Array Oper}{i:Nat}{rest:List Nat}
def xZ {x}{v}{d}(h:gp ops i (.move x) (some d)\/gp ops i (.assign x) (some d))(l:b.kind≠.early)(j:(Act.mk (JT f) []).eval x=v)
 (hc:aC prog true K S (G (b.at ⟨JT (up f d v),[]⟩ (.inRegion ops rest::k)) cs) u M):aC prog true K S (G (b.at ⟨JT f,[]⟩ (.inRegion ops (i::rest)::k)) cs) u M:=by
 obtain⟨o,g,a,e,c⟩:∃o,ops[i]? =some o/\(o.op=.move x\/o.op=.assign x)/\o.dst=some d/\o.guard=none:=by
  rcases h with⟨o,g,a,e,c⟩|⟨o,g,a,e,c⟩
  .exact⟨o,g,.inl a,e,c⟩
  .exact⟨o,g,.inr a,e,c⟩
 refine aC.pure v g (bq c _) l (λaz=>by rw[tu a,j];rfl) (λaz=>by rw[tu a];rfl) ?_;rw[e,qi];exact hc
def sQ {x}{d}(g:∀c,K c->¬M c)(e:gp ops i x (some d))(j:b.kind≠.early)(l:Holds K L u M)(v:Nat->Value)(a)
 (h:∀(o:Oper) (az:World),o.op=x->(execOp (Act.mk (JT f) []).eval o).runT prog az #[]=(.ok (.value (v az.heap.size)) (az.alloc a),#[]))
 (hc:∀n u' M',u.heap.size<=n->Holds K ((n,a)::L) u' M'->M' n->(∀c,M c->M' c)->(∀c,M' c->M c\/(u.heap.size<=c/\c<u'.heap.size))->n<u'.heap.size->u.heap.size<=u'.heap.size->bF K (λ_=>False) u u'->aC prog true K S (G (b.at ⟨JT (up f d (v n)),[]⟩ (.inRegion ops rest::k)) cs) u' M'):
 aC prog true K S (G (b.at ⟨JT f,[]⟩ (.inRegion ops (i::rest)::k)) cs) u M:=by
 obtain⟨o,r,q,p,m⟩:=e;refine aC.make g l r m j v a (λaz=>h o az q) λn u' M' y a2 a3 a4 a5 w t s=>?_
 rw[p,qi];exact hc n u' M' y a2 a3 a4 a5 w t s
def nR {x}{d}{v}(a:gp ops i x (some d))(g:b.kind≠.early)(h:Holds K L u M)
 (c:∀(o:Oper) (az:World),o.op=x->Holds K L az M->∃es,(execOp (Act.mk (JT f) []).eval o).runT prog az #[]=(.ok (.value v) az,es)/\∀e∈es,Ow K M e)
 (hc:aC prog true K S (G (b.at ⟨JT (up f d v),[]⟩ (.inRegion ops rest::k)) cs) u M):aC prog true K S (G (b.at ⟨JT f,[]⟩ (.inRegion ops (i::rest)::k)) cs) u M:=by
 obtain⟨o,n,m,l,j⟩:=a;refine aC.look h n j g v (λaz hl=>c o az m hl) ?_;rw[l,qi];exact hc
def CX {x}{c}{old new}{t}(g:∀c,K c->¬M c)(a:gp ops i x none)(j:b.kind≠.early)(l:Holds K L u M)(hm:M c)(d:(c,.cells old t)∈L)
 (h:∀(o:Oper) (az:World),o.op=x->az.heap[c]? =some (.cells old t)->∃es,(execOp (Act.mk (JT f) []).eval o).runT prog az #[]=(.ok .skip (az.setRow c new),es)/\∀e∈es,(∃x,e=⟨.cell ⟨c,x,none⟩,true,false⟩))
 (hc:∀u',Holds K ((c,.cells new t)::L.filter λx=>x.1 !=c) u' M->u.heap.size<=u'.heap.size->bF K (λ_=>False) u u'->aC prog true K S (G (b.at ⟨JT f,[]⟩ (.inRegion ops rest::k)) cs) u' M):
 aC prog true K S (G (b.at ⟨JT f,[]⟩ (.inRegion ops (i::rest)::k)) cs) u M:=by
 obtain⟨o,q,p,n,m⟩:=a;refine aC.write g l hm d q m j (λaz hl=>h o az p hl) λu' r a2 a3=>?_
 rw[n];exact hc u' r a2 a3
def jo {x y}{a}(hc:aC prog true K S (G (b.at a (.code x:: .code y::k)) cs) u M):aC prog true K S (G (b.at a (.code (.seq x y)::k)) cs) u M:=aC.ctl rfl (λ_=>stepG_seq) hc
def fu {id}{a}{l}(hl:List.range ops.size=l)(hc:aC prog true K S (G (b.at a (.inRegion ops l::k)) cs) u M):aC prog true K S (G (b.at a (.code (.region id ops false)::k)) cs) u M:=aC.ctl rfl (λ_=>by rw[stepG_region,hl]) hc
def mW {a}(hc:aC prog true K S (G (b.at a k) cs) u M):aC prog true K S (G (b.at a (.inRegion ops []::k)) cs) u M:=aC.ctl rfl (λ_=>stepG_region_end) hc
end
def Tg (k n)(h:((List.range 12).map λk=>(AJ f42 k).size)[k]? =some n):(AJ f42 k).size=n:=by
 by_cases a:k<12
 .simpa[a] using h
 .simp[a]at h
def iN (k n)(h: [3,3,1,2,1,6,2,1,2,2,1,2][k]? =some n):List.range (AJ f42 k).size=List.range n:=by rw[Tg k n (by rw[Q4];exact h)]
def aQ (c:Nat->Int):Array Value:= #[.int .i64 (c 0),.int .i64 (c 1),.int .i64 (c 2),.int .i64 (c 3)]
def MG (f:Func):List Item:=[.code (.seq (.seq (mI f 3) (.block 0 (.loop (xP f)))) (.seq (mI f 10) (.seq (mI f 11) .ret)))]
structure Zn (K:Nat->Prop)(vb:Value)(c:Nat->Int)(aL:World)(M₀:Nat->Prop)(cs:List Frame)(g:Goroutine)(u:World)(M:Nat->Prop)(f:Nat->Value)(bb wb V VV:Nat):Prop where
 at_:g=G ((base 42).at ⟨JT f,[]⟩ (.inRegion (AJ f42 2) [0]::MG f42)) cs
 f2:f 2=ptr bb
 f3:f 3=ptr wb
 f5:f 5=ptr VV
 holds:Holds K [(bb,.cells #[vb] 31),(wb,.cells (aQ c) 37),(V,.cells dQ 91),(VV,.cells #[ko V] 87)] u M
 mine:M bb/\M wb/\M V/\M VV
 apart:aL.heap.size<=bb/\bb<wb/\wb<V/\V<VV/\VV<u.heap.size
def K6 {K M}(d:∀c,¬K c){u}{cs}{f}{vb}{c}(i:vb.cells= #[vb])(p:f 0=vb)(m:f 1=.agg (aQ c)):
 aC prog true K (λg u' M'=>∃f bb e V VV,Zn K vb c u M cs g u' M' f bb e V VV) (G ((base 42).at ⟨JT f,[]⟩ [.code (.seq (mI f42 0) (.seq (mI f42 1) (.seq (mI f42 2) (.seq (.seq (mI f42 3) (.block 0 (.loop (xP f42)))) (.seq (mI f42 10) (.seq (mI f42 11) .ret))))))]) cs) u M:=by
 have b:(base 42).kind≠.early:=by decide
 refine jo (fu (iN 0 3 rfl) ?_);refine sQ (λc h=>absurd h (d c)) YK b Holds.nil ptr (.cells #[vb] 31) (λo az a=>by rw[FD a,bQ _ _ (by decide),p];refine(gm (Et _ _ _ _)).trans ?_;rw[i];rfl) λbb u1 E q a2 a3 a4 a5 B A _=>?_
 refine sQ (λc h=>absurd h (d c)) YJ b a2 ptr (.cells (aQ c) 37) (λo az a=>by rw[FD a,bQ _ _ (by decide),bH _ _ (by decide),m];exact gm (Et _ _ _ _)) λe u2 M2 b1 b2 b3 b4 b5 z y _=>?_
 refine xZ (.inr YI) b (jS _ _ _) ?_;refine mW (jo (fu (iN 1 3 rfl) ?_));refine sQ (λc h=>absurd h (d c)) YH b b2 ko (.cells dQ 91) (λo az a=>by rw[yF a,jS];exact gm (Cq _)) λV u3 D w c2 c3 c4 c5 t s _=>?_
 refine sQ (λc h=>absurd h (d c)) YG b c2 ptr (.cells #[.slice none 0 0] 87) (λo az a=>by rw[mr a];exact gm (Cs _)) λVV u4 C d1 d2 d3 d4 d5 d6 d7 _=>?_
 refine CX (new:= #[ko V]) (λc h=>absurd h (d c)) YF b d2 d3 ZX (λo az a l=>?_) λu5 j k _=>?_
 .rw[qy a,bQ _ _ (by decide),bQ _ _ (by decide),cK,bH _ _ (by decide),cK]
  obtain⟨es,j,k⟩:=nD (ty:=87) (by kernel_rfl) l (v:=ko V) rfl rfl;exact⟨es,G5 j,k⟩
 refine mW (jo (fu (iN 2 1 rfl) ?_));refine aC.stop λaz r=>?_
 refine⟨_,bb,e,V,VV,rfl,?_,?_,?_,?_,⟨d4 _ (c4 _ (b4 _ a3)),d4 _ (c4 _ b3),d4 _ c3,d3⟩,q,by omega,by omega,by omega,?_⟩
 .rw[bH _ _ (by decide),bH _ _ (by decide),bH _ _ (by decide),bH _ _ (by decide),cK]
 .rw[bH _ _ (by decide),bH _ _ (by decide),bH _ _ (by decide),cK]
 .rw[cK]
 .refine(j.rely r).sub λx hx=>?_
  simp only[ZW,adm,or_false]at hx;have ne:∀n,n<VV->(n !=VV)=true:=λn h=>by simp;omega
  simp only[ZW,adp,adm,or_false];rcases hx with rfl|rfl|rfl|rfl
  .exact .inr ⟨by simp,ne _ (by omega)⟩
  .exact .inr ⟨by simp,ne _ (by omega)⟩
  .exact .inr ⟨by simp,ne _ (by omega)⟩
  .exact .inl rfl
 .have:=r.size;omega
def Ff (V)(r:Nat)(a:r<4)(w):(Instr.indexAt 87 (ko V) (.int .i64 (r:Int))).runT prog w #[]=(.ok (.pointer (some ⟨V,17*r,none⟩)) w,#[]):=by
 obtain rfl|rfl|rfl|rfl:r=0\/r=1\/r=2\/r=3:=by omega
 .kernel_rfl
 .kernel_rfl
 .kernel_rfl
 .kernel_rfl
def C8:(prog.info? 91).map (·.size)=some 17:=by kernel_rfl
section
variable {ty:TypeId}{Wg:Nat}{Q:Program}{St:Goroutine->World->Prop}{m:Nat}
def yw {g g'}(hs:g.status=.running)(h:∀w,stepG Q false g w=.go g' w #[])(k:∀w,WgLive ty Wg w->Goes Q false (RL ty Wg) DC0 St m g' w):∀w,WgLive ty Wg w->Goes Q false (RL ty Wg) DC0 St (m+1) g w:=
 λw _=>Goes.step hs λa b=>by rw[h a];exact⟨⟨rfl,rfl⟩,k a b⟩
end
section
variable [Payload]
def GG {V nV off}{Wg}{vs}{b:Frame}{T}{ops}(hf:b.fn=69)(d:b.kind=.deferred):
 ∀w,WgLive link.tWg Wg w->Goes prog false (RL link.tWg Wg) DC0 (V7 prog link.tWg Wg V nV off vs) 63 (G (b.at ⟨T,[dcall 70 #[ptr Wg]]⟩ [.inRegion ops []]) [jZ prog.funcs.size]) w:=by
 refine yw rfl (λw=>stepG_region_end) ?_;refine yw rfl (λw=>stepG_end) ?_;refine yw rfl (λw=>stepG_unwind_enter (a:=⟨T,[dcall 70 #[ptr Wg]]⟩) (ds:=[]) (f:=link.done) (fn:=doneFn link) (c:=Go.ConcR.Gen.body_done link) rfl wS.f_done (Go.ConcR.Gen.nm_done link) rfl) ?_;intro w hw;exact GH wS (c:={b.at ⟨T,[]⟩ []with mode:=.returning}) (cs:=[jZ prog.funcs.size]) rfl (KL hf d T) w hw
def GA {V Wg r}{vals}{b:Frame}{T}{ops}{o}(w:Payload.ety=91)(s:V≠Wg)(K:r<4)(l:vals.size=17)(p:∀v∈vals.toList,jP v)
 (hf:b.fn=69)(t:b.kind=.deferred)(C:ops[7]? =some o)(g:o.op=.store 91 (.tmp 25) (.tmp 24))(hd:o.dst=none)(E:o.guard=none)(h:T.getD 25 undef=.pointer (some ⟨V,17*r,none⟩))(i:T.getD 24 undef=.agg vals)(u)(M):
 kg prog link.tWg Wg V 68 (17*r) vals.toList (G (b.at ⟨T,[dcall 70 #[ptr Wg]]⟩ [.inRegion ops [7]]) [jZ prog.funcs.size]) u M:=by
 refine⟨rfl,fun⟨cs,a,F⟩ ⟨st,sm,H⟩=>?_⟩;obtain⟨u',A,z,I⟩:=Cm (Q:=prog) V (17*r) Payload.ety 91 vals cs u a (by omega) (by rw[l];exact C8) λv B=>Bj (p v B)
 have d:(execOp (Act.mk T [dcall 70 #[ptr Wg]]).eval o).run prog u=.ok .skip u':=by
  unfold execOp;simp only[g,Act.eval,h,i,Instr.storeAt,Instr.sureAddr];simp[A]
 have q:∀k∈(execOp (Act.mk T [dcall 70 #[ptr Wg]]).eval o).events prog u #[],QR V (17*r) vals.toList.length k:=by
  intro k hm;unfold execOp at hm;simp only[g,Act.eval,h,i,Instr.storeAt,Instr.sureAddr]at hm
  have m:k∈(storeVar 91 ⟨V,17*r,none⟩ (.agg vals)).events prog u #[]:=by
   simpa[A] using hm
  obtain⟨x,x1,x2,x3⟩:=I k m;exact⟨x,x1,by simpa using x2,x3⟩
 refine⟨_,u',_,stepG_none C (bq E _) (by rw[t];decide) d,?_,λe he=>q e (jF e he),63,?_⟩
 .subst z
  refine⟨rfl,rfl,rfl,by simp,λc hc=>setRow_other _ _ _ _ hc,λJ y L=>?_⟩;rw[a]at y;cases y;have hlen:(cs.toList.take (17*r)).length=17*r:=by rw[adh,adG];omega
  refine⟨_,setRow_heap u V cs _ _ _ a,?_,λx hx=>?_,λj D=>?_⟩
  .rw[List.size_toArray,Z7,Z7,hlen,List.length_drop,adG,adG]
   omega
  .simp only[adG]at hx
   simp only[List.getElem?_toArray]
   by_cases n:x<17*r
   .rw[adu,List.getElem?_append_left (by omega),Z5,if_pos n]
    simp
   .rw[List.getElem?_append_right (by simp;omega),List.getElem?_drop]
    simp only[Z7,hlen,adG];have:17*r+vals.size+(x-(17*r+vals.size))=x:=(by omega);rw[this];simp
  .simp only[adG]at D
   simp only[List.getElem?_toArray];rw[adu,List.getElem?_append_right (by omega),hlen,List.getElem?_append_left (by simp;omega),ada]
 .have f:(Act.mk T [dcall 70 #[ptr Wg]]).put o.dst undef=⟨T,[dcall 70 #[ptr Wg]]⟩:=by rw[hd];rfl
  rw[f];refine GG hf t u' ⟨st,sm,?_⟩;subst z;show _=_
  rw[setRow_other _ _ _ _ (Ne.symm s)];exact H
end
section
variable {Q:Program}{ty:TypeId}{Wg:Nat}
def Fq {main}{D}{St}{n}{g}{w}(w')(h:Goes Q main (RL ty Wg) D St n g w):Goes Q main (RL ty Wg) D St n g w':=by
 cases n<;>exact h
def fK {main}{R}{D}{St b}(hs:∀g w,St g w->b g w){n}{g}{w}(h:Goes Q main R D St n g w):Goes Q main R D b n g w:=stops (λg _ a _ x=>hs g a x) n g w h
variable {gE gE':Goroutine->Prop}{An S9:Goroutine->World->Prop}
def LZ.sub (e:∀g,gE g->gE' g){g}{w}(h:LZ Q Wg gE g w):LZ Q Wg gE' g w:=let ⟨a,d,b,c⟩:=h;⟨a,d,e _ b,c⟩
def QJ.sub (e:∀g,gE g->gE' g){g}{w}(h:QJ Q ty Wg gE g w):QJ Q ty Wg gE' g w:=let ⟨a,d,b,m,c⟩:=h;⟨a,d,b,m,fK (λ_ _=>LZ.sub e) c⟩
def SN.sub (d:∀g,gE g->gE' g){g}{w}(h:SN Q ty Wg gE g w):SN Q ty Wg gE' g w:=⟨h.1,λx=>let ⟨a,b,m,c⟩:=h.2 x;⟨a,b,m,fK (λ_ _=>QJ.sub d) c⟩⟩
def Ss.sub (d:∀g,gE g->gE' g){g}{w}(h:Ss Q ty Wg gE g w):Ss Q ty Wg gE' g w:=⟨h.1,h.2.1,h.2.2.1,λx=>let ⟨a,b,m,c⟩:=h.2.2.2 x;⟨a,b,m,fK (λ_ _=>SN.sub d) c⟩⟩
def SL.sub (e:∀g,gE g->gE' g){g}{w}(h:SL Q ty Wg gE g w):SL Q ty Wg gE' g w:=let ⟨a,d,b,c⟩:=h;⟨a,d,b,fK (λ_ _=>Ss.sub e) c⟩
def SQ.sub (f:∀g,gE g->gE' g)(hA:∀g w,An g w->S9 g w){vs}{g}{w}(h:SQ Q ty Wg gE An vs g w):SQ Q ty Wg gE' S9 vs g w:=⟨h.1,λv d hw=>⟨λe=>let ⟨a,b,m,c⟩:=(h.2 v d hw).1 e;⟨a,b,m,fK (λ_ _=>SL.sub f) c⟩,λe=>let ⟨a,b,m,c⟩:=(h.2 v d hw).2 e;⟨a,b,m,fK hA c⟩⟩⟩
def Oc.sub (i:∀g,gE g->gE' g)(hA:∀g w,An g w->S9 g w){g}{w}(h:Oc Q ty Wg gE An g w):Oc Q ty Wg gE' S9 g w:=⟨h.1,λv j hw=>let ⟨f,a,b,c⟩:=h.2 v j hw;⟨f,a,λe=>let ⟨m,d⟩:=b e;⟨m,fK (λ_ _=>QJ.sub i) d⟩,λe=>let ⟨m,d⟩:=c e;⟨m,fK (λ_ _=>SQ.sub i hA) d⟩⟩⟩
def Qe.sub (hA:∀g w,An g w->S9 g w){g}{w}(h:Qe Q ty Wg An g w):Qe Q ty Wg S9 g w:=let ⟨a,d,b,m,c⟩:=h;⟨a,d,b,m,fK hA c⟩
end
def BX (f:Func)(t:Nat->Value)(l:List Nat):Frame:=(base 42).at ⟨JT t,[]⟩ (.inRegion (AJ f 10) l::[.code (.seq (mI f 11) .ret)])
def S8 (f:Func)(L:WgLink)(Wg VV:Nat)(cs:List Frame)(g:Goroutine)(w:World):Prop:=∃t,t 5=ptr VV/\Head L Wg (BX f t [0]) cs g w
def UM (f:Func)(P:Program)(ty:TypeId)(Wg VV:Nat)(cs:List Frame)(g:Goroutine):Prop:=∃t,t 5=ptr VV/\UR P ty Wg (G (BX f t []) cs) g
def F9 {f}{L}{Wg VV}{cs}(g)(w)(h:S8 f L Wg VV cs g w):g.status=.running:=by
 obtain⟨t,_,T,rfl,_⟩:=h;rfl
def OH (t:Nat->Value):∃o,(AJ f42 10)[0]? =some o/\o.dst=some 20:=by
 obtain⟨o,b,_,a,_⟩:=XB;exact⟨o,b,a⟩
def LV {Wg VV}{cs}(g)(w)(hF:WgLive link.tWg Wg w)(h:S8 f42 link Wg VV cs g w):∃m,Goes prog true (RL link.tWg Wg) DC0 (Oc prog link.tWg Wg (UM f42 prog link.tWg Wg VV cs) (S8 f42 link Wg VV cs)) m g w:=by
 obtain⟨t,a,h⟩:=h;obtain⟨o,c,b⟩:=OH t;obtain⟨m,hm⟩:=waitRound (b₀:=base 42) (a₀:=⟨JT t,[]⟩) (ops₀:=AJ f42 10) (i₀:=0) (rest₀:=[]) (k₀:=[.code (.seq (mI f42 11) .ret)]) (cs:=cs) wS g w hF h;refine⟨m,fK (λg w=>Oc.sub (λg h=>⟨up t 20 (.tuple #[]),?_,?_⟩) (λg w h=>⟨t,a,h⟩)) hm⟩
 .rw[bH _ _ (by decide)];exact a
 .rw[c,Option.bind_some,b,qi]at h
  exact h
def GX {Wg VV}{cs}{t}(b:t 5=ptr VV){a}(hF:WgLive link.tWg Wg a)(w):
 ∃m,Goes prog true (RL link.tWg Wg) DC0 (Qe prog link.tWg Wg (S8 f42 link Wg VV cs)) m (G ((base link.wait).at ⟨#[.pointer (some ⟨Wg,0,none⟩)]++Array.replicate 83 undef,[]⟩ [.code (Go.ConcR.Gen.body_wait link)]) (BX f42 t [0]::cs)) w:=
 ⟨10,Fq w (fK (λg w=>Qe.sub λg w h=>⟨t,b,h⟩) (waitStart (b₀:=base 42) (a₀:=⟨JT t,[]⟩) (ops₀:=AJ f42 10) (i₀:=0) (rest₀:=[]) (k₀:=[.code (.seq (mI f42 11) .ret)]) (cs:=cs) wS a hF))⟩
def qL:∃d,prog.underlying 87=some d/\d.isRow=false:=⟨_,underlying87,by kernel_rfl⟩
section
variable [Payload]
def GB {K'}{st}{p:Rel st}{a b}{w u}{M}{V VV Wg r:Nat}{vals}(e:Payload.ety=91)(n:V≠Wg)(z:r<4)(m:vals.size=17)(d:∀v∈vals.toList,jP v)
 (B:Tree (patch ae prog) (o9 vals r) a [] w)(hl:Live (ou f69 (ptr Wg) (ptr VV) (ko V)) (patch ae prog) p a [] b [])(am:a.mode=.run)(ar:a.roundOf=none)(ad:a.defers=[])(G:a.kind=.normal)(H:a.fn=69)
 (F:b.defers=[dcall 70 #[ptr Wg]])(bk:b.kind=.deferred)(D:b.mode=.run)(C:b.roundOf=none)(E:b.fn=69)(x:b.tmps.size=26)
 (i:a.todo=[.inRegion (H3 f69) [6,7]])(t:b.todo=a.todo.map (qE (ou f69 (ptr Wg) (ptr VV) (ko V))))(g:b.tmps.getD 19 undef=ko V):
 aC prog false K' (kg prog link.tWg Wg V 68 (17*r) vals.toList) (df b [jZ prog.funcs.size]) u M:=by
 obtain⟨q,s⟩:=Un B am ar ad (by rw[G];decide) H i;have t24:=(hl.fr.tmps.get 24).resolve_left λh=>absurd h.2 (show ¬Tp 24=true by decide)
 rw[q]at t24;obtain⟨ys,y,A⟩:=t24.vQ;rw[Fx A d]at y;have t20:=(hl.fr.tmps.get 20).resolve_left λh=>absurd h.2 (show ¬Tp 20=true by decide)
 rw[s]at t20;have y3:=t20.bT;have f:b.todo=[.inRegion ((H3 f69).map uo) [6,7]]:=by rw[t,i];rfl
 rw[yt D C f F];obtain⟨j,f1,f2⟩:=Xr;obtain⟨l,g1,g2⟩:=Xq;have k:=λu=>Ff V r z u
 simp only[Sem.runT_eq,Prod.mk.injEq]at k;refine aC.pure (.pointer (some ⟨V,17*r,none⟩)) (o:=uo j) (by rw[ac6,f1];rfl) (bq ((eY j).2.2.trans f2.2.2) _) (by rw[bk];decide) (λaz=>?_) (λaz=>?_) ?_
 .rw[Xm f2]
  unfold execOp;simp only[Act.eval,g,y3];simp[(k az).1]
 .rw[Xm f2]
  unfold execOp;simp only[Act.eval,g,y3];simp[(k az).1,(k az).2]
 .have c:(Act.mk b.tmps [dcall 70 #[ptr Wg]]).put (uo j).dst (.pointer (some ⟨V,17*r,none⟩))=⟨b.tmps.setIfInBounds 25 (.pointer (some ⟨V,17*r,none⟩)),[dcall 70 #[ptr Wg]]⟩:=by
   rw[(eY j).1,f2.2.1];rfl
  rw[c];refine aC.stop λaz _=>GA e n z m d E bk (o:=uo l) (by rw[ac6,g1];rfl) (by rw[X9 g2]) ((eY l).1.trans g2.2.1) ((eY l).2.2.trans g2.2.2) ?_ ?_ az M
  .exact bU (by rw[x];decide)
  .rw[getD_set_ne (by decide)];exact y
def GD {K' r}{S}{st}{p p₀}{M₀:Nat->Prop}{a b}{w u}{M}{V VV Wg}{R}{rest pre}(z:∀c,r c->K' c)(l:K' VV)
 (H:∀T,∃a' as' w' es,stepG (patch ae prog) true (df a ([]++[stop (patch ae prog)])) (ay w T)=.go (df a' (as'++[stop (patch ae prog)])) w' es/\(a'.mode=.run\/a'.mode=.returning)/\Tree (patch ae prog) R a' as' w'/\
   ∀(p:Rel st) (b:Frame) (bs:List Frame) (u:World) (M:Nat->Prop),Live (ou f69 (ptr Wg) (ptr VV) (ko V)) (patch ae prog) p a' as' b bs->WR (patch ae prog).globals.size r p w' u->(∀b c,p b c->¬r c->M c)->Ext p₀ p->(∀x,M₀ x->M x)->QO VV V u M->aC prog false K' S (df b (bs++[jZ prog.funcs.size])) u M)
 (hl:Live (ou f69 (ptr Wg) (ptr VV) (ko V)) (patch ae prog) p a [] b [])(hw:WR (patch ae prog).globals.size r p w u)(D:∀b c,p b c->¬r c->M c)(J:Ext p₀ p)(y:∀x,M₀ x->M x)(I:QO VV V u M)
 (am:a.mode=.run)(ar:a.roundOf=none)(ad:a.defers=[])(W:a.kind=.normal)(F:a.fn=69)
 (E:b.defers=[dcall 70 #[ptr Wg]])(bk:b.kind=.deferred)(U:b.mode=.run)(P:b.roundOf=none)(q:b.tmps.size=26)(b4:b.tmps.getD 4 undef=ptr VV)(b0:b.tmps.getD 0 undef=ptr Wg)
 (i:a.todo=[.inRegion (H3 f69) (0::rest)])(B:b.todo=a.todo.map (qE (ou f69 (ptr Wg) (ptr VV) (ko V))))(g:Gs (pre++0::rest))(K:6∈rest):
 aC prog false K' S (df b [jZ prog.funcs.size]) u M:=by
 obtain⟨s,f1,f2⟩:=lF;obtain⟨a',as',w',es,A,_,_,hc⟩:=H w.tape
 have hs:∃es,stepG (patch ae prog) true (df a ([]++[stop (patch ae prog)])) (ay w w.tape)=.go (df (a.at ((Act.mk a.tmps []).put (some 19) (.int .i64 (160160160160000+0))) [.inRegion (H3 f69) rest]) ([]++[stop (patch ae prog)])) (ay w w.tape) es:=by
  rw[yt am ar i ad,stepG_value f1 (bq f2.2.2 _) (by rw[W];decide) (Er f2 _ _),f2.2.1];exact⟨_,rfl⟩
 obtain⟨L,hs⟩:=hs;rw[hs]at A;simp only[GStep.go.injEq,Goroutine.mk.injEq]at A;obtain⟨⟨rfl,O,_⟩,rfl,_⟩:=A;have N:=adw O;subst N;have n:b.todo=[.inRegion ((H3 f69).map uo) (0::rest)]:=by rw[B,i];rfl
 obtain⟨d,v,t⟩:=qL;rw[yt U P n E];refine aC.op (o:=uo s) (by rw[ac6,f1];rfl) (bq ((eY s).2.2.trans f2.2.2) _) (by rw[bk];decide) λaz f=>?_
 have m:=E4 l u az M I f;obtain⟨C,G⟩:=uu (Q:=prog) ⟨VV,0,none⟩ 87 az (ko V) d v t m.2.2;have k:b.tmps.getD 4 undef=.pointer (some ⟨VV,0,none⟩):=b4;refine⟨ko V,az,?_,⟨rfl,rfl,rfl,ZL _,λ_ _ _=>rfl,?_⟩,?_⟩
 .rw[Xn f2]
  unfold execOp;simp only[Act.eval,k,Instr.loadAt,Instr.sureAddr];simp[C]
 .rw[Xn f2]
  unfold execOp;simp only[Act.eval,k,Instr.loadAt,Instr.sureAddr];simp only[Sem.events_bind,Sem.run_bind];intro e he;have:e=⟨.cell ⟨VV,0,none⟩,false,false⟩:=by simpa[C,G] using he
  subst this;exact .inl ⟨VV,.inr ⟨_,rfl,rfl⟩,rfl,.inr ⟨l,rfl⟩⟩
 .rw[Grow.self]
  have j:(Act.mk b.tmps [dcall 70 #[ptr Wg]]).put (uo s).dst (ko V)=(Act.mk b.tmps [dcall 70 #[ptr Wg]]).put (some 19) (ko V):=by
   rw[(eY s).1,f2.2.1]
  rw[j];refine hc p _ [] az M ⟨?_,.inl rfl,trivial,?_⟩ (hw.rely D (f.ES z)) D J y m
  .refine FR.fill hl.fr am F rfl (show(19:Nat)≠25 by decide) i E ?_
   refine⟨⟨by simpa using q,?_,?_⟩,.inr (.inr (.inr (.inr (.inr (.inr (.inr ⟨rest,pre++[0],rfl,by simpa using g,K,λ_=>bU (by rw[q];decide)⟩))))))⟩
   .rw[getD_set_ne (by decide)];exact b0
   .rw[getD_set_ne (by decide)];exact b4
  .refine⟨λh=>absurd rfl h,λ_=>⟨rfl,bk,λ_=>F⟩⟩
def PX:iG:={fns:=69::yB,sp:=[],mark:=λ_=>false,sg:=id,root:=1000000,rt:=0,jh:=false,dd:=[],kd:=.normal,pv:=λ_=>false,okF:=λ_ _=>True,ext:=[167]}
def PW:j6 PX:=⟨λ_ _=>rfl,λ_=>rfl,λ_=>rfl,λ_=>rfl,λ_ h=>Bool.noConfusion h,λ_ _ _ _ _=>trivial,λ_ _ _ _ _ _ _ _ _=>trivial⟩
def Yf:∀g∈69::yB,PB PX (patch ae prog) (patch ae prog) g:=
 all_cons ⟨_,_,jq,by kernel_rfl,kr,jq,by kernel_rfl⟩<|
 all_cons ⟨_,_,pf func80 (by rfl),by kernel_rfl,rfl,pf func80 (by rfl),by kernel_rfl⟩<|
 all_cons ⟨_,_,pf func134 (by rfl),by kernel_rfl,rfl,pf func134 (by rfl),by kernel_rfl⟩<|
 all_cons ⟨_,_,pf func83 (by rfl),by kernel_rfl,rfl,pf func83 (by rfl),by kernel_rfl⟩<|
 all_cons ⟨_,_,pf func135 (by rfl),by kernel_rfl,rfl,pf func135 (by rfl),by kernel_rfl⟩<|
 all_cons ⟨_,_,pf func136 (by rfl),by kernel_rfl,rfl,pf func136 (by rfl),by kernel_rfl⟩<|
 all_cons ⟨_,_,pf func169 (by rfl),by kernel_rfl,rfl,pf func169 (by rfl),by kernel_rfl⟩<|
 all_cons ⟨_,_,pf func170 (by rfl),by kernel_rfl,rfl,pf func170 (by rfl),by kernel_rfl⟩<|
 all_cons ⟨_,_,pf func81 (by rfl),by kernel_rfl,rfl,pf func81 (by rfl),by kernel_rfl⟩<|
 all_cons ⟨_,_,pf func131 (by rfl),by kernel_rfl,rfl,pf func131 (by rfl),by kernel_rfl⟩<|
 all_cons ⟨_,_,pf func132 (by rfl),by kernel_rfl,rfl,pf func132 (by rfl),by kernel_rfl⟩<|
 all_cons ⟨_,_,pf func72 (by rfl),by kernel_rfl,rfl,pf func72 (by rfl),by kernel_rfl⟩<|
 all_cons ⟨_,_,pf func117 (by rfl),by kernel_rfl,rfl,pf func117 (by rfl),by kernel_rfl⟩<|
 all_cons ⟨_,_,pf func129 (by rfl),by kernel_rfl,rfl,pf func129 (by rfl),by kernel_rfl⟩<|
 all_cons ⟨_,_,pf func166 (by rfl),by kernel_rfl,rfl,pf func166 (by rfl),by kernel_rfl⟩<|
 all_cons ⟨_,_,pf func71 (by rfl),by kernel_rfl,rfl,pf func71 (by rfl),by kernel_rfl⟩<|
 all_cons ⟨_,_,pf func116 (by rfl),by kernel_rfl,rfl,pf func116 (by rfl),by kernel_rfl⟩<|
 all_cons ⟨_,_,pf func48 (by rfl),by kernel_rfl,rfl,pf func48 (by rfl),by kernel_rfl⟩<|
 all_cons ⟨_,_,pf func77 (by rfl),by kernel_rfl,rfl,pf func77 (by rfl),by kernel_rfl⟩<|
 all_cons ⟨_,_,pf func78 (by rfl),by kernel_rfl,rfl,pf func78 (by rfl),by kernel_rfl⟩<|
 all_cons ⟨_,_,pf func128 (by rfl),by kernel_rfl,rfl,pf func128 (by rfl),by kernel_rfl⟩<|
 all_cons ⟨_,_,pf func130 (by rfl),by kernel_rfl,rfl,pf func130 (by rfl),by kernel_rfl⟩<|
 all_cons ⟨_,_,pf func127 (by rfl),by kernel_rfl,rfl,pf func127 (by rfl),by kernel_rfl⟩<|
 all_cons ⟨_,_,pf func157 (by rfl),by kernel_rfl,rfl,pf func157 (by rfl),by kernel_rfl⟩<|
 all_cons ⟨_,_,pf func76 (by rfl),by kernel_rfl,rfl,pf func76 (by rfl),by kernel_rfl⟩<|
 all_cons ⟨_,_,pf func126 (by rfl),by kernel_rfl,rfl,pf func126 (by rfl),by kernel_rfl⟩<|
 all_cons ⟨_,_,pf func73 (by rfl),by kernel_rfl,rfl,pf func73 (by rfl),by kernel_rfl⟩<|
 all_cons ⟨_,_,pf func118 (by rfl),by kernel_rfl,rfl,pf func118 (by rfl),by kernel_rfl⟩<|
 all_cons ⟨_,_,pf func119 (by rfl),by kernel_rfl,rfl,pf func119 (by rfl),by kernel_rfl⟩<|
 all_cons ⟨_,_,pf func163 (by rfl),by kernel_rfl,rfl,pf func163 (by rfl),by kernel_rfl⟩<|
 all_cons ⟨_,_,pf func192 (by rfl),by kernel_rfl,rfl,pf func192 (by rfl),by kernel_rfl⟩<|
 all_cons ⟨_,_,pf func214 (by rfl),by kernel_rfl,rfl,pf func214 (by rfl),by kernel_rfl⟩<|
 all_cons ⟨_,_,pf func215 (by rfl),by kernel_rfl,rfl,pf func215 (by rfl),by kernel_rfl⟩<|
 all_cons ⟨_,_,pf func120 (by rfl),by kernel_rfl,rfl,pf func120 (by rfl),by kernel_rfl⟩<|
 all_cons ⟨_,_,pf func164 (by rfl),by kernel_rfl,rfl,pf func164 (by rfl),by kernel_rfl⟩<|
 all_nil
def ML:aH PX (patch ae prog) (patch ae prog):=
 aH.of PW PG fU.nil dw.nil (λg a=>by
  have h:(dS.all λg=>(69::yB).contains g)=true:=by kernel_rfl
  have:=ZU.1 h g a;exact adv this) (69::yB) (λg=>⟨.inl,λh=>h.elim id λh=>by cases h⟩) (λg a=>by cases a) (λg a e=>by
  subst e;exact absurd a (adj (show decide (¬1000000∈69::yB)=true by kernel_rfl))) Yf (λg a=>by cases a)
end
def Yj:∃o,(O0 f69)[0]? =some o/\o.op=.defer {callee:=.value (.func 70),args:= #[.tmp 0],argTypes:= #[130]}/\o.dst=none/\o.guard=none:=by
 have h:((O0 f69)[0]?).map (λo=>(o.op,o.dst,o.guard))=some (.defer {callee:=.value (.func 70),args:= #[.tmp 0],argTypes:= #[130]},none,none):=by kernel_rfl
 obtain⟨o,b,a⟩:=adf.1 h;simp only[Prod.mk.injEq]at a;exact⟨o,b,a⟩
def Xl:(O0 f69).size=1:=by kernel_rfl
def Rn:Func.ntmps f69=26:=by kernel_rfl
def Qy:(Func.name f69== "runtime.NumGoroutine")=false:=by kernel_rfl
def rP (Wg bb a b VV:Nat):Deferred:={target:=.fn (.func 69) #[ptr Wg,ptr bb,ptr a,ptr b,ptr VV],args:= #[]}
def pE (x0 bb b c a:Value):Array Value:= #[x0,bb,b,c,a,undef,undef,undef,undef,undef,undef,undef,undef,undef,undef,undef,undef,undef,undef,undef,undef,undef,undef,undef,undef,undef]
def wW (a b c d e): #[a,b,c,d,e]++Array.replicate 21 undef=pE a b c d e:=by kernel_rfl
def LK (Wg bb a b VV)(w):stepG prog false (born prog (rP Wg bb a b VV)) w=
 .go (G ((baseD 69).at ⟨pE (ptr Wg) (ptr bb) (ptr a) (ptr b) (ptr VV),[]⟩ [.code (.seq (.region 0 (O0 f69) false) (.seq (R1 f69) (.seq (R2 f69) (RQ f69))))]) [jZ prog.funcs.size]) w #[]:=by
 have c:¬Func.name f69= "runtime.NumGoroutine" :=by simpa using Qy
 have hb:¬Func.body f69=none:=by rw[uf];simp
 have e:=enter_atD (P:=prog) (f:=69) #[ptr Wg,ptr bb,ptr a,ptr b,ptr VV] sZ uf;rw[Rn,show 26-(#[ptr Wg,ptr bb,ptr a,ptr b,ptr VV]:Array Value).size=21 from rfl,wW]at e;simp only[born,rP,stepG,unwind,callDeferred,invoke,callFunc];simp only[ac4,Sem.runT_eq,Sem.run_bind,run_program,Result.andThen_ok,sZ,c,hb,Qy];simp[c,hb,GStep.after,e,G];exact⟨rfl,seen_none _ _⟩
def Wi:(O1 f69).map uo=O1 f69:=by kernel_rfl
def Wh:(O2 f69).map uo=O2 f69:=by kernel_rfl
def Wj:(H3 f69).map uo=O3 f69:=by kernel_rfl
def OW (a y4 sl): [Item.code (.seq (R1 f69) (.seq (R2 f69) (R3 f69)))].map (qE (ou f69 a y4 sl))=[Item.code (.seq (R1 f69) (.seq (R2 f69) (RQ f69)))]:=by
 show [Item.code (.seq (.region 1 ((O1 f69).map uo) true) (.seq (.region 2 ((O2 f69).map uo) true) (.region 3 ((H3 f69).map uo) true)))]=_
 rw[Wi,Wh,Wj]
def KQ (a y4 sl):bA (ou f69 a y4 sl) (patch ae prog) 69 (.seq (R1 f69) (.seq (R2 f69) (R3 f69)))=true:=by kernel_rfl
section
variable [Payload]
def BR (hz:dM (patch ae prog)){K' J M}{st}{p:Rel st}{K u}{V VV Wg bb d f r:Nat}{vals}(x:Payload.ety=91)(S:V≠Wg)(hr:r<4)(P:vals.size=17)(R:∀v∈vals.toList,jP v)
 (B:∀c,J c->K' c)(A:K' VV)(I:QO VV V u M)(hw:WR (patch ae prog).globals.size J p K u)(H:∀b c,p b c->¬J c->M c)(h1:p bb bb)(h2:p d d)(h3:p f f)
 (hc:∀T,Calls (patch ae prog) 69 #[undef,ptr bb,ptr d,ptr f,undef] (ay K T) fun|.returned v,w'=>o9 vals r v w'|_,_=>False):
 aC prog false K' (kg prog link.tWg Wg V 68 (17*r) vals.toList) (born prog (rP Wg bb d f VV)) u M:=by
 have tw:Twin (patch ae prog) prog:=xJ ae prog lH FV;have L:=uz ae prog lH FV;have hp:∀c,p c c->VR p (ptr c) (ptr c):=λc hc=>VR.ptr ⟨hc,rfl,rfl⟩
 have m:aF (VR p) #[undef,ptr bb,ptr d,ptr f,undef] #[undef,ptr bb,ptr d,ptr f,undef]:=aF.same λv hv=>by
  simp at hv;rcases hv with rfl|rfl|rfl|rfl|rfl
  .exact VR.undef
  .exact hp _ h1
  .exact hp _ h2
  .exact hp _ h3
  .exact VR.undef
 have k:Oy st PX (patch ae prog) J ⟨Frame.enter (patch ae prog) 69 #[undef,ptr bb,ptr d,ptr f,undef] .normal,[],K⟩:=
  ⟨p,_,[],u,⟨FR.enter ML (by exact ZX) (by exact adm) m (λg q=>by cases q),.inl rfl,trivial,⟨λh=>absurd rfl h,λ_=>⟨rfl,rfl,λh=>by cases h⟩⟩⟩,hw⟩
 have tree:=pz hz ML L (.inl rfl) rfl (λ_=>rfl) k hc;obtain⟨o,e1,e2,e3,e4⟩:=Yj;refine aC.ctl rfl (λaz=>LK Wg bb d f VV az) ?_;refine aC.ctl rfl (λaz=>stepG_seq) ?_;refine aC.ctl rfl (λaz=>stepG_region) ?_;refine aC.ctl rfl (λaz=>stepG_defer e1 (bq e4 _) (by decide) e2) ?_;rw[e3];refine aC.ctl rfl (λaz=>stepG_region_end) ?_;have hm:(#[Operand.tmp 0]).map (Act.mk (pE (ptr Wg) (ptr bb) (ptr d) (ptr f) (ptr VV)) []).eval= #[ptr Wg]:=by simp[Act.eval,pE]
 have q:G ((baseD 69).at (Act.put ⟨pE (ptr Wg) (ptr bb) (ptr d) (ptr f) (ptr VV),[dcall 70 #[ptr Wg]]⟩ none undef) [.code (.seq (R1 f69) (.seq (R2 f69) (RQ f69)))]) [jZ prog.funcs.size]=
  df {fn:=69,tmps:=pE (ptr Wg) (ptr bb) (ptr d) (ptr f) (ptr VV),todo:=[.code (.seq (R1 f69) (.seq (R2 f69) (RQ f69)))],defers:=[dcall 70 #[ptr Wg]],mode:=.run,kind:=.deferred} ([]++[jZ prog.funcs.size]):=rfl
 rw[hm,q]
 have y:Frame.enter (patch ae prog) 69 #[undef,ptr bb,ptr d,ptr f,undef] .normal={fn:=69,tmps:=pE undef (ptr bb) (ptr d) (ptr f) undef,todo:=[.code (.seq (R1 f69) (.seq (R2 f69) (R3 f69)))],defers:=[],mode:=.run,kind:=.normal}:=by
  have en:(fD f69).ntmps=26:=by kernel_rfl
  have et:=kr;unfold Frame.enter;rw[jq];simp only[ads,ac9,Option.bind_some,et,en];rw[show 26-(#[undef,ptr bb,ptr d,ptr f,undef]:Array Value).size=21 from rfl,wW]
 rw[y]at tree;refine Ab (C:=ou f69 (ptr Wg) (ptr VV) (ko V)) (cs:=[jZ prog.funcs.size]) (p₀:=p) (M₀:=M) (Iv:=QO VV V) B hz (Ra _ _ _) tw (.inl rfl) rfl (λu az M=>E4 A u az M) (λu u' M es=>Nq u u' M es) ?_ ?_ tree p _ [] u M ?_ hw H (Ext.refl _) (λ_ h=>h) I
 .
  intro p a b w u M hl hw H hE z I Q;exfalso;obtain⟨l1,_,⟨l3,l4⟩,fn,T,v,Z,Y,O⟩:=Q;have s:a.fn=69:=(hl.deep.2 rfl).2.2 rfl;rw[s,jq]at Z;cases Z;rw[results_tmp3 (t:=24) (u:=20) (v:=25) (by kernel_rfl)]at Y;cases Y;have U:=hl.fr.rt s;have D:a.tmps.getD 25 undef=undef:=U;unfold o9 at O;simp only[Value.tuple.injEq]at O;have N:=congrArg Array.toList O;simp only[ac0,and_true]at N;rw[D]at N;cases N.2.2
 .intro p a b fs gs w u M hm hk ht hn hl hw H hE z I
  obtain⟨rfl,rfl,X,ar,ad,ak,bd,bk,bm,br,bf,b4,F,rest,pre,l,E⟩:=Aj hm hk hl;have b0:=(hl.fr.shape X).1.2.1;rcases l with⟨n,j,h6⟩|⟨n,rfl,W⟩
  .exact GD B A hn hl hw H hE z I hm ar ad ak X bd bk bm br F b4 b0 n E j h6
  .exact GB x S hr P R ht hl hm ar ad ak X bd bk bm br bf F n E W
 .refine⟨⟨⟨_,jq⟩,⟨λi=>?_,rfl⟩,aU.of ?_ (λ_ hy=>by cases hy),rfl,rfl,rfl,?_,λ_=>rfl,λ_=>⟨⟨rfl,rfl,rfl⟩,.inl rfl⟩,(λe=>by cases e),λg q=>by cases q⟩,.inl rfl,trivial,⟨λh=>absurd rfl h,λ_=>⟨rfl,rfl,λ_=>rfl⟩⟩⟩
  .show _\/VR p ((pE undef (ptr bb) (ptr d) (ptr f) undef).getD i undef) ((pE (ptr Wg) (ptr bb) (ptr d) (ptr f) (ptr VV)).getD i undef)
   by_cases i0:i=0
   .exact .inl ⟨rfl,by rw[i0];rfl⟩
   by_cases i4:i=4
   .exact .inl ⟨rfl,by rw[i4];rfl⟩
   refine .inr ?_
   by_cases i1:i=1
   .rw[i1];exact hp _ h1
   by_cases i2:i=2
   .rw[i2];exact hp _ h2
   by_cases i3:i=3
   .rw[i3];exact hp _ h3
   have key:∀(a e:Value),(pE a (ptr bb) (ptr d) (ptr f) e).getD i undef=undef:=λa e=>by
        rw[<-wW,ZY]
        by_cases hi:i<26
        .rw[Array.getElem?_append_right (by simp;omega),Array.getElem?_replicate]
         split<;>rfl
        .rw[Array.getElem?_eq_none (by simp;omega)]
         rfl
   rw[key,key];exact VR.undef
  .show bA (ou f69 (ptr Wg) (ptr VV) (ko V)) (patch ae prog) 69 _=true
   exact KQ _ _ _
  .simp only[OW]
end
def AU {P}{n}{f}(h:P.funcs[n]? =some f)(a:(f.name== "runtime.NumGoroutine")=false)(hb:f.body.isNone=false)(args)(w):(callFunc n args).runT P w #[]=(.ok (.enter n args) w,#[]):=by
 rw[Sem.runT_eq];refine Prod.ext ?_ ?_
 .simp only[callFunc,Sem.run_bind,run_program,Result.andThen_ok,h,a,hb,Z0,if_false]
  simp
 .simp only[callFunc,Sem.events_bind,run_program,Result.evThen_ok,h,a,hb,Z0,if_false]
  simp
section
variable {K M:Nat->Prop}{S:Goroutine->World->(Nat->Prop)->Prop}{u:World}{b:Frame}{f:Nat->Value}{k:List Item}{cs:List Frame}{ops:Array Oper}{i:Nat}{rest:List Nat}
def JO {fn}{g}{args}{l}{d}{c}(h:gp ops i (.call {callee:=.value (.func g),args:=args,argTypes:=l}) (some d))(p:b.kind≠.early)(hf:prog.funcs[g]? =some fn)(n:(fn.name== "runtime.NumGoroutine")=false)(hb:fn.body=some c)
 (hc:aC prog true K S (G ((base g).at ⟨args.map (Act.mk (JT f) []).eval++Array.replicate (fn.ntmps-(args.map (Act.mk (JT f) []).eval).size) undef,[]⟩ [.code c]) (b.at ⟨JT f,[]⟩ (.inRegion ops (i::rest)::k)::cs)) u M):
 aC prog true K S (G (b.at ⟨JT f,[]⟩ (.inRegion ops (i::rest)::k)) cs) u M:=by
 obtain⟨o,s,r,t,q⟩:=h
 have m:∀az,(execOp (Act.mk (JT f) []).eval o).runT prog az #[]=(.ok (.enter g (args.map (Act.mk (JT f) []).eval)) az,#[]):=λaz=>by
  have e:execOp (Act.mk (JT f) []).eval o=callFunc g (#[]++args.map (Act.mk (JT f) []).eval++ #[]):=by
   unfold execOp;rw[r];rfl
  rw[e,Array.empty_append,ac4];exact AU hf n (by rw[hb];rfl) _ _
 refine aC.step rfl λaz a=>?_
 have j:=m az;rw[Sem.runT_eq,Prod.mk.injEq]at j;refine⟨_,az,_,stepG_enter (f:=g) (args:=args.map (Act.mk (JT f) []).eval) s (bq q _) p j.1,⟨rfl,rfl,rfl,ZL _,λ_ _ _=>rfl,λe he=>?_⟩,?_⟩
 .have:=jF e he
  rw[j.2]at this;simp at this
 .rw[Grow.self,enter_at _ hf hb]
  exact hc.rely a
def Ip {x}{p q}{t}(hx:(Act.mk (JT f) []).eval x=.bool t)(hc:aC prog true K S (G (b.at ⟨JT f,[]⟩ (.code (if t then p else q)::k)) cs) u M):aC prog true K S (G (b.at ⟨JT f,[]⟩ (.code (.cond x p q)::k)) cs) u M:=aC.ctl rfl (λ_=>stepG_cond hx) hc
def Np {a}{id}{k'}(h:exitTo id k=some k')(hc:aC prog true K S (G (b.at a k') cs) u M):aC prog true K S (G (b.at a (.code (.exit id)::k)) cs) u M:=aC.ctl rfl (λ_=>stepG_exit h) hc
def Nl {a}(hc:aC prog true K S (G (b.at a k) cs) u M):aC prog true K S (G (b.at a (.code .skip::k)) cs) u M:=aC.ctl rfl (λ_=>stepG_skip) hc
def JP {a}{id}{c}(hc:aC prog true K S (G (b.at a (.code c:: .inBlock id::k)) cs) u M):aC prog true K S (G (b.at a (.code (.block id c)::k)) cs) u M:=aC.ctl rfl (λ_=>stepG_block) hc
def K9 {a}{id}(hc:aC prog true K S (G (b.at a k) cs) u M):aC prog true K S (G (b.at a (.inBlock id::k)) cs) u M:=aC.ctl rfl (λ_=>stepG_inBlock) hc
def RI {a}{c}(hc:aC prog true K S (G (b.at a (.code c:: .inLoop c::k)) cs) u M):aC prog true K S (G (b.at a (.code (.loop c)::k)) cs) u M:=aC.ctl rfl (λ_=>stepG_loop) hc
def Nn {a}{c}(hc:aC prog true K S (G (b.at a (.code c:: .inLoop c::k)) cs) u M):aC prog true K S (G (b.at a (.inLoop c::k)) cs) u M:=aC.ctl rfl (λ_=>stepG_inLoop) hc
end
section
variable [Payload]
def xg {Q}{ty}{Wg V nV}{K}{An}{nW}{off}{vals}(r):Sr Q ty Wg V nV K An nW off vals r=aC Q true K (SS Q ty Wg V nV K An nW off vals r):=by
 cases r<;>rfl
end
section
def ND (f:Func):List Item:=[.code (xP f),.inLoop (xP f),.inBlock 0,.code (.seq (mI f 10) (.seq (mI f 11) .ret))]
def F3 (f:Func):List Item:=[.code (mI f 9),.inLoop (xP f),.inBlock 0,.code (.seq (mI f 10) (.seq (mI f 11) .ret))]
def IW {M K}{c}(hm:M c){es:Array Event}(h:∀e∈es,∃x,e=⟨.cell ⟨c,x,none⟩,false,false⟩):∀e∈es,Ow K M e:=λe he=>by
 obtain⟨x,rfl⟩:=h e he;exact .inl ⟨c,.inr ⟨_,rfl,rfl⟩,rfl,.inl hm⟩
structure HJ (c:Nat->Int)(bb VV Wg i:Nat)(f:Nat->Value):Prop where
 f2:f 2=ptr bb
 f5:f 5=ptr VV
 f6:f 6=ptr Wg
 fa:f 10=.agg (aQ c)
 fb:f 11=.int .i64 i
def HJ.up {c:Nat->Int}{bb VV Wg i:Nat}{f:Nat->Value}(h:HJ c bb VV Wg i f){d:Nat}(v:Value)(hd:d≠2/\d≠5/\d≠6/\d≠10/\d≠11):HJ c bb VV Wg i (up f d v):=
 ⟨by rw[bH _ _ (Ne.symm hd.1)];exact h.f2,by rw[bH _ _ (Ne.symm hd.2.1)];exact h.f5,by rw[bH _ _ (Ne.symm hd.2.2.1)];exact h.f6,by rw[bH _ _ (Ne.symm hd.2.2.2.1)];exact h.fa,by rw[bH _ _ (Ne.symm hd.2.2.2.2)];exact h.fb⟩
def JA {S}{K M}{u}{cs}{c}{bb VV Wg i}{f}(d:i<4)(h:HJ c bb VV Wg i f)
 (hc:∀f,HJ c bb VV Wg (i+1) f->aC prog true K S (G ((base 42).at ⟨JT f,[]⟩ (ND f42)) cs) u M):aC prog true K S (G ((base 42).at ⟨JT f,[]⟩ (F3 f42)) cs) u M:=by
 have a:(base 42).kind≠.early:=by decide
 refine fu (iN 9 2 rfl) ?_;refine nR Yq a (Holds.nil (K:=K) (M:=M)) (v:=.int .i64 ((i+1:Nat):Int)) (λo az b _=>⟨#[],?_,λe he=>by simp at he⟩) ?_
 .rw[mq b,bQ _ _ (by decide),jS,h.fb]
  exact gm (Mw _ i d _ _)
 refine xZ (.inl Yp) a (bQ _ _ (by decide)) ?_;refine mW (Nn (hc _ ?_));refine⟨?_,?_,?_,?_,?_⟩
 .rw[bH _ _ (by decide),bH _ _ (by decide)];exact h.f2
 .rw[bH _ _ (by decide),bH _ _ (by decide)];exact h.f5
 .rw[bH _ _ (by decide),bH _ _ (by decide)];exact h.f6
 .rw[bH _ _ (by decide),bH _ _ (by decide)];exact h.fa
 .rw[cK,cK]
end
def Cb:∃d,prog.underlying 3=some d/\d.isRow=false:=⟨_,underlying3,rfl⟩
def bF.xN {K M}{u v w}(h:bF K (λ_=>False) u v)(k:bF K M v w):bF K (λ_=>False) u w:=h.trans (k.mono λ_ h=>h.elim)
section
def Hd {S}{K M}{u}{cs}{c}{bb VV Wg i}{f}(E:i<4)(h:HJ c bb VV Wg i f)(r:∀d,K d->¬M d)(q:∀d,K d->d<u.heap.size)
 (m:c i<=0->∀f u' M',HJ c bb VV Wg i f->bF K (λ_=>False) u u'->(∀d,M' d->M d\/u.heap.size<=d)->aC prog true K S (G ((base 42).at ⟨JT f,[]⟩ (F3 f42)) cs) u' M')
 (hgo:0<c i->∀f a b u' M',HJ c bb VV Wg i f->f 7=ptr a->f 8=ptr b->Holds K [(a,.cells #[.int .i64 i] 3),(b,.cells #[.int .i64 (c i)] 3)] u' M'->M' a->M' b->a<b->bF K (λ_=>False) u u'->(∀d,M' d->M d\/u.heap.size<=d)->
  aC prog true K S (G ((base 42).at ⟨JT f,[]⟩ (.code (.seq (mI f42 7) (mI f42 8)):: .inBlock 1::F3 f42)) cs) u' M'):
 aC prog true K S (G ((base 42).at ⟨JT f,[]⟩ (ND f42)) cs) u M:=by
 have j:(base 42).kind≠.early:=by decide
 refine jo (fu (iN 4 1 rfl) ?_);refine nR XD j (Holds.nil (K:=K) (M:=M)) (v:=.bool (decide (i<4))) (λo az g _=>⟨#[],?_,λe he=>by simp at he⟩) ?_
 .rw[mq g,bQ _ _ (by decide),jS,h.fb]
  exact gm (Es _ i (by omega) _ _)
 replace h:=h.up (d:=12) (.bool (decide (i<4))) (by decide);have w:(Act.mk (JT (up f 12 (.bool (decide (i<4))))) []).eval (.tmp 12)=.bool true:=by rw[bQ _ _ (by decide),cK,ady E]
 generalize up f 12 (.bool (decide (i<4)))=f at h w⊢;refine mW (jo (Ip w ?_));simp;refine Nl (jo (JP (jo (fu (iN 5 6 rfl) ?_))));refine xZ (.inl YB) j ((bQ _ _ (by decide)).trans h.fb) ?_;have g13:up f 13 (.int .i64 i) 13=.int .i64 i:=cK _ _ _;replace h:=h.up (d:=13) (.int .i64 i) (by decide);generalize up f 13 (.int .i64 i)=f at h g13⊢;refine nR YA j (Holds.nil (K:=K) (M:=M)) (v:=.int .i64 (c i)) (λo az g _=>⟨#[],?_,λe he=>by simp at he⟩) ?_
 .rw[IU g,bQ _ _ (by decide),bQ _ _ (by decide),h.fb,h.fa]
  exact gm (G7 _ i E c)
 have g14:up f 14 (.int .i64 (c i)) 14=.int .i64 (c i):=cK _ _ _;replace g13:up f 14 (.int .i64 (c i)) 13=.int .i64 i:=(bH _ _ (by decide)).trans g13;replace h:=h.up (d:=14) (.int .i64 (c i)) (by decide);generalize up f 14 (.int .i64 (c i))=f at h g13 g14⊢;refine sQ r Yz j Holds.nil ptr (.cells #[.int .i64 0] 3) (λo az g=>by rw[mr g];exact gm (pG _)) λa u1 J Q a2 a3 a4 a5 P O I=>?_
 have g7:up f 7 (ptr a) 7=ptr a:=cK _ _ _;replace g13:up f 7 (ptr a) 13=.int .i64 i:=(bH _ _ (by decide)).trans g13;replace g14:up f 7 (ptr a) 14=.int .i64 (c i):=(bH _ _ (by decide)).trans g14;replace h:=h.up (d:=7) (ptr a) (by decide);generalize up f 7 (ptr a)=f at h g7 g13 g14⊢;have l:∀d,K d->¬J d:=λd hd hm=>(a5 d hm).elim (r d hd) λx=>by have:=q d hd;omega
 refine sQ l Yy j a2 ptr (.cells #[.int .i64 0] 3) (λo az g=>by rw[mr g];exact gm (pG _)) λb u2 M2 b1 b2 b3 b4 b5 N L H=>?_
 have g8:up f 8 (ptr b) 8=ptr b:=cK _ _ _;replace g7:up f 8 (ptr b) 7=ptr a:=(bH _ _ (by decide)).trans g7;replace g13:up f 8 (ptr b) 13=.int .i64 i:=(bH _ _ (by decide)).trans g13;replace g14:up f 8 (ptr b) 14=.int .i64 (c i):=(bH _ _ (by decide)).trans g14;replace h:=h.up (d:=8) (ptr b) (by decide);generalize up f 8 (ptr b)=f at h g7 g8 g13 g14⊢;have k:∀d,K d->¬M2 d:=λd hd hm=>(b5 d hm).elim (l d hd) λx=>by have:=q d hd;omega
 have n:a≠b:=by omega
 refine CX (new:= #[.int .i64 i]) k Yx j b2 (b4 _ a3) (ac1 _ ZX) (λo az g A=>?_) λu3 F c2 c3=>?_
 .rw[qy g,bQ _ _ (by decide),bQ _ _ (by decide),g7,g13]
  obtain⟨es,y,s⟩:=nD (ty:=3) (by kernel_rfl) A (v:=.int .i64 i) rfl rfl;exact⟨es,G5 y,s⟩
 have D:Holds K [(b,.cells #[.int .i64 0] 3),(a,.cells #[.int .i64 i] 3)] u3 M2:=F.sub λx hx=>by
  simp at hx⊢;rcases hx with rfl|rfl
  .exact .inr ⟨.inl rfl,by simpa using Ne.symm n⟩
  .exact .inl rfl
 refine CX (new:= #[.int .i64 (c i)]) k Yw j D b3 ZX (λo az g A=>?_) λu4 d1 d2 d3=>?_
 .rw[qy g,bQ _ _ (by decide),bQ _ _ (by decide),g8,g14]
  obtain⟨es,y,s⟩:=nD (ty:=3) (by kernel_rfl) A (v:=.int .i64 (c i)) rfl rfl;exact⟨es,G5 y,s⟩
 have z:Holds K [(a,.cells #[.int .i64 i] 3),(b,.cells #[.int .i64 (c i)] 3)] u4 M2:=d1.sub λx hx=>by
  simp only[ZW,adp,adm,or_false]at hx⊢;rcases hx with rfl|rfl
  .exact .inr ⟨.inr rfl,by simpa using n⟩
  .exact .inl rfl
 have hR:=I.trans (H.trans (c3.trans d3));have p:=λd hm=>(b5 d hm).elim (λx=>(a5 d x).imp id And.left) λx=>.inr (by omega)
 refine mW (jo (jo (fu (iN 6 2 rfl) ?_)));refine nR Yv j z (v:=.int .i64 (c i)) (λo az g hl=>?_) ?_
 .rw[tC g,bQ _ _ (by decide),g8]
  obtain⟨d,C,B⟩:=Cb;obtain⟨es,y,s⟩:=xy C B (hl _ (ac1 _ ZX)).2.2;exact⟨es,gm y,IW b3 s⟩
 have g15:up f 15 (.int .i64 (c i)) 15=.int .i64 (c i):=cK _ _ _;replace g7:up f 15 (.int .i64 (c i)) 7=ptr a:=(bH _ _ (by decide)).trans g7;replace g8:up f 15 (.int .i64 (c i)) 8=ptr b:=(bH _ _ (by decide)).trans g8;replace h:=h.up (d:=15) (.int .i64 (c i)) (by decide);generalize up f 15 (.int .i64 (c i))=f at h g7 g8 g15⊢;refine nR Yu j (Holds.nil (K:=K) (M:=M2)) (v:=.bool (decide (c i<=0))) (λo az g _=>⟨#[],?_,λe he=>by simp at he⟩) ?_
 .rw[mq g,bQ _ _ (by decide),jS,g15]
  exact gm (Mv _ _ _ _)
 have t:(Act.mk (JT (up f 16 (.bool (decide (c i<=0))))) []).eval (.tmp 16)=.bool (decide (c i<=0)):=by rw[bQ _ _ (by decide),cK]
 replace g7:up f 16 (.bool (decide (c i<=0))) 7=ptr a:=(bH _ _ (by decide)).trans g7;replace g8:up f 16 (.bool (decide (c i<=0))) 8=ptr b:=(bH _ _ (by decide)).trans g8;replace h:=h.up (d:=16) (.bool (decide (c i<=0))) (by decide);generalize up f 16 (.bool (decide (c i<=0)))=f at h g7 g8 t⊢;refine mW (Ip t ?_)
 by_cases hc:c i<=0
 .simp only[ady hc,if_true]
  exact Np rfl (m hc f u4 M2 h hR p)
 .simp only[adg hc,Z0,if_false]
  exact Nl (hgo (by omega) f a b u4 M2 h g7 g8 z (b4 _ a3) b3 (by omega) hR p)
end
section
variable {ty:TypeId}{Wg:Nat}{Q:Program}{St:Goroutine->World->Prop}{m:Nat}
def sV {g g'}(hs:g.status=.running)(h:∀w,stepG Q true g w=.go g' w #[])(k:∀w,WgLive ty Wg w->Goes Q true (RL ty Wg) DC0 St m g' w):∀w,WgLive ty Wg w->Goes Q true (RL ty Wg) DC0 St (m+1) g w:=
 λw _=>Goes.step hs λa b=>by rw[h a];exact⟨⟨rfl,rfl⟩,k a b⟩
end
def nQ {P}{fn}{a}{o}{w}(h:(execOp a.eval o).events P w #[]= #[]):listed P fn a o w= #[]:=by
 unfold listed;rw[h,seen_none]
def Td {Wg bb VV b c}{f}{cs}{k}(f2:f 2=ptr bb)(f5:f 5=ptr VV)(f6:f 6=ptr Wg)(f7:f 7=ptr b)(f8:f 8=ptr c):
 ∀w,WgLive link.tWg Wg w->Goes prog true (RL link.tWg Wg) DC0 (V8 prog (G ((base 42).at ⟨JT (up f 18 (.func (.func 69) #[] #[ptr Wg,ptr bb,ptr b,ptr c,ptr VV])),[]⟩ (.inRegion (AJ f42 8) []::k)) cs) (born prog (rP Wg bb b c VV))) 3
  (G ((base 42).at ⟨JT f,[]⟩ (.inRegion (AJ f42 7) []:: .code (mI f42 8)::k)) cs) w:=by
 refine sV rfl (λw=>stepG_region_end) ?_;refine sV rfl (λw=>stepG_region) ?_;rw[iN 8 2 rfl,show List.range 2=[0,1]from rfl];obtain⟨o,l,j,i,h⟩:=Yt
 have g:∀w,(execOp (Act.mk (JT f) []).eval o).runT prog w #[]=(.ok (.value (.func (.func 69) #[] #[ptr Wg,ptr bb,ptr b,ptr c,ptr VV])) w,#[]):=λw=>by
  have e:execOp (Act.mk (JT f) []).eval o=(do Pure.pure (Next.value (<-Instr.makeFunc (.func 69) ((#[]:Array Operand).map (Act.mk (JT f) []).eval) ((#[.tmp 6,.tmp 2,.tmp 7,.tmp 8,.tmp 5]:Array Operand).map (Act.mk (JT f) []).eval)))):=by
   unfold execOp;rw[j]
  have m:(#[.tmp 6,.tmp 2,.tmp 7,.tmp 8,.tmp 5]:Array Operand).map (Act.mk (JT f) []).eval= #[(Act.mk (JT f) []).eval (.tmp 6),(Act.mk (JT f) []).eval (.tmp 2),(Act.mk (JT f) []).eval (.tmp 7),(Act.mk (JT f) []).eval (.tmp 8),(Act.mk (JT f) []).eval (.tmp 5)]:=by simp
  rw[m,show((#[]:Array Operand).map (Act.mk (JT f) []).eval)= #[]from by simp]at e;rw[e,bQ _ _ (by decide),bQ _ _ (by decide),bQ _ _ (by decide),bQ _ _ (by decide),bQ _ _ (by decide),f2,f5,f6,f7,f8];exact gm rfl
 have d:=λw=>(g w)
 simp only[Sem.runT_eq,Prod.mk.injEq]at d;refine sV rfl (λw=>by rw[stepG_value l (bq h _) (by decide) (d w).1,nQ (d w).2,i,qi]) ?_;intro w _;refine Goes.stop λa _=>⟨rfl,?_⟩
 obtain⟨o,g1,g2,g3,g4⟩:=Yr
 have hs:(execOp (Act.mk (JT (up f 18 (.func (.func 69) #[] #[ptr Wg,ptr bb,ptr b,ptr c,ptr VV]))) []).eval o).runT prog a #[]=(.ok (.spawn (rP Wg bb b c VV)) a,#[]):=by
  have e:execOp (Act.mk (JT (up f 18 (.func (.func 69) #[] #[ptr Wg,ptr bb,ptr b,ptr c,ptr VV]))) []).eval o=(do Pure.pure (Next.spawn (<-resolve (Act.mk (JT (up f 18 (.func (.func 69) #[] #[ptr Wg,ptr bb,ptr b,ptr c,ptr VV]))) []).eval {callee:=.value (.tmp 18),args:= #[],argTypes:= #[]} o.type))):=by
   unfold execOp;rw[g2]
  rw[e];unfold resolve;simp only[bQ _ _ (show 18<22 by decide),cK,List.map_toArray,List.map_nil];rfl
 rw[Sem.runT_eq,Prod.mk.injEq]at hs;rw[stepG_spawn g1 (bq g4 _) (by decide) hs.1 rfl,nQ hs.2,g3];rfl
section
variable [Payload]
def rounds {K}{aL}{c}{vd:Nat->Array Value}{bb V VV Wg nW}{off}{vals}{cs}{cnt:Nat->Nat}(z:WgLive link.tWg Wg aL)
 (c4:cnt 4=0)(Q:∀i,i<4->cnt i=cnt (i+1)+if 0<c i then 1 else 0)(t:∀i,i<4->0<c i->off (nW-(cnt (i+1)+1))=17*i/\vals (nW-(cnt (i+1)+1))=(vd i).toList)(B:∀d,K d->d<aL.heap.size)
 (Z:∀(r g j:Nat) (az:World) (M₀:Nat->Prop),r<4->0<c r->M₀ g->M₀ j->g<j->Holds K [(g,.cells #[.int .i64 r] 3),(j,.cells #[.int .i64 (c r)] 3)] az M₀->bF K (λ_=>False) aL az->(∀d,M₀ d->aL.heap.size<=d)->
  aC prog false K (kg prog link.tWg Wg V 68 (17*r) (vd r).toList) (born prog (rP Wg bb g j VV)) az M₀):
 ∀n i,i+n=4->∀f u M,HJ c bb VV Wg i f->bF K (λ_=>False) aL u->(∀d,M d->aL.heap.size<=d)->Sr prog link.tWg Wg V 68 K (S8 f42 link Wg VV cs) nW off vals (cnt i) (G ((base 42).at ⟨JT f,[]⟩ (ND f42)) cs) u M:=by
 intro n;have J:(base 42).kind≠.early:=by decide
 induction n with
 |zero=>
  intro i U f u M h hR D;obtain rfl:i=4:=by omega
  rw[c4,xg];refine jo (fu (iN 4 1 rfl) ?_);refine nR XD J (Holds.nil (K:=K) (M:=M)) (v:=.bool (decide ((4:Nat)<4))) (λo az T _=>⟨#[],?_,λe he=>by simp at he⟩) ?_
  .rw[mq T,bQ _ _ (by decide),jS,h.fb]
   exact gm (Es _ 4 (by omega) _ _)
  replace h:=h.up (d:=12) (.bool (decide ((4:Nat)<4))) (by decide);have C:(Act.mk (JT (up f 12 (.bool (decide ((4:Nat)<4))))) []).eval (.tmp 12)=.bool false:=by rw[bQ _ _ (by decide),cK];rfl
  generalize up f 12 (.bool (decide ((4:Nat)<4)))=f at h C⊢;refine mW (jo (Ip C ?_));simp only[Z0,if_false];refine Np rfl (jo (fu (iN 10 1 rfl) ?_));refine JO (fn:=waitFn link) (c:=Go.ConcR.Gen.body_wait link) XB J wS.f_wait (Go.ConcR.Gen.nm_wait link) rfl ?_;refine aC.stop λaz _=>?_
  have he:(#[Operand.tmp 6]).map (Act.mk (JT f) []).eval= #[.pointer (some ⟨Wg,0,none⟩)]:=by
   rw[show(#[Operand.tmp 6]).map (Act.mk (JT f) []).eval= #[(Act.mk (JT f) []).eval (.tmp 6)]from by simp,bQ _ _ (by decide),h.f6];rfl
  rw[he];exact GX h.f5 z az
 |succ n P=>
  intro i U f u M h hR D;have a:i<4:=by omega
  have N:∀d,K d->¬M d:=λd hd hm=>by have:=B d hd;have:=D d hm;omega
  rw[xg];refine Hd a h N (λd hd=>ZO (B d hd) hR.size) ?_ ?_
  .intro hc f u' M' q E p
   refine JA a q λf X=>?_
   have m:∀d,M' d->aL.heap.size<=d:=λd hd=>(p d hd).elim (D d) λx=>ZP hR.size x
   have:=P (i+1) (by omega) f u' M' X (hR.trans E) m;rw[xg]at this;rw[Q i a,if_neg (by omega)];exact this
  .intro hc f g j u' M' q f7 f8 W m1 m2 I E p
   have m:∀d,M' d->aL.heap.size<=d:=λd hd=>(p d hd).elim (D d) λx=>ZP hR.size x
   have L:=hR.trans E;have y:cnt i=cnt (i+1)+1:=(by rw[Q i a,if_pos hc]);rw[y];obtain⟨H,F⟩:=t i a hc;refine jo (fu (iN 7 1 rfl) ?_);refine JO (fn:=addFn link) (c:=Go.ConcR.Gen.body_add link) XC J wS.f_add (Go.ConcR.Gen.nm_add link) rfl ?_;refine aC.stop λaz l=>?_
   have he:(#[Operand.tmp 6,Operand.const (.int .i64 1)]).map (Act.mk (JT f) []).eval= #[.pointer (some ⟨Wg,0,none⟩),.int .i64 1]:=by
        rw[show(#[Operand.tmp 6,Operand.const (.int .i64 1)]).map (Act.mk (JT f) []).eval= #[(Act.mk (JT f) []).eval (.tmp 6),.int .i64 1]from by simp[Act.eval],bQ _ _ (by decide),q.f6];rfl
   rw[he]
   have s:∃o,(AJ f42 7)[0]? =some o/\o.dst=some 17:=by
        obtain⟨o,Y,_,O,_⟩:=XC;exact⟨o,Y,O⟩
   obtain⟨o,S,R⟩:=s;refine⟨G ((base 42).at ⟨JT (up (up f 17 (.tuple #[])) 18 (.func (.func 69) #[] #[ptr Wg,ptr bb,ptr g,ptr j,ptr VV])),[]⟩ (.inRegion (AJ f42 8) []:: .inBlock 1::F3 f42)) cs,born prog (rP Wg bb g j VV),rfl,⟨40,Fq az (P9 (b₀:=base 42) (a₀:=⟨JT f,[]⟩) (ops₀:=AJ f42 7) (i₀:=0) (rest₀:=[]) (k₀:=.code (mI f42 8):: .inBlock 1::F3 f42) (cs:=cs) (mT:=3) (child:=born prog (rP Wg bb g j VV)) wS ?_ aL z)⟩,?_⟩
   .intro w hw
    rw[S,Option.bind_some,R,qi];refine Td ?_ ?_ ?_ ?_ ?_ w hw
    .rw[bH _ _ (by decide)];exact q.f2
    .rw[bH _ _ (by decide)];exact q.f5
    .rw[bH _ _ (by decide)];exact q.f6
    .rw[bH _ _ (by decide)];exact f7
    .rw[bH _ _ (by decide)];exact f8
   .intro b k
    have A:bF K (λ_=>False) aL b:=(L.xN l).xN k;refine⟨?_,?_⟩
    .rw[H,F]
     exact Z i g j b M' a hc m1 m2 I ((W.rely l).rely k) A m
    .rw[xg]
     refine mW (K9 ?_);refine JA a ((q.up (d:=17) _ (by decide)).up (d:=18) _ (by decide)) λf O=>?_
     have:=P (i+1) (by omega) f b (λ_=>False) O A (λ_ h=>h.elim);rw[xg]at this;exact this
end
def iR (c:Nat->Int)(i:Nat):Nat:=((List.range 4).filter λj=>decide (i<=j)&&decide (0<c j)).length
def qR (c:Nat->Int):List Nat:=(List.range 4).filter λj=>decide (0<c j)
def Ad (c:Nat->Int)(k:Nat):Nat:=17*(qR c)[k]?.getD 0
def pq (c:Nat->Int)(vd:Nat->Array Value)(k:Nat):List Value:=(vd ((qR c)[k]?.getD 0)).toList
def mK (x:Nat):Value:=dQ.getD x undef
def four {P:Nat->Prop}(d:P 0)(c:P 1)(b:P 2)(a:P 3):∀i,i<4->P i:=λi e=>by
 obtain rfl|rfl|rfl|rfl:i=0\/i=1\/i=2\/i=3:=by omega
 .exact d
 .exact c
 .exact b
 .exact a
def Ho:List.range 4=[0,1,2,3]:=rfl
def Sc (c):iR c 4=0:=by simp[iR,Ho]
def yV (c):∀i,i<4->iR c i=iR c (i+1)+if 0<c i then 1 else 0:=by
 refine four ?_ ?_ ?_ ?_<;>(simp only[iR,Ho];by_cases e:0<c 0<;>by_cases d:0<c 1<;>by_cases b:0<c 2<;>by_cases a:0<c 3<;>simp[e,d,b,a])
def JM (c)(vd):∀i,i<4->0<c i->Ad c (iR c 0-(iR c (i+1)+1))=17*i/\pq c vd (iR c 0-(iR c (i+1)+1))=(vd i).toList:=by
 refine four ?_ ?_ ?_ ?_<;>(intro a;simp only[Ad,pq,qR,iR,Ho];by_cases f:0<c 0<;>by_cases e:0<c 1<;>by_cases d:0<c 2<;>by_cases b:0<c 3<;>simp_all)
def Ex (c):∀k,k<iR c 0->∃i,i<4/\0<c i/\(qR c)[k]? =some i:=by
 intro k b;have e:iR c 0=(qR c).length:=by unfold iR qR;congr 1
 have a:k< (qR c).length:=by omega
 refine⟨(qR c)[k],?_,?_,by simp[a]⟩
 .have:=acY a
  simpa using (adp.1 this).1
 .have:=acY a
  simpa using (adp.1 this).2
def MI (c){k k'}(d:k<iR c 0)(b:k'<iR c 0)(h:(qR c)[k]? =(qR c)[k']?):k=k':=by
 have e:iR c 0=(qR c).length:=by unfold iR qR;congr 1
 have a:(qR c).Nodup:=adx _ List.nodup_range;exact(List.getElem?_inj (by omega) a).1 h
def PR (c):iR c 0<=4:=ZP (List.length_filter_le _ _) (by simp)
def WU (c)(vd)(e:∀i,i<4->0<c i->(vd i).size=17):pg 68 (iR c 0) (Ad c) (pq c vd):=by
 have key:∀k,k<iR c 0->∃i,i<4/\(qR c)[k]? =some i/\Ad c k=17*i/\(pq c vd k).length=17:=λk a=>by
  obtain⟨i,g,f,d⟩:=Ex c k a;refine⟨i,g,d,?_,?_⟩
  .simp[Ad,d]
  .simp[pq,d,e i g f]
 refine⟨PR c,λk a=>?_,λk a=>?_,λk k' x a b m a2 a3 a4=>?_⟩
 .obtain⟨i,_,_,_,h⟩:=key k a;omega
 .obtain⟨i,g,_,d,h⟩:=key k a;omega
 .obtain⟨i,_,f,d,l⟩:=key k a
  obtain⟨j,_,g2,g3,g4⟩:=key k' b;have:i=j:=by omega
  subst this;exact MI c a b (f.trans g2.symm)
def Bh {Q}{ty}{Wg}{St}:∀(n:Nat) (g:Goroutine) (w:World),WgLive ty Wg w->Goes Q true (RL ty Wg) DC0 St n g w->Goes Q true (λw a=>∃d,a=w.at d) DC0 St n g w
 |0,g,w,hl,h=>λa ⟨d,e⟩=>h a (by subst e;exact hl)
 |n+1,g,w,hl,h=>by
  rcases h with h|⟨c,h⟩
  .exact .inl λa ⟨d,e⟩=>h a (by subst e;exact hl)
  .refine .inr ⟨c,λa ⟨d,e⟩=>?_⟩
   have b:WgLive ty Wg a:=(by subst e;exact hl);have:=h a b
   revert this
   cases stepG Q true g a<;>simp only[GStep.goes,imp_self]
   rintro⟨⟨rfl,rfl⟩,x⟩;exact⟨⟨rfl,rfl⟩,Bh n _ _ b x⟩
def WG (vb:Value)(c:Nat->Int)(j:Nat):Value:=if j=0 then vb else if j=1 then .agg (aQ c)else undef
def Te (vb)(c): #[vb,.agg (aQ c)]++Array.replicate 20 undef=JT (WG vb c):=by kernel_rfl
def R4 (vb)(c):Frame.enter prog 42 #[vb,.agg (aQ c)] .normal=(base 42).at ⟨JT (WG vb c),[]⟩ [.code (.seq (mI f42 0) (.seq (mI f42 1) (.seq (mI f42 2) (.seq (.seq (mI f42 3) (.block 0 (.loop (xP f42)))) (.seq (mI f42 10) (.seq (mI f42 11) .ret))))))]:=by
 rw[enter_at _ rE xV,Ro,show 22-(#[vb,Value.agg (aQ c)]:Array Value).size=20 from rfl,Te]
def Kv {V VV}{b}{bs}{t}(l:t 5=ptr VV){u}(a:u.heap[VV]? =some (.cells #[ko V] 87)):
 aC prog true (λx=>x=VV) (λg _ _=>g=df (b.finish (ko V)) bs) (G (BX f42 t []) (b::bs)) u (λ_=>False):=by
 have i:(base 42).kind≠.early:=by decide
 have k:Holds (λx=>x=VV) [(VV,.cells #[ko V] 87)] u (λ_=>False):=λx hx=>by
  simp only[ZW,adm,or_false]at hx;subst hx;exact⟨.inr rfl,(ZK.1 a).1,a⟩
 refine mW (jo (fu (iN 11 2 rfl) ?_));refine nR Yo i k (v:=ko V) (λo az j hl=>?_) ?_
 .rw[tC j,bQ _ _ (by decide),l]
  obtain⟨d,h,f⟩:=qL;obtain⟨es,c,m⟩:=xy h f (hl _ ZX).2.2;refine⟨es,gm c,λe he=>?_⟩;obtain⟨x,rfl⟩:=m e he;exact .inl ⟨VV,.inr ⟨_,rfl,rfl⟩,rfl,.inr ⟨rfl,rfl⟩⟩
 refine xZ (.inr Yn) i ((bQ _ _ (by decide)).trans (cK _ _ _)) ?_;refine mW (aC.ctl rfl (λ_=>stepG_ret') ?_);have c:Func.results f42= #[.tmp 4]:=by kernel_rfl
 refine aC.ctl (g':=G (b.finish (ko V)) bs) rfl (λaz=>?_) (aC.stop λ_ _=>rfl);refine stepG_leave (fn:=f42) rfl rfl rE ?_ ?_
 .rw[results_tmp c]
  show Result.ok ((JT _).getD 4 undef) az=_
  rw[Ov _ (by decide),cK]
 .exact events_results_tmp c _ _
section
variable [Payload]
def Al (D:Payload.ety=91){S}{gs}{u}{sl}{t}{q}{b}{bs}{B'}{c}{vd:Nat->Array Value}
 (hF:ni prog S gs u.heap.size t q)(h0:gs[0]? =some (df (Frame.enter prog 42 #[ptr B',.agg (aQ c)] .normal) (b::bs)))(F:∀i,i<4->0<c i->(vd i).size=17)
 (HW:∀(bb V VV Wg:Nat) (aL:World),(∀d,d<u.heap.size->aL.heap[d]? =u.heap[d]?)->u.heap.size<=bb->bb<V->V<VV->VV<Wg->Wg<aL.heap.size->aL.heap[bb]? =some (.cells #[ptr B'] 31)->aL.heap[VV]? =some (.cells #[ko V] 87)->aL.tape=u.tape->
  ∀(r X Y:Nat) (az:World) (M₀:Nat->Prop),r<4->0<c r->M₀ X->M₀ Y->X<Y->Holds (λx=>x<aL.heap.size/\x≠V/\x≠Wg/\¬S x) [(X,.cells #[.int .i64 r] 3),(Y,.cells #[.int .i64 (c r)] 3)] az M₀->
   bF (λx=>x<aL.heap.size/\x≠V/\x≠Wg/\¬S x) (λ_=>False) aL az->(∀d,M₀ d->aL.heap.size<=d)->
   aC prog false (λx=>x<aL.heap.size/\x≠V/\x≠Wg/\¬S x) (kg prog link.tWg Wg V 68 (17*r) (vd r).toList) (born prog (rP Wg bb X Y VV)) az M₀):
 ∃(N:Nat) (L:Array Goroutine) (u':World) (δ:Option (Nat×Nat)) (t':Trace) (q':Nat->Nat) (V Wg:Nat) (cs:Array Value),runNT prog N (crowd gs u sl) t=(.next (crowd L u' δ),t')/\L[0]? =some (df (b.finish (ko V)) bs)/\ni prog (λx=>S x\/x=Wg) L u'.heap.size t' q'/\
  u'.tape=u.tape/\u'.os=u.os/\u'.output=u.output/\u.heap.size<=u'.heap.size/\(∀d,d<u.heap.size->u'.heap[d]? =u.heap[d]?)/\u.heap.size<=V/\V≠Wg/\u.heap.size<=Wg/\u'.heap[V]? =some (.cells cs 91)/\cs.size=68/\
  (∀i,i<4->0<c i->∀o,o<17->cs[17*i+o]? =(vd i)[o]?)/\∀i,i<4->¬0<c i->∀o,o<17->cs[17*i+o]? =some (mK (17*i+o)):=by
 have I:(base 42).kind≠.early:=by decide
 have R:=K6 (K:=λ_=>False) (M:=λ_=>False) (u:=u) (cs:=b::bs) (f:=WG (ptr B') c) (vb:=ptr B') (c:=c) (λ_ h=>h) rfl rfl rfl;rw[R4]at h0;obtain⟨N1,Θ,g1,u1,γ,t1,q1,M1,r1,r2,⟨f,bb,wb,V,VV,hP⟩,r4,Q⟩:=I7 R gs sl t q hF h0 (λ_ h=>h.elim (λh=>h.elim) λh=>h.elim);obtain⟨rfl,f2,f3,f5,hH,hm,ν,Γ,ω,μ,U⟩:=hP;have y:=λd hd=>Q.keep d hd (λh=>h)
 obtain⟨o,o1,o2,o3,o4⟩:=YE;have κ:=λw=>gm (Cr w)
 obtain⟨N2,Δ,g2,u2,χ,t2,q2,B2,s1,s2,s3,⟨rfl,d2,rfl,rfl⟩,s5⟩:=MQ (sl:=γ) (Stop:=λg' u' B'=>B'=u1.heap.size/\∃d,g'=G ((base 42).at ⟨JT (up f 6 (ptr u1.heap.size)),[]⟩ (.inRegion (AJ f42 2) []::MG f42)) (b::bs)/\u'=(u1.at d).alloc (wgBlock 130 0 0)) r4 r2 rfl λd=>by
  have e':(execOp (Act.mk (JT f) []).eval o).runT prog (u1.at d) #[]=(.ok (.value (ptr u1.heap.size)) ((u1.at d).alloc (wgBlock 130 0 0)),#[]):=by rw[mr o2];exact κ (u1.at d)
  rw[Sem.runT_eq,Prod.mk.injEq]at e';refine⟨_,_,_,u1.heap.size,stepG_value o1 (bq o4 _) I e'.1,ZL _,λev he=>?_,rfl,d,?_,rfl⟩
  .rw[nQ e'.2]at he
   simp at he
  .rw[o3,qi]
 obtain⟨Wg,C⟩:∃Wg,Wg=u1.heap.size:=⟨_,rfl⟩;obtain⟨u2,a⟩:∃u2,u2=(u1.at d2).alloc (wgBlock 130 0 0):=⟨_,rfl⟩;rw[<-C]at s3 s5 U;rw[<-a]at s1;have φ:u2.heap.size=Wg+1:=by rw[a,fo,C];rfl
 have j:∀d,d<Wg->u2.heap[d]? =u1.heap[d]?:=λd hd=>by rw[a,alloc_old _ _ (by rw[C]at hd;exact hd)];rfl
 have z:u2.heap[Wg]? =some (wgBlock 130 0 0):=by rw[a,C];exact tN _ _
 have hS:=hF.sh;have A:=λx hx=>(j _ (by have:=(hH x hx).2.1;omega)).trans (hH x hx).2.2
 have b1:=A (bb,_) ZX;have b2:=A (wb,_) (ac1 _ ZX);have b3:=A (V,_) (ac1 _ (ac1 _ ZX));have b4:=A (VV,_) (ac1 _ (ac1 _ (ac1 _ ZX)));have p:u2.tape=u.tape:=by rw[a];exact Q.tape
 obtain⟨K,hK⟩:∃K:Nat->Prop,K=λx=>x<u2.heap.size/\x≠V/\x≠Wg/\¬S x:=⟨_,rfl⟩
 have ο:∀d,K d->d<u2.heap.size:=λd hd=>by rw[hK]at hd;exact hd.1
 have H:WgLive link.tWg Wg u2:=⟨0,0,z⟩;have n:=HW bb V VV Wg u2 (λd hd=>(j d (by omega)).trans (y d hd)) ν (by omega) μ U (by omega) b1 b4 p;rw[<-hK]at n
 have ξ:Sr prog link.tWg Wg V 68 K (S8 f42 link Wg VV (b::bs)) (iR c 0) (Ad c) (pq c vd) (iR c 0) (G ((base 42).at ⟨JT (up f 6 (ptr Wg)),[]⟩ (.inRegion (AJ f42 2) []::MG f42)) (b::bs)) u2 (λ_=>False):=by
  rw[xg];refine mW (jo (jo (fu (iN 3 2 rfl) ?_)))
  have hL:Holds K [(wb,.cells (aQ c) 37)] u2 (λ_=>False):=λx hx=>by
   simp at hx;subst hx;refine⟨.inr ?_,by simp only;omega,b2⟩;rw[hK];exact⟨by omega,by omega,by omega,λh=>by have:=hS _ h;omega⟩
  refine nR YD I hL (v:=.agg (aQ c)) (λo az Z hl=>?_) ?_
  .rw[tC Z,bQ _ _ (by decide),bH _ _ (by decide),f3]
   obtain⟨es,e1,e2⟩:=G6 (hl _ ZX).2.2;refine⟨es,gm e1,λe he=>?_⟩;obtain⟨x,rfl⟩:=e2 e he;exact .inl ⟨wb,.inr ⟨_,rfl,rfl⟩,rfl,.inr ⟨(hL _ ZX).1.resolve_left (λh=>h),rfl⟩⟩
  refine xZ (.inl YC) I (jS _ _ _) ?_;refine mW (JP (RI ?_))
  have:=rounds (vd:=vd) (bb:=bb) (V:=V) (VV:=VV) (cs:=b::bs) (cnt:=iR c) (nW:=iR c 0) (off:=Ad c) (vals:=pq c vd) H (Sc c) (yV c) (JM c vd) ο n 4 0 rfl (up (up (up f 6 (ptr Wg)) 10 (.agg (aQ c))) 11 (.int .i64 0)) u2 (λ_=>False)
   ⟨by rw[bH _ _ (by decide),bH _ _ (by decide),bH _ _ (by decide)];exact f2,by rw[bH _ _ (by decide),bH _ _ (by decide),bH _ _ (by decide)];exact f5,by rw[bH _ _ (by decide),bH _ _ (by decide),cK],by rw[bH _ _ (by decide),cK],by rw[cK];rfl⟩ (bF.refl _ _ _) (λ_ h=>h.elim)
  rw[xg]at this;exact this
 obtain⟨N3,m3,t3,p1,τ,u3,β,q3,υ,rfl,⟨E,p2,tt,h5,J⟩,l,p4,p5,p6,p7,p8,p9,θ,η,ζ,ε⟩:=Ri (B:=Wg) (K:=K) (zero:=mK) (gE:=UM f42 prog link.tWg Wg VV (b::bs)) (WU c vd F) (λg w h=>F9 g w h) (λg w hl h=>LV g w hl h) s5 s3 ξ (ZL _) (by omega) (by omega) (by omega) (λh=>by have:=hS _ h;omega)
  (λx hx=>by rw[hK]at hx;exact hx) z (by rw[D];exact b3) (by kernel_rfl) (λx hx=>by unfold mK;rw[ZY];simp[show x<dQ.size from hx])
 obtain⟨m,hgo⟩:=J u3 l;obtain⟨N4,σ,g4,d4,P,t4,q4,w1,w2,rfl,w4⟩:=Uv (λw d=>⟨d,rfl⟩) m E u3 τ β t3 q3 (Bh m E u3 l hgo) p4 p2;have W:=(p9 VV (by omega) (by omega) (by omega)).trans b4
 obtain⟨N5,ρ,g5,u5,α,t5,q5,M5,x1,x2,rfl,x4,O⟩:=I7 (Kv (b:=b) (bs:=bs) h5 (u:=u3.at d4) W) σ P t4 q4 w4 w2 (λx hx=>hx.elim (λh=>h.elim) λh=>by
  have ψ:=h;exact⟨by show x<u3.heap.size;omega,λhs=>hs.elim (λh=>by have:=hS _ h;omega) λh=>by omega⟩)
 have s:∀d,d<u3.heap.size->u5.heap[d]? =u3.heap[d]?:=λd hd=>O.keep d hd (λh=>h)
 have z5:u3.heap.size<=u5.heap.size:=O.size;refine⟨N1+(N2+(N3+(N4+N5))),ρ,u5,α,t5,q5,V,Wg,υ,?_,x2,x4,?_,?_,?_,by have:=Q.size;omega,λd hd=>?_,by omega,by omega,by omega,?_,η,?_,?_⟩
 .rw[runNT_add,r1]
  simp only;rw[runNT_add,s1];simp only;rw[runNT_add,p1];simp only;rw[runNT_add,w1];exact x1
 .rw[O.tape];exact(rfl).trans (p5.trans p)
 .rw[O.os];exact(rfl).trans (p6.trans (by rw[a];exact Q.os))
 .rw[O.output];exact(rfl).trans (p7.trans (by rw[a];exact Q.output))
 .rw[s d (by omega),p9 d (by omega) (by omega) (by omega),j d (by omega),y d hd]
 .rw[s V (by omega),θ,D]
 .intro i hi hc o Z
  obtain⟨k,I,ι,T⟩:∃k,k<iR c 0/\Ad c k=17*i/\pq c vd k=(vd i).toList:=by
   have:=yV c i hi;rw[if_pos hc]at this
   have hle:iR c (i+1)+1<=iR c 0:=by
        have h0:=yV c 0 (by omega);have h1:=yV c 1 (by omega);have h2:=yV c 2 (by omega);obtain rfl|rfl|rfl|rfl:i=0\/i=1\/i=2\/i=3:=by omega
        all_goals(simp at*;omega)
   exact⟨_,by omega,JM c vd i hi hc⟩
  have:=ζ k I o (by rw[T,adG,F i hi hc];exact Z);rw[ι,T]at this;rw[this];simp
 .intro i hi hc o Z
  refine ε (17*i+o) (by omega) λk I hh=>?_
  obtain⟨i',g1,g2,g3⟩:=Ex c k I;have e1:Ad c k=17*i':=by simp[Ad,g3]
  have e2:(pq c vd k).length=17:=by simp[pq,g3,F i' g1 g2]
  have:i=i':=by omega
  exact hc (this▸g2)
end
end
