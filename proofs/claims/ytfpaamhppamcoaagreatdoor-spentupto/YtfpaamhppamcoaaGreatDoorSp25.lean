/- Part 25 of the proof. -/
import Derived.Test.YtfpaamhppamcoaaGreatDoorSp23
import Derived.Test.YtfpaamhppamcoaaGreatDoorSp24
set_option linter.all false
namespace Go.Proofs.YtfpaamhppamcoaaGreatDoor
open Go.Proofs.Tryz
section
open Go Go.Conc Go.RowKit
theorem enter_todo {P}{f}{x}:(Frame.enter P f x .normal).mode=.run/\∃c,(Frame.enter P f x .normal).todo=[.code c]:=⟨rfl,_,rfl⟩
theorem fC {P}{a}(h:a.mode≠.run\/∃ops l k,a.todo=.inRegion ops l::k)(f)(x):a≠Frame.enter P f x .normal:=λe=>by
 rcases h with h|⟨ops,l,k,h⟩
 .rw[e]at h;exact h rfl
 .rw[e]at h
  obtain⟨c,hc⟩:=(enter_todo (P:=P) (f:=f) (x:=x)).2;rw[hc]at h;cases h
theorem step_panic {P}{main}{b:Frame}{a}{ops}{i}{rest}{k}{cs}{o}{x}{t}{v}(w)(h:ops[i]? =some o)(l:o.guard=none)(e:o.op=.panic x)(j:b.kind≠.early)(hx:a.eval x=.iface t v):
 ∃es,stepG P main (G (b.at a (.inRegion ops (i::rest)::k)) cs) w=.go (G {b.at a (.inRegion ops (i::rest)::k)with mode:=.panicking [{v:=.iface t v,recovered:=false}]} cs) w es:=by
 have g:(execOp a.eval o).run P w=.halt (.panic (.iface t v)) w:=by
  unfold execOp;simp[e,hx,Instr.panic,goPanic]
 rw[stepG_oper h (bq l _)];have c:((execOp a.eval o).runT P w #[]).1=.halt (.panic (.iface t v)) w:=by rw[Sem.runT_fst];exact g
 rcases d:(execOp a.eval o).runT P w #[]with⟨r,es⟩
 rw[d]at c;simp only at c;subst c;have f:(b.kind==CallKind.early)=false:=by simpa using j
 refine⟨seen P b.fn es++ #[],?_⟩;simp only[stepG.apply,d,GStep.after,G,Frame.at,Frame.raise,if_true,f,Z0,if_false]
theorem size_pad (x)(n i)(h:i<n):i< (x++Array.replicate (n-x.size) undef).size:=by simp;omega
theorem ig (x)(w):oG (patch ae prog) 340 x w:=by
 have he:=enter_at (P:=(patch ae prog)) (f:=340) (fn:=iH 31 "alarm") (c:=.region 0 #[bg (some 1) (.makeInterface 31 (.tmp 0)),bg none (.panic (.tmp 1))] false) x (pal ae) rfl;have hs:1< (x++Array.replicate ((iH 31 "alarm").ntmps-x.size) undef).size:=size_pad x 2 1 (by omega);obtain⟨T,g⟩:∃T,T=x++Array.replicate ((iH 31 "alarm").ntmps-x.size) undef:=⟨_,rfl⟩;rw[<-g]at he hs;obtain⟨ops,a⟩:∃ops,ops= #[bg (some 1) (.makeInterface 31 (.tmp 0)),bg none (.panic (.tmp 1))]:=⟨_,rfl⟩;rw[<-a]at he;have h:ops.size=2:=by rw[a];rfl
 obtain⟨v,e⟩:∃v,v=T.getD 0 undef:=⟨_,rfl⟩;refine⟨3,fun|0=>(base 340).at ⟨T,[]⟩ [.code (.region 0 ops false)]|1=>(base 340).at ⟨T,[]⟩ [.inRegion ops [0,1]]|2=>(base 340).at ⟨T.setIfInBounds 1 (.iface 31 v),[]⟩ [.inRegion ops [1]]|_=>{(base 340).at ⟨T.setIfInBounds 1 (.iface 31 v),[]⟩ [.inRegion ops [1]]with mode:=.panicking [{v:=.iface 31 v,recovered:=false}]},λ_=>w,he.symm,rfl,λd hd=>?_,_,rfl,rfl,⟨_,pal ae⟩⟩;obtain rfl|rfl|rfl:d=0\/d=1\/d=2:=by omega
 .refine⟨rfl,fC (.inr ⟨_,_,_,rfl⟩),λmain cs T=>⟨#[],?_⟩⟩
  show stepG (patch ae prog) main (G ((base 340).at _ [.code (.region 0 ops false)]) cs) _=_
  rw[stepG_region,h];rfl
 .refine⟨rfl,fC (.inr ⟨_,_,_,rfl⟩),λmain cs b=>?_⟩
  show∃es,stepG (patch ae prog) main (G ((base 340).at _ [.inRegion ops [0,1]]) cs) _=_
  rw[stepG_value (o:=bg (some 1) (.makeInterface 31 (.tmp 0))) (v:=.iface 31 v) (w':=ay w b) (by rw[a];rfl) (bq rfl _) (by decide) (by unfold execOp;simp[bg,Act.eval,e,go_sem])];exact⟨_,rfl⟩
 .refine⟨rfl,fC (.inl (by simp)),λmain cs b=>?_⟩
  exact step_panic (o:=bg none (.panic (.tmp 1))) _ (by rw[a];rfl) rfl rfl (by decide) (bU hs)
theorem gG (x)(w):oG (patch ae prog) 342 x w:=by
 have he:=enter_at (P:=(patch ae prog)) (f:=342) (fn:=iH 47 "alarm3") (c:=.region 0 #[bg (some 1) (.makeInterface 47 (.tmp 0)),bg none (.panic (.tmp 1))] false) x (pal3 ae) rfl;have hs:1< (x++Array.replicate ((iH 47 "alarm3").ntmps-x.size) undef).size:=size_pad x 2 1 (by omega);obtain⟨T,g⟩:∃T,T=x++Array.replicate ((iH 47 "alarm3").ntmps-x.size) undef:=⟨_,rfl⟩;rw[<-g]at he hs;obtain⟨ops,a⟩:∃ops,ops= #[bg (some 1) (.makeInterface 47 (.tmp 0)),bg none (.panic (.tmp 1))]:=⟨_,rfl⟩;rw[<-a]at he;have h:ops.size=2:=by rw[a];rfl
 obtain⟨v,e⟩:∃v,v=T.getD 0 undef:=⟨_,rfl⟩;refine⟨3,fun|0=>(base 342).at ⟨T,[]⟩ [.code (.region 0 ops false)]|1=>(base 342).at ⟨T,[]⟩ [.inRegion ops [0,1]]|2=>(base 342).at ⟨T.setIfInBounds 1 (.iface 47 v),[]⟩ [.inRegion ops [1]]|_=>{(base 342).at ⟨T.setIfInBounds 1 (.iface 47 v),[]⟩ [.inRegion ops [1]]with mode:=.panicking [{v:=.iface 47 v,recovered:=false}]},λ_=>w,he.symm,rfl,λd hd=>?_,_,rfl,rfl,⟨_,pal3 ae⟩⟩;obtain rfl|rfl|rfl:d=0\/d=1\/d=2:=by omega
 .refine⟨rfl,fC (.inr ⟨_,_,_,rfl⟩),λmain cs T=>⟨#[],?_⟩⟩
  show stepG (patch ae prog) main (G ((base 342).at _ [.code (.region 0 ops false)]) cs) _=_
  rw[stepG_region,h];rfl
 .refine⟨rfl,fC (.inr ⟨_,_,_,rfl⟩),λmain cs b=>?_⟩
  show∃es,stepG (patch ae prog) main (G ((base 342).at _ [.inRegion ops [0,1]]) cs) _=_
  rw[stepG_value (o:=bg (some 1) (.makeInterface 47 (.tmp 0))) (v:=.iface 47 v) (w':=ay w b) (by rw[a];rfl) (bq rfl _) (by decide) (by unfold execOp;simp[bg,Act.eval,e,go_sem])];exact⟨_,rfl⟩
 .refine⟨rfl,fC (.inl (by simp)),λmain cs b=>?_⟩
  exact step_panic (o:=bg none (.panic (.tmp 1))) _ (by rw[a];rfl) rfl rfl (by decide) (bU hs)
theorem gH (x)(w):oG (patch ae prog) 341 x w:=by
 have he:=enter_at (P:=(patch ae prog)) (f:=341) (fn:=gK 37 "alarm2") (c:=.region 0 #[bg (some 1) (.box 37 (.tmp 0)),bg (some 2) (.makeInterface 37 (.tmp 1)),bg none (.panic (.tmp 2))] false) x (pal2 ae) rfl;have hs:2< (x++Array.replicate ((gK 37 "alarm2").ntmps-x.size) undef).size:=size_pad x 3 2 (by omega);obtain⟨T,p⟩:∃T,T=x++Array.replicate ((gK 37 "alarm2").ntmps-x.size) undef:=⟨_,rfl⟩;rw[<-p]at he hs;obtain⟨ops,a⟩:∃ops,ops= #[bg (some 1) (.box 37 (.tmp 0)),bg (some 2) (.makeInterface 37 (.tmp 1)),bg none (.panic (.tmp 2))]:=⟨_,rfl⟩;rw[<-a]at he;have r:ops.size=3:=by rw[a];rfl
 obtain⟨v,m⟩:∃v,v=T.getD 0 undef:=⟨_,rfl⟩;obtain⟨q,n⟩:∃q,q=Value.pointer (some ⟨w.heap.size,0,none⟩):=⟨_,rfl⟩;obtain⟨i,b⟩:∃i,i=T.setIfInBounds 1 q:=⟨_,rfl⟩;obtain⟨h,g⟩:∃h,h=i.setIfInBounds 2 (.iface 37 q):=⟨_,rfl⟩;have l:i.getD 1 undef=q:=by rw[b];exact bU (by omega)
 have k:h.getD 2 undef=.iface 37 q:=by rw[g];exact bU (by rw[b,Array.size_setIfInBounds];exact hs)
 refine⟨4,fun|0=>(base 341).at ⟨T,[]⟩ [.code (.region 0 ops false)]|1=>(base 341).at ⟨T,[]⟩ [.inRegion ops [0,1,2]]|2=>(base 341).at ⟨i,[]⟩ [.inRegion ops [1,2]]|3=>(base 341).at ⟨h,[]⟩ [.inRegion ops [2]]|_=>{(base 341).at ⟨h,[]⟩ [.inRegion ops [2]]with mode:=.panicking [{v:=.iface 37 q,recovered:=false}]},
  fun|0=>w|1=>w|_=>w.alloc (.cells v.cells 37),he.symm,rfl,λd hd=>?_,_,rfl,rfl,⟨_,pal2 ae⟩⟩
 obtain rfl|rfl|rfl|rfl:d=0\/d=1\/d=2\/d=3:=by omega
 .refine⟨rfl,fC (.inr ⟨_,_,_,rfl⟩),λmain cs T=>⟨#[],?_⟩⟩
  show stepG (patch ae prog) main (G ((base 341).at _ [.code (.region 0 ops false)]) cs) _=_
  rw[stepG_region,r];rfl
 .refine⟨rfl,fC (.inr ⟨_,_,_,rfl⟩),λmain cs j=>?_⟩
  show∃es,stepG (patch ae prog) main (G ((base 341).at _ [.inRegion ops [0,1,2]]) cs) _=_
  rw[stepG_value (o:=bg (some 1) (.box 37 (.tmp 0))) (v:=q) (w':=ay (w.alloc (.cells v.cells 37)) j) (by rw[a];rfl) (bq rfl _) (by decide) (by
   rw[n];have e:(execOp (Act.mk T []).eval (bg (some 1) (.box 37 (.tmp 0))))=(do Pure.pure (Next.value (<-Instr.box 37 v))):=(by rw[m];rfl);rw[e,Sem.run_bind,run_box];rfl)]
  rw[b];exact⟨_,rfl⟩
 .refine⟨rfl,fC (.inr ⟨_,_,_,rfl⟩),λmain cs j=>?_⟩
  show∃es,stepG (patch ae prog) main (G ((base 341).at _ [.inRegion ops [1,2]]) cs) _=_
  rw[stepG_value (o:=bg (some 2) (.makeInterface 37 (.tmp 1))) (v:=.iface 37 q) (w':=ay (w.alloc (.cells v.cells 37)) j) (by rw[a];rfl) (bq rfl _) (by decide) (by unfold execOp;simp[bg,Act.eval,l,go_sem])];rw[g];exact⟨_,rfl⟩
 .refine⟨rfl,fC (.inl (by simp)),λmain cs j=>?_⟩
  exact step_panic (o:=bg none (.panic (.tmp 2))) _ (by rw[a];rfl) rfl rfl (by decide) k
end
section
open Go
def CB (w:World)(b:Nat):Prop:=∃xs e g,w.heap[b]? =some (.cells xs e g)
theorem jY {w}{a}{v}(h:w.cell? a=some v):CB w a.block:=by
 unfold World.cell? at h;cases b:w.heap[a.block]? with
 |none=>rw[b]at h;cases h
 |some o=>
  rw[b]at h;cases o with
  |cells xs t g=>exact⟨_,_,_,b⟩
  |_=>cases h
def idQ (st:Prop)(Z:Nat->Prop):Rel st:=λb c=>b=c/\Z b
abbrev idS (Z:Nat->Prop):Rel False:=idQ False Z
def jH (Z:Nat->Prop):Value->Prop
 |.int .u8 _=>False
 |.int _ _|.bool _|.string _|.nilIface|.pointer none|.slice none _ _=>True
 |.pointer (some a)=>Z a.block
 |.slice (some a) _ _=>Z a.block
 |.iface t (.pointer (some a))=>okIb t=true/\Z a.block
 |_=>False
theorem pure_self {st}{p:Rel st}{Z}(hp:∀b,Z b->p b b){v}(h:jH Z v):VR p v v:=by
 cases v with
 |int k n=>exact VR.int _ _
 |bool b=>exact VR.bool _
 |string b=>exact VR.string _
 |nilIface=>exact VR.nilIface
 |pointer o=>
  cases o with
  |none=>exact VR.ptr trivial
  |some a=>exact VR.ptr ⟨hp _ h,rfl,rfl⟩
 |slice o l c=>
  cases o with
  |none=>exact VR.slice trivial
  |some a=>exact VR.slice ⟨hp _ h,rfl,rfl⟩
 |iface t x=>
  cases x with
  |pointer o=>
   cases o with
   |none=>exact h.elim
   |some a=>exact VR.iface h.1 (VR.ptr ⟨hp _ h.2,rfl,rfl⟩)
  |_=>exact h.elim
 |_=>exact h.elim
theorem pure_noU8 {Z}{v}(h:jH Z v):noU8 v:=by
 cases v with
 |int k n=>cases k<;>first|exact h.elim|trivial
 |_=>trivial
theorem iP {st}{p:Rel st}:∀v:Value,∃v',VR p v' v/\noU8 v'/\∀(q:Rel False),VR q v' v'
 |.bool b=>⟨_,VR.bool b,trivial,λ_=>VR.bool b⟩
 |.int k n=>by cases k<;>first|exact⟨_,VR.int _ n,trivial,λ_=>VR.int _ n⟩|exact⟨.nilFunc,VR.gU rfl,trivial,λ_=>VR.gU rfl⟩
 |.string s=>⟨_,VR.string s,trivial,λ_=>VR.string s⟩
 |.nilIface=>⟨.nilIface,VR.nilIface,trivial,λ_=>VR.nilIface⟩
 |.agg cs=>by
  have h:∀i:Nat,∃v',∀x,cs[i]? =some x->VR p v' x/\∀(q:Rel False),VR q v' v':=λi=>by
   by_cases a:i<cs.size
   .obtain⟨v',c,_,hs⟩:=iP (p:=p) cs[i]
    refine⟨v',λx hx=>?_⟩;rw[ZM a]at hx;cases hx;exact⟨c,hs⟩
   .exact⟨undef,λx hx=>by rw[Array.getElem?_eq_none (by omega)]at hx;cases hx⟩
  have get:∀(i:Nat) x,((Array.range cs.size).map λi=>(h i).choose)[i]? =some x->i<cs.size/\x=(h i).choose:=λi x hx=>by
   rw[Array.getElem?_map]at hx;cases a:(Array.range cs.size)[i]? with
   |none=>rw[a]at hx;cases hx
   |some k=>
    rw[a]at hx;simp only[Option.map_some,Option.some.injEq]at hx;obtain⟨f,e⟩:=ZK.1 a;have d:k=i:=by simpa using e.symm
    subst d;exact⟨by simpa using f,hx.symm⟩
  refine⟨.agg ((Array.range cs.size).map λi=>(h i).choose),VR.agg ⟨by simp,λi x y hx hy=>?_⟩,trivial,λq=>VR.agg ⟨rfl,λi x y hx hy=>?_⟩⟩
  .obtain⟨_,rfl⟩:=get i x hx
   exact((h i).choose_spec y hy).1
  .obtain⟨a,rfl⟩:=get i x hx
   obtain⟨_,rfl⟩:=get i y hy;exact((h i).choose_spec _ (ZM a)).2 q
 |.tuple cs=>by
  have h:∀i:Nat,∃v',∀x,cs[i]? =some x->VR p v' x/\∀(q:Rel False),VR q v' v':=λi=>by
   by_cases a:i<cs.size
   .obtain⟨v',c,_,hs⟩:=iP (p:=p) cs[i]
    refine⟨v',λx hx=>?_⟩;rw[ZM a]at hx;cases hx;exact⟨c,hs⟩
   .exact⟨undef,λx hx=>by rw[Array.getElem?_eq_none (by omega)]at hx;cases hx⟩
  have get:∀(i:Nat) x,((Array.range cs.size).map λi=>(h i).choose)[i]? =some x->i<cs.size/\x=(h i).choose:=λi x hx=>by
   rw[Array.getElem?_map]at hx;cases a:(Array.range cs.size)[i]? with
   |none=>rw[a]at hx;cases hx
   |some k=>
    rw[a]at hx;simp only[Option.map_some,Option.some.injEq]at hx;obtain⟨f,e⟩:=ZK.1 a;have d:k=i:=by simpa using e.symm
    subst d;exact⟨by simpa using f,hx.symm⟩
  refine⟨.tuple ((Array.range cs.size).map λi=>(h i).choose),VR.tuple ⟨by simp,λi x y hx hy=>?_⟩,trivial,λq=>VR.tuple ⟨rfl,λi x y hx hy=>?_⟩⟩
  .obtain⟨_,rfl⟩:=get i x hx
   exact((h i).choose_spec y hy).1
  .obtain⟨a,rfl⟩:=get i x hx
   obtain⟨_,rfl⟩:=get i y hy;exact((h i).choose_spec _ (ZM a)).2 q
 |.float _ _=>⟨.nilFunc,VR.gU rfl,trivial,λ_=>VR.gU rfl⟩
 |.complex _ _ _=>⟨.nilFunc,VR.gU rfl,trivial,λ_=>VR.gU rfl⟩
 |.pointer _=>⟨.nilFunc,VR.gU rfl,trivial,λ_=>VR.gU rfl⟩
 |.slice _ _ _=>⟨.nilFunc,VR.gU rfl,trivial,λ_=>VR.gU rfl⟩
 |.map _=>⟨.nilFunc,VR.gU rfl,trivial,λ_=>VR.gU rfl⟩
 |.chan _=>⟨.nilFunc,VR.gU rfl,trivial,λ_=>VR.gU rfl⟩
 |.func _ _ _=>⟨.nilFunc,VR.gU rfl,trivial,λ_=>VR.gU rfl⟩
 |.nilFunc=>⟨.nilFunc,VR.gU rfl,trivial,λ_=>VR.gU rfl⟩
 |.iface _ _=>⟨.nilFunc,VR.gU rfl,trivial,λ_=>VR.gU rfl⟩
structure Copies (st:Prop)(Z:Nat->Prop)(lv:Value->Value):Prop where
 alike:∀v,VR (idQ st Z) (lv v) v
 self:∀v,VR (idS Z) (lv v) (lv v)
 noByte:∀v,noU8 (lv v)
 same:∀v,jH Z v->lv v=v
 none:st->∀a,∃a':Addr,lv (.slice (some a) 0 0)=.slice (some a') 0 0/\Z a'.block
theorem copies_ex (st)(Z)(c0)(d:Z c0):∃lv,Copies st Z lv:=by
 classical
 obtain⟨f,hf⟩:∃f:Value->Value,∀v,(jH Z v/\f v=v)\/(st/\¬jH Z v/\(∃a,v=.slice (some a) 0 0)/\f v=.slice (some ⟨c0,0,none⟩) 0 0)\/(¬jH Z v/\(¬(st/\∃a,v=.slice (some a) 0 0))/\f v=(iP (p:=idQ st Z) v).choose):=by
  refine⟨λv=>if jH Z v then v else if st/\∃a,v=.slice (some a) 0 0 then .slice (some ⟨c0,0,none⟩) 0 0 else(iP (p:=idQ st Z) v).choose,λv=>?_⟩
  by_cases hp:jH Z v
  .exact .inl ⟨hp,if_pos hp⟩
  .by_cases he:st/\∃a,v=.slice (some a) 0 0
   .exact .inr (.inl ⟨he.1,hp,he.2,by simp only[if_neg hp,if_pos he]⟩)
   .exact .inr (.inr ⟨hp,he,by simp only[if_neg hp,if_neg he]⟩)
 refine⟨f,λv=>?_,λv=>?_,λv=>?_,λv c=>?_,λhs a=>?_⟩
 .rcases hf v with⟨h,e⟩|⟨hs,_,⟨a,rfl⟩,e⟩|⟨_,_,e⟩<;>rw[e]
  .exact pure_self (λb hb=>⟨rfl,hb⟩) h
  .exact VR.kJ (.inr ⟨⟨rfl,rfl⟩,hs⟩)
  .exact(iP (p:=idQ st Z) v).choose_spec.1
 .rcases hf v with⟨h,e⟩|⟨hs,_,⟨a,rfl⟩,e⟩|⟨_,_,e⟩<;>rw[e]
  .exact pure_self (λb hb=>⟨rfl,hb⟩) h
  .exact VR.slice ⟨⟨rfl,d⟩,rfl,rfl⟩
  .exact(iP (p:=idQ st Z) v).choose_spec.2.2 _
 .rcases hf v with⟨h,e⟩|⟨hs,_,⟨a,rfl⟩,e⟩|⟨_,_,e⟩<;>rw[e]
  .exact pure_noU8 h
  .trivial
  .exact(iP (p:=idQ st Z) v).choose_spec.2.1
 .rcases hf v with⟨_,e⟩|⟨_,h,_⟩|⟨h,_⟩
  .exact e
  .exact absurd c h
  .exact absurd c h
 .rcases hf (.slice (some a) 0 0)with⟨h,e⟩|⟨_,_,_,e⟩|⟨_,h,_⟩
  .exact⟨a,e,h⟩
  .exact⟨_,e,d⟩
  .exact absurd ⟨hs,a,rfl⟩ h
theorem twin_world (st)(G)(T Z:Nat->Prop)(w)(F:G<=w.heap.size)(J:∀b,Z b->CB w b){c0}(O:Z c0)(M:∀b,T b->∃xs e g,w.heap[b]? =some (.cells xs e g)/\∀v∈xs.toList,∃k n,v=.int k n):
 ∃(f:World) (lv:Value->Value),Copies st Z lv/\WR G (λc=>Z c/\¬T c) (idQ st Z) f w/\WR G (λ_=>False) (idS Z) f f/\f.heap.size=w.heap.size/\(∀b xs e g,T b->w.heap[b]? =some (.cells xs e g)->f.heap[b]? =some (.cells xs e g))/\(∀b xs e g,¬T b->w.heap[b]? =some (.cells xs e g)->f.heap[b]? =some (.cells (xs.map lv) e (0,max xs.size g.2)))/\∀a v,w.cell? a=some v->(T a.block->f.cell? a=some v)/\(¬T a.block->f.cell? a=some (lv v)):=by
 classical
 obtain⟨lv,hl⟩:=copies_ex st Z c0 O
 obtain⟨fr,H,L⟩:∃fr:Obj->Obj,(∀xs e g,fr (.cells xs e g)=.cells (xs.map lv) e (0,max xs.size g.2))/\∀o,(∀xs e g,o≠.cells xs e g)->fr o=o:=⟨λo=>match o with
  |.cells xs e g=>.cells (xs.map lv) e (0,max xs.size g.2)
  |o=>o,λ_ _ _=>rfl,λo h=>by cases o<;>first|rfl|exact absurd rfl (h _ _ _)⟩
 obtain⟨f,D⟩:∃f:World,f={w with heap:=w.heap.mapIdx λc o=>if T c then o else fr o}:=⟨_,rfl⟩;have E:∀c,f.heap[c]? =(w.heap[c]?).map λo=>if T c then o else fr o:=λc=>by rw[D];exact Array.getElem?_mapIdx
 have u:f.heap.size=w.heap.size:=by rw[D];simp
 have j:∀b xs e g,T b->w.heap[b]? =some (.cells xs e g)->f.heap[b]? =some (.cells xs e g):=λb xs e g d h=>by rw[E,h];simp[d]
 have l:∀b xs e g,¬T b->w.heap[b]? =some (.cells xs e g)->f.heap[b]? =some (.cells (xs.map lv) e (0,max xs.size g.2)):=λb xs e g d h=>by rw[E,h];simp[d,H]
 have ints:∀{st:Prop} {p:Rel st} b xs e g,T b->w.heap[b]? =some (.cells xs e g)->aF (VR p) xs xs:=λb xs e g d h=>by
  obtain⟨K,R,g',m,N⟩:=M b d;rw[h]at m;simp only[Option.some.injEq,Obj.cells.injEq]at m;obtain⟨rfl,rfl,rfl⟩:=m;refine⟨rfl,λi x y hx hy=>?_⟩;rw[hx]at hy;cases hy;obtain⟨k,n,rfl⟩:=N x (by rw[<-Array.mem_def];exact Array.mem_of_getElem? hx);exact VR.int _ _
 have q:∀(xs:Array Value) (i:Nat) x,(xs.map lv)[i]? =some x->∃y,xs[i]? =some y/\x=lv y:=λxs i x hx=>by
  rw[Array.getElem?_map]at hx;cases hy:xs[i]? with
  |none=>rw[hy]at hx;cases hx
  |some y=>rw[hy]at hx;exact⟨y,rfl,by simpa using hx.symm⟩
 refine⟨f,lv,hl,⟨λb c Q P h I=>?_,λb c h=>?_,λc h=>⟨rfl,h.1⟩,λb c h B=>absurd h.1 B,⟨by rw[u];exact F,F⟩⟩,⟨λb c Q P h I=>?_,λb c h=>?_,λc h=>h.elim,λb c h B=>absurd h.1 B,⟨by rw[u];exact F,by rw[u];exact F⟩⟩,u,j,l,λa v r=>?_⟩
 .rw[<-h.1,<-I.1]
 .obtain⟨rfl,t⟩:=h
  obtain⟨xs,e,g,hb⟩:=J b t
  by_cases d:T b
  .exact .inl ⟨xs,xs,e,g,g,j b xs e g d hb,hb,ints b xs e g d hb,λC=>absurd d C.2,λ_=>rfl⟩
  .refine .inl ⟨_,xs,e,_,g,l b xs e g d hb,hb,⟨by simp,λi x y hx hy=>?_⟩,λ_=>⟨rfl,by simp[Nat.le_max_left],Nat.le_max_right _ _,λi x hx=>?_⟩,λC=>absurd ⟨t,d⟩ C⟩
   .obtain⟨z,m,rfl⟩:=q xs i x hx
    rw[hy]at m;cases m;exact hl.alike _
   .obtain⟨z,_,rfl⟩:=q xs i x hx
    exact hl.noByte _
 .rw[<-h.1,<-I.1]
 .obtain⟨rfl,t⟩:=h
  obtain⟨xs,e,g,hb⟩:=J b t
  by_cases d:T b
  .have m:=j b xs e g d hb
   exact .inl ⟨xs,xs,e,g,g,m,m,ints b xs e g d hb,λC=>C.elim,λ_=>rfl⟩
  .have m:=l b xs e g d hb
   refine .inl ⟨_,_,e,_,_,m,m,⟨rfl,λi x y hx hy=>?_⟩,λC=>C.elim,λ_=>rfl⟩;rw[hx]at hy;cases hy;obtain⟨z,_,rfl⟩:=q xs i x hx;exact hl.self _
 .have hc:=jY r
  obtain⟨xs,e,g,hb⟩:=hc;unfold World.cell? at r;rw[hb]at r;simp only at r;cases A:a.spot with
  |some s=>rw[A]at r;cases r
  |none=>
   rw[A]at r;simp only[Option.isSome_none,Z0,if_false]at r;refine⟨λd=>?_,λd=>?_⟩
   .unfold World.cell?
    rw[j _ _ _ _ d hb];simp[A,r]
   .unfold World.cell?
    rw[l _ _ _ _ d hb];simp[A,r]
end
section
open Go Go.Conc Go.ConcN Go.RowKit Go.Conc.Lib
open Go.ConcR (KK wgBlock WgAt stA smA rd wr mk Payload DC0)
def Holds (K:Nat->Prop)(L:List (Nat×Obj))(u:World)(M:Nat->Prop):Prop:=∀x∈L,(M x.1\/K x.1)/\x.1<u.heap.size/\u.heap[x.1]? =some x.2
section
variable {Q:Program}{main:Bool}{K M:Nat->Prop}{S:Goroutine->World->(Nat->Prop)->Prop}{u az:World}{L:List (Nat×Obj)}{b:Frame}{a:Act}{k:List Item}{cs:List Frame}{ops:Array Oper}{i:Nat}{rest:List Nat}{o:Oper}
theorem Holds.nil:Holds K [] u M:=λx hx=>by cases hx
theorem Holds.rely (h:Holds K L u M)(r:bF K M u az):Holds K L az M:=λx hx=>by
 obtain⟨b,a,c⟩:=h x hx;exact⟨b,ZO a r.size,(r.keep _ b a).trans c⟩
theorem Holds.sub {a}(h:Holds K L u M)(hs:∀x∈a,x∈L):Holds K a u M:=λx hx=>h x (hs x hx)
theorem alloc_old (w:World)(a){c}(hc:c<w.heap.size):(w.alloc a).heap[c]? =w.heap[c]?:=by
 show(w.heap.push a)[c]? =_
 rw[Array.getElem?_push,if_neg (by omega)]
theorem alloc_new (w:World)(a):(w.alloc a).heap[w.heap.size]? =some a:=by
 show(w.heap.push a)[w.heap.size]? =_
 rw[Array.getElem?_push,if_pos rfl]
theorem fo (w:World)(a):(w.alloc a).heap.size=w.heap.size+1:=by
 show(w.heap.push a).size=_
 rw[Array.size_push]
theorem Holds.new (h:Holds K L u M)(a):Holds K ((u.heap.size,a)::L) (u.alloc a) (Grow M u (u.alloc a)):=λx hx=>by
 rcases ZW.1 hx with rfl|hx
 .exact⟨.inl (.inr ⟨ZL _,by rw[fo];omega⟩),by rw[fo];omega,alloc_new _ _⟩
 .obtain⟨d,c,b⟩:=h x hx
  exact⟨d.imp .inl id,by rw[fo];omega,(alloc_old _ _ c).trans b⟩
theorem Does.alloc (u)(a):Does K M u (u.alloc a) #[]:=⟨rfl,rfl,rfl,by rw[fo];omega,λc hc _=>alloc_old _ _ hc,λe he=>by simp at he⟩
theorem aC.make (r:∀c,K c->¬M c)(q:Holds K L u M)(l:ops[i]? =some o)(p:o.guard=none)(m:b.kind≠.early)(v:Nat->Value)(g)
 (j:∀az,(execOp a.eval o).runT Q az #[]=(.ok (.value (v az.heap.size)) (az.alloc g),#[]))
 (hc:∀n u' M',u.heap.size<=n->Holds K ((n,g)::L) u' M'->M' n->(∀c,M c->M' c)->(∀c,M' c->M c\/(u.heap.size<=c/\c<u'.heap.size))->n<u'.heap.size->u.heap.size<=u'.heap.size->bF K (λ_=>False) u u'->aC Q main K S (G (b.at (a.put o.dst (v n)) (.inRegion ops rest::k)) cs) u' M'):
 aC Q main K S (G (b.at a (.inRegion ops (i::rest)::k)) cs) u M:=
 aC.op l (bq p _) m λaz f=>by
  have e:=j az;rw[Sem.runT_eq,Prod.mk.injEq]at e;refine⟨_,_,e.1,by rw[e.2];exact Does.alloc az g,?_⟩;refine hc az.heap.size _ _ f.size ((q.rely f).new g) (.inr ⟨ZL _,by rw[fo];omega⟩) (λc h=>.inl h) (λc h=>h.imp id λx=>⟨ZP f.size x.1,x.2⟩) (by rw[fo];omega) (by have:=f.size;rw[fo];omega) ?_;exact⟨f.tape,f.os,f.output,by have:=f.size;rw[fo];omega,λd hd hl=>(alloc_old _ _ (ZO hl f.size)).trans (f.keep d (hd.elim (λh=>h.elim) .inr) hl)⟩
theorem aC.look (l:Holds K L u M)(g:ops[i]? =some o)(j:o.guard=none)(h:b.kind≠.early)(v)
 (f:∀az,Holds K L az M->∃es,(execOp a.eval o).runT Q az #[]=(.ok (.value v) az,es)/\∀e∈es,EvM K M e)
 (hc:aC Q main K S (G (b.at (a.put o.dst v) (.inRegion ops rest::k)) cs) u M):aC Q main K S (G (b.at a (.inRegion ops (i::rest)::k)) cs) u M:=
 aC.op g (bq j _) h λaz c=>by
  obtain⟨es,e,he⟩:=f az (l.rely c);rw[Sem.runT_eq,Prod.mk.injEq]at e;refine⟨_,_,e.1,⟨rfl,rfl,rfl,ZL _,λ_ _ _=>rfl,λm d=>?_⟩,by rw[Grow.self];exact hc.rely c⟩;rw[e.2]at d;rw[Grow.self];exact he m d
theorem aC.write {c}{old new}{t}(p:∀c,K c->¬M c)(C:Holds K L u M)(hm:M c)(n:(c,.cells old t)∈L)(y:ops[i]? =some o)(B:o.guard=none)(A:b.kind≠.early)
 (w:∀az,az.heap[c]? =some (.cells old t)->∃es,(execOp a.eval o).runT Q az #[]=(.ok .skip (az.setRow c new),es)/\∀e∈es,(∃x,e=⟨.cell ⟨c,x,none⟩,true,false⟩))
 (hc:∀u',Holds K ((c,.cells new t)::L.filter λx=>x.1 !=c) u' M->u.heap.size<=u'.heap.size->bF K (λ_=>False) u u'->aC Q main K S (G (b.at (a.put o.dst undef) (.inRegion ops rest::k)) cs) u' M):
 aC Q main K S (G (b.at a (.inRegion ops (i::rest)::k)) cs) u M:=
 aC.opSkip y (bq B _) A λaz f=>by
  have j:=C.rely f;obtain⟨F,D,q⟩:=j _ n;obtain⟨es,e,he⟩:=w az q;rw[Sem.runT_eq,Prod.mk.injEq]at e
  have g:Grow M az (az.setRow c new)=M:=by
   funext d
   exact propext ⟨λh=>h.elim id λh=>absurd h.2 (by rw[setRow_size];omega),.inl⟩
  refine⟨_,e.1,⟨rfl,rfl,rfl,by rw[setRow_size];exact ZL _,λd hd z=>setRow_other _ _ _ _ λe=>z (by rw[e];exact hm),λE r=>?_⟩,?_⟩
  .rw[e.2]at r
   obtain⟨x,rfl⟩:=he E r;rw[g];exact .inl ⟨c,.inr ⟨_,rfl,rfl⟩,rfl,.inl hm⟩
  .rw[g]
   refine hc _ (λx hx=>?_) (by rw[setRow_size];exact f.size) ⟨f.tape,f.os,f.output,by rw[setRow_size];exact f.size,λd hd hl=>(setRow_other _ _ _ _ λe=>hd.elim id λh=>p d h (by rw[e];exact hm)).trans (f.keep d (hd.elim (λh=>h.elim) .inr) hl)⟩;rcases ZW.1 hx with rfl|hx
   .exact⟨.inl hm,by rw[setRow_size];exact D,setRow_heap _ _ _ _ _ _ q⟩
   .obtain⟨m,l⟩:=List.mem_filter.1 hx
    obtain⟨k1,v,s⟩:=j x m;exact⟨k1,by rw[setRow_size];exact v,(setRow_other _ _ _ _ (by simpa using l)).trans s⟩
end
def regs:Code->List (Array Oper)
 |.region _ ops _=>[ops]
 |.seq a b=>regs a++regs b
 |.cond _ a b=>regs a++regs b
 |.block _ a|.loop a=>regs a
 |_=>[]
def AJ (f:Func)(k:Nat):Array Oper:=(regs (f.body.getD .skip))[k]?.getD #[]
abbrev mI (f:Func)(k:Nat):Code:=.region k (AJ f k) false
abbrev loopJ (f:Func):Code:=.seq (mI f 4) (.seq (.cond (.tmp 12) .skip (.exit 0)) (.seq (.block 1 (.seq (mI f 5) (.seq (.seq (mI f 6) (.cond (.tmp 16) (.exit 1) .skip)) (.seq (mI f 7) (mI f 8))))) (mI f 9)))
theorem judge_code:Func.body f42=some (.seq (mI f42 0) (.seq (mI f42 1) (.seq (mI f42 2) (.seq (.seq (mI f42 3) (.block 0 (.loop (loopJ f42)))) (.seq (mI f42 10) (.seq (mI f42 11) .ret)))))):=by kernel_rfl
def gp (ops:Array Oper)(i:Nat)(x:Op)(d:Option Nat):Prop:=∃o,ops[i]? =some o/\o.op=x/\o.dst=d/\o.guard=none
theorem bK {ops}{i}{x}{d}(h:(ops[i]?).map (λo=>(o.op,o.dst,o.guard))=some (x,d,none)):gp ops i x d:=by
 obtain⟨o,b,a⟩:=Option.map_eq_some_iff.1 h;simp only[Prod.mk.injEq]at a;exact⟨o,b,a⟩
theorem j00:gp (AJ f42 0) 0 (.box 31 (.tmp 0)) (some 2):=bK (by kernel_rfl)
theorem j01:gp (AJ f42 0) 1 (.box 37 (.tmp 1)) (some 3):=bK (by kernel_rfl)
theorem j02:gp (AJ f42 0) 2 (.assign (.const (.slice none 0 0))) (some 4):=bK (by kernel_rfl)
theorem j10:gp (AJ f42 1) 0 (.makeSlice 87 (.const (.int .i64 4)) (.const (.int .i64 4))) (some 9):=bK (by kernel_rfl)
theorem j11:gp (AJ f42 1) 1 (.alloc 87) (some 5):=bK (by kernel_rfl)
theorem j12:gp (AJ f42 1) 2 (.store 87 (.tmp 5) (.tmp 9)) none:=bK (by kernel_rfl)
theorem j20:gp (AJ f42 2) 0 (.alloc 130) (some 6):=bK (by kernel_rfl)
theorem j30:gp (AJ f42 3) 0 (.load 37 (.tmp 3)) (some 10):=bK (by kernel_rfl)
theorem j31:gp (AJ f42 3) 1 (.move (.const (.int .i64 0))) (some 11):=bK (by kernel_rfl)
theorem j40:gp (AJ f42 4) 0 (.binOp .lss 3 (.tmp 11) (.const (.int .i64 4)) 3) (some 12):=bK (by kernel_rfl)
theorem j50:gp (AJ f42 5) 0 (.move (.tmp 11)) (some 13):=bK (by kernel_rfl)
theorem j51:gp (AJ f42 5) 1 (.index 37 (.tmp 10) (.tmp 11)) (some 14):=bK (by kernel_rfl)
theorem j52:gp (AJ f42 5) 2 (.alloc 3) (some 7):=bK (by kernel_rfl)
theorem j53:gp (AJ f42 5) 3 (.alloc 3) (some 8):=bK (by kernel_rfl)
theorem j54:gp (AJ f42 5) 4 (.store 3 (.tmp 7) (.tmp 13)) none:=bK (by kernel_rfl)
theorem j55:gp (AJ f42 5) 5 (.store 3 (.tmp 8) (.tmp 14)) none:=bK (by kernel_rfl)
theorem j60:gp (AJ f42 6) 0 (.load 3 (.tmp 8)) (some 15):=bK (by kernel_rfl)
theorem j61:gp (AJ f42 6) 1 (.binOp .leq 3 (.tmp 15) (.const (.int .i64 0)) 3) (some 16):=bK (by kernel_rfl)
theorem j70:gp (AJ f42 7) 0 (.call {callee:=.value (.func 68),args:= #[.tmp 6,.const (.int .i64 1)],argTypes:= #[130,3]}) (some 17):=bK (by kernel_rfl)
theorem j80:gp (AJ f42 8) 0 (.makeFunc (.func 69) #[] #[.tmp 6,.tmp 2,.tmp 7,.tmp 8,.tmp 5]) (some 18):=bK (by kernel_rfl)
theorem j81:gp (AJ f42 8) 1 (.go {callee:=.value (.tmp 18),args:= #[],argTypes:= #[]}) none:=bK (by kernel_rfl)
theorem j90:gp (AJ f42 9) 0 (.binOp .add 3 (.tmp 11) (.const (.int .i64 1)) 3) (some 19):=bK (by kernel_rfl)
theorem j91:gp (AJ f42 9) 1 (.move (.tmp 19)) (some 11):=bK (by kernel_rfl)
theorem jA0:gp (AJ f42 10) 0 (.call {callee:=.value (.func 74),args:= #[.tmp 6],argTypes:= #[130]}) (some 20):=bK (by kernel_rfl)
theorem jB0:gp (AJ f42 11) 0 (.load 87 (.tmp 5)) (some 21):=bK (by kernel_rfl)
theorem jB1:gp (AJ f42 11) 1 (.assign (.tmp 21)) (some 4):=bK (by kernel_rfl)
theorem sizesJ:((List.range 12).map λk=>(AJ f42 k).size)=[3,3,1,2,1,6,2,1,2,2,1,2]:=by kernel_rfl
theorem ntmpsJ:Func.ntmps f42=22:=by kernel_rfl
theorem nameJ:(Func.name f42== "runtime.NumGoroutine")=false:=by kernel_rfl
theorem fn_judge:prog.funcs[42]? =some f42:=func42
theorem gm {P}{s}{u u'}{v}{es}(h:s.runT P u #[]=(.ok v u',es)):(do Pure.pure (Next.value (<-s)):Sem Next).runT P u #[]=(.ok (.value v) u',es):=by
 show(s.bind _).runT P u #[]=_
 rw[Sem.runT_bind',h];rfl
theorem runT_u {P}{s}{u u'}{es}(h:s.runT P u #[]=(.ok () u',es)):(do s;Pure.pure Next.skip:Sem Next).runT P u #[]=(.ok .skip u',es):=by
 show(s.bind _).runT P u #[]=_
 rw[Sem.runT_bind',h];rfl
theorem runT_box (P)(t)(v)(w):(Instr.box t v).runT P w #[]=(.ok (.pointer (some ⟨w.heap.size,0,none⟩)) (w.alloc (.cells v.cells t)),#[]):=rfl
def zeroV:List Value:=.int .i64 0::List.replicate 16 (.bool false)
def dQ:Array Value:=(zeroV++zeroV++zeroV++zeroV).toArray
theorem runT_makeRow (w):(Instr.makeSlice 87 (.int .i64 4) (.int .i64 4)).runT prog w #[]=(.ok (ko w.heap.size) (w.alloc (.cells dQ 91)),#[]):=by kernel_rfl
theorem runT_allocVV (w):(Instr.alloc 87 true (.tuple #[])).runT prog w #[]=(.ok (ptr w.heap.size) (w.alloc (.cells #[.slice none 0 0] 87)),#[]):=by kernel_rfl
theorem runT_allocWg (w):(Instr.alloc 130 true (.tuple #[])).runT prog w #[]=(.ok (ptr w.heap.size) (w.alloc (wgBlock 130 0 0)),#[]):=by kernel_rfl
theorem pG (w):(Instr.alloc 3 true (.tuple #[])).runT prog w #[]=(.ok (ptr w.heap.size) (w.alloc (.cells #[.int .i64 0] 3)),#[]):=by kernel_rfl
theorem runT_lss (w)(i:Nat)(a:i<=4)(x y):(do eqGuard .lss 3 x y (.int .i64 i) (.int .i64 4);binOp .lss 3 (.int .i64 i) (.int .i64 4):Sem Value).runT prog w #[]=(.ok (.bool (decide (i<4))) w,#[]):=by
 obtain rfl|rfl|rfl|rfl|rfl:i=0\/i=1\/i=2\/i=3\/i=4:=by omega
 all_goals kernel_rfl
theorem runT_add (w)(i:Nat)(a:i<4)(x y):(do eqGuard .add 3 x y (.int .i64 i) (.int .i64 1);binOp .add 3 (.int .i64 i) (.int .i64 1):Sem Value).runT prog w #[]=(.ok (.int .i64 ((i+1:Nat):Int)) w,#[]):=by
 obtain rfl|rfl|rfl|rfl:i=0\/i=1\/i=2\/i=3:=by omega
 all_goals kernel_rfl
theorem runT_leq (w)(n)(x y):(do eqGuard .leq 3 x y (.int .i64 n) (.int .i64 0);binOp .leq 3 (.int .i64 n) (.int .i64 0):Sem Value).runT prog w #[]=(.ok (.bool (decide (n<=0))) w,#[]):=by
 kernel_rfl
theorem runT_index (w)(i:Nat)(a:i<4)(c:Nat->Int):(Instr.index 37 (.agg #[.int .i64 (c 0),.int .i64 (c 1),.int .i64 (c 2),.int .i64 (c 3)]) (.int .i64 i)).runT prog w #[]=(.ok (.int .i64 (c i)) w,#[]):=by
 obtain rfl|rfl|rfl|rfl:i=0\/i=1\/i=2\/i=3:=by omega
 all_goals kernel_rfl
theorem runT_load1 {ty}{d}(hu:prog.underlying ty=some d)(hd:d.isRow=false){w}{c}{v}{t}(hc:w.heap[c]? =some (.cells #[v] t)):
 ∃es,(Instr.loadAt ty (ptr c)).runT prog w #[]=(.ok v w,es)/\∀e∈es,∃x,e=⟨.cell ⟨c,x,none⟩,false,false⟩:=by
 have hcell:w.cell? ⟨c,0,none⟩=some v:=by simp[World.cell?,hc]
 obtain⟨b,a⟩:=seg_loadVar (Q:=prog) ⟨c,0,none⟩ ty w v d hu hd hcell;refine⟨#[⟨.cell ⟨c,0,none⟩,false,false⟩],?_,λe he=>⟨0,by simpa using he⟩⟩;rw[Sem.runT_eq];simp only[Instr.loadAt,Instr.sureAddr,ptr];simp[b,a]
theorem nD {ty}(g:(prog.info? ty).map (·.size)=some 1){w}{c}{x v}{t}(hc:w.heap[c]? =some (.cells #[x] t))(f:v.cells= #[v])(j:v.oneCell'=true):
 ∃es,(Instr.storeAt ty (ptr c) v).runT prog w #[]=(.ok () (w.setRow c #[v]),es)/\∀e∈es,∃x,e=⟨.cell ⟨c,x,none⟩,true,false⟩:=by
 have k:=run_storeCells_at (P:=prog) c 0 t [v] 0 #[x] w hc (by simp) (by simpa using j);have he:=jE (Q:=prog) c 0 t [v] 0 #[x] w #[] hc (by simp) (by simpa using j);cases b:prog.info? ty with
 |none=>simp[b]at g
 |some i=>
  have hs:i.size=1:=by simpa[b] using g
  have a:(storeVar ty ⟨c,0,none⟩ v).run prog w=.ok () (w.setRow c #[v]):=by
   simp[storeVar,sizeOf,typeInfo,b,f,hs,k]
  have d:(storeVar ty ⟨c,0,none⟩ v).events prog w #[]=(storeCells ⟨c,0,none⟩ [v] 0).events prog w #[]:=by
   simp[storeVar,sizeOf,typeInfo,b,f,hs]
  refine⟨(storeCells ⟨c,0,none⟩ [v] 0).events prog w #[],?_,λe h=>?_⟩
  .rw[Sem.runT_eq]
   simp only[Instr.storeAt,Instr.sureAddr,ptr];simp[a,d]
  .rcases he e h with h|⟨x,_,_,rfl⟩
   .simp at h
   .exact⟨x,rfl⟩
theorem lV (P)(c i n)(acc)(w)(es){v}(h:w.cell? ⟨c,i,none⟩=some v):
 (loadCellsFrom ⟨c,0,none⟩ i (n+1) acc).runT P w es=(loadCellsFrom ⟨c,0,none⟩ (i+1) n (acc.push v)).runT P w (es.push ⟨.cell ⟨c,i,none⟩,false,false⟩):=by
 have a:(⟨c,0,none⟩:Addr).add i=⟨c,i,none⟩:=by
  unfold Addr.add
  by_cases b:i=0
  .subst b;simp
  .simp[b]
 simp only[loadCellsFrom];show((load ((⟨c,0,none⟩:Addr).add i)).bind _).runT P w es=_
 rw[Sem.runT_bind',a,runT_load _ w es h]
theorem runT_load4 {w}{c}{a b d e}{t}(hc:w.heap[c]? =some (.cells #[a,b,d,e] t)):
 ∃es,(Instr.loadAt 37 (ptr c)).runT prog w #[]=(.ok (.agg #[a,b,d,e]) w,es)/\∀f∈es,∃x,f=⟨.cell ⟨c,x,none⟩,false,false⟩:=by
 have c0:w.cell? ⟨c,0,none⟩=some a:=by simp[World.cell?,hc]
 have i:w.cell? ⟨c,1,none⟩=some b:=by simp[World.cell?,hc]
 have c2:w.cell? ⟨c,2,none⟩=some d:=by simp[World.cell?,hc]
 have c3:w.cell? ⟨c,3,none⟩=some e:=by simp[World.cell?,hc]
 have h:(loadCells ⟨c,0,none⟩ 4).runT prog w #[]=(.ok #[a,b,d,e] w,#[⟨.cell ⟨c,0,none⟩,false,false⟩,⟨.cell ⟨c,1,none⟩,false,false⟩,⟨.cell ⟨c,2,none⟩,false,false⟩,⟨.cell ⟨c,3,none⟩,false,false⟩]):=by
  unfold loadCells;rw[lV _ _ _ _ _ _ _ c0,lV _ _ _ _ _ _ _ i,lV _ _ _ _ _ _ _ c2,lV _ _ _ _ _ _ _ c3];rfl
 refine⟨#[⟨.cell ⟨c,0,none⟩,false,false⟩,⟨.cell ⟨c,1,none⟩,false,false⟩,⟨.cell ⟨c,2,none⟩,false,false⟩,⟨.cell ⟨c,3,none⟩,false,false⟩],?_,λf he=>?_⟩
 .have g:(isAgg 37).runT prog w #[]=(.ok true w,#[]):=by kernel_rfl
  have hs:(sizeOf 37).runT prog w #[]=(.ok 4 w,#[]):=by kernel_rfl
  show(loadVar 37 ⟨c,0,none⟩).runT prog w #[]=_
  unfold loadVar;show((isAgg 37).bind _).runT prog w #[]=_
  rw[Sem.runT_bind',g];simp only[if_true];show((sizeOf 37).bind _).runT prog w #[]=_
  rw[Sem.runT_bind',hs];simp only;show((loadCells ⟨c,0,none⟩ 4).bind _).runT prog w #[]=_
  rw[Sem.runT_bind',h];rfl
 .simp only[List.mem_toArray,ZW,List.not_mem_nil,or_false]at he
  rcases he with rfl|rfl|rfl|rfl
  .exact⟨0,rfl⟩
  .exact⟨1,rfl⟩
  .exact⟨2,rfl⟩
  .exact⟨3,rfl⟩
def JT (f:Nat->Value):Array Value:=((List.range 22).map f).toArray
def up (f:Nat->Value)(d:Nat)(v:Value):Nat->Value:=λj=>if j=d then v else f j
theorem JT_get (f){j}(h:j<22):(JT f).getD j undef=f j:=by
 simp[JT,ZY,h]
theorem JT_set (f)(d)(v):(JT f).setIfInBounds d v=JT (up f d v):=by
 apply Array.ext';simp only[JT,ZN];refine List.ext_getElem? λj=>?_
 rw[List.getElem?_set]
 by_cases a:j<22
 .by_cases hd:d=j
  .subst hd
   simp[a,up]
  .simp[a,hd,up,Ne.symm hd]
 .simp[a]
  intro b;omega
theorem put_JT (f)(ds)(d)(v):(Act.mk (JT f) ds).put (some d) v=⟨JT (up f d v),ds⟩:=by
 show Act.mk ((JT f).setIfInBounds d v) ds=_
 rw[JT_set]
theorem cK (f)(d)(v):up f d v d=v:=if_pos rfl
theorem bH (f){d j}(v)(h:j≠d):up f d v j=f j:=if_neg h
end
