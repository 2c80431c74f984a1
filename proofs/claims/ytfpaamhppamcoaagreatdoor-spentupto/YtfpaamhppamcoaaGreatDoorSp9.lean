/- Part 9 of the proof. -/
import Derived.Test.YtfpaamhppamcoaaGreatDoorSp8
set_option linter.all false
namespace Go.Proofs.YtfpaamhppamcoaaGreatDoor
section
open Go
section
variable {α β γ δ:Type}{P Q:Program}{K:Nat->Prop}{st:Prop}{p:Rel st}{C:iG}
def Deep (C:iG)(a b:Frame):Prop:=b.defers=[]/\b.kind=.normal/\a.fn∈C.fns/\a.fn∉C.sp
def kI (C:iG)(ZJ:List Frame)(a b:Frame):Prop:=(ZJ≠[]->Deep C a b)/\(ZJ=[]->b.defers=C.dd/\b.kind=C.kd/\(C.jh=true->a.fn=C.root))
theorem kI.finish {ZJ}{a b}(h:kI C ZJ a b)(v u):kI C ZJ (a.finish v) (b.finish u):=by
 unfold kI Deep;rw[(oU a v).1,(oU b u).2,finish_kind b u];exact h
def CR (C:iG)(P:Program)(p:Rel st):List Frame->List Frame->Prop
 |[],[]=>True
 |a::ZJ,b::bs=>(FR C P p a b/\a.mode=.run/\kY C a/\kI C ZJ a b)/\CR C P p ZJ bs
 |_,_=>False
theorem CR.ext {q}(a:Ext p q):∀{ZJ bs:List Frame},CR C P p ZJ bs->CR C P q ZJ bs
 |[],[],_=>trivial
 |_::_,_::_,h=>⟨⟨h.1.1.ext a,h.1.2⟩,h.2.ext a⟩
 |[],_::_,h=>h.elim
 |_::_,[],h=>h.elim
theorem CR.left:∀{ZJ bs:List Frame},CR C P p ZJ bs->∀x∈ZJ,x.mode=.run/\x.defers=[]/\∃fn,P.funcs[x.fn]? =some fn
 |[],_,_,x,hx=>by cases hx
 |a::ZJ,b::bs,h,x,hx=>by
  rcases ZW.1 hx with rfl|hx
  .exact⟨h.1.2.1,h.1.1.da,h.1.1.known⟩
  .exact h.2.left x hx
 |_::_,[],h,_,_=>h.elim
abbrev df (fr:Frame)(cs:List Frame):Goroutine:={frame:=fr,callers:=cs,status:=.running,dying:=none}
structure Live (C:iG)(P:Program)(p:Rel st)(a:Frame)(ZJ:List Frame)(b:Frame)(bs:List Frame):Prop where
 fr:FR C P p a b
 mode:a.mode=.run\/a.mode=.returning
 cs:CR C P p ZJ bs
 deep:kI C ZJ a b
theorem FR.mode {a b}(h:FR C P p a b):b.mode=a.mode:=by rw[h.same]
theorem FR.todo {a b}(h:FR C P p a b):b.todo=a.todo.map (sgI C):=by rw[h.same]
theorem FR.fn {a b}(h:FR C P p a b):b.fn=a.fn:=by rw[h.same]
def DoomedBy (P:Program)(ch:List PanicEntry)(fr:Frame)(ZJ:List Frame):Prop:=fr.mode=.panicking ch/\fr.defers=[]/\(∃fn,P.funcs[fr.fn]? =some fn)/\∀x∈ZJ,x.mode=.run/\x.defers=[]/\∃fn,P.funcs[x.fn]? =some fn
def Doomed (P:Program)(fr:Frame)(ZJ:List Frame):Prop:=∃ch,(∀e∈ch,noPtr e.v)/\DoomedBy P ch fr ZJ
def BadStep (P:Program)(s:GStep)(cs:List Frame):Prop:=(∃o w es,s=.ended o w es)\/∃fr ZJ w es,s=.go (df fr (ZJ++cs)) w es/\Doomed P fr ZJ
def Goon (C:iG)(P:Program)(K:Nat->Prop)(p:Rel st)(u:World)(cs ds:List Frame)(s t:GStep):Prop:=
 ∃q a ZJ b bs w' u' es new,s=.go (df a (ZJ++cs)) w' es/\t=.go (df b (bs++ds)) u' new/\Live C P q a ZJ b bs/\WR P.globals.size K q w' u'/\True/\dE K p q u u'/\∀e∈new,EvOk K q e
def Edge (C:iG)(P Q:Program)(K:Nat->Prop)(p:Rel st)(u:World)(cs ds:List Frame)(s t:GStep):Prop:=
 ∃q f x y a ZJ b bs w' u' es new,f∈C.fns/\f∈C.sp/\s=.go (df (Frame.enter P f x .normal) (a::ZJ++cs)) w' es/\t=.go (df (Frame.enter Q f y .normal) (b::bs++ds)) u' new/\(aF (VR q) x y/\Argd f x.size)/\CR C P q (a::ZJ) (b::bs)/\WR P.globals.size K q w' u'/\True/\dE K p q u u'/\∀e∈new,EvOk K q e
def Alike (C:iG)(P Q:Program)(K:Nat->Prop)(p:Rel st)(u:World)(cs ds:List Frame)(s t:GStep):Prop:=
 BadStep P s cs\/Goon C P K p u cs ds s t\/Edge C P Q K p u cs ds s t
theorem Alike.stay {w u}{cs ds ZJ bs}{a b}{s t}(h:Live C P p a ZJ b bs)(hw:WR P.globals.size K p w u)
 (d:s=.go (df a (ZJ++cs)) w #[])(c:t=.go (df b (bs++ds)) u #[]):Alike C P Q K p u cs ds s t:=
 .inr (.inl ⟨p,a,ZJ,b,bs,w,u,#[],#[],d,c,h,hw,trivial,dE.refl _ _ _,λe he=>by simp at he⟩)
theorem Alike.bad {u}{cs ds}{s t}{o}{w}{es}(h:s=.ended o w es):Alike C P Q K p u cs ds s t:=.inl (.inl ⟨o,w,es,h⟩)
theorem jF {P}{fn}{es}:∀e∈seen P fn es,e∈es:=by
 have key:∀(l:List Event) (q:Bool) (kept:Array Event) (f:Bool×Array Event->Event->Bool×Array Event),
  (∀x e y,y∈(f x e).2->y∈x.2\/y=e)->∀e∈(l.foldl f (q,kept)).2,e∈kept\/e∈l:=by
  intro l
  induction l with
  |nil=>intro q kept f _ e he;exact .inl he
  |cons x l a=>
   intro q kept f hf e he;rw[List.foldl_cons]at he;rcases a _ _ f hf e (by simpa using he)with h|h
   .rcases hf _ _ _ h with h|rfl
    .exact .inl h
    .exact .inr (by simp)
   .exact .inr (by simp[h])
 intro e he;unfold seen at he;simp only at he;rw[<-Array.foldl_toList]at he;refine(key es.toList _ #[] _ ?_ e he).elim (λh=>by simp at h) (λh=>by simpa using h);intro x e y hy;obtain⟨q,kept⟩:=x;simp only at hy;split at hy
 .exact .inl hy
 .split at hy
  .exact .inl hy
  .exact(Array.mem_push.1 hy).elim .inl .inr
theorem apply_by (hp:aH C P Q){w u}{cs ds ZJ bs}{a b}{s t}(hl:Live C P p a ZJ b bs)(L:a.mode=.run)(U:kY C a){ops}{i}{rest}{k}
 (F:a.todo=.inRegion ops (i::rest)::k)(H:∀h w' B,s.runT P w #[]=(.halt h w',B)->Mild h)
 (M:∀n w' B,s.runT P w #[]=(.ok n w',B)->∃q z u' new,t.runT Q u #[]=(.ok z u',#[]++new)/\NR C.fns q n z/\WR P.globals.size K q w' u'/\dE K p q u u'/\∀e∈new,EvOk K q e):
 Alike C P Q K p u cs ds (stepG.apply P true a (ZJ++cs) none s w) (stepG.apply Q true b (bs++ds) none t u):=by
 have J:b.todo=.inRegion (ops.map C.sg) (i::rest)::k.map (sgI C):=by rw[hl.fr.todo,F];rfl
 have R:=hl.fr.ka;have O:(b.kind==CallKind.early)=false:=by simpa using hl.fr.kb
 unfold stepG.apply;rcases I:s.runT P w #[]with⟨r,es⟩
 cases r with
 |halt h w'=>
  have hm:=H h w' es I;simp only[if_true,I];cases h with
  |panic v=>
   refine .inl (.inr ⟨a.raise [{v,recovered:=false}],ZJ,w',_,rfl,[{v,recovered:=false}],?_,?_,?_,?_,hl.cs.left⟩)
   .intro e he
    rw[List.mem_singleton.1 he];exact hm
   .unfold Frame.raise;rw[L]
   .unfold Frame.raise;split<;>exact hl.fr.da
   .unfold Frame.raise;split<;>exact hl.fr.known
  |stuck m=>exact .inl (.inl ⟨_,_,_,rfl⟩)
  |unsupported m=>
   cases m with
   |initOrder g=>exact hm.elim
   |_=>exact .inl (.inl ⟨_,_,_,rfl⟩)
  |_=>exact hm.elim
 |ok n w'=>
  obtain⟨q,z,u',new,V,D,d,l,he⟩:=M n w' es I;have j:True:=trivial;simp only[Array.empty_append]at V;simp only[if_true,I,V,R,O,F,J];have c:∀e∈seen Q b.fn new++ #[],EvOk K q e:=λe hm=>he e (jF e (by simpa using hm))
  have N:∀v,(a.finish v).mode=.run:=λv=>(jd a v).trans L
  have o:∀v v',VR q v v'->Live C P q (a.finish v) ZJ (b.finish v') bs:=λv v' W=>⟨(hl.fr.ext l.ext).finish hp.cfg W U,.inl (N v),hl.cs.ext l.ext,hl.deep.finish v v'⟩
  cases n with
  |value v=>cases z with
   |value v'=>exact .inr (.inl ⟨q,_,ZJ,_,bs,w',u',_,_,rfl,rfl,o v v' D,d,j,l,c⟩)
   |_=>exact D.elim
  |skip=>cases z with
   |skip=>exact .inr (.inl ⟨q,_,ZJ,_,bs,w',u',_,_,rfl,rfl,o undef undef VR.undef,d,j,l,c⟩)
   |_=>exact D.elim
  |enter f x=>cases z with
   |enter g y=>
    obtain⟨rfl,hf,E,T⟩:=D;have G:CR C P q (a::ZJ) (b::bs):=⟨⟨hl.fr.ext l.ext,L,U,hl.deep⟩,hl.cs.ext l.ext⟩
    by_cases A:f∈C.sp
    .exact .inr (.inr ⟨q,f,x,y,a,ZJ,b,bs,w',u',_,_,hf,A,rfl,rfl,⟨E,T⟩,G,d,j,l,c⟩)
    .exact .inr (.inl ⟨q,_,a::ZJ,_,b::bs,w',u',_,_,rfl,rfl,⟨FR.enter hp hf A E λg S=>l.ext _ _ (hl.fr.glob g S),.inl rfl,G,λ_=>⟨rfl,rfl,hf,A⟩,λe=>by cases e⟩,d,j,l,c⟩)
   |_=>exact D.elim
  |_=>cases z<;>exact D.elim
theorem apply_alike (hp:aH C P Q){w u}{cs ds ZJ bs}{a b}{s t}(hl:Live C P p a ZJ b bs)(h:a.mode=.run)(j:kY C a){ops}{i}{rest}{k}
 (c:a.todo=.inRegion ops (i::rest)::k)(hs:af P Q K p s t (NR C.fns))(e:Twin P Q)(hw:WR P.globals.size K p w u)(g:TR w u):
 Alike C P Q K p u cs ds (stepG.apply P true a (ZJ++cs) none s w) (stepG.apply Q true b (bs++ds) none t u):=by
 have hx:=hs e w u #[] #[] hw g;refine apply_by hp hl h j c hx.1.mild λn w' d x=>?_
 obtain⟨q,f,u',new,v,r,o,_,m,l⟩:=hx.2 n w' d x;exact⟨q,f,u',new,v,r,o,m,l⟩
theorem apply_alikeE (hp:aH C P Q){w u}{cs ds ZJ bs}{a b}{s t}(hl:Live C P p a ZJ b bs)(e:a.mode=.run)(f:kY C a){ops}{i}{rest}{k}
 (c:a.todo=.inRegion ops (i::rest)::k)(hs:bC P Q K p s t (NR C.fns))(d:Twin P Q)(hw:WR P.globals.size K p w u):
 ∃T,Alike C P Q K p u cs ds (stepG.apply P true a (ZJ++cs) none s (ay w T)) (stepG.apply Q true b (bs++ds) none t u):=by
 obtain⟨_,T,g⟩:=hs d w u #[] #[] hw;exact⟨T,apply_by hp hl e f c (hs d (ay w T) u #[] #[] (hw.kv T u.tape)).1.mild g⟩
end
section
variable {α β γ δ:Type}{P Q:Program}{K:Nat->Prop}{st:Prop}{p:Rel st}{C:iG}
theorem exitTo_plain {f id}:∀{k k':List Item},exitTo id k=some k'->aU C P f k->aU C P f k'
 |[],k',h,_=>by cases h
 |x::k,k',h,c=>by
  have a:=c.cons.2;cases x with
  |inBlock b=>
   simp only[exitTo]at h;split at h
   .cases h;exact a
   .exact exitTo_plain h a
  |_=>exact exitTo_plain (id:=id) (by simpa only[exitTo] using h) a
theorem yielded_eq {f}{ops}{x y}(h:TmR C p f x y)(hf:f≠C.root\/C.bare=true):yielded ops x=yielded ops y:=by
 have key:∀(z:Array Value) (j:Nat),yielded ops z j=match(ops[j]?).bind (·.dst)with
  |none=>none
  |some d=>match z.getD d undef with
   |.bool b=>some b
   |_=>none:=λz j=>by
  unfold yielded;cases(ops[j]?).bind (·.dst)with
  |none=>rfl
  |some d=>
   simp only[Option.bind_some,ZY];cases z[d]? with
   |none=>rfl
   |some v=>cases v<;>rfl
 funext j
 rw[key,key];cases(ops[j]?).bind (·.dst)with
 |none=>rfl
 |some d=>
  have hc:=(h.get d).resolve_left λa=>hf.elim (λhf=>hf a.1) λhb=>by
   have:=C.bareOk hb d;rw[this]at a;exact Bool.noConfusion a.2
  revert hc
  show VR p _ _->(match x.getD d undef with|.bool b=>some b|_=>none)=(match y.getD d undef with|.bool b=>some b|_=>none)
  generalize x.getD d undef=v;generalize y.getD d undef=u;intro hc;replace hc:=hc.cases;cases v<;>cases u<;>first|exact hc.elim|exact Bool.noConfusion hc|rfl|(simp only at hc;rw[hc])
theorem af.asAddr {v u:Value}(h:VR p v u):af P Q K p (asAddr v) (asAddr u) (λq a b=>AR q a b):=by
 have hc:=h.cases;cases v with
 |pointer a=>
  obtain⟨b,rfl,hb⟩:=h.bV;cases a with
  |none=>
   obtain rfl:=hb.aV;exact ag.bR (ag.runtimePanic .nilDeref)
  |some a=>
   obtain⟨b,rfl,c⟩:=hb.aO;exact af.pure c
 |_=>cases u<;>first|exact hc.elim|exact Bool.noConfusion hc|exact af.halt
theorem af.foldPush {ρ}(f g:ρ->Sem Value)(p₀)(hf:∀q r,Ext p₀ q->af P Q K q (f r) (g r) (λq a b=>VR q a b)):∀(l:List ρ) {p:Rel st} {c d:Array Value},Ext p₀ p->aF (VR p) c d->
 af P Q K p (l.foldlM (init:=c) λacc r=>Functor.map acc.push (f r)) (l.foldlM (init:=d) λacc r=>Functor.map acc.push (g r)) (λq a b=>aF (VR q) a b)
 |[],p,c,d,_,h=>by simp only[List.foldlM_nil];exact af.pure h
 |r::l,p,c,d,hp,h=>by
  simp only[List.foldlM_cons];refine af.bind (A:=λq a b=>aF (VR q) a b) ?_ λq a b i e=>af.foldPush f g p₀ hf l (hp.trans i) e
  exact af.bind (hf p r hp) λq a b i e=>af.pure ((h.ext i).push e)
theorem af.results {f:Nat}(fn:Func){x y:Array Value}(h:TmR C p f x y)(hf:f≠C.root):af P Q K p (results fn x) (results fn y) (λq a b=>VR q a b):=by
 unfold Go.results;refine af.bind (A:=λq a b=>aF (VR q) a b) ?_ λq a b d e=>?_
 .rw[Array.mapM_eq_foldlM,Array.mapM_eq_foldlM,<-Array.foldlM_toList,<-Array.foldlM_toList]
  refine af.foldPush _ _ p (λq r d=>?_) fn.results.toList (Ext.refl p) aF.empty;cases r with
  |tmp t=>exact af.pure (((h.ext d).get t).resolve_left λg=>hf g.1)
  |cell a t=>exact af.bind (af.asAddr (((h.ext d).get a).resolve_left λg=>hf g.1)) λq a b _ i=>af.loadVar t i
 .refine af.pure ?_
  by_cases hs:a.size=1
  .have c:b.size=1:=e.1▸hs
   rw[dif_pos hs,dif_pos c];exact e.2 0 _ _ (ZM (by omega)) (ZM (by omega))
  .have c:¬b.size=1:=e.1▸hs
   rw[dif_neg hs,dif_neg c];exact VR.tuple e
end
section
variable {α β γ δ:Type}{P Q:Program}{K:Nat->Prop}{st:Prop}{p:Rel st}{C:iG}
theorem on_operands {R:Sem Next->Sem Next->Prop}(o)(hs:∀cs b,o.op≠.select cs b){r s}(h:∀x∈o.op.operands,aA x=true->VR p (r x) (s x))(d:∀v,r (.const v)=v/\s (.const v)=v)(c:∀g,r (.func g)=.func (.func g) #[] #[]/\s (.func g)=.func (.func g) #[] #[])
 (base:∀r s:Operand->Value,(∀x,aA x=true->VR p (r x) (s x))->(∀v,r (.const v)=v/\s (.const v)=v)->(∀g,r (.func g)=.func (.func g) #[] #[]/\s (.func g)=.func (.func g) #[] #[])->R (Go.execOp r o) (Go.execOp s o)):R (Go.execOp r o) (Go.execOp s o):=by
 classical
 let cut:(Operand->Value)->Operand->Value:=λf x=>match x with
  |.tmp t=>if Operand.tmp t∈o.op.operands then f (.tmp t)else undef
  |.global g=>if Operand.global g∈o.op.operands then f (.global g)else undef
  |x=>f x
 have e:∀f:Operand->Value,Go.execOp f o=Go.execOp (cut f) o:=λf=>execOp_congr o hs λx hx=>by
  cases x with
  |tmp t=>simp only[cut,if_pos hx]
  |global t=>simp only[cut,if_pos hx]
  |_=>rfl
 rw[e r,e s];refine base _ _ (λx hx=>?_) (λv=>d v) λg=>c g
 cases x with
 |tmp t=>
  by_cases a:Operand.tmp t∈o.op.operands
  .simp only[cut,a,if_true];exact h _ a hx
  .simp only[cut,a,if_false];exact VR.undef
 |const v=>
  simp only[cut,(d v).1,(d v).2];exact flatV_VR hx
 |global g=>
  by_cases a:Operand.global g∈o.op.operands
  .simp only[cut,a,if_true];exact h _ a hx
  .simp only[cut,a,if_false];exact VR.undef
 |func f=>
  simp only[cut,(c f).1,(c f).2];exact VR.func (show FnOk (.func f)from(show f∈dS by simpa[aA] using hx)) aF.empty aF.empty
theorem anyOp_cases {o}(h:anyOp C P o=true):(∀cs b,o.op≠.select cs b)/\(∀x∈o.op.operands,glOk C x=true)/\(fE P C.fns o=true\/nO P C.fns C.ext C.rx o=true\/(C.hard=true/\nY P C.hx C.sd o=true)):=by
 simp only[anyOp,ZQ,Bool.or_eq_true]at h;obtain⟨a,c⟩:=h;refine⟨λcs b e=>?_,λx hx=>Array.all_eq_true'.1 c x hx,a⟩;obtain⟨dst,op,type,pos,after,guard⟩:=o;simp only at e;subst e;rcases a with h|h|⟨_,h⟩<;>cases h
def Easy (C:iG)(st:Prop)(K:Nat->Prop):Prop:=C.hard=false\/((∀c,¬K c)/\¬st)
theorem af.execAny (e:dM P)(hp:aH C P Q)(he:Easy C st K){r s}(o)(d:anyOp C P o=true)(h:∀x∈o.op.operands,aA x=true->glOk C x=true->VR p (r x) (s x))(c:∀v,r (.const v)=v/\s (.const v)=v)(a:∀g,r (.func g)=.func (.func g) #[] #[]/\s (.func g)=.func (.func g) #[] #[]):af P Q K p (Go.execOp r o) (Go.execOp s o) (NR C.fns):=by
 obtain⟨j,i,b⟩:=anyOp_cases d;refine on_operands (R:=λx y=>af P Q K p x y (NR C.fns)) o j (λx hx d=>h x hx d (i x hx)) c a λr s h c a=>?_
 rcases b with b|b|⟨f,b⟩
 .exact af.execOp e hp.pfns o b h c a
 .exact af.execMore e hp.pfns hp.ext hp.rext o b h c a
 .rcases he with he|he
  .rw[f]at he;cases he
  .exact af.execHard he.1 he.2 hp.hext o b h a
theorem bC.execAny (f:dM P)(hp:aH C P Q)(d:C.sd=false\/¬st){r s}(o)(e:anyOp C P o=true)(h:∀x∈o.op.operands,aA x=true->glOk C x=true->VR p (r x) (s x))(c:∀v,r (.const v)=v/\s (.const v)=v)(a:∀g,r (.func g)=.func (.func g) #[] #[]/\s (.func g)=.func (.func g) #[] #[]):bC P Q K p (Go.execOp r o) (Go.execOp s o) (NR C.fns):=by
 obtain⟨j,i,b⟩:=anyOp_cases e;refine on_operands (R:=λx y=>bC P Q K p x y (NR C.fns)) o j (λx hx e=>h x hx e (i x hx)) c a λr s h c a=>?_
 rcases b with b|b|⟨k,b⟩
 .exact(af.execOp f hp.pfns o b h c a).lQ
 .exact(af.execMore f hp.pfns hp.ext hp.rext o b h c a).lQ
 .exact bC.execHard d hp.hext o b h a
theorem exec_by (hp:aH C P Q)(tw:Twin P Q){w u}{cs ds ZJ bs}{m m'}{a b}(hl:Live C P p a ZJ b bs)(hr:a.mode=.run)(Z:¬oH C a)(hw:WR P.globals.size K p w u)(I:TR w u\/∃ops i rest k,a.todo=.inRegion ops (i::rest)::k)
 (γ:∀ops i rest k o,a.todo=.inRegion ops (i::rest)::k->kY C a->kM C P a.fn o=true->ops[i]? =some o->Alike C P Q K p u cs ds (stepG.apply P true a (ZJ++cs) none (execOp a.eval o) w) (stepG.apply Q true b (bs++ds) none (execOp b.eval o) u)):
 Alike C P Q K p u cs ds (stepG.exec P m true a (ZJ++cs) none w) (stepG.exec Q m' true b (bs++ds) none u):=by
 have N:=hl;obtain⟨fn,tmps,todo,defers,mode,kind,ro⟩:=a;obtain⟨f,j,z,g,T,r,ε⟩:=b;obtain⟨⟨h1,h2,h3,h4,h5,h6,h7,h8,h9,S,R⟩,Y,hcs,B⟩:=hl;simp only[Frame.mk.injEq]at h7;obtain⟨rfl,-,rfl,-,rfl,-,rfl⟩:=h7;subst h4 h5 h6 hr;have to:∀z,aU C P f z->Tr todo z->Live C P p ⟨f,tmps,z,[],.run,.normal,none⟩ ZJ ⟨f,j,z.map (sgI C),g,.run,r,none⟩ bs:=λz I V=>⟨⟨h1,h2,I,rfl,rfl,rfl,rfl,h8,λe=>hp.cfg.clos _ _ _ (h9 e) V,S,R⟩,.inl rfl,hcs,B⟩
 have leave:Live C P p ⟨f,tmps,todo,[],.returning,.normal,none⟩ ZJ ⟨f,j,todo.map (sgI C),g,.returning,r,none⟩ bs:=⟨⟨h1,h2,h3,rfl,rfl,rfl,rfl,h8,h9,S,R⟩,.inr rfl,hcs,B⟩;have β:=λx hx hg G=>N.fr.eval x hx hg G
 cases todo with
 |nil=>exact Alike.stay leave hw rfl rfl
 |cons x k=>
  obtain⟨hx,E⟩:=h3.cons;cases x with
  |inBlock id=>exact Alike.stay (to k E rfl) hw rfl rfl
  |inLoop c=>exact Alike.stay (to _ (aU.of (x:=.code c) hx (aU.of (x:=.inLoop c) hx E)) rfl) hw rfl rfl
  |inRegion ops l=>
   cases l with
   |nil=>exact Alike.stay (to k E rfl) hw rfl rfl
   |cons i rest=>
    have D:=hx;simp only[stepG.exec,List.map_cons,sgI]
    have U:(((ops.map C.sg)[i]?).map (Region.wanted · (yielded (ops.map C.sg) j))).getD false=((ops[i]?).map (Region.wanted · (yielded ops tmps))).getD false:=by
     rw[Array.getElem?_map];cases F:ops[i]? with
     |none=>rfl
     |some o=>
      simp
      by_cases hf:f=C.root/\C.bare=false
      .have hg:o.guard=none:=by
                cases hm:C.mark o with
                |true=>exact hp.cfg.free o hm
                |false=>exact((kM.parts (Array.all_eq_true'.1 D o (Array.mem_of_getElem? F))).2.2.2 hf.1 hm).2.2.resolve_right (by rw[hf.2];simp)
       simp only[Region.wanted,hp.cfg.guard,hg]
      .have α:f≠C.root\/C.bare=true:=by
                by_cases h:f=C.root
                .right
                 cases hb:C.bare with
                 |true=>rfl
                 |false=>exact absurd ⟨h,hb⟩ hf
                .exact .inl h
       rw[yielded_map hp.cfg,<-yielded_eq h2 α];simp only[Region.wanted,hp.cfg.guard]
    rw[U]
    by_cases q:((ops[i]?).map (Region.wanted · (yielded ops tmps))).getD false=true
    .rw[if_pos q,if_pos q]
     cases F:ops[i]? with
     |none=>rw[F]at q;cases q
     |some o=>
      have O:=hx;have J:=Array.all_eq_true'.1 O o (Array.mem_of_getElem? F)
      have M:C.mark o=false:=by
        cases hm:C.mark o with
        |false=>rfl
        |true=>exact absurd ⟨ops,i,rest,k,o,rfl,F,by simpa[F] using q,hm⟩ Z
      have X:(ops.map C.sg)[i]? =some o:=(by rw[Array.getElem?_map,F];exact congrArg some (hp.cfg.idle o M));have hh:kY C ⟨f,tmps,.inRegion ops (i::rest)::k,[],.run,.normal,none⟩:=headOk_of (P:=P) rfl D λo' L=>by rw[F]at L;cases L;exact M
      have e1:stepG.oper P true ⟨f,tmps,.inRegion ops (i::rest)::k,[],.run,.normal,none⟩ (ZJ++cs) none w=
                stepG.apply P true ⟨f,tmps,.inRegion ops (i::rest)::k,[],.run,.normal,none⟩ (ZJ++cs) none (execOp (Frame.eval ⟨f,tmps,.inRegion ops (i::rest)::k,[],.run,.normal,none⟩) o) w:=by
        simp only[stepG.oper,Frame.oper?,F]
      have e2:stepG.oper Q true ⟨f,j,.inRegion (ops.map C.sg) (i::rest)::k.map (sgI C),g,.run,r,none⟩ (bs++ds) none u=
                stepG.apply Q true ⟨f,j,.inRegion (ops.map C.sg) (i::rest)::k.map (sgI C),g,.run,r,none⟩ (bs++ds) none (execOp (Frame.eval ⟨f,j,.inRegion (ops.map C.sg) (i::rest)::k.map (sgI C),g,.run,r,none⟩) o) u:=by
        simp only[stepG.oper,Frame.oper?,X]
      rw[e1,e2];exact γ _ _ _ _ o rfl hh J F
    .rw[if_neg q,if_neg q]
     have hh:kY C ⟨f,tmps,.inRegion ops (i::rest)::k,[],.run,.normal,none⟩:=headOk_of (P:=P) rfl D λo F=>by
      cases hm:C.mark o with
      |false=>rfl
      |true=>exact absurd (by rw[F];simp[Region.wanted,hp.cfg.free o hm]) q
     exact Alike.stay ⟨N.fr.finish hp.cfg VR.undef hh,.inl (jd _ _),hcs,kI.finish B _ _⟩ hw rfl rfl
  |code c=>
   cases c with
   |skip=>exact Alike.stay (to k E rfl) hw rfl rfl
   |label l=>exact Alike.stay (to k E rfl) hw rfl rfl
   |ret=>exact Alike.stay leave hw rfl rfl
   |seq c d=>
    have A:bA C P f c=true/\bA C P f d=true:=by simpa[fB,bA] using hx
    exact Alike.stay (to _ (aU.of (x:=.code c) A.1 (aU.of (x:=.code d) A.2 E)) rfl) hw rfl rfl
   |block id c=>exact Alike.stay (to _ (aU.of (x:=.code c) hx (aU.of (x:=.inBlock id) rfl E)) rfl) hw rfl rfl
   |loop c=>exact Alike.stay (to _ (aU.of (x:=.code c) hx (aU.of (x:=.inLoop c) hx E)) rfl) hw rfl rfl
   |cond c x y=>
    have A:(((aA c=true/\glOk C c=true)/\(f≠C.root\/openTo C c=true))/\bA C P f x=true)/\bA C P f y=true:=by simpa[fB,bA] using hx
    have G:=β c A.1.1.1.1 A.1.1.1.2 λhf=>A.1.1.2.resolve_left λh=>h hf
    simp only[stepG.exec,List.map_cons,sgI,sgC];simp only[List.map_cons,sgI,sgC]at G
    revert G
    generalize Frame.eval ⟨f,tmps,.code (.cond c x y)::k,[],.run,.normal,none⟩ c=v;generalize Frame.eval ⟨f,j,.code (.cond c (sgC C x) (sgC C y))::k.map (sgI C),g,.run,r,none⟩ c=v';intro G;have hc:=G.cases;cases v with
    |bool t=>cases v' with
     |bool t'=>
      obtain rfl:t=t':=hc;cases t
      .exact Alike.stay (to _ (aU.of (x:=.code y) A.2 E) (.inr rfl)) hw rfl rfl
      .exact Alike.stay (to _ (aU.of (x:=.code x) A.1.2 E) (.inl rfl)) hw rfl rfl
     |_=>exact hc.elim
    |_=>exact Alike.bad rfl
   |exit id=>
    simp only[stepG.exec,List.map_cons,sgI,sgC,exitTo_map];cases he:exitTo id k with
    |some k'=>exact Alike.stay (to k' (exitTo_plain he E) he) hw rfl rfl
    |none=>exact Alike.bad rfl
   |region id ops draw=>
    have δ:=hx;have W:(ops.map C.sg).size=ops.size:=Array.size_map ..;cases draw with
    |false=>exact Alike.stay (to _ (aU.of (x:=.inRegion ops (List.range ops.size)) hx E) rfl) hw rfl (by simp only[stepG.exec,List.map_cons,sgI,sgC,W];rfl)
    |true=>
     replace I:=I.resolve_right fun⟨_,_,_,_,h⟩=>by cases h
     have H:=I 0 (.order f id);simp at H
     refine .inr (.inl ⟨p,⟨f,tmps,.inRegion ops (Region.schedule (P.follows .mixedOrders) ops (w.tape w.drawn (.order f id)))::k,[],.run,.normal,none⟩,ZJ,⟨f,j,(Item.inRegion ops (Region.schedule (P.follows .mixedOrders) ops (w.tape w.drawn (.order f id)))::k).map (sgI C),g,.run,r,none⟩,bs,
      {w with drawn:=w.drawn+1},{u with drawn:=u.drawn+1},#[],#[],rfl,?_,to _ (aU.of (x:=.inRegion ops _) hx E) ⟨_,_,rfl⟩,⟨hw.fit,hw.rows,hw.kin,hw.low,hw.big⟩,trivial,⟨rfl,rfl,rfl,ZL _,λ_ _ _=>rfl,λ_ _ h n=>absurd h n,Ext.refl p⟩,λe he=>by simp at he⟩)
     rw[H,<-tw.mixed];simp only[List.map_cons,sgI,sgC,<-schedule_map hp.cfg (Q.follows .mixedOrders) ops];rfl
   |refuse s=>exact Alike.bad rfl
   |_=>cases hx
  |_=>cases hx
theorem exec_alike (i:dM P)(hp:aH C P Q)(e:Twin P Q)(he:Easy C st K){w u}{cs ds ZJ bs}{m m'}{a b}(hl:Live C P p a ZJ b bs)(g:a.mode=.run)(d:¬oH C a)(hw:WR P.globals.size K p w u)(f:TR w u):
 Alike C P Q K p u cs ds (stepG.exec P m true a (ZJ++cs) none w) (stepG.exec Q m' true b (bs++ds) none u):=
 exec_by hp e hl g d hw (.inl f) λ_ _ _ _ o c j h _=>apply_alike hp hl g j c (af.execAny i hp he o (kM.parts h).1 (λx hx l k=>hl.fr.eval x l k λhf=>(kM.parts h).2.2.1 hf x hx) (λ_=>⟨rfl,rfl⟩) λ_=>⟨rfl,rfl⟩) e hw f
theorem exec_alikeE (t:dM P)(hp:aH C P Q)(h:Twin P Q)(l:C.sd=false\/¬st){w u}{cs ds ZJ bs}{m m'}{a b}(hl:Live C P p a ZJ b bs)(n:a.mode=.run)(g:¬oH C a)(hw:WR P.globals.size K p w u):
 ∃T,Alike C P Q K p u cs ds (stepG.exec P m true a (ZJ++cs) none (ay w T)) (stepG.exec Q m' true b (bs++ds) none u):=by
 classical
 by_cases hx:∃ops i rest k o,a.todo=.inRegion ops (i::rest)::k/\ops[i]? =some o/\kM C P a.fn o=true/\kY C a
 .obtain⟨ops,i,rest,k,o,d,q,e,r⟩:=hx
  obtain⟨T,v⟩:=apply_alikeE (cs:=cs) (ds:=ds) hp hl n r d (bC.execAny t hp l o (kM.parts e).1 (λx hx z y=>hl.fr.eval x z y λhf=>(kM.parts e).2.2.1 hf x hx) (λ_=>⟨rfl,rfl⟩) λ_=>⟨rfl,rfl⟩) h hw;refine⟨T,exec_by hp h hl n g (hw.kv T u.tape) (.inr ⟨_,_,_,_,d⟩) λs B j k' A c _ _ f=>?_⟩;rw[d]at c;simp only[List.cons.injEq,Item.inRegion.injEq]at c;obtain⟨⟨rfl,rfl,rfl⟩,rfl⟩:=c;rw[q]at f;cases f;exact v
 .refine⟨_,exec_by hp h hl n g (hw.kv _ u.tape) (.inl (TR.forth w u)) λops i rest k o d r e q=>absurd ⟨ops,i,rest,k,o,d,q,e,r⟩ hx⟩
theorem back_alike (hp:aH C P Q)(B:Twin P Q){w u}{cs ds ZJ bs}{m m'}{a b}(hl:Live C P p a ZJ b bs)(hm:a.mode=.returning)(A:ZJ≠[])(hw:WR P.globals.size K p w u)(E:TR w u):
 Alike C P Q K p u cs ds (stepG P m (df a (ZJ++cs)) w) (stepG Q m' (df b (bs++ds)) u):=by
 have o:b.mode=.returning:=hl.fr.mode.trans hm;obtain⟨d1,kb,d2,d3⟩:=hl.deep.1 A;obtain⟨fn,c,f,f1,_,_,_,f5,_,_,_,f9⟩:=hp.get d2 d3;have f2:Q.funcs[b.fn]? =some f:=by rw[hl.fr.fn];exact f5
 have d:results f b.tmps=results fn b.tmps:=by unfold results;rw[f9]
 have H:b.defers=[]:=d1
 have e:∀(P:Program) (fn:Func) (m:Bool) (a:Frame) (cs:List Frame) (w:World),a.mode=.returning->a.defers=[]->P.funcs[a.fn]? =some fn->stepG P m (df a cs) w=
  GStep.after (seen P a.fn ((results fn a.tmps).runT P w #[]).2) (match((results fn a.tmps).runT P w #[]).1 with
        |.ok v w=>doReturn P m a cs none v w
        |.halt (.stuck s) w=>.ended (.stuck s (a.pos P)) w
        |.halt _ w=>.ended (.stuck "return: the result variables cannot be read" (a.pos P)) w):=by
  intro P fn m a cs w z g G;simp only[stepG,unwind,z,g,G];rcases(results fn a.tmps).runT P w #[]with⟨r,es⟩
  cases r with
  |ok v w=>rfl
  |halt h w=>cases h<;>rfl
 rw[e _ _ _ _ _ _ hm hl.fr.da f1,e _ _ _ _ _ _ o H f2,d];have hx:=af.results (P:=P) (Q:=Q) (K:=K) fn hl.fr.tmps (hp.root _ d2 d3) B w u #[] #[] hw E;rcases z:(results fn a.tmps).runT P w #[]with⟨r,es⟩
 cases r with
 |halt h w'=>cases h<;>exact Alike.bad rfl
 |ok v w'=>
  obtain⟨q,v',u',new,g,F,n,D,t,he⟩:=hx.2 v w' es z;simp only[Array.empty_append]at g;rw[g];cases ZJ with
  |nil=>exact absurd rfl A
  |cons x ZJ=>cases bs with
   |nil=>exact hl.cs.elim
   |cons y bs=>
    obtain⟨⟨i,j,k,l⟩,hcs⟩:=hl.cs;refine .inr (.inl ⟨q,x.finish v,ZJ,y.finish v',bs,w',u',seen P a.fn es++ #[],seen Q b.fn new++ #[],?_,?_,⟨(i.ext t.ext).finish hp.cfg F k,.inl ((jd x v).trans j),hcs.ext t.ext,kI.finish l v v'⟩,n,trivial,t,λe hm=>he e (jF e (by simpa using hm))⟩)
    .simp only[List.cons_append,doReturn,hl.fr.ka,GStep.after]
    .simp only[List.cons_append,doReturn,kb,GStep.after]
theorem step_alike (i:dM P)(hp:aH C P Q)(f:Twin P Q)(k:Easy C st K){w u}{cs ds ZJ bs}{m m'}{a b}(hl:Live C P p a ZJ b bs)(c:a.mode=.run->¬oH C a)(j:a.mode=.returning->ZJ≠[])(hw:WR P.globals.size K p w u)(g:TR w u):
 Alike C P Q K p u cs ds (stepG P m (df a (ZJ++cs)) w) (stepG Q m' (df b (bs++ds)) u):=by
 rcases hl.mode with hm|hm
 .have d:b.mode=.run:=hl.fr.mode.trans hm
  have e:∀(P:Program) (m:Bool) (a:Frame) (cs:List Frame) (w:World),a.mode=.run->stepG P m (df a cs) w=stepG.exec P m true a cs none w:=by
   intro P m a cs w h;simp only[stepG,h]
  rw[e _ _ _ _ _ hm,e _ _ _ _ _ d];exact exec_alike i hp f k hl hm (c hm) hw g
 .exact back_alike hp f hl hm (j hm) hw g
theorem step_alikeE (i:dM P)(hp:aH C P Q)(g:Twin P Q)(c:C.sd=false\/¬st){w u}{cs ds ZJ bs}{m m'}{a b}(hl:Live C P p a ZJ b bs)(d:a.mode=.run->¬oH C a)(j:a.mode=.returning->ZJ≠[])(hw:WR P.globals.size K p w u):
 ∃T,Alike C P Q K p u cs ds (stepG P m (df a (ZJ++cs)) (ay w T)) (stepG Q m' (df b (bs++ds)) u):=by
 rcases hl.mode with hm|hm
 .have f:b.mode=.run:=hl.fr.mode.trans hm
  have e:∀(P:Program) (m:Bool) (a:Frame) (cs:List Frame) (w:World),a.mode=.run->stepG P m (df a cs) w=stepG.exec P m true a cs none w:=by
   intro P m a cs w h;simp only[stepG,h]
  obtain⟨T,k⟩:=exec_alikeE (cs:=cs) (ds:=ds) (m:=m) (m':=m') i hp g c hl hm (d hm) hw;exact⟨T,by rw[e _ _ _ _ _ hm,e _ _ _ _ _ f];exact k⟩
 .exact⟨_,back_alike hp g hl hm (j hm) (hw.kv _ u.tape) (TR.forth w u)⟩
end
section
variable {α β γ δ:Type}{P Q:Program}{K:Nat->Prop}{st:Prop}{p:Rel st}{C:iG}
def Agree (w w':World)(T:Nat->Question->Nat):Prop:=∀j q,w.drawn<=j->j<w'.drawn->T j q=w.tape j q
def cZ (f:World->GStep)(w:World):Prop:=
 (∃g w' es,f w=.go g w' es/\w.drawn<=w'.drawn/\w'.tape=w.tape/\∀a,Agree w w' a->f (ay w a)=.go g (ay w' a) es)\/
 (∃o w' es,f w=.ended o w' es/\w.drawn<=w'.drawn/\w'.tape=w.tape/\∀a,Agree w w' a->f (ay w a)=.ended o (ay w' a) es)
theorem cZ.stay {f}{w}{g}(h:∀w,f w=.go g w #[]):cZ f w:=.inl ⟨g,w,#[],h w,ZL _,rfl,λa _=>h _⟩
theorem cZ.lost {f}{w}{o}(h:∀w,f w=.ended o w #[]):cZ f w:=.inr ⟨o,w,#[],h w,ZL _,rfl,λa _=>h _⟩
theorem apply_local {w u}{cs ZJ bs}{a b}{s t}(hl:Live C P p a ZJ b bs){ops}{i}{rest}{k}
 (o:a.todo=.inRegion ops (i::rest)::k)(hs:af P Q K p s t (NR C.fns))(A:Twin P Q)(hw:WR P.globals.size K p w u)(D:TR w u):
 cZ (stepG.apply P true a (ZJ++cs) none s) w:=by
 have hx:=hs A w u #[] #[] hw D;have y:=hl.fr.ka;obtain⟨l,j,e⟩:=hx.1.loc;unfold cZ stepG.apply;rcases z:s.runT P w #[]with⟨r,es⟩
 rw[z]at l j e;cases r with
 |halt h w'=>
  have hm:=hx.1.mild h w' es z;simp only[if_true,o];cases h with
  |panic v=>exact .inl ⟨_,_,_,rfl,l,j,λd c=>by rw[e d c];rfl⟩
  |stuck m=>exact .inr ⟨_,_,_,rfl,l,j,λd c=>by rw[e d c];rfl⟩
  |unsupported m=>
   cases m with
   |initOrder g=>exact hm.elim
   |_=>exact .inr ⟨_,_,_,rfl,l,j,λd c=>by rw[e d c];rfl⟩
  |_=>exact hm.elim
 |ok n w'=>
  obtain⟨q,B,u',new,F,E,_⟩:=hx.2 n w' es z;simp only[if_true,o,y];cases n with
  |value v=>exact .inl ⟨_,_,_,rfl,l,j,λd c=>by rw[e d c];rfl⟩
  |skip=>exact .inl ⟨_,_,_,rfl,l,j,λd c=>by rw[e d c];rfl⟩
  |enter f x=>exact .inl ⟨_,_,_,rfl,l,j,λd c=>by rw[e d c];rfl⟩
  |_=>cases B<;>exact E.elim
theorem exec_local (L:dM P)(hp:aH C P Q)(J:Twin P Q)(O:Easy C st K){w u}{cs ZJ bs}{m}{a b}(hl:Live C P p a ZJ b bs)(D:a.mode=.run)(hw:WR P.globals.size K p w u)(M:TR w u):
 cZ (stepG.exec P m true a (ZJ++cs) none) w:=by
 have n:=hl;obtain⟨fn,tmps,todo,defers,mode,kind,ro⟩:=a;obtain⟨⟨h1,R,H,G,F,E,Z,Y,X,T,S⟩,r,hcs,B⟩:=hl;simp only at R H G F E D;subst G F E D;have A:∀x,aA x=true->glOk C x=true->(fn=C.root->openTo C x=true)->VR p (Frame.eval ⟨fn,tmps,todo,[],.run,.normal,none⟩ x) (b.eval x):=λx hx z q=>n.fr.eval x hx z q
 cases todo with
 |nil=>exact cZ.stay λ_=>rfl
 |cons x k=>
  obtain⟨hx,W⟩:=H.cons;cases x with
  |inBlock id=>exact cZ.stay λ_=>rfl
  |inLoop c=>exact cZ.stay λ_=>rfl
  |inRegion ops l=>
   cases l with
   |nil=>exact cZ.stay λ_=>rfl
   |cons i rest=>
    by_cases f:((ops[i]?).map (Region.wanted · (yielded ops tmps))).getD false=true
    .cases j:ops[i]? with
     |none=>rw[j]at f;cases f
     |some o=>
      have h:kM C P fn o=true:=Array.all_eq_true'.1 (show ops.all (kM C P fn)=true from hx) o (Array.mem_of_getElem? j)
      have V:stepG.exec P m true ⟨fn,tmps,.inRegion ops (i::rest)::k,[],.run,.normal,none⟩ (ZJ++cs) none=
           stepG.apply P true ⟨fn,tmps,.inRegion ops (i::rest)::k,[],.run,.normal,none⟩ (ZJ++cs) none (execOp (Frame.eval ⟨fn,tmps,.inRegion ops (i::rest)::k,[],.run,.normal,none⟩) o):=by
       funext w
       simp only[stepG.exec];rw[if_pos f];simp only[stepG.oper,Frame.oper?,j]
      rw[V];exact apply_local n rfl (af.execAny L hp O o (kM.parts h).1 (λx hx j z=>A x j z λhf=>(kM.parts h).2.2.1 hf x hx) (λv=>⟨rfl,rfl⟩) λg=>⟨rfl,rfl⟩) J hw M
    .refine cZ.stay (g:=df (Frame.finish ⟨fn,tmps,.inRegion ops (i::rest)::k,[],.run,.normal,none⟩ undef) (ZJ++cs)) λw=>?_
     simp only[stepG.exec];rw[if_neg f]
  |code c=>
   cases c with
   |skip=>exact cZ.stay λ_=>rfl
   |label l=>exact cZ.stay λ_=>rfl
   |ret=>exact cZ.stay λ_=>rfl
   |seq c d=>exact cZ.stay λ_=>rfl
   |block id c=>exact cZ.stay λ_=>rfl
   |loop c=>exact cZ.stay λ_=>rfl
   |cond c x y=>
    cases q:Frame.eval ⟨fn,tmps,.code (.cond c x y)::k,[],.run,.normal,none⟩ c with
    |bool t=>exact cZ.stay (g:=df ⟨fn,tmps,.code (if t then x else y)::k,[],.run,.normal,none⟩ (ZJ++cs)) λw=>by simp only[stepG.exec,q]
    |_=>exact cZ.lost (o:=.stuck "cond: bool expected" (Frame.pos P ⟨fn,tmps,.code (.cond c x y)::k,[],.run,.normal,none⟩)) λw=>by simp only[stepG.exec,q]
   |exit id=>
    cases he:exitTo id k with
    |some k'=>exact cZ.stay (g:=df ⟨fn,tmps,k',[],.run,.normal,none⟩ (ZJ++cs)) λw=>by simp only[stepG.exec,he];rfl
    |none=>exact cZ.lost (o:=.stuck "exit, goto: no such block or label" (Frame.pos P ⟨fn,tmps,.code (.exit id)::k,[],.run,.normal,none⟩)) λw=>by simp only[stepG.exec,he];rfl
   |region id ops draw=>
    cases draw with
    |false=>exact cZ.stay λ_=>rfl
    |true=>
     refine .inl ⟨_,_,_,rfl,Nat.le_succ _,rfl,λI N=>?_⟩;have e:(ay w I).tape (ay w I).drawn (.order fn id)=w.tape w.drawn (.order fn id):=N w.drawn _ (ZL _) (Z4 _)
     have U:∀w:World,stepG.exec P m true ⟨fn,tmps,.code (.region id ops true)::k,[],.run,.normal,none⟩ (ZJ++cs) none w=
      .go (df ⟨fn,tmps,.inRegion ops (Region.schedule (P.follows .mixedOrders) ops (w.tape w.drawn (.order fn id)))::k,[],.run,.normal,none⟩ (ZJ++cs)) {w with drawn:=w.drawn+1} #[]:=λ_=>rfl
     rw[U,e];rfl
   |refuse s=>exact cZ.lost λ_=>rfl
   |_=>cases hx
  |_=>cases hx
theorem step_local (n:dM P)(hp:aH C P Q)(k:Twin P Q)(o:Easy C st K){w u}{cs ZJ bs}{m}{a b}(hl:Live C P p a ZJ b bs)(g:a.mode=.returning->ZJ≠[])(hw:WR P.globals.size K p w u)(l:TR w u):
 cZ (stepG P m (df a (ZJ++cs))) w:=by
 rcases hl.mode with hm|hm
 .have e:stepG P m (df a (ZJ++cs))=stepG.exec P m true a (ZJ++cs) none:=by
   funext w
   simp only[stepG,hm]
  rw[e];exact exec_local n hp k o hl hm hw l
 .obtain⟨fn,f1⟩:=hl.fr.known
  have e:stepG P m (df a (ZJ++cs))=λw=>
        GStep.after (seen P a.fn ((results fn a.tmps).runT P w #[]).2) (match((results fn a.tmps).runT P w #[]).1 with
         |.ok v w=>doReturn P m a (ZJ++cs) none v w
         |.halt (.stuck s) w=>.ended (.stuck s (a.pos P)) w
         |.halt _ w=>.ended (.stuck "return: the result variables cannot be read" (a.pos P)) w):=by
   funext w
   simp only[stepG,unwind,hm,hl.fr.da,f1];rcases(results fn a.tmps).runT P w #[]with⟨r,es⟩
   cases r with
   |ok v w=>rfl
   |halt h w=>cases h<;>rfl
  rw[e];obtain⟨f,d,c⟩:=(af.results (P:=P) (Q:=Q) (K:=K) fn hl.fr.tmps (hp.root _ (hl.deep.1 (g hm)).2.2.1 (hl.deep.1 (g hm)).2.2.2) k w u #[] #[] hw l).1.loc;unfold cZ;simp only;rcases q:(results fn a.tmps).runT P w #[]with⟨r,es⟩
  rw[q]at f d c;cases r with
  |halt h w'=>cases h<;>exact .inr ⟨_,_,_,rfl,f,d,λj i=>by rw[c j i];rfl⟩
  |ok v w'=>
   cases ZJ with
   |nil=>exact absurd rfl (g hm)
   |cons x ZJ=>
    have hd:∀w',doReturn P m a (x::ZJ++cs) none v w'=.go (df (x.finish v) (ZJ++cs)) w' #[]:=λw'=>by
     simp only[List.cons_append,doReturn,hl.fr.ka]
    simp only[hd];exact .inl ⟨_,_,_,rfl,f,d,λj i=>by rw[c j i];simp only[rtaped,hd];rfl⟩
end
end
