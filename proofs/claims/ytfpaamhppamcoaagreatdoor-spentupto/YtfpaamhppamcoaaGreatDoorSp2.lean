/- Part 2 of the proof. -/
import Derived.Test.YtfpaamhppamcoaaGreatDoorSp1
import GoSem.Dispatch
set_option linter.all false
namespace Go.Proofs.YtfpaamhppamcoaaGreatDoor
section
open Go
variable {st:Prop}
def ag {α:Type}(P:Program)(s:Sem α):Prop:=∀(w:World) (es:Array Event),(∃h w' a,Mild h/\s.runT P w es=(.halt h w',a))/\Local P s w es
def aY {α:Type}(P:Program)(s:Sem α):Prop:=∀(w:World) (es:Array Event),((∃a w' b,s.runT P w es=(.ok a w',b))\/∃h w' b,Mild h/\s.runT P w es=(.halt h w',b))/\Local P s w es
section
variable {α β γ δ:Type}{P Q:Program}{K:Nat->Prop}{p:Rel st}
theorem ag.bR {A}{s:Sem α}{t:Sem β}(h:ag P s):af P Q K p s t A:=λ_ w u es fs _ _=>by
 obtain⟨⟨c,w1,d,hm,b⟩,hl⟩:=h w es;exact⟨⟨λ_ _ _ a=>by rw[b]at a;cases a;exact hm,hl⟩,λ_ _ _ a=>by rw[b]at a;cases a⟩
theorem ag.halt (h)(hm:Mild h:=by trivial):ag P (Sem.halt h:Sem α):=λw es=>⟨⟨h,w,es,hm,rfl⟩,⟨ZL _,rfl,λa _=>rfl⟩⟩
theorem aY.pure (a):aY P (Pure.pure a:Sem α):=λw es=>⟨.inl ⟨a,w,es,rfl⟩,⟨ZL _,rfl,λb _=>rfl⟩⟩
theorem aY.halt (h)(hm:Mild h:=by trivial):aY P (Sem.halt h:Sem α):=λw es=>⟨.inr ⟨h,w,es,hm,rfl⟩,⟨ZL _,rfl,λa _=>rfl⟩⟩
theorem aY.program:aY P program:=λw es=>⟨.inl ⟨P,w,es,rfl⟩,⟨ZL _,rfl,λa _=>rfl⟩⟩
theorem aY.newObj (o:Obj):aY P (newObj o):=λw es=>⟨.inl ⟨_,_,es,rfl⟩,⟨ZL _,rfl,λa _=>rfl⟩⟩
theorem aY.bind {s}{f:α->Sem γ}(hs:aY P s)(h:∀a,aY P (f a)):aY P (s>>=f):=λw es=>by
 refine⟨?_,Local.bind (hs w es).2 λa w' c _=>(h a w' c).2⟩;have e:(s>>=f).runT P w es=(s.bind f).runT P w es:=rfl;rw[e,Sem.runT_bind'];rcases(hs w es).1 with⟨a,w1,d,b⟩|⟨g,w1,d,hm,b⟩
 .rw[b];exact(h a w1 d).1
 .rw[b];exact .inr ⟨g,w1,d,hm,rfl⟩
theorem aY.typeInfo (t:TypeId):aY P (typeInfo t):=by
 unfold Go.typeInfo;refine aY.bind aY.program λa=>?_
 split
 .exact aY.pure _
 .exact aY.halt _
theorem aY.underlying (t:TypeId):aY P (underlying t):=by
 unfold Go.underlying;refine aY.bind aY.program λa=>?_
 split
 .exact aY.pure _
 .exact aY.halt _
theorem aY.shape (r:Nat):aY P (shape r):=λw es=>⟨.inl ⟨_,_,es,rfl⟩,⟨ZL _,rfl,λa _=>rfl⟩⟩
theorem aY.frozen (a:Addr):aY P (frozen a):=λw es=>⟨.inl ⟨_,_,es,rfl⟩,⟨ZL _,rfl,λb _=>rfl⟩⟩
theorem aY.mark (m:Mark):aY P (mark m):=λw es=>⟨.inl ⟨_,w,_,rfl⟩,⟨ZL _,rfl,λa _=>rfl⟩⟩
theorem aY.choose (q:Question):aY P (choose q):=λw es=>by
 refine⟨?_,l8 q w es⟩;rw[eT];split
 .exact .inl ⟨_,_,_,rfl⟩
 .exact .inl ⟨_,_,_,rfl⟩
theorem aY.holdsCells (a)(n):aY P (Builtin.holdsCells a n):=by
 unfold Builtin.holdsCells;refine aY.bind (aY.shape _) λo=>?_
 split<;>exact aY.pure _
theorem aY.mayShare (size c n)(base)(x):aY P (Builtin.mayShare size c n base x):=by
 have h:∀there:Bool,aY P (if !there then(Pure.pure true:Sem Bool)else match x with
  |.slice (some b) _ _=>do Pure.pure (!(<-Builtin.holdsCells b (n*size))||base.any (·.block==b.block))
  |_=>Pure.pure false):=by
  intro there;split
  .exact aY.pure _
  .split
   .exact aY.bind (aY.holdsCells _ _) λ_=>aY.pure _
   .exact aY.pure _
 unfold Builtin.mayShare;cases base with
 |none=>exact aY.bind (aY.pure _) h
 |some a=>exact aY.bind (s:=Builtin.holdsCells _ _) (aY.holdsCells _ _) λb=>aY.bind (aY.frozen _) λ_=>aY.bind (aY.pure _) h
theorem ag.left {s}{f:α->Sem γ}(h:ag P s):ag P (s>>=f):=λw es=>by
 obtain⟨⟨d,w1,i,hm,c⟩,hl⟩:=h w es;refine⟨?_,Local.bind hl λa w' g b=>by rw[c]at b;cases b⟩;have e:(s>>=f).runT P w es=(s.bind f).runT P w es:=rfl;rw[e,Sem.runT_bind',c];exact⟨d,w1,i,hm,rfl⟩
theorem ag.bind {s}{f:α->Sem γ}(hs:aY P s)(h:∀a,ag P (f a)):ag P (s>>=f):=λw es=>by
 refine⟨?_,Local.bind (hs w es).2 λa w' c _=>(h a w' c).2⟩;have e:(s>>=f).runT P w es=(s.bind f).runT P w es:=rfl;rw[e,Sem.runT_bind'];rcases(hs w es).1 with⟨a,w1,d,b⟩|⟨g,w1,d,hm,b⟩
 .rw[b];exact(h a w1 d).1
 .rw[b];exact⟨g,w1,d,hm,rfl⟩
def PlainErr:RuntimeError->Prop
 |.typeAssertion .. |.panicNil=>False
 |_=>True
theorem ag.runtimePanic (e:RuntimeError)(he:PlainErr e:=by trivial):ag P (runtimePanic e:Sem α):=by
 unfold Go.runtimePanic;refine ag.bind aY.program λq=>?_
 cases e<;>first
  |exact he.elim
  |exact ag.halt _
theorem ag.boundsPanic (k:IntKind)(x y:Int)(c:BoundsCode):ag P (boundsPanic k x y c:Sem α):=by
 unfold Go.boundsPanic;simp only;split
 .exact ag.bind (aY.bind (aY.choose _) λ_=>aY.pure _) λ_=>ag.runtimePanic _
 .exact ag.bind (aY.pure _) λ_=>ag.runtimePanic _
theorem af.underlying (t:TypeId):af P Q K p (underlying t) (underlying t) (λ_ a b=>a=b/\P.underlying t=some a):=by
 unfold Go.underlying;refine af.twin λe=>af.bind af.program λq a b _ c=>?_
 rw[c.1,c.2,e.underlying];cases h:P.underlying t with
 |some d=>exact af.pure ⟨rfl,rfl⟩
 |none=>exact af.halt
theorem af.typeInfo (t:TypeId):af P Q K p (typeInfo t) (typeInfo t) (λ_ a b=>a=b/\P.info? t=some a):=by
 unfold Go.typeInfo;refine af.twin λe=>af.bind af.program λq a b _ c=>?_
 rw[c.1,c.2,e.info];cases h:P.info? t with
 |some d=>exact af.pure ⟨rfl,rfl⟩
 |none=>exact af.halt
theorem af.sizeOf (t:TypeId):af P Q K p (sizeOf t) (sizeOf t) (λ_ a b=>a=b):=by
 unfold Go.sizeOf;refine af.bind (af.typeInfo t) λq a b _ h=>?_
 obtain⟨rfl,_⟩:=h;exact af.pure rfl
theorem af.isAgg (t:TypeId):af P Q K p (isAgg t) (isAgg t) (λ_ a b=>a=b):=by
 unfold Go.isAgg;refine af.bind (af.underlying t) λq a b _ h=>?_
 obtain⟨rfl,_⟩:=h;cases a<;>exact af.pure rfl
theorem af.askRoom (n:Nat):af P Q K p (askRoom n) (askRoom n) (λ_ _ _=>True):=by
 unfold Go.askRoom;split
 .exact af.noRoom
 .exact af.pure trivial
def dM (_:Program):Prop:=True
def ZeroAt (P:Program)(t:TypeId):Prop:=∀i v,P.info? t=some i->i.zero=some v->∀(st:Prop) (p:Rel st),VR p v v
def ZeroEl (P:Program)(t:TypeId):Prop:=∀e,P.underlying t=some (.slice e)->ZeroAt P e
def okZ:Nat->Value->Bool
 |0,_=>false
 |n+1,v=>match v with
  |.bool _|.int _ _|.string _|.pointer none|.slice none _ _|.nilFunc|.nilIface=>true
  |.agg vs|.tuple vs=>vs.all (okZ n)
  |_=>false
theorem okZ_VR (p:Rel st):∀(n:Nat) (v:Value),okZ n v=true->VRn p n v v
 |0,_,h=>by cases h
 |n+1,v,h=>by
  have key:∀vs:Array Value,vs.all (okZ n)=true->aF (VRn p n) vs vs:=λvs d=>⟨rfl,λi x y hx hy=>by
   rw[hx]at hy;cases hy;exact okZ_VR p n x (Array.all_eq_true'.1 d x (Array.mem_of_getElem? hx))⟩
  cases v with
  |pointer a=>cases a with
   |none=>trivial
   |some a=>cases h
  |slice a l c=>cases a with
   |none=>exact⟨trivial,rfl,rfl⟩
   |some a=>cases h
  |bool b=>rfl
  |int k m=>exact⟨rfl,rfl⟩
  |string s=>rfl
  |nilFunc=>rfl
  |nilIface=>trivial
  |agg vs=>exact key vs h
  |tuple vs=>exact key vs h
  |_=>cases h
def zeroT (P:Program)(t:TypeId):Bool:=match P.info? t with
 |some i=>(match i.zero with
  |some v=>okZ 8 v
  |none=>true)
 |none=>true
def elT (P:Program)(t:TypeId):Bool:=match P.underlying t with
 |some (.slice e)=>zeroT P e
 |_=>true
theorem zeroT_ok {P}{t}(h:zeroT P t=true):ZeroAt P t:=λi v b a st p=>by
 unfold zeroT at h;rw[b]at h;simp only[a]at h;exact⟨_,okZ_VR p 8 v h⟩
theorem elT_ok {P}{t}(h:elT P t=true):ZeroEl P t:=λe he=>by
 unfold elT at h;rw[he]at h;exact zeroT_ok h
theorem af.zeroValue (t:TypeId)(c:ZeroAt P t):af P Q K p (zeroValue t) (zeroValue t) (λq a b=>a=b/\VR q a a):=by
 unfold Go.zeroValue;refine af.bind (af.typeInfo t) λq a b _ h=>?_
 obtain⟨rfl,h⟩:=h;cases d:a.zero with
 |some v=>exact af.pure ⟨rfl,c a v h d _ q⟩
 |none=>exact af.halt
theorem AR.mono {q}(hp:Ext p q){a b}(h:AR p a b):AR q a b:=⟨hp _ _ h.1,h.2⟩
theorem AR.add {a b}(h:AR p a b)(n):AR p (a.add n) (b.add n):=by
 unfold Addr.add;split
 .exact h
 .exact⟨h.1,by simp[h.2.1],rfl⟩
theorem VR.ext {q}(hp:Ext p q){v u}(h:VR p v u):VR q v u:=h.mono hp
theorem aF.ext {q}(hp:Ext p q){a b}(h:aF (VR p) a b):aF (VR q) a b:=h.mono λ_ _ k=>k.ext hp
theorem aF.empty {r}:aF r #[] #[]:=⟨rfl,λi x y hx _=>by simp at hx⟩
theorem aF.push {r}{a b}(h:aF r a b){x y}(d:r x y):aF r (a.push x) (b.push y):=by
 refine⟨by simp[h.1],λi s t hs c=>?_⟩;rw[Array.getElem?_push]at hs c;rw[<-h.1]at c;split at hs
 .rename_i e
  rw[if_pos e]at c;cases hs;cases c;exact d
 .rename_i e
  rw[if_neg e]at c;exact h.2 i s t hs c
theorem aF.cells {v u}(h:VR p v u):aF (VR p) v.cells u.cells:=by
 have hc:=h.cases
 cases v<;>cases u<;>first
  |exact hc
  |exact hc.elim
  |exact Bool.noConfusion hc
  |exact aF.push aF.empty h
theorem aF.toList {r}{a b}(h:aF r a b):a.toList.length=b.toList.length/\∀(i:Nat) x y,a.toList[i]? =some x->b.toList[i]? =some y->r x y:=
 ⟨by simpa using h.1,λi x y hx hy=>h.2 i x y (by simpa using hx) (by simpa using hy)⟩
theorem af.loadCellsFrom {a b:Addr}:∀(n i:Nat) {p:Rel st} {xs ys:Array Value},AR p a b->aF (VR p) xs ys->af P Q K p (loadCellsFrom a i n xs) (loadCellsFrom b i n ys) (λq x y=>aF (VR q) x y)
 |0,i,p,xs,ys,h,c=>by unfold Go.loadCellsFrom;exact af.pure c
 |n+1,i,p,xs,ys,h,c=>by
  unfold Go.loadCellsFrom;refine af.bind (af.load (h.add i)) λq v u d e=>?_
  exact af.loadCellsFrom n (i+1) (h.mono d) ((c.ext d).push e)
theorem af.loadCells {a b:Addr}(h:AR p a b)(n:Nat):af P Q K p (loadCells a n) (loadCells b n) (λq x y=>aF (VR q) x y):=af.loadCellsFrom n 0 h aF.empty
theorem af.loadVar {a b:Addr}(t:TypeId)(h:AR p a b):af P Q K p (loadVar t a) (loadVar t b) (λq x y=>VR q x y):=by
 unfold Go.loadVar;refine af.bind (af.isAgg t) λq x y f e=>?_
 subst e;cases x with
 |true=>
  refine af.bind (af.sizeOf t) λi n j d e=>?_
  subst e;refine af.bind (af.loadCells (h.mono (f.trans d)) n) λg c k _ hc=>af.pure (VR.agg hc)
 |false=>exact af.load (h.mono f)
theorem af.storeCells {a b:Addr}:∀(vs us:List Value) (i:Nat) {p:Rel st},AR p a b->vs.length=us.length->(∀(i:Nat) x y,vs[i]? =some x->us[i]? =some y->VR p x y)->af P Q K p (storeCells a vs i) (storeCells b us i) (λ_ _ _=>True)
 |[],[],i,p,_,_,_=>by unfold Go.storeCells;exact af.pure trivial
 |[],_::_,i,p,_,hl,_=>by simp at hl
 |_::_,[],i,p,_,hl,_=>by simp at hl
 |v::vs,u::us,i,p,h,hl,c=>by
  unfold Go.storeCells;refine af.bind (af.store (h.add i) (c 0 v u rfl rfl)) λq _ _ d _=>?_
  exact af.storeCells vs us (i+1) (h.mono d) (by simpa using hl) λi x y hx hy=>(c (i+1) x y (by simpa using hx) (by simpa using hy)).ext d
theorem af.storeVar {a b:Addr}(t:TypeId){v u:Value}(h:AR p a b)(f:VR p v u):af P Q K p (storeVar t a v) (storeVar t b u) (λ_ _ _=>True):=by
 unfold Go.storeVar;have hc:=aF.cells f;refine af.bind (af.sizeOf t) λq n m d e=>?_
 subst e;rw[hc.1]
 by_cases c:u.cells.size≠n
 .rw[if_pos c,if_pos c]
  exact ag.bR (λw es=>by refine⟨⟨_,_,_,?_,rfl⟩,ZL _,rfl,λg _=>rfl⟩;trivial)
 .rw[if_neg c,if_neg c]
  exact af.storeCells _ _ 0 (h.mono d) (hc.ext d).toList.1 (hc.ext d).toList.2
theorem af.l6 {xs ys}(e)(h:aF (VR p) xs ys):af P Q K p (Go.newRow e xs) (Go.newRow e ys) (λq a b=>AR q a b/\¬K b.block):=by
 unfold Go.newRow;exact af.bind (af.newRow e h) λq r s _ c=>af.pure ⟨⟨c.1,rfl,rfl⟩,c.2⟩
theorem af.newVar {v u}(t)(h:VR p v u):af P Q K p (Go.newVar t v) (Go.newVar t u) (λq a b=>AR q a b/\¬K b.block):=af.l6 t (aF.cells h)
end
variable {st:Prop}
section
variable {α β γ δ:Type}{P Q:Program}{K:Nat->Prop}{p:Rel st}
theorem VR.bT {k}{n}{u}(h:VR p (.int k n) u):u=.int k n:=by
 have:=h.cases;cases u<;>first|exact this.elim|(obtain⟨rfl,rfl⟩:=this;rfl)
theorem VR.j3 {b}{u}(h:VR p (.bool b) u):u=.bool b:=by
 have:=h.cases;cases u<;>first|exact this.elim|(obtain rfl:b=_:=this;rfl)
theorem VR.bO {b}{u}(h:VR p (.string b) u):u=.string b:=by
 have:=h.cases;cases u<;>first|exact this.elim|(obtain rfl:b=_:=this;rfl)
theorem VR.bV {a}{u}(h:VR p (.pointer a) u):∃b,u=.pointer b/\OA p a b:=by
 have:=h.cases;cases u<;>first|exact this.elim|exact⟨_,rfl,this⟩
theorem VR.bD {a}{l c}{u}(h:VR p (.slice a l c) u):∃b,u=.slice b l c/\SA p l c a b:=by
 have:=h.cases;cases u<;>first|exact this.elim|(obtain⟨d,rfl,rfl⟩:=this;exact⟨_,rfl,d⟩)
theorem VR.agg_inv {a}{u}(h:VR p (.agg a) u):∃b,u=.agg b/\aF (VR p) a b:=by
 have:=h.cases;cases u<;>first|exact this.elim|exact⟨_,rfl,this⟩
theorem VR.tuple_inv {a}{u}(h:VR p (.tuple a) u):∃b,u=.tuple b/\aF (VR p) a b:=by
 have:=h.cases;cases u<;>first|exact this.elim|exact⟨_,rfl,this⟩
theorem VR.func_inv {f}{a c}{u}(h:VR p (.func f a c) u):FnOk f/\∃b d,u=.func f b d/\aF (VR p) a b/\aF (VR p) c d:=by
 have:=h.cases;cases u<;>first|exact this.elim|(obtain⟨⟨rfl,i⟩,g,e⟩:=this;exact⟨i,_,_,rfl,g,e⟩)
theorem OA.aO {a}{b}(h:OA p (some a) b):∃c,b=some c/\AR p a c:=by
 cases b with
 |none=>exact h.elim
 |some c=>exact⟨c,rfl,h⟩
theorem OA.aV {b}(h:OA p none b):b=none:=by
 cases b with
 |none=>rfl
 |some c=>exact h.elim
theorem af.sureAddr {v u}(h:VR p v u):af P Q K p (Instr.sureAddr v) (Instr.sureAddr u) (λq a b=>AR q a b):=by
 unfold Instr.sureAddr;cases v with
 |pointer a=>
  cases a with
  |some a=>
   obtain⟨b,rfl,hb⟩:=h.bV;obtain⟨c,rfl,hc⟩:=hb.aO;exact af.pure hc
  |none=>exact af.halt
 |_=>exact af.halt
theorem af.loadAt {v u}(t)(h:VR p v u):af P Q K p (Instr.loadAt t v) (Instr.loadAt t u) (λq a b=>VR q a b):=by
 unfold Instr.loadAt;exact af.bind (af.sureAddr h) λq a b _ c=>af.loadVar t c
theorem af.storeAt {v u x y}(t)(h:VR p v u)(hx:VR p x y):af P Q K p (Instr.storeAt t v x) (Instr.storeAt t u y) (λ_ _ _=>True):=by
 unfold Instr.storeAt;exact af.bind (af.sureAddr h) λq a b d c=>af.storeVar t c (hx.ext d)
theorem af.alloc (t)(d:ZeroAt P t):af P Q K p (Instr.alloc t true (.tuple #[])) (Instr.alloc t true (.tuple #[])) (λq a b=>VR q a b):=by
 unfold Instr.alloc;refine af.bind (af.zeroValue t d) λq a b _ c=>?_
 obtain⟨rfl,e⟩:=c;refine af.bind (af.newVar t e) λf a b _ c=>af.pure (VR.ptr c.1)
theorem af.box {v u}(t)(h:VR p v u):af P Q K p (Instr.box t v) (Instr.box t u) (λq a b=>VR q a b):=by
 unfold Instr.box;exact af.bind (af.newVar t h) λd a b _ c=>af.pure (VR.ptr c.1)
theorem af.numberAt {r s:Nat}(h:p r s):af P Q K p (numberAt r) (numberAt s) (λq a b=>match a,b with
 |none,none=>True
 |some a,some b=>AR q a.1 b.1/\a.2=b.2
 |_,_=>False):=by
 intro A w u es fs hw v
 have k1:∀(P:Program) (w:World) (es:Array Event) (r:Nat) xs e f,w.heap[r]? =some (.cells xs e f)->(Go.numberAt r).runT P w es=(.ok none w,es):=by
  intro P w es r xs e f h;show(Sem.bind (Go.shape r) _).runT P w es=_
  rw[Sem.runT_bind'];have:(Go.shape r).runT P w es=(.ok (w.shape? r) w,es):=rfl;rw[this];simp only[World.shape?,h];rfl
 have m:∀(P:Program) (w:World) (es:Array Event) (r:Nat) a l,w.heap[r]? =some (.number a l)->(Go.numberAt r).runT P w es=(.ok (some (a,l)) w,es.push ⟨.obj r,false,false⟩):=by
  intro P w es r a l h;show(Sem.bind (Go.shape r) _).runT P w es=_
  rw[Sem.runT_bind'];have:(Go.shape r).runT P w es=(.ok (w.shape? r) w,es):=rfl;rw[this];simp only[World.shape?,h];show(Sem.bind (Go.getObj r) _).runT P w es=_
  rw[Sem.runT_bind']
  have:(Go.getObj r).runT P w es=(.ok (.number a l) w,es.push ⟨.obj r,false,false⟩):=by
   unfold Go.getObj Sem.runT;rw[h];rfl
  rw[this];rfl
 have k:∀(P:Program) (w:World) (es:Array Event) (r:Nat) a t,w.heap[r]? =some (.view a t)->(Go.numberAt r).runT P w es=(.ok none w,es.push ⟨.obj r,false,false⟩):=by
  intro P w es r a t h;show(Sem.bind (Go.shape r) _).runT P w es=_
  rw[Sem.runT_bind'];have:(Go.shape r).runT P w es=(.ok (w.shape? r) w,es):=rfl;rw[this];simp only[World.shape?,h];show(Sem.bind (Go.getObj r) _).runT P w es=_
  rw[Sem.runT_bind']
  have:(Go.getObj r).runT P w es=(.ok (.view a t) w,es.push ⟨.obj r,false,false⟩):=by
   unfold Go.getObj Sem.runT;rw[h];rfl
  rw[this];rfl
 obtain⟨xs,ys,e,f,g,d,n,_⟩|⟨j,a2,l,d,n,y,z⟩|⟨j,a2,l,d,n,y,z⟩:=hw.rows _ _ h
 .refine⟨⟨λx w' i c=>(by rw[k1 P w es r xs e f d]at c;cases c),(by unfold Local;rw[k1 P w es r xs e f d];exact⟨ZL _,rfl,λo _=>(k1 P (ay w o) es r xs e f d).trans rfl⟩)⟩,λa w' i c=>?_⟩
  rw[k1 P w es r xs e f d]at c;cases c;exact⟨p,none,u,#[],by rw[k1 Q u fs s ys e g n,Array.append_empty],trivial,hw,v,dE.refl _ _ _,λe he=>by simp at he⟩
 .refine⟨⟨λx w' i c=>(by rw[m P w es r j l d]at c;cases c),(by unfold Local;rw[m P w es r j l d];exact⟨ZL _,rfl,λo _=>(m P (ay w o) es r j l d).trans rfl⟩)⟩,λa w' i c=>?_⟩
  rw[m P w es r j l d]at c;cases c
  exact⟨p,some (a2,l),u,#[⟨.obj s,false,false⟩],by rw[m Q u fs s a2 l n];rfl,⟨y,rfl⟩,hw,v,dE.refl _ _ _,λe he=>by
   obtain rfl:e=⟨.obj s,false,false⟩:=by simpa using he
   exact .inl ⟨s,r,.inl rfl,h,rfl,λh=>by cases h⟩⟩
 .refine⟨⟨λx w' i c=>(by rw[k P w es r j l d]at c;cases c),(by unfold Local;rw[k P w es r j l d];exact⟨ZL _,rfl,λo _=>(k P (ay w o) es r j l d).trans rfl⟩)⟩,λa w' i c=>?_⟩
  rw[k P w es r j l d]at c;cases c
  exact⟨p,none,u,#[⟨.obj s,false,false⟩],by rw[k Q u fs s a2 l n];rfl,trivial,hw,v,dE.refl _ _ _,λe he=>by
   obtain rfl:e=⟨.obj s,false,false⟩:=by simpa using he
   exact .inl ⟨s,r,.inl rfl,h,rfl,λh=>by cases h⟩⟩
theorem af.viewAt {r s:Nat}(h:p r s):af P Q K p (viewAt r) (viewAt s) (λq a b=>match a,b with
 |none,none=>True
 |some a,some b=>AR q a.1 b.1/\a.2=b.2
 |_,_=>False):=by
 intro A w u es fs hw v
 have k1:∀(P:Program) (w:World) (es:Array Event) (r:Nat) xs e f,w.heap[r]? =some (.cells xs e f)->(Go.viewAt r).runT P w es=(.ok none w,es):=by
  intro P w es r xs e f h;show(Sem.bind (Go.shape r) _).runT P w es=_
  rw[Sem.runT_bind'];have:(Go.shape r).runT P w es=(.ok (w.shape? r) w,es):=rfl;rw[this];simp only[World.shape?,h];rfl
 have m:∀(P:Program) (w:World) (es:Array Event) (r:Nat) a l,w.heap[r]? =some (.number a l)->(Go.viewAt r).runT P w es=(.ok none w,es.push ⟨.obj r,false,false⟩):=by
  intro P w es r a l h;show(Sem.bind (Go.shape r) _).runT P w es=_
  rw[Sem.runT_bind'];have:(Go.shape r).runT P w es=(.ok (w.shape? r) w,es):=rfl;rw[this];simp only[World.shape?,h];show(Sem.bind (Go.getObj r) _).runT P w es=_
  rw[Sem.runT_bind']
  have:(Go.getObj r).runT P w es=(.ok (.number a l) w,es.push ⟨.obj r,false,false⟩):=by
   unfold Go.getObj Sem.runT;rw[h];rfl
  rw[this];rfl
 have k:∀(P:Program) (w:World) (es:Array Event) (r:Nat) a t,w.heap[r]? =some (.view a t)->(Go.viewAt r).runT P w es=(.ok (some (a,t)) w,es.push ⟨.obj r,false,false⟩):=by
  intro P w es r a t h;show(Sem.bind (Go.shape r) _).runT P w es=_
  rw[Sem.runT_bind'];have:(Go.shape r).runT P w es=(.ok (w.shape? r) w,es):=rfl;rw[this];simp only[World.shape?,h];show(Sem.bind (Go.getObj r) _).runT P w es=_
  rw[Sem.runT_bind']
  have:(Go.getObj r).runT P w es=(.ok (.view a t) w,es.push ⟨.obj r,false,false⟩):=by
   unfold Go.getObj Sem.runT;rw[h];rfl
  rw[this];rfl
 obtain⟨xs,ys,e,f,g,d,n,_⟩|⟨j,a2,l,d,n,y,z⟩|⟨j,a2,l,d,n,y,z⟩:=hw.rows _ _ h
 .refine⟨⟨λx w' i c=>(by rw[k1 P w es r xs e f d]at c;cases c),(by unfold Local;rw[k1 P w es r xs e f d];exact⟨ZL _,rfl,λo _=>(k1 P (ay w o) es r xs e f d).trans rfl⟩)⟩,λa w' i c=>?_⟩
  rw[k1 P w es r xs e f d]at c;cases c;exact⟨p,none,u,#[],by rw[k1 Q u fs s ys e g n,Array.append_empty],trivial,hw,v,dE.refl _ _ _,λe he=>by simp at he⟩
 .refine⟨⟨λx w' i c=>(by rw[m P w es r j l d]at c;cases c),(by unfold Local;rw[m P w es r j l d];exact⟨ZL _,rfl,λo _=>(m P (ay w o) es r j l d).trans rfl⟩)⟩,λa w' i c=>?_⟩
  rw[m P w es r j l d]at c;cases c
  exact⟨p,none,u,#[⟨.obj s,false,false⟩],by rw[m Q u fs s a2 l n];rfl,trivial,hw,v,dE.refl _ _ _,λe he=>by
   obtain rfl:e=⟨.obj s,false,false⟩:=by simpa using he
   exact .inl ⟨s,r,.inl rfl,h,rfl,λh=>by cases h⟩⟩
 .refine⟨⟨λx w' i c=>(by rw[k P w es r j l d]at c;cases c),(by unfold Local;rw[k P w es r j l d];exact⟨ZL _,rfl,λo _=>(k P (ay w o) es r j l d).trans rfl⟩)⟩,λa w' i c=>?_⟩
  rw[k P w es r j l d]at c;cases c
  exact⟨p,some (a2,l),u,#[⟨.obj s,false,false⟩],by rw[k Q u fs s a2 l n];rfl,⟨y,rfl⟩,hw,v,dE.refl _ _ _,λe he=>by
   obtain rfl:e=⟨.obj s,false,false⟩:=by simpa using he
   exact .inl ⟨s,r,.inl rfl,h,rfl,λh=>by cases h⟩⟩
theorem af.noView {a b:Addr}(h:AR p a b):af P Q K p (noView a) (noView b) (λ_ _ _=>True):=by
 unfold Go.noView;refine af.bind (af.viewAt h.1) λq x y _ e=>?_
 cases x with
 |none=>cases y with
  |none=>exact af.pure trivial
  |some y=>exact e.elim
 |some x=>exact af.halt
theorem af.byteOf {a b:Addr}(h:AR p a b):af P Q K p (byteOf a) (byteOf b) (λ_ x y=>x=y):=by
 unfold Go.byteOf;rw[<-h.2.2];cases a.spot with
 |some s=>exact af.pure rfl
 |none=>
  simp only;refine af.twin λc=>af.bind af.program λq x y f e=>?_
  rw[e.1,e.2,c.byteOfCell,c.cellsOf,c.bytesOf];refine af.bind (af.noView (h.mono f)) λi _ _ d _=>?_
  refine af.bind (af.shape ((f.trans d) _ _ h.1)) λg s s' _ e=>?_
  subst e;cases s with
  |none=>exact af.halt
  |some s=>
   simp only;split
   .exact af.pure rfl
   .rw[<-h.2.1]
    cases byteOfCell P P.depth s.1 (a.off%P.cellsOf s.1)with
    |none=>exact af.halt
    |some b=>exact af.pure rfl
theorem af.partAt {a b:Addr}(h:AR p a b)(c n:Nat):af P Q K p (partAt a c n) (partAt b c n) (λq x y=>AR q x y):=by
 unfold Go.partAt;refine af.bind (af.byteOf h) λq x y f e=>?_
 subst e;have g:AR q {block:=a.block,off:=a.off+c} {block:=b.block,off:=b.off+c}:=⟨f _ _ h.1,by simp[h.2.1],rfl⟩;refine af.bind (af.byteOf g) λk i j d e=>?_
 subst e
 by_cases hx:i=x+n
 .simp only[hx,if_true]
  exact af.pure (g.mono d)
 .simp only[hx,if_false]
  exact af.pure ⟨(f.trans d) _ _ h.1,by simp[h.2.1],rfl⟩
theorem af.fieldPlace {a b:Addr}(h:AR p a b)(f:Field):af P Q K p (fieldPlace a f) (fieldPlace b f) (λq x y=>AR q x y):=by
 unfold Go.fieldPlace;refine af.bind (af.sizeOf f.type) λq x y c e=>?_
 subst e
 by_cases hx:x=0
 .simp only[hx,if_true]
  exact af.partAt (h.mono c) _ _
 .simp only[hx,if_false]
  exact af.pure ((h.mono c).add _)
theorem af.fieldAt {v u}(s)(h:VR p v u)(i):af P Q K p (Instr.fieldAt s v i) (Instr.fieldAt s u i) (λq a b=>VR q a b):=by
 unfold Instr.fieldAt;refine af.bind (af.underlying s) λq x y j e=>?_
 obtain⟨rfl,_⟩:=e;cases x with
 |struct fields=>
  simp only;cases fields[i]? with
  |none=>exact af.halt
  |some f=>
   simp only;refine af.bind (af.sureAddr (h.ext j)) λk a b g c=>?_
   exact af.bind (af.fieldPlace c f) λd a b _ c=>af.pure (VR.ptr c)
 |_=>exact af.halt
theorem af.part {xs ys:Array Value}(t:TypeId)(h:aF (VR p) xs ys)(off:Nat):af P Q K p (part t xs off) (part t ys off) (λq a b=>VR q a b):=by
 unfold Go.part;refine af.bind (af.isAgg t) λq x y j e=>?_
 subst e;have g:=h.ext j;cases x with
 |true=>
  simp only[if_true];refine af.bind (af.sizeOf t) λk n m f e=>?_
  subst e;have d:=g.ext f;refine af.pure (VR.agg ⟨by simp[d.1],λi x y hx hy=>?_⟩);rw[Array.getElem?_extract]at hx hy;rw[<-d.1]at hy;split at hx
  .rename_i c
   rw[if_pos c]at hy;exact d.2 _ x y hx hy
  .cases hx
 |false=>
  simp only[Z0,if_false];cases hx:xs[off]? with
  |none=>exact af.halt
  |some v=>
   have c:off<ys.size:=(by rw[<-h.1];exact(ZK.1 hx).1);rw[ZM c];exact af.pure (g.2 off v _ hx (ZM c))
theorem af.asIntOf {v u:Value}(h:VR p v u):af P Q K p (asIntOf v) (asIntOf u) (λ_ a b=>a=b):=by
 unfold Go.asIntOf;cases v with
 |int k n=>rw[h.bT];exact af.pure rfl
 |pointer a=>cases a<;>exact af.halt
 |_=>exact af.halt
theorem af.asInt {v u:Value}(h:VR p v u):af P Q K p (asInt v) (asInt u) (λ_ a b=>a=b):=by
 unfold Go.asInt;refine af.bind (af.asIntOf h) λq x y _ e=>?_
 subst e;exact af.pure rfl
theorem af.asBool {v u:Value}(h:VR p v u):af P Q K p (asBool v) (asBool u) (λ_ a b=>a=b):=by
 unfold Go.asBool;cases v with
 |bool b=>rw[h.j3];exact af.pure rfl
 |_=>exact af.halt
theorem af.asAgg {v u:Value}(h:VR p v u):af P Q K p (asAgg v) (asAgg u) (λq a b=>aF (VR q) a b):=by
 unfold Go.asAgg;cases v with
 |agg a=>obtain⟨b,rfl,hb⟩:=h.agg_inv;exact af.pure hb
 |_=>exact af.halt
theorem af.field {v u}(t)(h:VR p v u)(i):af P Q K p (Instr.field t v i) (Instr.field t u i) (λq a b=>VR q a b):=by
 unfold Instr.field;refine af.bind (af.underlying t) λq x y d e=>?_
 obtain⟨rfl,_⟩:=e;cases x with
 |struct fields=>
  simp only;cases fields[i]? with
  |none=>exact af.halt
  |some f=>exact af.bind (af.asAgg (h.ext d)) λg a b _ c=>af.part f.type c f.offset
 |_=>exact af.halt
theorem af.index {v u x y}(t)(h:VR p v u)(hx:VR p x y):af P Q K p (Instr.index t v x) (Instr.index t u y) (λq a b=>VR q a b):=by
 unfold Instr.index;refine af.bind (af.asIntOf hx) λq k k' j e=>?_
 subst e;refine af.bind (af.underlying t) λl d d' f e=>?_
 obtain⟨rfl,_⟩:=e;have g:=(h.ext j).ext f;cases d with
 |array len elem=>
  cases v with
  |agg cs=>
   obtain⟨b,rfl,hb⟩:=g.agg_inv;simp only;split
   .refine af.bind (af.sizeOf elem) λi n m c e=>?_
    subst e;exact af.part elem (hb.ext c) _
   .exact(ag.boundsPanic _ _ _ _).bR
  |_=>exact af.halt
 |string=>
  cases v with
  |string s=>
   rw[g.bO];simp only;split
   .exact af.pure (VR.int _ _)
   .exact(ag.boundsPanic _ _ _ _).bR
  |_=>exact af.halt
 |_=>exact af.halt
theorem af.indexAt {v u x y}(t)(h:VR p v u)(hx:VR p x y):af P Q K p (Instr.indexAt t v x) (Instr.indexAt t u y) (λq a b=>VR q a b):=by
 unfold Instr.indexAt;refine af.bind (af.asIntOf hx) λq k k' w e=>?_
 subst e;refine af.bind (af.underlying t) λB d d' i e=>?_
 obtain⟨rfl,_⟩:=e;have l:=(h.ext w).ext i;cases d with
 |array len elem=>
  simp only;refine af.bind (af.sureAddr l) λA a c s j=>?_
  simp only[pure_bind];refine af.bind (af.underlying t) λr d d' g e=>?_
  obtain⟨rfl,_⟩:=e;split
  .refine af.bind (af.sizeOf elem) λo n m f e=>?_
   subst e;exact af.pure (VR.ptr ((j.mono (g.trans f)).add _))
  .exact ag.bR (by repeat' split
                   all_goals first|exact ag.halt _|exact ag.boundsPanic _ _ _ _)
 |slice elem=>
  cases v with
  |slice base len cap=>
   obtain⟨b2,rfl,hb⟩:=l.bD;simp only[pure_bind];refine af.bind (af.underlying t) λr d d' g e=>?_
   obtain⟨rfl,_⟩:=e;cases base with
   |none=>exact(ag.boundsPanic _ _ _ _).bR
   |some a=>
    obtain⟨c,rfl,hc⟩:=hb.aO;simp only;split
    .rename_i z
     have hc:=hc.resolve_right (λh=>by omega);refine af.bind (af.sizeOf elem) λo n m f e=>?_
     subst e;exact af.pure (VR.ptr ((hc.mono (g.trans f)).add _))
    .exact ag.bR (by repeat' split
                     all_goals first|exact ag.halt _|exact ag.boundsPanic _ _ _ _)
  |_=>exact af.halt
 |_=>exact af.halt
theorem af.extract {v u}(h:VR p v u)(i):af P Q K p (Instr.extract v i) (Instr.extract u i) (λq a b=>VR q a b):=by
 unfold Instr.extract;cases v with
 |tuple a=>
  obtain⟨b,rfl,hb⟩:=h.tuple_inv;simp only;cases hx:a[i]? with
  |none=>exact af.halt
  |some x=>
   have c:i<b.size:=(by rw[<-hb.1];exact(ZK.1 hx).1);rw[ZM c];exact af.pure (hb.2 i x _ hx (ZM c))
 |_=>exact af.halt
theorem aF.append {r}{a b c d}(h:aF r a b)(k:aF r c d):aF r (a++c) (b++d):=by
 refine⟨by simp[h.1,k.1],λi x y hx hy=>?_⟩;rw[Array.getElem?_append]at hx hy;rw[<-h.1]at hy;split at hx
 .rename_i e
  rw[if_pos e]at hy;exact h.2 i x y hx hy
 .rename_i e
  rw[if_neg e]at hy;exact k.2 _ x y hx hy
theorem aF.same {a}(h:∀v,v∈a->VR p v v):aF (VR p) a a:=⟨rfl,λi x y hx hy=>by
 rw[hx]at hy;cases hy;exact h x (Array.mem_of_getElem? hx)⟩
theorem af.behindNumber {a b:Addr}(h:AR p a b):af P Q K p (behindNumber a) (behindNumber b) (λq x y=>AR q x.1 y.1/\x.2=y.2):=by
 unfold Go.behindNumber;refine af.bind (af.numberAt h.1) λq x y c e=>?_
 cases x with
 |none=>cases y with
  |none=>exact af.pure ⟨h.mono c,rfl⟩
  |some y=>exact e.elim
 |some x=>cases y with
  |none=>exact e.elim
  |some y=>exact af.pure e
theorem af.asNumber {a b:Addr}(l:Bool)(h:AR p a b):af P Q K p (asNumber a l) (asNumber b l) (λq x y=>VR q x y):=by
 unfold Go.asNumber;exact af.bind (af.newNumber l h) λq r s _ c=>af.pure (VR.ptr ⟨c.1,rfl,rfl⟩)
theorem af.unsafeAdd {a b}{x y}(t)(h:OA p a b)(hx:VR p x y):af P Q K p (Builtin.unsafeAdd_ #[] t #[.pointer a,x]) (Builtin.unsafeAdd_ #[] t #[.pointer b,y]) (λq x y=>VR q x y/\∃a,x=.pointer a):=by
 unfold Builtin.unsafeAdd_;refine af.bind (af.asInt hx) λq n m o e=>?_
 subst e;cases a with
 |none=>
  obtain rfl:=h.aV;refine ag.bR ?_;simp only
  repeat' split
  all_goals first|exact ag.halt _|exact ag.bind (by first|exact aY.underlying _|exact aY.typeInfo _|exact aY.pure _) λ_=>ag.halt _
 |some a=>
  obtain⟨c,rfl,hc⟩:=h.aO;have d:=hc.mono o;simp only
  by_cases j:n=0
  .simp only[j,if_true]
   refine af.bind (af.viewAt d.1) λl s t f e=>?_
   cases s with
   |none=>cases t with
    |none=>exact af.pure ⟨VR.ptr (d.mono f),_,rfl⟩
    |some t=>exact e.elim
   |some s=>exact af.halt
  .simp only[j,if_false]
   by_cases hl:n<0
   .simp only[hl,if_true]
    exact ag.bR (λw es=>by refine⟨⟨_,_,_,?_,rfl⟩,ZL _,rfl,λu _=>rfl⟩;trivial)
   .simp only[hl,if_false]
    refine af.bind (af.shape d.1) λl s t f e=>?_
    subst e;cases s with
    |none=>exact af.halt
    |some s=>
     simp only;refine af.twin λi=>af.bind af.program λk s' r g e=>?_
     rw[e.1,e.2,i.cellAtBytes,i.cellsOf,<-d.2.1];cases cellAtBytes P P.depth s.1 (s.2/P.cellsOf s.1) a.off n with
     |none=>exact af.halt
     |some off=>exact af.pure ⟨VR.ptr ⟨(f.trans g) _ _ d.1,rfl,d.2.2⟩,_,rfl⟩
theorem af.movedNumber {x y z f:Value}(t:TypeId)(h:VR p x y)(i:VR p z f)(hp:∃a,x=.pointer a):af P Q K p (movedNumber t x z) (movedNumber t y f) (λq x y=>VR q x y):=by
 obtain⟨a,rfl⟩:=hp;obtain⟨b,rfl,hb⟩:=h.bV;unfold Go.movedNumber;refine af.bind (af.underlying t) λq d d' n e=>?_
 obtain⟨rfl,_⟩:=e;have l:=OA.mono n hb;have s:=i.ext n;cases a with
 |none=>
  obtain rfl:=l.aV
  cases d<;>first
   |exact(af.unsafeAdd t l s).mono λ_ _ _ _ h=>h.1
   |exact ag.bR (λw es=>by refine⟨⟨_,_,_,?_,rfl⟩,ZL _,rfl,λE _=>rfl⟩;trivial)
 |some a=>
  obtain⟨c,rfl,hc⟩:=l.aO
  have main:∀{q:Rel st},AR q a c->VR q z f->af P Q K q
        (do let (a,lost)<-Go.behindNumber a
            match<-Builtin.unsafeAdd_ #[] t #[.pointer (some a),z]with
            |.pointer (some b)=>Go.asNumber b lost
            |v=>Pure.pure v)
        (do let (a,lost)<-Go.behindNumber c
            match<-Builtin.unsafeAdd_ #[] t #[.pointer (some a),f]with
            |.pointer (some b)=>Go.asNumber b lost
            |v=>Pure.pure v) (λq x y=>VR q x y):=by
   intro q hc i;refine af.bind (af.behindNumber hc) λC x y j e=>?_
   obtain⟨x1,x2⟩:=x;obtain⟨m,A⟩:=y;obtain⟨D,rfl⟩:AR C x1 m/\x2=A:=e;refine af.bind (af.unsafeAdd t (a:=some x1) (b:=some m) D (i.ext j)) λB v u _ g=>?_
   obtain⟨g,o,rfl⟩:=g;obtain⟨G,rfl,r⟩:=g.bV;cases o with
   |none=>obtain rfl:=r.aV;exact af.pure g
   |some o=>obtain⟨F,rfl,k⟩:=r.aO;exact af.asNumber x2 k
  cases d<;>first
   |exact main hc s
   |exact ag.bR (λw es=>by refine⟨⟨_,_,_,?_,rfl⟩,ZL _,rfl,λE _=>rfl⟩;trivial)
end
end
