/- Part 5 of the proof. -/
import Derived.Test.YtfpaamhppamcoaaGreatDoorSp4
import Derived.Orders
set_option linter.all false
namespace Go.Proofs.YtfpaamhppamcoaaGreatDoor
section
open Go
variable {st:Prop}
section
variable {α β γ δ:Type}{P Q:Program}{K:Nat->Prop}{p:Rel st}
theorem kW.ext {q}(a:Ext p q){l m}(h:kW p l m):kW q l m:=⟨h.1,λi x y hx hy=>(h.2 i x y hx hy).ext a⟩
theorem mapM_places (P Q):∀(l:List Field) (acc:Array (Nat×Nat)) {p:Rel st},af P Q K p (l.foldlM (init:=acc) λacc f=>do Pure.pure (acc.push (f.offset,<-Go.sizeOf f.type))) (l.foldlM (init:=acc) λacc f=>do Pure.pure (acc.push (f.offset,<-Go.sizeOf f.type))) (λ_ a b=>a=b)
 |[],acc,p=>by simp only[List.foldlM_nil];exact af.pure rfl
 |f::l,acc,p=>by
  simp only[List.foldlM_cons];refine af.bind (A:=λ_ a b=>a=b) ?_ λq a b _ e=>by subst e;exact mapM_places P Q l a
  refine af.bind (af.sizeOf f.type) λq a b _ e=>?_
  subst e;exact af.pure rfl
theorem af.places (fields:Array Field):af P Q K p (fields.mapM λf=>do Pure.pure (f.offset,<-Go.sizeOf f.type)) (fields.mapM λf=>do Pure.pure (f.offset,<-Go.sizeOf f.type)) (λ_ a b=>a=b):=by
 rw[Array.mapM_eq_foldlM];simp only[bind_pure_comp];rw[<-Array.foldlM_toList];have:=mapM_places (K:=K) P Q fields.toList #[] (p:=p);simpa[bind_pure_comp] using this
theorem af.build {l m}(t)(r:ZeroAt P t)(h:kW p l.toList m.toList):af P Q K p (Instr.build t l) (Instr.build t m) (λq a b=>VR q a b):=by
 unfold Instr.build;refine af.bind (af.zeroValue t r) λq z u j e=>?_
 obtain⟨rfl,g⟩:=e;refine af.bind (af.underlying t) λv d d' f e=>?_
 obtain⟨rfl,hd⟩:=e;cases d with
 |struct fields=>
  simp only;refine af.bind (af.places fields) λk pl o c e=>?_
  subst e;have hf:=fill_rel (pl[·]?) l.toList m.toList (h.ext (j.trans (f.trans c))) ((aF.cells g).ext (f.trans c))
  revert hf
  cases Instr.fill (pl[·]?) z.cells l.toList<;>cases Instr.fill (pl[·]?) z.cells m.toList<;>intro hf<;>first
   |exact hf.elim
   |exact Bool.noConfusion hf
   |exact af.halt
   |exact af.pure (VR.agg hf)
 |array n elem=>
  simp only;refine af.bind (af.sizeOf elem) λk s s' c e=>?_
  subst e;have hf:=fill_rel (λi=>some (i*s,s)) l.toList m.toList (h.ext (j.trans (f.trans c))) ((aF.cells g).ext (f.trans c))
  revert hf
  cases Instr.fill (λi=>some (i*s,s)) z.cells l.toList<;>cases Instr.fill (λi=>some (i*s,s)) z.cells m.toList<;>intro hf<;>first
   |exact hf.elim
   |exact Bool.noConfusion hf
   |exact af.halt
   |exact af.pure (VR.agg hf)
 |_=>exact af.halt
theorem af.buildSlice {l m}(t)(n)(u:ZeroEl P t)(h:kW p l.toList m.toList):af P Q K p (Instr.buildSlice t n l) (Instr.buildSlice t n m) (λq a b=>VR q a b):=by
 unfold Instr.buildSlice;refine af.bind (af.underlying t) λq d d' w e=>?_
 obtain⟨rfl,hd⟩:=e;cases d with
 |slice elem=>
  simp only;refine af.bind (af.sizeOf elem) λo s s' k e=>?_
  subst e
  have fin:∀{f:Rel st} (z:Array Value),Ext o f->aF (VR f) z z->af P Q K f
        (do let some cells:=Instr.fill (λi=>some (i*s,s)) ((Array.range (n*s)).map (z[· %z.size]!)) l.toList|stuck "buildSlice: a part of the wrong size"
            Pure.pure (.slice (some (<-Go.newRow elem cells)) n n))
        (do let some cells:=Instr.fill (λi=>some (i*s,s)) ((Array.range (n*s)).map (z[· %z.size]!)) m.toList|stuck "buildSlice: a part of the wrong size"
            Pure.pure (.slice (some (<-Go.newRow elem cells)) n n)) (λq a b=>VR q a b):=by
   intro f z c g;have hf:=fill_rel (λi=>some (i*s,s)) l.toList m.toList (h.ext (w.trans (k.trans c))) (aF.mod' g (n*s))
   revert hf
   cases Instr.fill (λi=>some (i*s,s)) ((Array.range (n*s)).map (z[· %z.size]!)) l.toList<;>cases Instr.fill (λi=>some (i*s,s)) ((Array.range (n*s)).map (z[· %z.size]!)) m.toList<;>intro hf<;>first
        |exact hf.elim
        |exact Bool.noConfusion hf
        |exact af.halt
        |exact af.bind (af.l6 elem hf) λq r y _ v=>af.pure (VR.slice v.1)
  split
  .exact(ag.left (ag.halt _)).bR
  .split
   .simp only[pure_bind]
    exact fin _ (Ext.refl _) aF.empty
   .simp only[pure_bind]
    refine af.bind (af.zeroValue elem (u elem hd)) λf z x c e=>?_
    obtain⟨rfl,j⟩:=e;exact fin _ c (aF.cells j)
 |_=>exact af.halt
def gL (fns:List Nat)(P Q:Program):Prop:=(∀g∈dS,g∈fns)/\∀g∈fns,(∃fn,P.funcs[g]? =some fn/\(fn.name== "runtime.NumGoroutine")=false/\fn.body.isNone=false)/\∃fn,Q.funcs[g]? =some fn/\(fn.name== "runtime.NumGoroutine")=false/\fn.body.isNone=false
def Argd (f n:Nat):Prop:=(f=42->n=2)/\(f=88->n=1)
def NR (fns:List Nat)(p:Rel st):Next->Next->Prop
 |.value v,.value u=>VR p v u
 |.skip,.skip=>True
 |.enter f a,.enter g b=>f=g/\f∈fns/\aF (VR p) a b/\Argd f a.size
 |_,_=>False
theorem af.callFunc {fns:List Nat}{f:FuncId}{a b:Array Value}(hf:f∈fns)(hs:Argd f a.size)(hp:gL fns P Q)(h:aF (VR p) a b):af P Q K p (callFunc f a) (callFunc f b) (NR fns):=by
 unfold Go.callFunc;refine af.bind af.program λq s s' i e=>?_
 rw[e.1,e.2];obtain⟨⟨fn,l,k,j⟩,m,g,d,c⟩:=hp.2 f hf;rw[l,g];simp only[k,j,d,c,Z0,if_false];exact af.pure ⟨rfl,hf,h.ext i,hs⟩
theorem af.invokeValue {fns}{x v}{a b}(hp:gL fns P Q)(h:VR p x v)(g:aF (VR p) a b):
 af P Q K p (do let d<-Deferred.ofValue x a;invoke d.target d.args) (do let d<-Deferred.ofValue v b;invoke d.target d.args) (NR fns):=by
 have hx:=h.cases;cases x with
 |func f y c=>
  obtain⟨hf,i,o,rfl,hy,hc⟩:=h.func_inv;cases f with
  |func f=>
   refine af.bind (A:=λq d e=>d.target=.fn (.func f) c/\d.args=y++a/\e.target=.fn (.func f) o/\e.args=i++b) (af.pure ⟨rfl,rfl,rfl,rfl⟩) λq d e j he=>?_
   obtain⟨n,m,l,k⟩:=he;rw[n,m,l,k];exact af.callFunc (hp.1 f hf) ⟨λe=>absurd (show f∈dS from hf) (by rw[e];decide),λe=>absurd (show f∈dS from hf) (by rw[e];decide)⟩ hp (((hy.append g).append hc).ext j)
  |_=>exact hf.elim
 |nilFunc=>
  cases v<;>first
   |exact hx.elim
   |exact Bool.noConfusion hx
   |(refine ag.bR ?_
     have e:(do let d<-Deferred.ofValue .nilFunc a;invoke d.target d.args)=(runtimePanic .nilDeref:Sem Next):=rfl;rw[e];exact ag.runtimePanic _)
 |_=>cases v<;>first|exact hx.elim|exact Bool.noConfusion hx|exact ag.bR (ag.left (ag.halt _))
theorem af.invokeDirect {fns}{f}{a b}(hf:f∈fns)(hs:Argd f a.size)(hp:gL fns P Q)(c:aF (VR p) a b):
 af P Q K p (do let d<-Deferred.ofValue (.func (.func f) #[] #[]) a;invoke d.target d.args) (do let d<-Deferred.ofValue (.func (.func f) #[] #[]) b;invoke d.target d.args) (NR fns):=by
 refine af.bind (A:=λq d e=>d.target=.fn (.func f) #[]/\d.args= #[]++a/\e.target=.fn (.func f) #[]/\e.args= #[]++b) (af.pure ⟨rfl,rfl,rfl,rfl⟩) λq d e g he=>?_
 obtain⟨k,j,i,h⟩:=he;rw[k,j,i,h];exact af.callFunc hf ⟨λe=>by simpa using hs.1 e,λe=>by simpa using hs.2 e⟩ hp (((aF.empty.append c).append aF.empty).ext g)
def flatV:Value->Bool
 |.bool _|.int _ _|.string _|.pointer none|.slice none _ _|.nilFunc|.nilIface=>true
 |.tuple vs=>vs.size==0
 |_=>false
theorem flatV_VR {v}(h:flatV v=true):VR p v v:=by
 cases v with
 |bool b=>exact VR.bool _
 |int k n=>exact VR.int _ _
 |string s=>exact VR.string _
 |pointer o=>cases o with
  |none=>exact VR.ptr trivial
  |some a=>cases h
 |slice o l c=>cases o with
  |none=>exact VR.slice trivial
  |some a=>cases h
 |nilFunc=>exact⟨1,rfl⟩
 |nilIface=>exact⟨1,trivial⟩
 |tuple vs=>
  have:vs.size=0:=by simpa[flatV] using h
  obtain rfl:vs= #[]:=Array.eq_empty_of_size_eq_zero this;exact VR.tuple aF.empty
 |_=>cases h
def aA:Operand->Bool
 |.tmp _=>true
 |.const v=>flatV v
 |.func f=>dS.contains f
 |.global _=>true
def isInt (P:Program)(t:TypeId):Bool:=match P.underlying t with|some (.int _)=>true|_=>false
def isStr (P:Program)(t:TypeId):Bool:=match P.underlying t with|some .string=>true|_=>false
def isBytes (P:Program)(t:TypeId):Bool:=match P.underlying t with
 |some (.slice e)=>(match P.underlying e with|some (.int .u8)=>true|_=>false)
 |_=>false
def isBool (P:Program)(t:TypeId):Bool:=match P.underlying t with|some .bool=>true|_=>false
def isSlice (P:Program)(t:TypeId):Bool:=match P.underlying t with|some (.slice _)=>true|_=>false
def nS (P:Program)(t:TypeId):Bool:=match P.underlying t with|some (.pointer _)=>true|_=>false
def nilConst (P:Program)(t:TypeId):Operand->Bool
 |.const (.slice none 0 0)=>isSlice P t
 |.const (.pointer none)=>nS P t
 |_=>false
def flatEq (P:Program)(t:TypeId):Bool:=jO P 6 t&& !P.eqGuardType P.depth t
def isEq:BinOp->Bool
 |.eql|.neq=>true
 |_=>false
def okCall (P:Program)(fns:List Nat)(c:Call):Bool:=
 c.args.all aA&&match c.callee with
 |.value (.func f)=>fns.contains f&&((f !=42||c.args.size==2)&&(f !=88||c.args.size==1))
 |.value f=>aA f
 |.builtin .len=>c.args.size==1&&c.argTypes.size==1&&c.argTypes.all λt=>match P.underlying t with|some (.map _ _)|some (.chan _ _)=>false|_=>true
 |.builtin .append=>c.args.size==2&&c.argTypes.size==2&&c.argTypes.all λt=> !isInt P t&&elT P t
 |.builtin .copy=>c.args.size==2&&c.argTypes.size==2
 |.builtin .clear=>c.args.size==1&&c.argTypes.size==1&&c.argTypes.all (elT P)
 |_=>false
def fE (P:Program)(fns:List Nat)(o:Oper):Bool:=match o.op with
 |.move x|.assign x|.box _ x|.load _ x|.nilCheck x|.unOp _ _ x|.fieldAddr _ x _|.field _ x _|.extract x _=>aA x
 |.pick c a b=>aA c&&aA a&&aA b
 |.alloc t=>zeroT P t
 |.build t parts=>zeroT P t&&parts.all λx=>aA x.2
 |.buildSlice t _ parts=>elT P t&&parts.all λx=>aA x.2
 |.makeSlice t a x=>elT P t&&(aA a&&aA x)
 |.store _ a x|.indexAddr _ a x|.index _ a x=>aA a&&aA x
 |.binOp op t x y _=>aA x&&aA y&&(isInt P t||(isEq op&&(isBool P t||nilConst P t y||flatEq P t)))
 |.convert s t x=>aA x&&((isInt P s&&isInt P t)||(isBytes P s&&isStr P t))
 |.makeFunc (.func f) a b=>dS.contains f&&a.all aA&&b.all aA
 |.slice t x d e none=>aA x&&(d.map aA).getD true&&(e.map aA).getD true&& !nS P t
 |.call c=>okCall P fns c
 |_=>false
end
variable {st:Prop}
section
variable {fns:List Nat}{α β γ δ:Type}{P Q:Program}{K:Nat->Prop}{p:Rel st}
theorem af.bB {s}{t}(h:af P Q K p s t (λq a b=>VR q a b)):af P Q K p (do Pure.pure (Next.value (<-s))) (do Pure.pure (Next.value (<-t))) (NR fns):=
 af.bind h λ_ _ _ _ e=>af.pure e
theorem af.toSkip {s t}(h:af P Q K p s t (λ_ _ _=>True)):af P Q K p (do s;Pure.pure Next.skip) (do t;Pure.pure Next.skip) (NR fns):=
 af.bind h λ_ _ _ _ _=>af.pure trivial
theorem aF.kD {ops:Array Operand}{f g}(h:∀x,aA x=true->VR p (f x) (g x))(b:ops.all aA=true):aF (VR p) (ops.map f) (ops.map g):=by
 refine⟨by simp,λi x y hx hy=>?_⟩;rw[Array.getElem?_map]at hx hy;cases a:ops[i]? with
 |none=>rw[a]at hx;cases hx
 |some o=>
  rw[a]at hx hy;cases hx;cases hy;refine h o ?_;have hm:=Array.mem_of_getElem? a;exact(Array.all_eq_true'.1 b) o hm
theorem kW.kD {parts:Array (Nat×Operand)}{f g:Operand->Value}(h:∀x,aA x=true->VR p (f x) (g x))(b:(parts.all λx=>aA x.2)=true):
 kW p (parts.map fun(i,x)=>(i,f x)).toList (parts.map fun(i,x)=>(i,g x)).toList:=by
 refine⟨by simp,λi x y hx hy=>?_⟩;simp only[Array.toList_map,List.getElem?_map,Array.getElem?_toList]at hx hy;cases a:parts[i]? with
 |none=>rw[a]at hx;cases hx
 |some o=>
  rw[a]at hx hy;cases hx;cases hy;exact h o.2 ((Array.all_eq_true'.1 b) o (Array.mem_of_getElem? a))
theorem OV.kD {o:Option Operand}{f g}(h:∀x,aA x=true->VR p (f x) (g x))(a:(o.map aA).getD true=true):OV p (o.map f) (o.map g):=by
 cases o with
 |none=>trivial
 |some x=>exact h x a
theorem ji {A}{a:Array A}(h:a.size=1):∃x,a= #[x]:=by
 obtain⟨l⟩:=a
 match l,h with
 |[x],_=>exact⟨x,rfl⟩
theorem array2 {A}{a:Array A}(h:a.size=2):∃x y,a= #[x,y]:=by
 obtain⟨l⟩:=a
 match l,h with
 |[x,y],_=>exact⟨x,y,rfl⟩
theorem af.call (D:dM P)(hp:gL fns P Q){r s}(c)(t)(A:okCall P fns c=true)(h:∀x,aA x=true->VR p (r x) (s x))(u:∀g,r (.func g)=.func (.func g) #[] #[]/\s (.func g)=.func (.func g) #[] #[]):
 af P Q K p (do let d<-resolve r c t;invoke d.target d.args) (do let d<-resolve s c t;invoke d.target d.args) (NR fns):=by
 obtain⟨callee,args,argTypes⟩:=c;unfold okCall at A;rw[ZQ]at A;obtain⟨w,i⟩:=A;have j:=aF.kD h w;cases callee with
 |value f=>
  cases f with
  |func g=>
   rw[ZQ,ZQ,Bool.or_eq_true,Bool.or_eq_true]at i;have C:g∈fns:=by simpa using i.1
   have z:Argd g (args.map r).size:=⟨λe=>by
        have:=i.2.1.resolve_left (by simp[e]);simpa using this,λe=>by
        have:=i.2.2.resolve_left (by simp[e]);simpa using this⟩
   have e:∀r:Operand->Value,(do let d<-resolve r ⟨.value (.func g),args,argTypes⟩ t;invoke d.target d.args)=(do let d<-Deferred.ofValue (r (.func g)) (args.map r);invoke d.target d.args):=λ_=>rfl
   rw[e r,e s,(u g).1,(u g).2];exact af.invokeDirect C z hp j
  |_=>exact af.invokeValue (K:=K) hp (h _ i) j
 |builtin b=>
  have e:∀(r:Operand->Value),(do let d<-resolve r ⟨.builtin b,args,argTypes⟩ t;invoke d.target d.args)=builtin b argTypes t (args.map fun|.const _=>true|_=>false) (args.map r):=λr=>rfl
  rw[e r,e s];cases b with
  |len=>
   simp only[ZQ,beq_iff_eq]at i;obtain⟨⟨n,m⟩,o⟩:=i;obtain⟨a,rfl⟩:=ji n;obtain⟨ty,rfl⟩:=ji m;have y:VR p (r a) (s a):=h a (by simpa using w);have m1:∀f:Operand->Value,(#[a]:Array Operand).map f= #[f a]:=λf=>by simp
   rw[m1 r,m1 s];refine af.bB (af.len ty t ⟨λk e v=>?_,λk e v=>?_⟩ y)
   .simp[v]at o
   .simp[v]at o
  |append=>
   simp only[ZQ,beq_iff_eq]at i;obtain⟨⟨n,m⟩,o⟩:=i;obtain⟨a,b,rfl⟩:=array2 n;obtain⟨ty,q,rfl⟩:=array2 m;have l:aA a=true/\aA b=true:=by simpa using w
   have y:=h a l.1;have hu:=h b l.2;have m2:∀f:Operand->Value,(#[a,b]:Array Operand).map f= #[f a,f b]:=λf=>by simp
   rw[m2 r,m2 s];have B:(isInt P ty=false/\elT P ty=true)/\(isInt P q=false/\elT P q=true):=by simpa using o
   refine af.bB (af.append ty q t (elT_ok B.1.2) (λk v=>?_) y hu);have:=B.2.1;simp[isInt,v]at this
  |copy=>
   simp only[ZQ,beq_iff_eq]at i;obtain⟨n,m⟩:=i;obtain⟨a,b,rfl⟩:=array2 n;obtain⟨ty,q,rfl⟩:=array2 m;have l:aA a=true/\aA b=true:=by simpa using w
   have m2:∀f:Operand->Value,(#[a,b]:Array Operand).map f= #[f a,f b]:=λf=>by simp
   rw[m2 r,m2 s];exact af.bB (af.copy ty q t (h a l.1) (h b l.2))
  |clear=>
   simp only[ZQ,beq_iff_eq]at i;obtain⟨⟨n,m⟩,o⟩:=i;obtain⟨a,rfl⟩:=ji n;obtain⟨ty,rfl⟩:=ji m;have m1:∀f:Operand->Value,(#[a]:Array Operand).map f= #[f a]:=λf=>by simp
   rw[m1 r,m1 s];exact af.bB (af.clear ty t (elT_ok (by simpa using o)) (h a (by simpa using w)))
  |_=>cases i
 |invoke a b=>cases i
theorem af.execOp (H:dM P)(hp:gL fns P Q){r s:Operand->Value}(o:Oper)(j:fE P fns o=true)(h:∀x,aA x=true->VR p (r x) (s x))(C:∀v,r (.const v)=v/\s (.const v)=v)(G:∀g,r (.func g)=.func (.func g) #[] #[]/\s (.func g)=.func (.func g) #[] #[]):af P Q K p (execOp r o) (execOp s o) (NR fns):=by
 obtain⟨dst,op,type,pos,after,guard⟩:=o;unfold Go.execOp;cases op with
 |move x=>exact af.pure (h x j)
 |assign x=>exact af.pure (h x j)
 |pick c a b=>
  simp only[fE,ZQ]at j;refine af.bind (af.asBool (h c j.1.1)) λq x y A e=>?_
  subst e;refine af.pure ?_;cases x with
  |true=>exact(h a j.1.2).ext A
  |false=>exact(h b j.2).ext A
 |alloc e=>exact af.bB (af.alloc e (zeroT_ok j))
 |box e x=>exact af.bB (af.box e (h x j))
 |build t parts=>
  simp only[fE,ZQ]at j;exact af.bB (af.build t (zeroT_ok j.1) (kW.kD h j.2))
 |buildSlice t n parts=>
  simp only[fE,ZQ]at j;exact af.bB (af.buildSlice t n (elT_ok j.1) (kW.kD h j.2))
 |load t a=>exact af.bB (af.loadAt t (h a j))
 |store t a x=>
  simp only[fE,ZQ]at j;exact af.toSkip (af.storeAt t (h a j.1) (h x j.2))
 |nilCheck x=>
  have hx:=h x j;have hc:=hx.cases;simp only
  revert hx hc
  generalize r x=v;generalize s x=u;intro hx hc;cases v with
  |pointer a=>
   obtain⟨b,rfl,hb⟩:=hx.bV;cases a with
   |none=>exact(ag.runtimePanic _).bR
   |some a=>
    obtain⟨b,rfl,_⟩:=hb.aO;exact af.pure hx
  |nilIface=>exact(ag.runtimePanic _).bR
  |nilFunc=>exact(ag.runtimePanic _).bR
  |func f y c=>
   obtain⟨hf,S,V,rfl,_,_⟩:=hx.func_inv;cases f with
   |func f=>exact af.pure hx
   |_=>exact hf.elim
  |_=>cases u<;>first|exact hc.elim|exact Bool.noConfusion hc|exact af.pure hx
 |binOp op t x y R=>
  simp only[fE,ZQ,Bool.or_eq_true]at j;obtain⟨⟨B,l⟩,d⟩:=j;have hx:=h x B;have hy:=h y l
  by_cases w:isEq op=true/\flatEq P t=true
  .obtain⟨F,w⟩:=w
   have he:op=.eql\/op=.neq:=by cases op<;>first|exact .inl rfl|exact .inr rfl|cases F
   simp only[flatEq,ZQ]at w;have J:P.eqGuardType P.depth t=false:=by simpa using w.2
   exact af.bB (af.bind (af.eqGuardFlat op t x y J hx hy) λq _ _ A _=>af.binFlat 6 op t he w.1 (hx.ext A) (hy.ext A))
  replace d:isInt P t=true\/(isEq op=true/\(isBool P t=true\/nilConst P t y=true)):=by
   rcases d with d|⟨D,d|d⟩
   .exact .inl d
   .exact .inr ⟨D,d⟩
   .exact absurd ⟨D,d⟩ w
  have I:(∃k,P.underlying t=some (.int k))\/P.underlying t=some .bool\/(∃e,P.underlying t=some (.slice e))\/(∃e,P.underlying t=some (.pointer e)):=by
   rcases d with d|⟨_,d|d⟩
   .unfold isInt at d
    split at d
    .rename_i k e;exact .inl ⟨k,e⟩
    .cases d
   .unfold isBool at d
    split at d
    .rename_i e;exact .inr (.inl e)
    .cases d
   .unfold nilConst at d
    split at d
    .unfold isSlice at d
     split at d
     .rename_i e;exact .inr (.inr (.inl ⟨_,e⟩))
     .cases d
    .unfold nS at d
     split at d
     .rename_i e;exact .inr (.inr (.inr ⟨_,e⟩))
     .cases d
    .cases d
  refine af.bB (af.bind (af.eqGuard op t x y I hx hy) λq _ _ A _=>?_);have z:=hx.ext A;have E:=hy.ext A;rcases d with d|⟨D,d⟩
  .unfold isInt at d
   split at d
   .rename_i k e;exact af.binInt op t e z E
   .cases d
  .have he:op=.eql\/op=.neq:=by cases op<;>first|exact .inl rfl|exact .inr rfl|cases D
   rcases d with d|d
   .unfold isBool at d
    split at d
    .rename_i e;exact af.binEq op t he z (.inl ⟨e,E⟩)
    .cases d
   .unfold nilConst at d
    split at d
    .unfold isSlice at d
     split at d
     .rename_i e
      refine af.binEq op t he z (.inr ⟨?_,.inl ⟨_,e,(C _).1⟩⟩);rw[(C _).1,(C _).2]
     .cases d
    .unfold nS at d
     split at d
     .rename_i e
      refine af.binEq op t he z (.inr ⟨?_,.inr ⟨_,e,(C _).1⟩⟩);rw[(C _).1,(C _).2]
     .cases d
    .cases d
 |unOp op t x=>exact af.bB (af.unary op (h x j))
 |convert a b x=>
  simp only[fE,ZQ,Bool.or_eq_true]at j;obtain⟨B,⟨l,d⟩|⟨l,d⟩⟩:=j
  .unfold isInt at l d
   split at l
   .rename_i k e
    split at d
    .rename_i k' O;exact af.bB (af.convertInt a b e O (h x B))
    .cases d
   .cases l
  .unfold isBytes at l
   unfold isStr at d;split at l
   .rename_i L e
    split at l
    .rename_i N
     split at d
     .rename_i M;exact af.bB (af.convertBytes a b L e N M (h x B))
     .cases d
    .cases l
   .cases l
 |makeFunc f a b=>
  cases f with
  |func f=>
   simp only[fE,ZQ]at j;obtain⟨⟨B,l⟩,d⟩:=j;exact af.bB (af.pure (VR.func (show FnOk (.func f)from(show f∈dS by simpa using B)) (aF.kD h l) (aF.kD h d)))
  |_=>cases j
 |makeSlice t a b=>
  simp only[fE,ZQ]at j;exact af.bB (af.makeSlice t (elT_ok j.1) (h a j.2.1) (h b j.2.2))
 |slice t x T U mx=>
  cases mx with
  |some m=>cases j
  |none=>
   simp only[fE,ZQ]at j;obtain⟨⟨⟨B,l⟩,d⟩,D⟩:=j;refine af.bB (af.sliceAt t (h x B) (OV.kD h l) (OV.kD h d) λe he=>?_);simp[nS,he]at D
 |fieldAddr t x f=>exact af.bB (af.fieldAt t (h x j) f)
 |field t x f=>exact af.bB (af.field t (h x j) f)
 |indexAddr t x i=>
  simp only[fE,ZQ]at j;exact af.bB (af.indexAt t (h x j.1) (h i j.2))
 |index t x i=>
  simp only[fE,ZQ]at j;exact af.bB (af.index t (h x j.1) (h i j.2))
 |extract x i=>exact af.bB (af.extract (h x j) i)
 |call c=>exact af.call H hp c _ j h G
 |_=>cases j
end
variable {st:Prop}
section
variable {α β γ δ:Type}{P Q:Program}{K:Nat->Prop}{p:Rel st}
theorem af.makeInterface {x v}(t)(c:okIb t=true)(h:VR p x v):af P Q K p (Instr.makeInterface t x) (Instr.makeInterface t v) (λq a b=>VR q a b):=by
 unfold Instr.makeInterface;refine af.bind (af.underlying t) λq d d' f e=>?_
 obtain⟨rfl,_⟩:=e;cases d<;>first|exact af.halt|exact af.pure (VR.iface c (h.ext f))
theorem VR.calm {t}{a v}(h:VR p (.iface t a) v):noPtr (.iface t a):=by
 have hx:=h.cases;cases v with
 |iface d b=>
  obtain⟨rfl,⟨c,_⟩|⟨rfl,_⟩⟩:=hx
  .cases a<;>first|trivial|exact(okIb_calm c).1
  .cases a<;>first|trivial|rfl
 |_=>exact hx.elim
theorem aY.newVar (t:TypeId)(v:Value):aY P (newVar t v):=by
 unfold Go.newVar Go.newRow;exact aY.bind (aY.newObj _) λ_=>aY.pure _
theorem aY.elemOf (t:TypeId):aY P (elemOf t):=by
 unfold Go.elemOf;refine aY.bind (aY.underlying t) λd=>?_
 cases d<;>first|exact aY.halt _|exact aY.pure _
theorem ag.panicNil (hc:iT.contains P.rt.panicNilError=false):ag P (Go.runtimePanic .panicNil:Sem α):=by
 have c:∀(w:World) (es:Array Event),(Go.runtimePanic .panicNil:Sem α).runT P w es=(do
  let e<-elemOf P.rt.panicNilError
  let r<-newVar e (.agg #[])
  goPanic (.iface P.rt.panicNilError (.pointer (some r))):Sem α).runT P w es:=λ_ _=>rfl
 have d:ag P (do
  let e<-elemOf P.rt.panicNilError
  let r<-newVar e (.agg #[])
  goPanic (.iface P.rt.panicNilError (.pointer (some r))):Sem α):=ag.bind (aY.elemOf _) λe=>ag.bind (aY.newVar _ _) λr=>ag.halt _ hc
 intro w es;have b:=d w es;refine⟨by rw[c];exact b.1,?_⟩;have a:=b.2;unfold Local at a⊢;simp only[c];exact a
theorem aY.panicnil:aY P Instr.panicnil:=λw es=>by
 have e:∀w:World,∃l,w.sys .env=(.strings l,w)/\∀T,(ay w T).sys .env=(.strings l,ay w T):=λw=>⟨_,rfl,λ_=>rfl⟩
 obtain⟨l,b,d⟩:=e w
 obtain⟨n,a⟩:∃n,∀(w:World) (es:Array Event),w.sys .env=(.strings l,w)->(Instr.panicnil).runT P w es=(.ok n w,es.push ⟨.output,true,false⟩):=by
  refine⟨Instr.readSettings "panicnil" ((Option.map (λs=>s.extract "GODEBUG=".toUTF8.size s.size) (Array.find? (λs=>s.extract 0 "GODEBUG=".toUTF8.size== "GODEBUG=".toUTF8) l)).getD ByteArray.empty) (Instr.readSettings "panicnil" P.godebug.toUTF8 0),λw es hw=>?_⟩;show(Sem.bind (Sem.sys Sys.env Sem.pure) _).runT P w es=_
  rw[Sem.runT_bind'];have:(Sem.sys Sys.env Sem.pure:Sem SysRet).runT P w es=(.ok (w.sys .env).1 (w.sys .env).2,es.push ⟨.output,true,false⟩):=rfl;rw[this,hw];rfl
 refine⟨.inl ⟨n,w,_,a w es b⟩,?_⟩;unfold Local;rw[a w es b];exact⟨ZL _,rfl,λc _=>a (ay w c) es (d c)⟩
theorem af.panic {x v}(h:VR p x v):af P Q K p (Instr.panic x) (Instr.panic v) (λq a b=>VR q a b):=by
 refine af.twin λc=>?_
 cases x with
 |iface t a=>exact ag.bR (ag.halt _ h.calm)
 |nilIface=>
  refine ag.bR ?_;unfold Instr.panic;refine ag.bind aY.panicnil λn=>?_
  split
  .exact ag.halt _
  .exact ag.panicNil c.calm
 |_=>exact ag.bR (ag.halt _)
theorem af.typeAssert {x v}(t u)(o:ZeroAt P u)(hu:(u==bP)=false)(h:VR p x v):af P Q K p (Instr.typeAssert x t u true) (Instr.typeAssert v t u true) (λq a b=>VR q a b):=by
 have pair:∀{q:Rel st} {a b:Value} (c:Bool),VR q a b->VR q (.tuple #[a,.bool c]) (.tuple #[b,.bool c]):=λc h=>VR.tuple ⟨rfl,λi x y hx hy=>by
  match i,hx,hy with
  |0,hx,hy=>cases hx;cases hy;exact h
  |1,hx,hy=>cases hx;cases hy;exact VR.bool _⟩
 have jQ:∀{q:Rel st},af P Q K q (do Pure.pure (.tuple #[<-Go.zeroValue u,.bool false])) (do Pure.pure (.tuple #[<-Go.zeroValue u,.bool false])) (λq a b=>VR q a b):=by
  intro q;refine af.bind (af.zeroValue u o) λn a b _ e=>?_
  obtain⟨rfl,r⟩:=e;exact af.pure (pair _ r)
 unfold Instr.typeAssert;refine af.bind (af.underlying u) λq d d' l e=>?_
 obtain⟨rfl,hd⟩:=e;have hx:=(h.ext l).cases;have w:=h.ext l;cases x with
 |nilIface=>
  cases v with
  |nilIface=>cases d<;>exact jQ
  |_=>exact hx.elim
 |iface a b=>
  cases v with
  |iface a' z=>
   obtain⟨rfl,hx⟩:=hx
   have g:af P Q K q (if a=u then(Pure.pure (.tuple #[b,.bool true]):Sem Value)else(do Pure.pure (.tuple #[<-Go.zeroValue u,.bool false]))) (if a=u then(Pure.pure (.tuple #[z,.bool true]):Sem Value)else(do Pure.pure (.tuple #[<-Go.zeroValue u,.bool false]))) (λq a b=>VR q a b):=by
        by_cases f:a=u
        .rw[if_pos f,if_pos f]
         rcases hx with⟨_,hb⟩|⟨s,_⟩
         .exact af.pure (pair _ hb)
         .rw[<-f,s]at hu
          simp at hu
        .rw[if_neg f,if_neg f]
         exact jQ
   cases d with
   |interface want=>
    refine af.bind (af.typeInfo a) λn i j k e=>?_
    obtain⟨rfl,_⟩:=e;cases Instr.missingMethod want i.methods with
    |none=>exact af.pure (pair _ (w.ext k))
    |some m=>exact jQ
   |_=>exact g
  |_=>exact hx.elim
 |_=>cases d<;>exact ag.bR (ag.halt _)
theorem af.cap {x v}(t u)(f:∃e,P.underlying t=some (.slice e))(h:VR p x v):af P Q K p (Builtin.cap_ #[t] u #[x]) (Builtin.cap_ #[t] u #[v]) (λq a b=>VR q a b):=by
 obtain⟨e,f⟩:=f;unfold Builtin.cap_;refine af.bind (af.underlying t) λq d d' g i=>?_
 obtain⟨rfl,hd⟩:=i;rw[f]at hd;cases hd;have hx:=(h.ext g).cases;cases x with
 |slice a l c=>
  cases v with
  |slice a' l' j=>
   obtain⟨_,rfl,rfl⟩:=hx;exact af.pure (VR.int _ _)
  |_=>exact hx.elim
 |_=>exact ag.bR (ag.halt _)
theorem af.appendZeros {x v y u}(t s t')(hz:ZeroEl P t){k}(hs:P.underlying s=some (.int k))(h:VR p x v)(h':VR p y u):af P Q K p (Builtin.append_ #[t,s] t' #[x,y]) (Builtin.append_ #[t,s] t' #[v,u]) (λq a b=>VR q a b):=by
 unfold Builtin.append_;refine af.bind (af.underlying t) λq d d' hq e=>?_
 obtain⟨rfl,hd⟩:=e;cases d with
 |slice elem=>
  have h1:=h.ext hq;have hx:=h1.cases;cases x with
  |slice a l c=>
   obtain⟨b,rfl,hb⟩:=h1.bD;simp only;refine af.bind (af.sizeOf elem) λq1 size s' H f=>?_
   subst f;refine af.bind (af.underlying s) λq2 d d' j f=>?_
   obtain⟨rfl,M⟩:=f;refine af.bind (A:=λ_ a b=>a=b/\a=true) (af.pure ⟨rfl,by rw[hs]at M;cases M;rfl⟩) λε z z' B f=>?_
   obtain⟨rfl,rfl⟩:=f;replace j:=j.trans B;clear B;have hy:=((h'.ext hq).ext (H.trans j));have O:=SA.mono (H.trans j) hb;simp only[pure_bind,Bool.not_true,Z0,if_false,if_true,true_or,and_true];refine af.bind (af.asInt hy) λq3 n m w f=>?_
   subst f
   by_cases C:IntKind.i64.wrap n<0
   .simp only[C,if_true]
    exact(ag.left (ag.runtimePanic _)).bR
   simp only[C,if_false];refine af.bind (af.typeInfo elem) λδ i0 U J f=>?_
   obtain⟨rfl,_⟩:=f
   by_cases D:IntKind.i64.wrap n*(i0.bytes:Int)>2^48
   .simp only[D,if_true]
    exact(ag.bind (aY.choose _) λ_=>ag.left (ag.runtimePanic _)).bR
   simp only[D,if_false];replace w:=w.trans J;generalize(IntKind.i64.wrap n).toNat=n
   have app:∀{q:Rel st},af P Q K q (if n*size=0 then(Pure.pure #[]:Sem (Array Value))else do Pure.pure (Builtin.zeroCells (<-Go.zeroValue elem).cells n)) (if n*size=0 then(Pure.pure #[]:Sem (Array Value))else do Pure.pure (Builtin.zeroCells (<-Go.zeroValue elem).cells n)) (λq a b=>aF (VR q) a b/\(n=0->a= #[]/\b= #[])):=by
        intro q
        by_cases S:n*size=0
        .rw[if_pos S]
         exact af.pure ⟨aF.empty,λ_=>⟨rfl,rfl⟩⟩
        .rw[if_neg S]
         refine af.bind (af.zeroValue elem (hz elem hd)) λT z z' o f=>?_
         obtain⟨rfl,E⟩:=f;exact af.pure ⟨aF.zeroCells (aF.cells E) _,λh0=>by rw[h0]at S;simp at S⟩
   by_cases hle:l+n<=c
   .simp only[hle,if_true]
    refine af.bind app λq4 new I G g=>?_
    cases a with
    |none=>
     obtain rfl:=O.aV;exact af.pure (VR.slice trivial)
    |some a=>
     obtain⟨c',rfl,hc⟩:=O.aO;rcases hc with hc|⟨⟨rfl,rfl⟩,V⟩
     case inr=>
         obtain rfl:n=0:=(by omega);obtain⟨rfl,rfl⟩:=g.2 rfl;exact af.pure (VR.kJ (.inr ⟨⟨rfl,rfl⟩,V⟩))
     have N:=hc.mono (w.trans G);refine af.bind (af.storeCells _ _ 0 (N.add _) g.1.toList.1 g.1.toList.2) λq5 _ _ F _=>af.pure (VR.slice (N.mono F))
   .simp only[hle,if_false]
    refine af.bind (af.typeInfo elem) λq4 i U G f=>?_
    obtain⟨rfl,_⟩:=f
    by_cases R:((l+n:Nat):Int)>IntKind.i64.max
    .simp only[R,if_true]
     exact(ag.left (ag.runtimePanic _)).bR
    .simp only[R,if_false]
     have α:=((h1.ext (H.trans j)).ext (w.trans G));refine af.bind (af.typeInfo elem) λq5 i2 U F f=>?_
     obtain⟨rfl,_⟩:=f;split
     .exact(ag.left (ag.runtimePanic _)).bR
     .refine af.bind (af.choose _) λq6 nc θ Y f=>?_
      subst f;refine af.bind (af.typeInfo elem) λq7 i3 U X f=>?_
      obtain⟨rfl,_⟩:=f;refine af.bind (af.askRoom _) λq8 _ _ W _=>?_
      have Z:=F.trans (Y.trans (X.trans W));refine af.bind (af.firstCells size l (α.ext Z) λ_ _ _ h=>by cases h;exact ZL _) λq9 old β ι hold=>?_
      refine af.bind app λη new I L g=>?_
      refine af.bind (af.zeroValue elem (hz elem hd)) λT z z' o f=>?_
      obtain⟨rfl,E⟩:=f;refine af.bind (af.l6 elem (((hold.ext (L.trans o)).append (g.1.ext o)).append (aF.zeroCells (aF.cells E) _))) λζ r r' γ hr=>?_
      exact af.pure (VR.slice hr.1)
  |_=>cases v<;>first|exact hx.elim|exact Bool.noConfusion hx|exact ag.bR (ag.halt _)
 |_=>exact af.halt
theorem af.sliceBounds3 {r c s g}{mx j}(len cap)(hl:OV p r c)(u:OV p s g)(hm:VR p mx j):af P Q K p (Instr.sliceBounds true len cap r s (some mx)) (Instr.sliceBounds true len cap c g (some j)) (λ_ a b=>a=b/\a.2.1<=a.2.2/\a.2.2<=cap):=by
 unfold Instr.sliceBounds;simp only[pure_bind,Option.isSome_some,if_true];refine af.bind (af.sliceBound _ _ hm) λq m m' t e=>?_
 obtain⟨rfl,k⟩:=e
 have low:∀{o:Rel st} (h:Nat),Ext q o->h<=m->af P Q K o
  (do let l<-match r with
   |some v=>Instr.sliceBound v h .slice3C
   |none=>Pure.pure 0
      Pure.pure (l,h,m))
  (do let l<-match c with
   |some v=>Instr.sliceBound v h .slice3C
   |none=>Pure.pure 0
      Pure.pure (l,h,m)) (λ_ a b=>a=b/\a.2.1<=a.2.2/\a.2.2<=cap):=by
  intro o h d n;have f:=hl.ext (t.trans d)
  cases r<;>cases c<;>first
   |exact f.elim
   |exact Bool.noConfusion f
   |exact af.bind (af.pure (A:=λ_ a b=>a=b) rfl) λ_ _ _ _ e=>by subst e;exact af.pure ⟨rfl,n,k⟩
   |exact af.bind (af.sliceBound _ _ f) λ_ _ _ _ e=>by obtain⟨rfl,_⟩:=e;exact af.pure ⟨rfl,n,k⟩
 have i:=u.ext t
 cases s<;>cases g<;>first
  |exact i.elim
  |exact Bool.noConfusion i
  |exact ag.bR (ag.left (ag.halt _))
  |exact af.bind (af.sliceBound _ _ i) λo a b d e=>by obtain⟨rfl,he⟩:=e;exact low _ d he
theorem af.slice3 {x v}{A i D k}{mx g}(t)(n:∃e,P.underlying t=some (.slice e))(h:VR p x v)(hl:OV p A i)(H:OV p D k)(hm:VR p mx g):af P Q K p (Instr.sliceAt t x A D (some mx)) (Instr.sliceAt t v i k (some g)) (λq a b=>VR q a b):=by
 obtain⟨elem,n⟩:=n;unfold Instr.sliceAt;refine af.bind (af.underlying t) λq d d' C e=>?_
 obtain⟨rfl,hd⟩:=e;rw[n]at hd;cases hd;simp only;unfold Instr.slice;refine af.bind (af.underlying t) λM d d' j e=>?_
 obtain⟨rfl,hd⟩:=e;rw[n]at hd;cases hd;have E:=(h.ext C).ext j;have hx:=E.cases;have f:=C.trans j;cases x with
 |slice a l c=>
  obtain⟨b,rfl,hb⟩:=E.bD;refine af.bind (af.sliceBounds3 l c (hl.ext f) (H.ext f) (hm.ext f)) λL r I y e=>?_
  obtain⟨rfl,u,o⟩:=e;obtain⟨z,G,F⟩:=r;simp only at u o⊢;refine af.bind (af.sizeOf _) λJ s s' w e=>?_
  subst e;have m:=SA.mono (y.trans w) hb;have B:l=0/\c=0->G-z=0/\F-z=0:=λh=>by omega
  split
  .exact af.pure (VR.kJ (m.to B))
  .exact af.pure (VR.kJ ((m.to B).add _))
 |_=>cases v<;>first|exact hx.elim|exact Bool.noConfusion hx|exact ag.bR (ag.halt _)
theorem af.stringOp (op)(a b):af P Q K p (Op.stringOp op a b) (Op.stringOp op a b) (λq a b=>VR q a b):=by
 unfold Op.stringOp
 cases op<;>first
  |exact af.halt
  |exact af.pure (VR.bool _)
  |(simp only;split
    .exact ag.bR (ag.halt _)
    .exact af.pure (VR.string _))
theorem af.addStr {x y v u}(t)(l:P.underlying t=some .string)(h:VR p x v)(f:VR p y u):af P Q K p (binOp .add t x y) (binOp .add t v u) (λq a b=>VR q a b):=by
 have c:∀{x y v u:Value},VR p x v->VR p y u->(∃a,x=.pointer a)->af P Q K p (do if(<-Go.underlying t) matches .unsafePointer then Go.movedPointer t x y else Go.movedNumber t x y)
  (do if(<-Go.underlying t) matches .unsafePointer then Go.movedPointer t v u else Go.movedNumber t v u) (λq a b=>VR q a b):=by
  intro x y v u hx hy hp;refine af.bind (af.underlying t) λq d d' i e=>?_
  obtain⟨rfl,hd⟩:=e;rw[l]at hd;cases hd;exact af.movedNumber t (hx.ext i) (hy.ext i) hp
 cases x with
 |string a=>
  obtain rfl:=h.bO;cases y with
  |string b=>obtain rfl:=f.bO;exact af.stringOp .add a b
  |_=>exact ag.bR (ag.halt _)
 |int k a=>
  obtain rfl:=h.bT;cases y with
  |int k' b=>
   obtain rfl:=f.bT
   by_cases g:k≠k'
   .simp only[binOp,if_pos g];exact af.halt
   .simp only[binOp,if_neg g];exact af.intArith _ _ _ _
  |pointer o=>obtain⟨j,rfl,_⟩:=f.bV;exact af.movedNumber t f h ⟨_,rfl⟩
  |_=>exact ag.bR (ag.halt _)
 |pointer o=>
  obtain⟨j,rfl,_⟩:=h.bV;cases y with
  |int k' b=>obtain rfl:=f.bT;exact c h f ⟨_,rfl⟩
  |_=>exact ag.bR (ag.halt _)
 |float k a=>exact h.cases.elim
 |complex k a b=>exact h.cases.elim
 |_=>cases y<;>exact ag.bR (ag.halt _)
theorem af.eqGuardAdd {x y v u}(t)(a b):af P Q K p (Go.eqGuard .add t a b x y) (Go.eqGuard .add t a b v u) (λ_ _ _=>True):=by
 unfold Go.eqGuard;exact af.pure trivial
end
end
