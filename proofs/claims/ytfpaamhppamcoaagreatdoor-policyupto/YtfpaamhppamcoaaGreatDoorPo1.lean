/- Part 1 of the proof. -/
import Derived.Test.YtfpaamhppamcoaaGreatDoorPo0
import Derived.Orders
set_option linter.all false
set_option maxHeartbeats 60000000
namespace Go.Proofs.YtfpaamhppamcoaaGreatDoor
section
open Go
variable {st:Prop}
section
variable {α β γ δ:Type}{P Q:Program}{K:Nat->Prop}{p:Rel st}
def af.unary {x v}(op)(h:VR p x v):af P Q K p (Op.unary op x) (Op.unary op v) (λq a b=>VR q a b):=by
 have hx:=h.cases;unfold Op.unary;cases x with
 |int k n=>obtain rfl:=h.bT;cases op<;>first|exact af.intArith _ _ _ _|exact af.intBits _ _ _ _|exact af.halt
 |bool b=>obtain rfl:=h.j3;cases op<;>first|exact af.pure (VR.bool _)|exact af.halt
 |pointer o=>cases v<;>first
  |exact hx.elim
  |exact Bool.noConfusion hx
  |(rename_i c;cases op<;>cases o<;>cases c<;>first|exact af.halt|exact(hx:False).elim)
 |_=>cases v<;>first|exact hx.elim|exact Bool.noConfusion hx|(cases op<;>exact af.halt)
def af.I8 {x v}(s t){j k}(hs:P.underlying s=some (.int j))(l:P.underlying t=some (.int k))(h:VR p x v):af P Q K p (convert s t x) (convert s t v) (λq a b=>VR q a b):=by
 unfold Go.convert;refine af.bind (af.underlying s) λq d d' m e=>?_
 obtain⟨rfl,hd⟩:=e;rw[hs]at hd;cases hd;refine af.bind (af.underlying t) λr d d' c e=>?_
 obtain⟨rfl,hd⟩:=e;rw[l]at hd;cases hd;have f:=(h.ext m).ext c;have hx:=f.cases;cases x with
 |int i n=>obtain rfl:=f.bT;exact af.pure (VR.int _ _)
 |pointer o=>cases v<;>first
  |exact hx.elim
  |exact Bool.noConfusion hx
  |(rename_i g;cases o<;>cases g<;>first|exact af.halt|exact(hx:False).elim)
 |_=>cases v<;>first|exact hx.elim|exact Bool.noConfusion hx|exact af.halt
def af.AV:∀(l m:List Value) (s:ByteArray) {p:Rel st},l.length=m.length->(∀(i:Nat) x y,l[i]? =some x->m[i]? =some y->VR p x y)->
 af P Q K p (forIn l s (λc s=>match c with
  |.int .u8 n=>do Pure.pure PUnit.unit;Pure.pure (ForInStep.yield (s.push (UInt8.ofNat n.toNat)))
  |_=>stuck "bytesToString: byte expected")) (forIn m s (λc s=>match c with
  |.int .u8 n=>do Pure.pure PUnit.unit;Pure.pure (ForInStep.yield (s.push (UInt8.ofNat n.toNat)))
  |_=>stuck "bytesToString: byte expected")) (λ_ a b=>a=b)
 |[],[],s,p,_,_=>by simp only[List.forIn_nil];exact af.pure rfl
 |[],_::_,_,_,h,_=>by cases h
 |_::_,[],_,_,h,_=>by cases h
 |x::l,y::m,s,p,h,f=>by
  simp only[List.forIn_cons];have d:=f 0 x y rfl rfl;refine af.bind (A:=λ_ a b=>a=b) ?_ λq a b g e=>?_
  .have hx:=d.cases
   cases x with
   |int k n=>
    obtain rfl:=d.bT;cases k<;>first|exact af.pure rfl|exact af.halt
   |_=>exact af.halt
  .subst e
   cases a with
   |done s'=>exact af.pure rfl
   |yield s'=>exact af.AV l m s' (by simpa using h) λi x y hx hy=>(f (i+1) x y (by simpa using hx) (by simpa using hy)).ext g
def af.xQ {l c n}{a b}(h:AR p a b\/((l=0/\c=0)/\st))(d:l=0->n=0):af P Q K p (Go.loadCells a n) (Go.loadCells b n) (λq a b=>aF (VR q) a b):=by
 rcases h with h|h
 .exact af.loadCells h n
 .obtain rfl:=d h.1.1
  exact af.pure aF.empty
def af.bytesToString {x v}(h:VR p x v):af P Q K p (Conv.bytesToString x) (Conv.bytesToString v) (λq a b=>VR q a b):=by
 have hx:=h.cases;unfold Conv.bytesToString;cases x with
 |slice o l c=>
  obtain⟨j,rfl,g⟩:=h.bD;cases o with
  |none=>
   obtain rfl:=g.aV;exact af.pure (VR.string _)
  |some a=>
   obtain⟨b,rfl,f⟩:=g.aO;refine af.bind (af.xQ f λh=>h) λq xs ys k d=>?_
   simp only[<-Array.forIn_toList];refine af.bind (af.AV xs.toList ys.toList _ d.toList.1 d.toList.2) λi a b _ e=>?_
   subst e;exact af.pure (VR.string _)
 |_=>cases v<;>first|exact hx.elim|exact Bool.noConfusion hx|exact af.halt
def af.Dt {x v}(s t e)(hs:P.underlying s=some (.slice e))(he:P.underlying e=some (.int .u8))(r:P.underlying t=some .string)(h:VR p x v):af P Q K p (convert s t x) (convert s t v) (λq a b=>VR q a b):=by
 unfold Go.convert;refine af.bind (af.underlying s) λq d d' u f=>?_
 obtain⟨rfl,hd⟩:=f;rw[hs]at hd;cases hd;refine af.bind (af.underlying t) λw d d' j f=>?_
 obtain⟨rfl,hd⟩:=f;rw[r]at hd;cases hd;have i:=(h.ext u).ext j;have hx:=i.cases;cases x with
 |slice o l c=>
  obtain⟨y,rfl,z⟩:=i.bD;refine af.bind (af.underlying e) λm d d' g f=>?_
  obtain⟨rfl,hd⟩:=f;rw[he]at hd;cases hd;exact af.bytesToString (i.ext g)
 |int k n=>obtain rfl:=i.bT;exact af.pure (VR.string _)
 |string b=>obtain rfl:=i.bO;exact af.pure (VR.string _)
 |nilFunc=>exact ag.bR (ag.type he (ag.halt _))
 |_=>cases v<;>first
  |exact hx.elim
  |exact Bool.noConfusion hx
  |(refine af.bind (af.underlying e) λm d d' g f=>?_
    obtain⟨rfl,hd⟩:=f;rw[he]at hd;cases hd;exact af.halt)
def af.lenOf {x v}(h:VR p x v):af P Q K p (Builtin.lenOf x) (Builtin.lenOf v) (λ_ a b=>a=b/\∀o l c,x=.slice o l c->a=l):=by
 have hx:=h.cases;unfold Builtin.lenOf
 cases x<;>cases v<;>first
  |exact hx.elim
  |exact Bool.noConfusion hx
  |exact af.halt
  |(obtain⟨_,rfl,rfl⟩:=hx;exact af.pure ⟨rfl,λ_ _ _ h=>by cases h;rfl⟩)
  |(obtain rfl:_=_:=hx;exact af.pure ⟨rfl,λ_ _ _ h=>by cases h⟩)
def af.len {x v}(t u)(c:(∀k e,P.underlying t≠some (.map k e))/\(∀k e,P.underlying t≠some (.chan k e)))(h:VR p x v):af P Q K p (Builtin.len_ #[t] u #[x]) (Builtin.len_ #[t] u #[v]) (λq a b=>VR q a b):=by
 unfold Builtin.len_;refine af.bind (af.underlying t) λq d d' f e=>?_
 obtain⟨rfl,hd⟩:=e;have g:=h.ext f;have hx:=g.cases;cases d with
 |map k e=>exact absurd hd (c.1 _ _)
 |chan k e=>exact absurd hd (c.2 _ _)
 |array n e=>exact af.pure (VR.int _ _)
 |pointer arr=>
  refine af.bind (af.underlying arr) λi d d' _ e=>?_
  obtain⟨rfl,_⟩:=e;cases d<;>first|exact af.pure (VR.int _ _)|exact af.halt
 |string=>cases x<;>cases v<;>first
  |exact hx.elim
  |exact Bool.noConfusion hx
  |exact af.halt
  |(obtain rfl:_=_:=hx;exact af.pure (VR.int _ _))
 |slice e=>cases x<;>cases v<;>first
  |exact hx.elim
  |exact Bool.noConfusion hx
  |exact af.halt
  |(obtain⟨_,rfl,rfl⟩:=hx;exact af.pure (VR.int _ _))
 |_=>cases x<;>cases v<;>first|exact hx.elim|exact Bool.noConfusion hx|exact af.halt
def aF.bytes (l:ByteArray):aF (VR p) (l.data.map λb=>Value.int .u8 b.toNat) (l.data.map λb=>Value.int .u8 b.toNat):=aF.same λv a=>by
 obtain⟨b,_,rfl⟩:=Array.mem_map.1 a;exact VR.int _ _
def af.uK {x v}(size)(h:VR p x v):af P Q K p (Builtin.firstCells size 0 x) (Builtin.firstCells size 0 v) (λq a b=>a= #[]/\b= #[]):=by
 have hx:=h.cases;unfold Builtin.firstCells;cases x with
 |slice a l c=>
  obtain⟨b,rfl,hb⟩:=h.bD;cases a with
  |none=>obtain rfl:=hb.aV;exact af.pure ⟨rfl,rfl⟩
  |some a=>
   obtain⟨c,rfl,hc⟩:=hb.aO;simp only[Nat.zero_mul];exact af.pure ⟨rfl,rfl⟩
 |string s=>
  obtain rfl:=h.bO;have e:(s.extract 0 0).data= #[]:=by simp
  simp only[e];exact af.pure ⟨by simp,by simp⟩
 |_=>cases v<;>first|exact hx.elim|exact Bool.noConfusion hx|exact af.halt
def af.firstCells {x v}(size n)(h:VR p x v)(d:∀o l c,x=.slice o l c->n<=l):af P Q K p (Builtin.firstCells size n x) (Builtin.firstCells size n v) (λq a b=>aF (VR q) a b):=by
 have hx:=h.cases;unfold Builtin.firstCells;cases x with
 |slice a l c=>
  obtain⟨b,rfl,hb⟩:=h.bD;cases a with
  |none=>obtain rfl:=hb.aV;exact af.pure aF.empty
  |some a=>
   obtain⟨c,rfl,hc⟩:=hb.aO;refine af.xQ hc λg=>?_
   have f:=d _ _ _ rfl;have e:n=0:=(by omega);rw[e,Nat.zero_mul]
 |string s=>obtain rfl:=h.bO;exact af.pure (aF.bytes _)
 |_=>cases v<;>first|exact hx.elim|exact Bool.noConfusion hx|exact af.halt
def af.copy {x v y u}(t F C)(h:VR p x v)(z:VR p y u):af P Q K p (Builtin.copy_ #[t,F] C #[x,y]) (Builtin.copy_ #[t,F] C #[v,u]) (λq a b=>VR q a b):=by
 unfold Builtin.copy_;refine af.bind (af.underlying t) λq d d' r e=>?_
 obtain⟨rfl,hd⟩:=e;cases d with
 |slice e=>
  have E:=h.ext r;have hx:=E.cases;cases x with
  |slice a l c=>
   obtain⟨b,rfl,hb⟩:=E.bD;simp only;refine af.bind (af.lenOf (z.ext r)) λJ n m g A=>?_
   obtain⟨rfl,hlen⟩:=A;refine af.bind (af.sizeOf e) λI s s' f A=>?_
   subst A;have i:∀o k B,y=.slice o k B->Nat.min n l<=k:=λo k B hy=>by rw[<-hlen o k B hy];exact Nat.min_le_left _ _
   cases a with
   |none=>
    obtain rfl:=hb.aV;refine af.bind (af.firstCells s _ ((z.ext r).ext (g.trans f)) i) λD cs w j hcs=>?_
    exact af.pure (VR.int _ _)
   |some a=>
    obtain⟨c,rfl,hc⟩:=hb.aO;rcases hc with hc|⟨⟨rfl,_⟩,_⟩
    case inr=>
        have G:Nat.min n 0=0:=Nat.min_zero n;simp only[G];refine af.bind (af.uK s ((z.ext r).ext (g.trans f))) λD cs w j hcs=>?_
        obtain⟨rfl,rfl⟩:=hcs;exact af.pure (VR.int _ _)
    refine af.bind (af.firstCells s _ ((z.ext r).ext (g.trans f)) i) λD cs w j hcs=>?_
    refine af.bind (af.storeCells _ _ 0 (hc.mono ((g.trans f).trans j)) hcs.toList.1 hcs.toList.2) λH _ _ _ _=>af.pure (VR.int _ _)
  |_=>cases v<;>first|exact hx.elim|exact Bool.noConfusion hx|exact af.halt
 |_=>exact af.halt
def aF.zeroCells {z}(h:aF (VR p) z z)(n):aF (VR p) (Builtin.zeroCells z n) (Builtin.zeroCells z n):=by
 refine⟨rfl,λi x y hx hy=>?_⟩;rw[hx]at hy;cases hy;unfold Builtin.zeroCells at hx;rw[ac6]at hx;cases a:(Array.range (n*z.size))[i]? with
 |none=>rw[a]at hx;cases hx
 |some j=>
  rw[a]at hx;cases hx
  have c:0<z.size:=by
   have:=(ZK.1 a).1;simp at this;rcases Nat.eq_zero_or_pos z.size with b|b
   .rw[b]at this;omega
   .exact b
  have hl:j%z.size<z.size:=Nat.mod_lt _ c;show VR p (z[j%z.size]!) (z[j%z.size]!)
  rw[getElem!_pos z _ hl];exact h.2 _ _ _ (ZM hl) (ZM hl)
def af.append {x v y u}(t s t')(hz:tQ P t)(hs:∀k,P.underlying s≠some (.int k))(h:VR p x v)(h':VR p y u):af P Q K p (Builtin.append_ #[t,s] t' #[x,y]) (Builtin.append_ #[t,s] t' #[v,u]) (λq a b=>VR q a b):=by
 unfold Builtin.append_;refine af.bind (af.underlying t) λq d d' hq e=>?_
 obtain⟨rfl,hd⟩:=e;cases d with
 |slice elem=>
  have h1:=h.ext hq;have hx:=h1.cases;cases x with
  |slice a l c=>
   obtain⟨b,rfl,hb⟩:=h1.bD;simp only;refine af.bind (af.sizeOf elem) λq1 size s' H g=>?_
   subst g;refine af.bind (af.underlying s) λq2 d d' C g=>?_
   obtain⟨rfl,Z⟩:=g;refine af.bind (A:=λ_ a b=>a=b/\a=false) (af.pure ⟨rfl,by cases d<;>first|rfl|exact absurd Z (hs _)⟩) λδ z z' E g=>?_
   obtain⟨rfl,rfl⟩:=g;replace C:=C.trans E;clear E;have hy:=((h'.ext hq).ext (H.trans C));have L:=SA.mono (H.trans C) hb;simp only[pure_bind,Z0,if_false,Bool.not_false,if_true,false_or];refine af.bind (af.lenOf hy) λq3 n m w g=>?_
   obtain⟨rfl,hlen⟩:=g;have D:∀o k O,y=.slice o k O->n<=k:=λo k O hy=>Nat.le_of_eq (hlen o k O hy)
   by_cases hle:l+n<=c
   .simp only[hle,if_true]
    cases a with
    |none=>
     obtain rfl:=L.aV;refine af.bind (af.firstCells size n (hy.ext w) D) λR new B j f=>?_
     exact af.pure (VR.slice trivial)
    |some a=>
     obtain⟨O,rfl,hc⟩:=L.aO;rcases hc with hc|⟨⟨rfl,rfl⟩,U⟩
     case inr=>
         obtain rfl:n=0:=(by omega);refine af.bind (af.uK size (hy.ext w)) λR new B j f=>?_
         obtain⟨rfl,rfl⟩:=f;exact af.pure (VR.kJ (.inr ⟨⟨rfl,rfl⟩,U⟩))
     refine af.bind (af.firstCells size n (hy.ext w) D) λR new B j f=>?_
     have J:=hc.mono (w.trans j);refine af.bind (af.storeCells _ _ 0 (J.add _) f.toList.1 f.toList.2) λq5 _ _ G _=>af.pure (VR.slice (J.mono G))
   .simp only[hle,if_false]
    refine af.bind (af.typeInfo elem) λR i i' j g=>?_
    obtain⟨rfl,_⟩:=g
    by_cases M:((l+n:Nat):Int)>IntKind.i64.max/\i.bytes=0
    .simp only[M,and_self,if_true]
     exact(ag.left (ag.runtimePanic _)).bR
    .simp only[M,if_false]
     have T:=hy.ext (w.trans j);have α:=((h1.ext (H.trans C)).ext (w.trans j));refine af.bind (af.typeInfo elem) λq5 i2 i' G g=>?_
     obtain⟨rfl,_⟩:=g;split
     .refine(ag.left (ag.bind (aY.mayShare _ _ _ _ _) λb=>?_)).bR
      split
      .exact ag.bind (aY.mark _) λ_=>ag.halt _
      .exact ag.halt _
     .refine af.bind (af.choose _) λq6 nc θ Y g=>?_
      subst g;refine af.bind (af.typeInfo elem) λq7 i3 i' X g=>?_
      obtain⟨rfl,_⟩:=g;refine af.bind (af.askRoom _) λq8 _ _ W _=>?_
      have N:=G.trans (Y.trans (X.trans W));refine af.bind (af.firstCells size l (α.ext N) λ_ _ _ h=>by cases h;exact ZL _) λq9 old β V hold=>?_
      refine af.bind (af.firstCells size n ((T.ext N).ext V) D) λη new B I f=>?_
      refine af.bind (af.zeroValue elem (hz elem hd)) λζ z z' F g=>?_
      obtain⟨rfl,S⟩:=g;refine af.bind (af.l6 elem (((hold.ext (I.trans F)).append (f.ext F)).append (aF.zeroCells (aF.cells S) _))) λε r r' γ hr=>?_
      exact af.pure (VR.slice hr.1)
  |_=>cases v<;>first|exact hx.elim|exact Bool.noConfusion hx|exact af.halt
 |_=>exact af.halt
def aF.mod {z}(h:aF (VR p) z z)(n)(c:n=0\/0<z.size):aF (VR p) ((Array.range n).map (z[· %z.size]!)) ((Array.range n).map (z[· %z.size]!)):=by
 refine⟨rfl,λi x y hx hy=>?_⟩;rw[hx]at hy;cases hy;rw[ac6]at hx;cases b:(Array.range n)[i]? with
 |none=>rw[b]at hx;cases hx
 |some j=>
  rw[b]at hx;cases hx;have d:=(ZK.1 b).1;simp at d;have a:0<z.size:=by rcases c with rfl|h<;>omega
  have hl:j%z.size<z.size:=Nat.mod_lt _ a;show VR p (z[j%z.size]!) (z[j%z.size]!)
  rw[getElem!_pos z _ hl];exact h.2 _ _ _ (ZM hl) (ZM hl)
def VR.default:VR p default default:=VR.bool _
def aF.Rt {z}(h:aF (VR p) z z)(n):aF (VR p) ((Array.range n).map (z[· %z.size]!)) ((Array.range n).map (z[· %z.size]!)):=by
 rcases Nat.eq_zero_or_pos z.size with b|b
 .refine⟨rfl,λi x y hx hy=>?_⟩
  rw[hx]at hy;cases hy;rw[ac6]at hx;cases a:(Array.range n)[i]? with
  |none=>rw[a]at hx;cases hx
  |some j=>
   rw[a]at hx;cases hx;show VR p (z[j%z.size]!) (z[j%z.size]!)
   rw[getElem!_neg z _ (by omega)];exact VR.default
 .exact aF.mod h n (.inr b)
def af.makeSlice {x v y u}(t)(B:tQ P t)(h:VR p x v)(H:VR p y u):af P Q K p (Instr.makeSlice t x y) (Instr.makeSlice t v u) (λq a b=>VR q a b):=by
 unfold Instr.makeSlice;refine af.bind (af.underlying t) λq d d' o e=>?_
 obtain⟨rfl,hd⟩:=e;cases d with
 |slice elem=>
  simp only;refine af.bind (af.asInt (h.ext o)) λR n m l e=>?_
  subst e;refine af.bind (af.asInt ((H.ext o).ext l)) λO k m G e=>?_
  subst e;refine af.bind (af.typeInfo elem) λN i j F e=>?_
  obtain⟨rfl,_⟩:=e;split
  .refine ag.bR ?_
   split
   .exact ag.left (ag.runtimePanic _)
   .split
    .exact ag.left (ag.runtimePanic _)
    .exact ag.bind (aY.choose _) λ_=>ag.left (ag.runtimePanic _)
  .refine af.bind (af.askRoom _) λM _ _ E _=>?_
   refine af.bind (af.sizeOf elem) λL s s' D e=>?_
   subst e;split
   .simp only[pure_bind]
    refine af.bind (af.l6 elem (aF.Rt aF.empty _)) λA r w g f=>af.pure (VR.slice f.1)
   .refine af.bind (af.zeroValue elem (B elem hd)) λA z I g e=>?_
    obtain⟨rfl,c⟩:=e;simp only[pure_bind];refine af.bind (af.l6 elem (aF.Rt (aF.cells c) _)) λJ r w C f=>af.pure (VR.slice f.1)
 |_=>exact af.halt
end
variable {st:Prop}
section
variable {α β γ δ:Type}{P Q:Program}{K:Nat->Prop}{p:Rel st}
def af.clear {x v}(t i)(m:tQ P t)(h:VR p x v):af P Q K p (Builtin.clear_ #[t] i #[x]) (Builtin.clear_ #[t] i #[v]) (λq a b=>VR q a b):=by
 unfold Builtin.clear_;refine af.bind (af.underlying t) λq d d' n e=>?_
 obtain⟨rfl,hd⟩:=e;have j:=h.ext n;have hx:=j.cases;have k:∀{q:Rel st},VR q (.tuple #[]) (.tuple #[]):=VR.tuple aF.empty;cases x with
 |slice a l c=>
  obtain⟨b,rfl,hb⟩:=j.bD;cases a with
  |none=>obtain rfl:=hb.aV;cases d<;>exact af.pure k
  |some a=>
   obtain⟨u,rfl,hc⟩:=hb.aO;cases l with
   |zero=>cases d<;>exact af.pure k
   |succ l=>
    have hc:=hc.resolve_right (λh=>by omega);cases d with
    |slice elem=>
     refine af.bind (af.zeroValue elem (m elem hd)) λs z o g e=>?_
     obtain⟨rfl,f⟩:=e;have hcs:=aF.zeroCells (aF.cells f) (l+1);refine af.bind (af.storeCells _ _ 0 (hc.mono g) hcs.toList.1 hcs.toList.2) λr _ _ _ _=>af.pure (VR.tuple aF.empty)
    |_=>exact ag.bR (ag.left (ag.halt _))
 |_=>cases v<;>first|exact hx.elim|exact Bool.noConfusion hx|(cases d<;>exact ag.bR (ag.left (ag.halt _)))
def af.sliceBound {x v}(n)(c)(h:VR p x v):af P Q K p (Instr.sliceBound x n c) (Instr.sliceBound v n c) (λ_ a b=>a=b/\a<=n):=by
 unfold Instr.sliceBound;refine af.bind (af.asIntOf h) λq a b _ e=>?_
 subst e;obtain⟨k,i⟩:=a;simp only;split
 .rename_i d
  exact af.pure ⟨rfl,by omega⟩
 .exact(ag.boundsPanic _ _ _ _).bR
def OV (p:Rel st):Option Value->Option Value->Prop
 |none,none=>True
 |some a,some b=>VR p a b
 |_,_=>False
def OV.ext {q}(c:Ext p q){a b}(h:OV p a b):OV q a b:=by
 cases a<;>cases b<;>first|exact h|exact VR.ext c h
def af.sliceBounds {g c j f}(s)(len cap)(hl:OV p g c)(k:OV p j f):af P Q K p (Instr.sliceBounds s len cap g j none) (Instr.sliceBounds s len cap c f none) (λ_ a b=>a=b/\(a.2.1=len\/a.2.1<=cap)/\a.2.2=cap):=by
 unfold Instr.sliceBounds;simp only[pure_bind,Option.isSome_none,Z0,if_false]
 have low:∀{q:Rel st} (h m:Nat),Ext p q->af P Q K q
  (do let l<-match g with
   |some v=>Instr.sliceBound v h .sliceB
   |none=>Pure.pure 0
      Pure.pure (l,h,m))
  (do let l<-match c with
   |some v=>Instr.sliceBound v h .sliceB
   |none=>Pure.pure 0
      Pure.pure (l,h,m)) (λ_ a b=>a=b/\a.2=(h,m)):=by
  intro q h m i;have d:=hl.ext i
  cases g<;>cases c<;>first
   |exact d.elim
   |exact Bool.noConfusion d
   |exact af.bind (af.pure (A:=λ_ a b=>a=b) rfl) λ_ _ _ _ e=>by subst e;exact af.pure ⟨rfl,rfl⟩
   |exact af.bind (af.sliceBound _ _ d) λ_ _ _ _ e=>by obtain⟨rfl,_⟩:=e;exact af.pure ⟨rfl,rfl⟩
 cases j<;>cases f<;>first
  |exact k.elim
  |exact Bool.noConfusion k
  |exact(low _ _ (Ext.refl _)).mono λ_ a b _ h=>by obtain⟨rfl,h⟩:=h;exact⟨rfl,.inl (by rw[h]),by rw[h]⟩
  |exact af.bind (af.sliceBound _ _ k) λq a b i e=>by obtain⟨rfl,he⟩:=e;exact(low _ _ i).mono λ_ a b _ h=>by obtain⟨rfl,h⟩:=h;exact⟨rfl,.inr (by rw[h];exact he),by rw[h]⟩
def SA.to {l c l' d}{a b}(h:SA p l c a b)(e:l=0/\c=0->l'=0/\d=0):SA p l' d a b:=by
 cases a<;>cases b<;>first|exact h|exact h.imp id λk=>⟨e k.1,k.2⟩
def SA.add {l c}{a b}(h:SA p l c a b)(n):SA p l c (a.map (·.add n)) (b.map (·.add n)):=by
 cases a<;>cases b<;>first|exact h|exact h.imp (λh=>AR.add h n) id
def af.OP {x v}{y f A j}(t)(h:VR p x v)(hl:OV p y f)(B:OV p A j)(hp:∀e,P.underlying t≠some (.pointer e)):af P Q K p (Instr.slice t x y A none) (Instr.slice t v f j none) (λq a b=>VR q a b):=by
 unfold Instr.slice;refine af.bind (af.underlying t) λq d d' i e=>?_
 obtain⟨rfl,hd⟩:=e;have u:=h.ext i;have hx:=u.cases;cases d with
 |pointer e=>exact absurd hd (hp _)
 |slice elem=>
  cases x with
  |slice a l c=>
   obtain⟨b,rfl,hb⟩:=u.bD;refine af.bind (af.sliceBounds true l c (hl.ext i) (B.ext i)) λF r E g e=>?_
   obtain⟨rfl,n,m⟩:=e;obtain⟨w,D,C⟩:=r;simp only at n m⊢;refine af.bind (af.sizeOf elem) λG s s' o e=>?_
   subst e;have k:=SA.mono (g.trans o) hb;have z:l=0/\c=0->D-w=0/\C-w=0:=λh=>by omega
   split
   .exact af.pure (VR.kJ (k.to z))
   .exact af.pure (VR.kJ ((k.to z).add _))
  |_=>cases v<;>first|exact hx.elim|exact Bool.noConfusion hx|exact af.halt
 |string=>
  cases x with
  |string a=>
   obtain rfl:=u.bO;simp only[Option.isSome_none,Z0,if_false];refine af.bind (af.sliceBounds false _ _ (hl.ext i) (B.ext i)) λF r E g e=>?_
   obtain⟨rfl,_⟩:=e;exact af.pure (VR.string _)
  |_=>cases v<;>first|exact hx.elim|exact Bool.noConfusion hx|exact af.halt
 |_=>cases x<;>cases v<;>first|exact hx.elim|exact Bool.noConfusion hx|exact af.halt
def af.sliceAt {x v}{o c u i}(t)(h:VR p x v)(hl:OV p o c)(w:OV p u i)(hp:∀e,P.underlying t≠some (.pointer e)):af P Q K p (Instr.sliceAt t x o u none) (Instr.sliceAt t v c i none) (λq a b=>VR q a b):=by
 unfold Instr.sliceAt;refine af.bind (af.underlying t) λq d d' g e=>?_
 obtain⟨rfl,hd⟩:=e;have y:=h.ext g;cases d with
 |array n elem=>
  refine af.bind (af.sureAddr y) λF a b f m=>?_
  refine af.bind (af.sliceBounds false n n (hl.ext (g.trans f)) (w.ext (g.trans f))) λE r C l e=>?_
  obtain⟨rfl,_⟩:=e;obtain⟨B,A,z⟩:=r;simp only;refine af.bind (af.sizeOf elem) λD s s' k e=>?_
  subst e;have j:=m.mono (l.trans k);refine af.pure (VR.slice ?_);split
  .exact j
  .exact j.add _
 |_=>exact af.OP t y (hl.ext g) (w.ext g) hp
def aF.set {a b}(h:aF (VR p) a b)(i){x y}(d:VR p x y):aF (VR p) (a.setIfInBounds i x) (b.setIfInBounds i y):=by
 refine⟨by simp[h.1],λj s t hs c=>?_⟩;rw[Array.getElem?_setIfInBounds]at hs c;split at hs
 .rename_i e
  rw[if_pos e]at c;rw[<-h.1]at c;split at hs
  .rename_i f
   rw[if_pos f]at c;cases hs;cases c;exact d
  .cases hs
 .rename_i e
  rw[if_neg e]at c;exact h.2 j s t hs c
def aF.JX (o):∀(l m:List (Value×Nat)) {a b:Array Value},l.map (·.2)=m.map (·.2)->(∀(i:Nat) x y,l[i]? =some x->m[i]? =some y->VR p x.1 y.1)->aF (VR p) a b->
 aF (VR p) (l.foldl (λcs x=>cs.setIfInBounds (o+x.2) x.1) a) (m.foldl (λcs x=>cs.setIfInBounds (o+x.2) x.1) b)
 |[],[],a,b,_,_,h=>h
 |[],_::_,_,_,hl,_,_=>by simp at hl
 |_::_,[],_,_,hl,_,_=>by simp at hl
 |x::l,y::m,a,b,hl,c,h=>by
  simp only[adr,ac0]at hl;simp only[List.foldl_cons];rw[hl.1];exact aF.JX o l m hl.2 (λi s t hs d=>c (i+1) s t (by simpa using hs) (by simpa using d)) (h.set _ (c 0 x y rfl rfl))
def kW (p:Rel st)(l m:List (Nat×Value)):Prop:=l.map (·.1)=m.map (·.1)/\∀(i:Nat) x y,l[i]? =some x->m[i]? =some y->VR p x.2 y.2
def Zo (p:Rel st):Option (Array Value)->Option (Array Value)->Prop
 |none,none=>True
 |some c,some d=>aF (VR p) c d
 |_,_=>False
def rH (place):∀(l m:List (Nat×Value)) {a b:Array Value},kW p l m->aF (VR p) a b->Zo p (Instr.fill place a l) (Instr.fill place b m)
 |[],[],a,b,_,h=>h
 |[],_::_,_,_,hl,_=>by have:=hl.1;simp at this
 |_::_,[],_,_,hl,_=>by have:=hl.1;simp at this
 |(i,x)::l,(j,y)::m,a,b,hl,h=>by
  have u:=hl.1;simp only[adr,ac0]at u;obtain⟨rfl,v⟩:=u;have n:VR p x y:=hl.2 0 _ _ rfl rfl;have hc:=aF.cells n;simp only[Instr.fill];cases place i with
  |none=>trivial
  |some o=>
   obtain⟨off,size⟩:=o;simp only;rw[hc.1,h.1]
   by_cases e:(decide (y.cells.size≠size)||decide (off+y.cells.size>b.size))=true
   .rw[if_pos e,if_pos e];trivial
   .rw[if_neg e,if_neg e]
    refine rH place l m ⟨v,λk s t hs f=>hl.2 (k+1) s t (by simpa using hs) (by simpa using f)⟩ ?_
    have key:∀(c d:Array Value),aF (VR p) c d->aF (VR p) (c.zipIdx.foldl (λcs x=>cs.setIfInBounds (off+x.2) x.1) a) (d.zipIdx.foldl (λcs x=>cs.setIfInBounds (off+x.2) x.1) b):=by
     intro c d g;rw[<-Array.foldl_toList,<-Array.foldl_toList];refine aF.JX off _ _ ?_ ?_ h
     .simp[g.1]
     .intro k s t hs f
      simp only[Array.toList_zipIdx]at hs f;rw[List.getElem?_zipIdx]at hs f;cases r:c.toList[k]? with
      |none=>rw[r]at hs;cases hs
      |some s1=>cases q:d.toList[k]? with
       |none=>rw[q]at f;cases f
       |some t1=>
        rw[r]at hs;rw[q]at f;cases hs;cases f;exact g.toList.2 k _ _ r q
    exact key _ _ hc
end
variable {st:Prop}
section
variable {α β γ δ:Type}{P Q:Program}{K:Nat->Prop}{p:Rel st}
def jO (P:Program):Nat->TypeId->Bool
 |0,_=>false
 |d+1,t=>match P.underlying t with
  |some (.int _)|some .bool|some .string=>true
  |some (.struct fields)=> !P.stoodInHeld t&&fields.all λf=>jO P d f.type
  |some (.array _ e)=>jO P d e
  |_=>false
def af.Dc {ρ c}(f g)(p₀):∀(l:List ρ) (s:c) {p:Rel st},Ext p₀ p->(∀q r s,r∈l->Ext p₀ q->af P Q K q (f r s) (g r s) (λ_ a b=>a=b))->af P Q K p (forIn l s f) (forIn l s g) (λ_ a b=>a=b)
 |[],s,p,_,_=>by simp only[List.forIn_nil];exact af.pure rfl
 |r::l,s,p,hp,h=>by
  simp only[List.forIn_cons];refine af.bind (h p r s (by simp) hp) λq a b i e=>?_
  subst e;cases a with
  |done s=>exact af.pure rfl
  |yield s=>exact af.Dc f g p₀ l s (hp.trans i) λq r s d=>h q r s (by simp[d])
def af.jA:∀(d n:Nat) (t:TypeId) {p:Rel st} {x y v u:Value},jO P d t=true->VR p x v->VR p y u->af P Q K p (Op.equalIn n t x y) (Op.equalIn n t v u) (λ_ a b=>a=b)
 |0,_,_,_,_,_,_,_,hf,_,_=>by cases hf
 |d+1,0,_,_,_,_,_,_,_,_,_=>af.halt
 |d+1,n+1,t,p,x,y,v,u,hf,h,k=>by
  unfold jO at hf;split at hf
  .rename_i k' j;exact af.yI _ t j h k
  .rename_i j;exact af.tF _ t j h k
  .rename_i j
   unfold Op.equalIn;refine af.bind (af.underlying t) λq dd d' l e=>?_
   obtain⟨rfl,hd⟩:=e;rw[j]at hd;cases hd;have hx:=(h.ext l).cases;have hy:=(k.ext l).cases
   cases x<;>cases v<;>first
    |exact hx.elim
    |exact Bool.noConfusion hx
    |(cases y<;>cases u<;>first
         |exact hy.elim
         |exact Bool.noConfusion hy
         |(obtain rfl:_=_:=hx;obtain rfl:_=_:=hy;exact af.pure rfl)
         |exact af.halt)
  .rename_i fields j
   rw[ZQ]at hf;obtain⟨hs,hf⟩:=hf;have C:P.stoodInHeld t=false:=by simpa using hs
   unfold Op.equalIn;refine af.bind (af.underlying t) λq dd d' l e=>?_
   obtain⟨rfl,hd⟩:=e;rw[j]at hd;cases hd;have hx:=(h.ext l).cases;have hy:=(k.ext l).cases
   cases x<;>cases v<;>first
    |exact hx.elim
    |exact Bool.noConfusion hx
    |exact af.halt
    |(cases y<;>cases u<;>first|exact hy.elim|exact Bool.noConfusion hy|exact af.halt|skip)
   rename_i xs vs ys us;refine af.twin λJ=>af.bind af.program λB s s' g e=>?_
   rw[e.1,e.2,J.stoodInHeld,C];simp only[Z0,if_false,pure_bind];refine af.bind (A:=λ_ a b=>a=b) ?_ λz a b c e=>?_
   .rw[<-Array.forIn_toList,<-Array.forIn_toList]
    refine af.Dc _ _ B _ _ (Ext.refl _) λz f s w c=>?_
    have E:jO P d f.type=true:=by
     have:=adb.1 hf f (by simpa using w);exact this
    by_cases I:f.name≠ "_"
    .simp only[if_pos I]
     refine af.bind (af.part f.type (hx.ext (g.trans c)) f.offset) λO a b o H=>?_
     refine af.bind (af.part f.type (hy.ext (g.trans (c.trans o))) f.offset) λN a' R m G=>?_
     refine af.bind (af.jA d n f.type E (H.ext m) G) λM r L D F=>?_
     subst F;cases r<;>exact af.pure rfl
    .simp only[if_neg I]
     exact af.pure rfl
   .subst e
    obtain⟨r,s⟩:=a;cases r<;>exact af.pure rfl
  .rename_i len elem j
   unfold Op.equalIn;refine af.bind (af.underlying t) λq dd d' l e=>?_
   obtain⟨rfl,hd⟩:=e;rw[j]at hd;cases hd;have hx:=(h.ext l).cases;have hy:=(k.ext l).cases
   cases x<;>cases v<;>first
    |exact hx.elim
    |exact Bool.noConfusion hx
    |exact af.halt
    |(cases y<;>cases u<;>first|exact hy.elim|exact Bool.noConfusion hy|exact af.halt|skip)
   rename_i xs vs ys us;refine af.bind (af.sizeOf elem) λB s s' g e=>?_
   subst e;refine af.bind (A:=λ_ a b=>a=b) ?_ λz a b c e=>?_
   .simp only[Std.Legacy.Range.forIn_eq_forIn_range']
    refine af.Dc _ _ B _ _ (Ext.refl _) λz i st w c=>?_
    refine af.bind (af.part elem (hx.ext (g.trans c)) _) λO a b o H=>?_
    refine af.bind (af.part elem (hy.ext (g.trans (c.trans o))) _) λN a' R m G=>?_
    refine af.bind (af.jA d n elem hf (H.ext m) G) λM r L D F=>?_
    subst F;cases r<;>exact af.pure rfl
   .subst e
    obtain⟨r,s⟩:=a;cases r<;>exact af.pure rfl
  .cases hf
def af.yK (n)(t):af P Q K p (Op.eqGuardIn n t .nilIface .nilIface) (Op.eqGuardIn n t .nilIface .nilIface) (λ_ a b=>a=b):=by
 cases n with
 |zero=>exact af.halt
 |succ n=>
  unfold Op.eqGuardIn;refine af.bind (af.underlying t) λq d d' c e=>?_
  obtain⟨rfl,hd⟩:=e;cases d<;>exact af.pure rfl
def af.FI {x y v u}(op)(t)(a b)(j:P.eqGuardType P.depth t=false)(h:VR p x v)(k:VR p y u):af P Q K p (Go.eqGuard op t a b x y) (Go.eqGuard op t a b v u) (λ_ _ _=>True):=by
 have hx:=h.cases;have hy:=k.cases;unfold Go.eqGuard
 have f:∀{q:Rel st} (c:Bool),af P Q K q
  (if c then(Pure.pure ():Sem Unit)else do
        if<-Op.eqGuardIn Op.maxDepth t .nilIface .nilIface then unsupported (.noEntry "binop/eql: two nil values of an interface type with methods, neither of them the literal nil"))
  (if c then(Pure.pure ():Sem Unit)else do
        if<-Op.eqGuardIn Op.maxDepth t .nilIface .nilIface then unsupported (.noEntry "binop/eql: two nil values of an interface type with methods, neither of them the literal nil")) (λ_ _ _=>True):=by
  intro q c;cases c with
  |true=>exact af.pure trivial
  |false=>
   refine af.bind (af.yK _ t) λl c d _ e=>?_
   subst e;cases c with
   |true=>exact af.halt
   |false=>exact af.pure trivial
 have g:∀{q:Rel st} (xs ys vs us:Array Value),af P Q K q
  (do if !(<-Go.program).eqGuardType (<-Go.program).depth t then return
      if<-Op.eqGuardIn Op.maxDepth t (.agg xs) (.agg ys)then unsupported (.noEntry "binop/eql: two nil values of an interface type with methods, in a part of a struct or an array"))
  (do if !(<-Go.program).eqGuardType (<-Go.program).depth t then return
      if<-Op.eqGuardIn Op.maxDepth t (.agg vs) (.agg us)then unsupported (.noEntry "binop/eql: two nil values of an interface type with methods, in a part of a struct or an array")) (λ_ _ _=>True):=by
  intro q xs ys vs us;refine af.twin λi=>af.bind af.program λq s s' _ e=>?_
  rw[e.1,e.2];refine af.bind af.program λq s s' _ e=>?_
  rw[e.1,e.2,i.eqGuardType,j];exact af.pure trivial
 cases op<;>first
  |exact af.pure trivial
  |(cases x<;>cases v<;>first
       |exact hx.elim
       |exact Bool.noConfusion hx
       |(cases y<;>cases u<;>first
        |exact hy.elim
        |exact Bool.noConfusion hy
        |exact af.pure trivial
        |exact f _
        |exact g _ _ _ _))
def mR (d n)(t){x y}(hf:jO P d t=true)(h:isIface x):ag P (Op.equalIn n t x y):=by
 cases d with
 |zero=>cases hf
 |succ d=>
  cases n with
  |zero=>exact ag.halt _
  |succ n=>
   unfold jO at hf;split at hf
   .rename_i k' a;exact iX _ t (.inl ⟨_,a⟩) h
   .rename_i a;exact iX _ t (.inr (.inl a)) h
   .rename_i a
    unfold Op.equalIn;refine ag.type a ?_;cases x<;>first|exact h.elim|(cases y<;>exact ag.halt _)
   .rename_i fields a
    unfold Op.equalIn;refine ag.type a ?_;cases x<;>first|exact h.elim|(cases y<;>exact ag.halt _)
   .rename_i len elem a
    unfold Op.equalIn;refine ag.type a ?_;cases x<;>first|exact h.elim|(cases y<;>exact ag.halt _)
   .cases hf
def Af {x y}(d)(op)(t)(c:jO P d t=true)(h:isIface x):ag P (binOp op t x y):=by
 have b:∀y,ag P (do Pure.pure (.bool (<-Op.equal t x y)):Sem Value):=λy=>ag.left (mR d _ t c h)
 have a:∀y,ag P (do Pure.pure (.bool (!(<-Op.equal t x y))):Sem Value):=λy=>ag.left (mR d _ t c h)
 cases x<;>first|exact h.elim|skip
 cases y<;>cases op<;>first|exact ag.halt _|exact b _|exact a _
def lI (d n)(t){x}(hf:jO P d t=true):ag P (Op.equalIn n t x .nilFunc):=by
 cases d with
 |zero=>cases hf
 |succ d=>
  cases n with
  |zero=>exact ag.halt _
  |succ n=>
   unfold jO at hf;split at hf
   .rename_i k' a;exact iw _ t (.inl ⟨_,a⟩)
   .rename_i a;exact iw _ t (.inr (.inl a))
   .rename_i a
    unfold Op.equalIn;refine ag.type a ?_;cases x<;>exact ag.halt _
   .rename_i fields a
    unfold Op.equalIn;refine ag.type a ?_;cases x<;>exact ag.halt _
   .rename_i len elem a
    unfold Op.equalIn;refine ag.type a ?_;cases x<;>exact ag.halt _
   .cases hf
def xO {x}(d)(op)(t)(e:op=.eql\/op=.neq)(c:jO P d t=true):ag P (binOp op t x .nilFunc):=by
 have b:∀x,ag P (do Pure.pure (.bool (<-Op.equal t x .nilFunc)):Sem Value):=λx=>ag.left (lI d _ t c)
 have a:∀x,ag P (do Pure.pure (.bool (!(<-Op.equal t x .nilFunc))):Sem Value):=λx=>ag.left (lI d _ t c)
 rcases e with rfl|rfl<;>cases x<;>first|exact b _|exact a _
def af.P7 {x y v u}(d)(op)(t)(l:op=.eql\/op=.neq)(n:jO P d t=true)(h:VR p x v)(f:VR p y u):af P Q K p (binOp op t x y) (binOp op t v u) (λq a b=>VR q a b):=by
 have hx:=h.cases;have c:=f.cases
 have eqv:af P Q K p (do Pure.pure (.bool (<-Op.equal t x y))) (do Pure.pure (.bool (<-Op.equal t v u))) (λq a b=>VR q a b):=
  af.bind (A:=λ_ a b=>a=b) (af.jA d _ t n h f) λq a b _ e=>by subst e;exact af.pure (VR.bool _)
 have o:af P Q K p (do Pure.pure (.bool (!(<-Op.equal t x y)))) (do Pure.pure (.bool (!(<-Op.equal t v u)))) (λq a b=>VR q a b):=
  af.bind (A:=λ_ a b=>a=b) (af.jA d _ t n h f) λq a b _ e=>by subst e;exact af.pure (VR.bool _)
 have k:∀(k1 m:IntKind) (a b:Int),af P Q K p (binOp op t (.int k1 a) (.int m b)) (binOp op t (.int k1 a) (.int m b)) (λq a b=>VR q a b):=by
  intro k1 m a b
  by_cases f:k1≠m
  .rcases l with rfl|rfl<;>(simp only[binOp,if_pos f];exact af.halt)
  .rcases l with rfl|rfl<;>(simp only[binOp,if_neg f];exact af.intCmp _ _ _)
 have g:∀(a b:ByteArray),af P Q K p (binOp op t (.string a) (.string b)) (binOp op t (.string a) (.string b)) (λq a b=>VR q a b):=by
  intro a b;rcases l with rfl|rfl<;>(simp only[binOp,Op.stringOp];exact af.pure (VR.bool _))
 have j:isIface x->af P Q K p (binOp op t x y) (binOp op t v u) (λq a b=>VR q a b):=λr=>ag.bR (Af d op t n r)
 have i:y=.nilFunc->af P Q K p (binOp op t x y) (binOp op t v u) (λq a b=>VR q a b):=λr=>by
  subst r;exact ag.bR (xO d op t l n)
 cases x<;>cases v<;>first
  |exact hx.elim
  |exact j trivial
  |exact Bool.noConfusion hx
  |(cases y<;>cases u<;>first
       |exact c.elim
       |exact i rfl
       |exact Bool.noConfusion c
       |(obtain⟨rfl,rfl⟩:=hx;obtain⟨rfl,rfl⟩:=c;exact k _ _ _ _)
       |(obtain rfl:_=_:=hx;obtain rfl:_=_:=c;exact g _ _)
       |(rcases l with rfl|rfl
         .exact eqv
         .exact o))
end
variable {st:Prop}
section
variable {α β γ δ:Type}{P Q:Program}{K:Nat->Prop}{p:Rel st}
def kW.ext {q}(a:Ext p q){l m}(h:kW p l m):kW q l m:=⟨h.1,λi x y hx hy=>(h.2 i x y hx hy).ext a⟩
def uC (P Q):∀(l:List Field) (acc:Array (Nat×Nat)) {p:Rel st},af P Q K p (l.foldlM (init:=acc) λacc f=>do Pure.pure (acc.push (f.offset,<-Go.sizeOf f.type))) (l.foldlM (init:=acc) λacc f=>do Pure.pure (acc.push (f.offset,<-Go.sizeOf f.type))) (λ_ a b=>a=b)
 |[],acc,p=>by simp only[List.foldlM_nil];exact af.pure rfl
 |f::l,acc,p=>by
  simp only[List.foldlM_cons];refine af.bind (A:=λ_ a b=>a=b) ?_ λq a b _ e=>by subst e;exact uC P Q l a
  refine af.bind (af.sizeOf f.type) λq a b _ e=>?_
  subst e;exact af.pure rfl
def af.places (fields:Array Field):af P Q K p (fields.mapM λf=>do Pure.pure (f.offset,<-Go.sizeOf f.type)) (fields.mapM λf=>do Pure.pure (f.offset,<-Go.sizeOf f.type)) (λ_ a b=>a=b):=by
 rw[Array.mapM_eq_foldlM];simp only[bind_pure_comp];rw[<-Array.foldlM_toList];have:=uC (K:=K) P Q fields.toList #[] (p:=p);simpa[bind_pure_comp] using this
def af.build {l m}(t)(r:tT P t)(h:kW p l.toList m.toList):af P Q K p (Instr.build t l) (Instr.build t m) (λq a b=>VR q a b):=by
 unfold Instr.build;refine af.bind (af.zeroValue t r) λq z u j e=>?_
 obtain⟨rfl,g⟩:=e;refine af.bind (af.underlying t) λv d d' f e=>?_
 obtain⟨rfl,hd⟩:=e;cases d with
 |struct fields=>
  simp only;refine af.bind (af.places fields) λk pl o c e=>?_
  subst e;have hf:=rH (pl[·]?) l.toList m.toList (h.ext (j.trans (f.trans c))) ((aF.cells g).ext (f.trans c))
  revert hf
  cases Instr.fill (pl[·]?) z.cells l.toList<;>cases Instr.fill (pl[·]?) z.cells m.toList<;>intro hf<;>first
   |exact hf.elim
   |exact Bool.noConfusion hf
   |exact af.halt
   |exact af.pure (VR.agg hf)
 |array n elem=>
  simp only;refine af.bind (af.sizeOf elem) λk s s' c e=>?_
  subst e;have hf:=rH (λi=>some (i*s,s)) l.toList m.toList (h.ext (j.trans (f.trans c))) ((aF.cells g).ext (f.trans c))
  revert hf
  cases Instr.fill (λi=>some (i*s,s)) z.cells l.toList<;>cases Instr.fill (λi=>some (i*s,s)) z.cells m.toList<;>intro hf<;>first
   |exact hf.elim
   |exact Bool.noConfusion hf
   |exact af.halt
   |exact af.pure (VR.agg hf)
 |_=>exact af.halt
def af.buildSlice {l m}(t)(n)(u:tQ P t)(h:kW p l.toList m.toList):af P Q K p (Instr.buildSlice t n l) (Instr.buildSlice t n m) (λq a b=>VR q a b):=by
 unfold Instr.buildSlice;refine af.bind (af.underlying t) λq d d' w e=>?_
 obtain⟨rfl,hd⟩:=e;cases d with
 |slice elem=>
  simp only;refine af.bind (af.sizeOf elem) λo s s' k e=>?_
  subst e
  have fin:∀{f:Rel st} (z:Array Value),Ext o f->aF (VR f) z z->af P Q K f
        (do let some cells:=Instr.fill (λi=>some (i*s,s)) ((Array.range (n*s)).map (z[· %z.size]!)) l.toList|stuck "buildSlice: a part of the wrong size"
            Pure.pure (.slice (some (<-Go.newRow elem cells)) n n))
        (do let some cells:=Instr.fill (λi=>some (i*s,s)) ((Array.range (n*s)).map (z[· %z.size]!)) m.toList|stuck "buildSlice: a part of the wrong size"
            Pure.pure (.slice (some (<-Go.newRow elem cells)) n n)) (λq a b=>VR q a b):=by
   intro f z c g;have hf:=rH (λi=>some (i*s,s)) l.toList m.toList (h.ext (w.trans (k.trans c))) (aF.Rt g (n*s))
   revert hf
   cases Instr.fill (λi=>some (i*s,s)) ((Array.range (n*s)).map (z[· %z.size]!)) l.toList<;>cases Instr.fill (λi=>some (i*s,s)) ((Array.range (n*s)).map (z[· %z.size]!)) m.toList<;>intro hf<;>first
        |exact hf.elim
        |exact Bool.noConfusion hf
        |exact af.halt
        |exact af.bind (af.l6 elem hf) λq r y _ v=>af.pure (VR.slice v.1)
  split
  .exact(ag.left (ag.halt _)).bR
  .split
   .simp only[pure_bind]
    exact fin _ (Ext.refl _) aF.empty
   .simp only[pure_bind]
    refine af.bind (af.zeroValue elem (u elem hd)) λf z x c e=>?_
    obtain⟨rfl,j⟩:=e;exact fin _ c (aF.cells j)
 |_=>exact af.halt
def gL (fns:List Nat)(P Q:Program):Prop:=(∀g∈dS,g∈fns)/\∀g∈fns,(∃fn,P.funcs[g]? =some fn/\(fn.name== "runtime.NumGoroutine")=false/\fn.body.isNone=false)/\∃fn,Q.funcs[g]? =some fn/\(fn.name== "runtime.NumGoroutine")=false/\fn.body.isNone=false
def Jw (f n:Nat):Prop:=(f=42->n=2)/\(f=88->n=1)
def NR (fns:List Nat)(p:Rel st):Next->Next->Prop
 |.value v,.value u=>VR p v u
 |.skip,.skip=>True
 |.enter f a,.enter g b=>f=g/\f∈fns/\aF (VR p) a b/\Jw f a.size
 |_,_=>False
def af.callFunc {fns:List Nat}{f:FuncId}{a b:Array Value}(hf:f∈fns)(hs:Jw f a.size)(hp:gL fns P Q)(h:aF (VR p) a b):af P Q K p (callFunc f a) (callFunc f b) (NR fns):=by
 unfold Go.callFunc;refine af.bind af.program λq s s' i e=>?_
 rw[e.1,e.2];obtain⟨⟨fn,l,k,j⟩,m,g,d,c⟩:=hp.2 f hf;rw[l,g];simp only[k,j,d,c,Z0,if_false];exact af.pure ⟨rfl,hf,h.ext i,hs⟩
def af.E8 {fns}{x v}{a b}(hp:gL fns P Q)(h:VR p x v)(g:aF (VR p) a b):
 af P Q K p (do let d<-Deferred.ofValue x a;invoke d.target d.args) (do let d<-Deferred.ofValue v b;invoke d.target d.args) (NR fns):=by
 have hx:=h.cases;cases x with
 |func f y c=>
  obtain⟨hf,i,o,rfl,hy,hc⟩:=h.Fu;cases f with
  |func f=>
   refine af.bind (A:=λq d e=>d.target=.fn (.func f) c/\d.args=y++a/\e.target=.fn (.func f) o/\e.args=i++b) (af.pure ⟨rfl,rfl,rfl,rfl⟩) λq d e j he=>?_
   obtain⟨n,m,l,k⟩:=he;rw[n,m,l,k];exact af.callFunc (hp.1 f hf) ⟨λe=>absurd (show f∈dS from hf) (by rw[e];decide),λe=>absurd (show f∈dS from hf) (by rw[e];decide)⟩ hp (((hy.append g).append hc).ext j)
  |_=>exact hf.elim
 |nilFunc=>
  cases v<;>first
   |exact hx.elim
   |exact Bool.noConfusion hx
   |(refine ag.bR ?_
     have e:(do let d<-Deferred.ofValue .nilFunc a;invoke d.target d.args)=(runtimePanic .nilDeref:Sem Next):=rfl;rw[e];exact ag.runtimePanic _)
 |_=>cases v<;>first|exact hx.elim|exact Bool.noConfusion hx|exact ag.bR (ag.left (ag.halt _))
def af.CZ {fns}{f}{a b}(hf:f∈fns)(hs:Jw f a.size)(hp:gL fns P Q)(c:aF (VR p) a b):
 af P Q K p (do let d<-Deferred.ofValue (.func (.func f) #[] #[]) a;invoke d.target d.args) (do let d<-Deferred.ofValue (.func (.func f) #[] #[]) b;invoke d.target d.args) (NR fns):=by
 refine af.bind (A:=λq d e=>d.target=.fn (.func f) #[]/\d.args= #[]++a/\e.target=.fn (.func f) #[]/\e.args= #[]++b) (af.pure ⟨rfl,rfl,rfl,rfl⟩) λq d e g he=>?_
 obtain⟨k,j,i,h⟩:=he;rw[k,j,i,h];exact af.callFunc hf ⟨λe=>by simpa using hs.1 e,λe=>by simpa using hs.2 e⟩ hp (((aF.empty.append c).append aF.empty).ext g)
def NK:Value->Bool
 |.bool _|.int _ _|.string _|.pointer none|.slice none _ _|.nilFunc|.nilIface=>true
 |.tuple vs=>vs.size==0
 |_=>false
def Fy {v}(h:NK v=true):VR p v v:=by
 cases v with
 |bool b=>exact VR.bool _
 |int k n=>exact VR.int _ _
 |string s=>exact VR.string _
 |pointer o=>cases o with
  |none=>exact VR.ptr trivial
  |some a=>cases h
 |slice o l c=>cases o with
  |none=>exact VR.slice trivial
  |some a=>cases h
 |nilFunc=>exact⟨1,rfl⟩
 |nilIface=>exact⟨1,trivial⟩
 |tuple vs=>
  have:vs.size=0:=by simpa[NK] using h
  obtain rfl:vs= #[]:=Array.eq_empty_of_size_eq_zero this;exact VR.tuple aF.empty
 |_=>cases h
def aA:Operand->Bool
 |.tmp _=>true
 |.const v=>NK v
 |.func f=>dS.contains f
 |.global _=>true
def isInt (P:Program)(t:TypeId):Bool:=match P.underlying t with|some (.int _)=>true|_=>false
def isStr (P:Program)(t:TypeId):Bool:=match P.underlying t with|some .string=>true|_=>false
def JQ (P:Program)(t:TypeId):Bool:=match P.underlying t with
 |some (.slice e)=>(match P.underlying e with|some (.int .u8)=>true|_=>false)
 |_=>false
def isBool (P:Program)(t:TypeId):Bool:=match P.underlying t with|some .bool=>true|_=>false
def isSlice (P:Program)(t:TypeId):Bool:=match P.underlying t with|some (.slice _)=>true|_=>false
def nS (P:Program)(t:TypeId):Bool:=match P.underlying t with|some (.pointer _)=>true|_=>false
def qV (P:Program)(t:TypeId):Operand->Bool
 |.const (.slice none 0 0)=>isSlice P t
 |.const (.pointer none)=>nS P t
 |_=>false
def IK (P:Program)(t:TypeId):Bool:=jO P 6 t&& !P.eqGuardType P.depth t
def isEq:BinOp->Bool
 |.eql|.neq=>true
 |_=>false
def Ib (P:Program)(fns:List Nat)(c:Call):Bool:=
 c.args.all aA&&match c.callee with
 |.value (.func f)=>fns.contains f&&((f !=42||c.args.size==2)&&(f !=88||c.args.size==1))
 |.value f=>aA f
 |.builtin .len=>c.args.size==1&&c.argTypes.size==1&&c.argTypes.all λt=>match P.underlying t with|some (.map _ _)|some (.chan _ _)=>false|_=>true
 |.builtin .append=>c.args.size==2&&c.argTypes.size==2&&c.argTypes.all λt=> !isInt P t&&PM P t
 |.builtin .copy=>c.args.size==2&&c.argTypes.size==2
 |.builtin .clear=>c.args.size==1&&c.argTypes.size==1&&c.argTypes.all (PM P)
 |_=>false
def fE (P:Program)(fns:List Nat)(o:Oper):Bool:=match o.op with
 |.move x|.assign x|.box _ x|.load _ x|.nilCheck x|.unOp _ _ x|.fieldAddr _ x _|.field _ x _|.extract x _=>aA x
 |.pick c a b=>aA c&&aA a&&aA b
 |.alloc t=>AF P t
 |.build t parts=>AF P t&&parts.all λx=>aA x.2
 |.buildSlice t _ parts=>PM P t&&parts.all λx=>aA x.2
 |.makeSlice t a x=>PM P t&&(aA a&&aA x)
 |.store _ a x|.indexAddr _ a x|.index _ a x=>aA a&&aA x
 |.binOp op t x y _=>aA x&&aA y&&(isInt P t||(isEq op&&(isBool P t||qV P t y||IK P t)))
 |.convert s t x=>aA x&&((isInt P s&&isInt P t)||(JQ P s&&isStr P t))
 |.makeFunc (.func f) a b=>dS.contains f&&a.all aA&&b.all aA
 |.slice t x d e none=>aA x&&(d.map aA).getD true&&(e.map aA).getD true&& !nS P t
 |.call c=>Ib P fns c
 |_=>false
end
variable {st:Prop}
section
variable {fns:List Nat}{α β γ δ:Type}{P Q:Program}{K:Nat->Prop}{p:Rel st}
def af.bB {s}{t}(h:af P Q K p s t (λq a b=>VR q a b)):af P Q K p (do Pure.pure (Next.value (<-s))) (do Pure.pure (Next.value (<-t))) (NR fns):=
 af.bind h λ_ _ _ _ e=>af.pure e
def af.QX {s t}(h:af P Q K p s t (λ_ _ _=>True)):af P Q K p (do s;Pure.pure Next.skip) (do t;Pure.pure Next.skip) (NR fns):=
 af.bind h λ_ _ _ _ _=>af.pure trivial
def aF.kD {ops:Array Operand}{f g}(h:∀x,aA x=true->VR p (f x) (g x))(b:ops.all aA=true):aF (VR p) (ops.map f) (ops.map g):=by
 refine⟨by simp,λi x y hx hy=>?_⟩;rw[ac6]at hx hy;cases a:ops[i]? with
 |none=>rw[a]at hx;cases hx
 |some o=>
  rw[a]at hx hy;cases hx;cases hy;refine h o ?_;have hm:=ac5 a;exact(adb.1 b) o hm
def kW.kD {parts:Array (Nat×Operand)}{f g:Operand->Value}(h:∀x,aA x=true->VR p (f x) (g x))(b:(parts.all λx=>aA x.2)=true):
 kW p (parts.map fun(i,x)=>(i,f x)).toList (parts.map fun(i,x)=>(i,g x)).toList:=by
 refine⟨by simp,λi x y hx hy=>?_⟩;simp only[Array.toList_map,List.getElem?_map,adF]at hx hy;cases a:parts[i]? with
 |none=>rw[a]at hx;cases hx
 |some o=>
  rw[a]at hx hy;cases hx;cases hy;exact h o.2 ((adb.1 b) o (ac5 a))
def OV.kD {o:Option Operand}{f g}(h:∀x,aA x=true->VR p (f x) (g x))(a:(o.map aA).getD true=true):OV p (o.map f) (o.map g):=by
 cases o with
 |none=>trivial
 |some x=>exact h x a
def ji {A}{a:Array A}(h:a.size=1):∃x,a= #[x]:=by
 obtain⟨l⟩:=a
 match l,h with
 |[x],_=>exact⟨x,rfl⟩
def array2 {A}{a:Array A}(h:a.size=2):∃x y,a= #[x,y]:=by
 obtain⟨l⟩:=a
 match l,h with
 |[x,y],_=>exact⟨x,y,rfl⟩
def af.call (D:dM P)(hp:gL fns P Q){r s}(c)(t)(A:Ib P fns c=true)(h:∀x,aA x=true->VR p (r x) (s x))(u:∀g,r (.func g)=.func (.func g) #[] #[]/\s (.func g)=.func (.func g) #[] #[]):
 af P Q K p (do let d<-resolve r c t;invoke d.target d.args) (do let d<-resolve s c t;invoke d.target d.args) (NR fns):=by
 obtain⟨callee,args,argTypes⟩:=c;unfold Ib at A;rw[ZQ]at A;obtain⟨w,i⟩:=A;have j:=aF.kD h w;cases callee with
 |value f=>
  cases f with
  |func g=>
   rw[ZQ,ZQ,adB,adB]at i;have C:g∈fns:=by simpa using i.1
   have z:Jw g (args.map r).size:=⟨λe=>by
        have:=i.2.1.resolve_left (by simp[e]);simpa using this,λe=>by
        have:=i.2.2.resolve_left (by simp[e]);simpa using this⟩
   have e:∀r:Operand->Value,(do let d<-resolve r ⟨.value (.func g),args,argTypes⟩ t;invoke d.target d.args)=(do let d<-Deferred.ofValue (r (.func g)) (args.map r);invoke d.target d.args):=λ_=>rfl
   rw[e r,e s,(u g).1,(u g).2];exact af.CZ C z hp j
  |_=>exact af.E8 (K:=K) hp (h _ i) j
 |builtin b=>
  have e:∀(r:Operand->Value),(do let d<-resolve r ⟨.builtin b,args,argTypes⟩ t;invoke d.target d.args)=builtin b argTypes t (args.map fun|.const _=>true|_=>false) (args.map r):=λr=>rfl
  rw[e r,e s];cases b with
  |len=>
   simp only[ZQ,beq_iff_eq]at i;obtain⟨⟨n,m⟩,o⟩:=i;obtain⟨a,rfl⟩:=ji n;obtain⟨ty,rfl⟩:=ji m;have y:VR p (r a) (s a):=h a (by simpa using w);have m1:∀f:Operand->Value,(#[a]:Array Operand).map f= #[f a]:=λf=>by simp
   rw[m1 r,m1 s];refine af.bB (af.len ty t ⟨λk e v=>?_,λk e v=>?_⟩ y)
   .simp[v]at o
   .simp[v]at o
  |append=>
   simp only[ZQ,beq_iff_eq]at i;obtain⟨⟨n,m⟩,o⟩:=i;obtain⟨a,b,rfl⟩:=array2 n;obtain⟨ty,q,rfl⟩:=array2 m;have l:aA a=true/\aA b=true:=by simpa using w
   have y:=h a l.1;have hu:=h b l.2;have m2:∀f:Operand->Value,(#[a,b]:Array Operand).map f= #[f a,f b]:=λf=>by simp
   rw[m2 r,m2 s];have B:(isInt P ty=false/\PM P ty=true)/\(isInt P q=false/\PM P q=true):=by simpa using o
   refine af.bB (af.append ty q t (yM B.1.2) (λk v=>?_) y hu);have:=B.2.1;simp[isInt,v]at this
  |copy=>
   simp only[ZQ,beq_iff_eq]at i;obtain⟨n,m⟩:=i;obtain⟨a,b,rfl⟩:=array2 n;obtain⟨ty,q,rfl⟩:=array2 m;have l:aA a=true/\aA b=true:=by simpa using w
   have m2:∀f:Operand->Value,(#[a,b]:Array Operand).map f= #[f a,f b]:=λf=>by simp
   rw[m2 r,m2 s];exact af.bB (af.copy ty q t (h a l.1) (h b l.2))
  |clear=>
   simp only[ZQ,beq_iff_eq]at i;obtain⟨⟨n,m⟩,o⟩:=i;obtain⟨a,rfl⟩:=ji n;obtain⟨ty,rfl⟩:=ji m;have m1:∀f:Operand->Value,(#[a]:Array Operand).map f= #[f a]:=λf=>by simp
   rw[m1 r,m1 s];exact af.bB (af.clear ty t (yM (by simpa using o)) (h a (by simpa using w)))
  |_=>cases i
 |invoke a b=>cases i
def af.execOp (H:dM P)(hp:gL fns P Q){r s:Operand->Value}(o:Oper)(j:fE P fns o=true)(h:∀x,aA x=true->VR p (r x) (s x))(C:∀v,r (.const v)=v/\s (.const v)=v)(G:∀g,r (.func g)=.func (.func g) #[] #[]/\s (.func g)=.func (.func g) #[] #[]):af P Q K p (execOp r o) (execOp s o) (NR fns):=by
 obtain⟨dst,op,type,pos,after,guard⟩:=o;unfold Go.execOp;cases op with
 |move x=>exact af.pure (h x j)
 |assign x=>exact af.pure (h x j)
 |pick c a b=>
  simp only[fE,ZQ]at j;refine af.bind (af.asBool (h c j.1.1)) λq x y A e=>?_
  subst e;refine af.pure ?_;cases x with
  |true=>exact(h a j.1.2).ext A
  |false=>exact(h b j.2).ext A
 |alloc e=>exact af.bB (af.alloc e (qG j))
 |box e x=>exact af.bB (af.box e (h x j))
 |build t parts=>
  simp only[fE,ZQ]at j;exact af.bB (af.build t (qG j.1) (kW.kD h j.2))
 |buildSlice t n parts=>
  simp only[fE,ZQ]at j;exact af.bB (af.buildSlice t n (yM j.1) (kW.kD h j.2))
 |load t a=>exact af.bB (af.loadAt t (h a j))
 |store t a x=>
  simp only[fE,ZQ]at j;exact af.QX (af.storeAt t (h a j.1) (h x j.2))
 |nilCheck x=>
  have hx:=h x j;have hc:=hx.cases;simp only
  revert hx hc
  generalize r x=v;generalize s x=u;intro hx hc;cases v with
  |pointer a=>
   obtain⟨b,rfl,hb⟩:=hx.bV;cases a with
   |none=>exact(ag.runtimePanic _).bR
   |some a=>
    obtain⟨b,rfl,_⟩:=hb.aO;exact af.pure hx
  |nilIface=>exact(ag.runtimePanic _).bR
  |nilFunc=>exact(ag.runtimePanic _).bR
  |func f y c=>
   obtain⟨hf,S,V,rfl,_,_⟩:=hx.Fu;cases f with
   |func f=>exact af.pure hx
   |_=>exact hf.elim
  |_=>cases u<;>first|exact hc.elim|exact Bool.noConfusion hc|exact af.pure hx
 |binOp op t x y R=>
  simp only[fE,ZQ,adB]at j;obtain⟨⟨B,l⟩,d⟩:=j;have hx:=h x B;have hy:=h y l
  by_cases w:isEq op=true/\IK P t=true
  .obtain⟨F,w⟩:=w
   have he:op=.eql\/op=.neq:=by cases op<;>first|exact .inl rfl|exact .inr rfl|cases F
   simp only[IK,ZQ]at w;have J:P.eqGuardType P.depth t=false:=by simpa using w.2
   exact af.bB (af.bind (af.FI op t x y J hx hy) λq _ _ A _=>af.P7 6 op t he w.1 (hx.ext A) (hy.ext A))
  replace d:isInt P t=true\/(isEq op=true/\(isBool P t=true\/qV P t y=true)):=by
   rcases d with d|⟨D,d|d⟩
   .exact .inl d
   .exact .inr ⟨D,d⟩
   .exact absurd ⟨D,d⟩ w
  have I:(∃k,P.underlying t=some (.int k))\/P.underlying t=some .bool\/(∃e,P.underlying t=some (.slice e))\/(∃e,P.underlying t=some (.pointer e)):=by
   rcases d with d|⟨_,d|d⟩
   .unfold isInt at d
    split at d
    .rename_i k e;exact .inl ⟨k,e⟩
    .cases d
   .unfold isBool at d
    split at d
    .rename_i e;exact .inr (.inl e)
    .cases d
   .unfold qV at d
    split at d
    .unfold isSlice at d
     split at d
     .rename_i e;exact .inr (.inr (.inl ⟨_,e⟩))
     .cases d
    .unfold nS at d
     split at d
     .rename_i e;exact .inr (.inr (.inr ⟨_,e⟩))
     .cases d
    .cases d
  refine af.bB (af.bind (af.eqGuard op t x y I hx hy) λq _ _ A _=>?_);have z:=hx.ext A;have E:=hy.ext A;rcases d with d|⟨D,d⟩
  .unfold isInt at d
   split at d
   .rename_i k e;exact af.Sg op t e z E
   .cases d
  .have he:op=.eql\/op=.neq:=by cases op<;>first|exact .inl rfl|exact .inr rfl|cases D
   rcases d with d|d
   .unfold isBool at d
    split at d
    .rename_i e;exact af.N9 op t he z (.inl ⟨e,E⟩)
    .cases d
   .unfold qV at d
    split at d
    .unfold isSlice at d
     split at d
     .rename_i e
      refine af.N9 op t he z (.inr ⟨?_,.inl ⟨_,e,(C _).1⟩⟩);rw[(C _).1,(C _).2]
     .cases d
    .unfold nS at d
     split at d
     .rename_i e
      refine af.N9 op t he z (.inr ⟨?_,.inr ⟨_,e,(C _).1⟩⟩);rw[(C _).1,(C _).2]
     .cases d
    .cases d
 |unOp op t x=>exact af.bB (af.unary op (h x j))
 |convert a b x=>
  simp only[fE,ZQ,adB]at j;obtain⟨B,⟨l,d⟩|⟨l,d⟩⟩:=j
  .unfold isInt at l d
   split at l
   .rename_i k e
    split at d
    .rename_i k' O;exact af.bB (af.I8 a b e O (h x B))
    .cases d
   .cases l
  .unfold JQ at l
   unfold isStr at d;split at l
   .rename_i L e
    split at l
    .rename_i N
     split at d
     .rename_i M;exact af.bB (af.Dt a b L e N M (h x B))
     .cases d
    .cases l
   .cases l
 |makeFunc f a b=>
  cases f with
  |func f=>
   simp only[fE,ZQ]at j;obtain⟨⟨B,l⟩,d⟩:=j;exact af.bB (af.pure (VR.func (show Ju (.func f)from(show f∈dS by simpa using B)) (aF.kD h l) (aF.kD h d)))
  |_=>cases j
 |makeSlice t a b=>
  simp only[fE,ZQ]at j;exact af.bB (af.makeSlice t (yM j.1) (h a j.2.1) (h b j.2.2))
 |slice t x T U mx=>
  cases mx with
  |some m=>cases j
  |none=>
   simp only[fE,ZQ]at j;obtain⟨⟨⟨B,l⟩,d⟩,D⟩:=j;refine af.bB (af.sliceAt t (h x B) (OV.kD h l) (OV.kD h d) λe he=>?_);simp[nS,he]at D
 |fieldAddr t x f=>exact af.bB (af.fieldAt t (h x j) f)
 |field t x f=>exact af.bB (af.field t (h x j) f)
 |indexAddr t x i=>
  simp only[fE,ZQ]at j;exact af.bB (af.indexAt t (h x j.1) (h i j.2))
 |index t x i=>
  simp only[fE,ZQ]at j;exact af.bB (af.index t (h x j.1) (h i j.2))
 |extract x i=>exact af.bB (af.extract (h x j) i)
 |call c=>exact af.call H hp c _ j h G
 |_=>cases j
end
variable {st:Prop}
section
variable {α β γ δ:Type}{P Q:Program}{K:Nat->Prop}{p:Rel st}
def af.makeInterface {x v}(t)(c:sO t=true)(h:VR p x v):af P Q K p (Instr.makeInterface t x) (Instr.makeInterface t v) (λq a b=>VR q a b):=by
 unfold Instr.makeInterface;refine af.bind (af.underlying t) λq d d' f e=>?_
 obtain⟨rfl,_⟩:=e;cases d<;>first|exact af.halt|exact af.pure (VR.iface c (h.ext f))
def VR.calm {t}{a v}(h:VR p (.iface t a) v):EJ (.iface t a):=by
 have hx:=h.cases;cases v with
 |iface d b=>
  obtain⟨rfl,⟨c,_⟩|⟨rfl,_⟩⟩:=hx
  .cases a<;>first|trivial|exact(KW c).1
  .cases a<;>first|trivial|rfl
 |_=>exact hx.elim
def aY.newVar (t:TypeId)(v:Value):aY P (newVar t v):=by
 unfold Go.newVar Go.newRow;exact aY.bind (aY.newObj _) λ_=>aY.pure _
def aY.elemOf (t:TypeId):aY P (elemOf t):=by
 unfold Go.elemOf;refine aY.bind (aY.underlying t) λd=>?_
 cases d<;>first|exact aY.halt _|exact aY.pure _
def ag.panicNil (hc:iT.contains P.rt.panicNilError=false):ag P (Go.runtimePanic .panicNil:Sem α):=by
 have c:∀(w:World) (es:Array Event),(Go.runtimePanic .panicNil:Sem α).runT P w es=(do
  let e<-elemOf P.rt.panicNilError
  let r<-newVar e (.agg #[])
  goPanic (.iface P.rt.panicNilError (.pointer (some r))):Sem α).runT P w es:=λ_ _=>rfl
 have d:ag P (do
  let e<-elemOf P.rt.panicNilError
  let r<-newVar e (.agg #[])
  goPanic (.iface P.rt.panicNilError (.pointer (some r))):Sem α):=ag.bind (aY.elemOf _) λe=>ag.bind (aY.newVar _ _) λr=>ag.halt _ hc
 intro w es;have b:=d w es;refine⟨by rw[c];exact b.1,?_⟩;have a:=b.2;unfold Local at a⊢;simp only[c];exact a
def aY.panicnil:aY P Instr.panicnil:=λw es=>by
 have e:∀w:World,∃l,w.sys .env=(.strings l,w)/\∀T,(ay w T).sys .env=(.strings l,ay w T):=λw=>⟨_,rfl,λ_=>rfl⟩
 obtain⟨l,b,d⟩:=e w
 obtain⟨n,a⟩:∃n,∀(w:World) (es:Array Event),w.sys .env=(.strings l,w)->(Instr.panicnil).runT P w es=(.ok n w,es.push ⟨.output,true,false⟩):=by
  refine⟨Instr.readSettings "panicnil" ((Option.map (λs=>s.extract "GODEBUG=".toUTF8.size s.size) (Array.find? (λs=>s.extract 0 "GODEBUG=".toUTF8.size== "GODEBUG=".toUTF8) l)).getD ByteArray.empty) (Instr.readSettings "panicnil" P.godebug.toUTF8 0),λw es hw=>?_⟩;show(Sem.bind (Sem.sys Sys.env Sem.pure) _).runT P w es=_
  rw[Sem.runT_bind'];have:(Sem.sys Sys.env Sem.pure:Sem SysRet).runT P w es=(.ok (w.sys .env).1 (w.sys .env).2,es.push ⟨.output,true,false⟩):=rfl;rw[this,hw];rfl
 refine⟨.inl ⟨n,w,_,a w es b⟩,?_⟩;unfold Local;rw[a w es b];exact⟨ZL _,rfl,λc _=>a (ay w c) es (d c)⟩
def af.panic {x v}(h:VR p x v):af P Q K p (Instr.panic x) (Instr.panic v) (λq a b=>VR q a b):=by
 refine af.twin λc=>?_
 cases x with
 |iface t a=>exact ag.bR (ag.halt _ h.calm)
 |nilIface=>
  refine ag.bR ?_;unfold Instr.panic;refine ag.bind aY.panicnil λn=>?_
  split
  .exact ag.halt _
  .exact ag.panicNil c.calm
 |_=>exact ag.bR (ag.halt _)
def af.typeAssert {x v}(t u)(o:tT P u)(hu:(u==bP)=false)(h:VR p x v):af P Q K p (Instr.typeAssert x t u true) (Instr.typeAssert v t u true) (λq a b=>VR q a b):=by
 have pair:∀{q:Rel st} {a b:Value} (c:Bool),VR q a b->VR q (.tuple #[a,.bool c]) (.tuple #[b,.bool c]):=λc h=>VR.tuple ⟨rfl,λi x y hx hy=>by
  match i,hx,hy with
  |0,hx,hy=>cases hx;cases hy;exact h
  |1,hx,hy=>cases hx;cases hy;exact VR.bool _⟩
 have jQ:∀{q:Rel st},af P Q K q (do Pure.pure (.tuple #[<-Go.zeroValue u,.bool false])) (do Pure.pure (.tuple #[<-Go.zeroValue u,.bool false])) (λq a b=>VR q a b):=by
  intro q;refine af.bind (af.zeroValue u o) λn a b _ e=>?_
  obtain⟨rfl,r⟩:=e;exact af.pure (pair _ r)
 unfold Instr.typeAssert;refine af.bind (af.underlying u) λq d d' l e=>?_
 obtain⟨rfl,hd⟩:=e;have hx:=(h.ext l).cases;have w:=h.ext l;cases x with
 |nilIface=>
  cases v with
  |nilIface=>cases d<;>exact jQ
  |_=>exact hx.elim
 |iface a b=>
  cases v with
  |iface a' z=>
   obtain⟨rfl,hx⟩:=hx
   have g:af P Q K q (if a=u then(Pure.pure (.tuple #[b,.bool true]):Sem Value)else(do Pure.pure (.tuple #[<-Go.zeroValue u,.bool false]))) (if a=u then(Pure.pure (.tuple #[z,.bool true]):Sem Value)else(do Pure.pure (.tuple #[<-Go.zeroValue u,.bool false]))) (λq a b=>VR q a b):=by
        by_cases f:a=u
        .rw[if_pos f,if_pos f]
         rcases hx with⟨_,hb⟩|⟨s,_⟩
         .exact af.pure (pair _ hb)
         .rw[<-f,s]at hu
          simp at hu
        .rw[if_neg f,if_neg f]
         exact jQ
   cases d with
   |interface want=>
    refine af.bind (af.typeInfo a) λn i j k e=>?_
    obtain⟨rfl,_⟩:=e;cases Instr.missingMethod want i.methods with
    |none=>exact af.pure (pair _ (w.ext k))
    |some m=>exact jQ
   |_=>exact g
  |_=>exact hx.elim
 |_=>cases d<;>exact ag.bR (ag.halt _)
def af.cap {x v}(t u)(f:∃e,P.underlying t=some (.slice e))(h:VR p x v):af P Q K p (Builtin.cap_ #[t] u #[x]) (Builtin.cap_ #[t] u #[v]) (λq a b=>VR q a b):=by
 obtain⟨e,f⟩:=f;unfold Builtin.cap_;refine af.bind (af.underlying t) λq d d' g i=>?_
 obtain⟨rfl,hd⟩:=i;rw[f]at hd;cases hd;have hx:=(h.ext g).cases;cases x with
 |slice a l c=>
  cases v with
  |slice a' l' j=>
   obtain⟨_,rfl,rfl⟩:=hx;exact af.pure (VR.int _ _)
  |_=>exact hx.elim
 |_=>exact ag.bR (ag.halt _)
def af.F8 {x v y u}(t s t')(hz:tQ P t){k}(hs:P.underlying s=some (.int k))(h:VR p x v)(h':VR p y u):af P Q K p (Builtin.append_ #[t,s] t' #[x,y]) (Builtin.append_ #[t,s] t' #[v,u]) (λq a b=>VR q a b):=by
 unfold Builtin.append_;refine af.bind (af.underlying t) λq d d' hq e=>?_
 obtain⟨rfl,hd⟩:=e;cases d with
 |slice elem=>
  have h1:=h.ext hq;have hx:=h1.cases;cases x with
  |slice a l c=>
   obtain⟨b,rfl,hb⟩:=h1.bD;simp only;refine af.bind (af.sizeOf elem) λq1 size s' H f=>?_
   subst f;refine af.bind (af.underlying s) λq2 d d' j f=>?_
   obtain⟨rfl,M⟩:=f;refine af.bind (A:=λ_ a b=>a=b/\a=true) (af.pure ⟨rfl,by rw[hs]at M;cases M;rfl⟩) λε z z' B f=>?_
   obtain⟨rfl,rfl⟩:=f;replace j:=j.trans B;clear B;have hy:=((h'.ext hq).ext (H.trans j));have O:=SA.mono (H.trans j) hb;simp only[pure_bind,Bool.not_true,Z0,if_false,if_true,true_or,and_true];refine af.bind (af.asInt hy) λq3 n m w f=>?_
   subst f
   by_cases C:IntKind.i64.wrap n<0
   .simp only[C,if_true]
    exact(ag.left (ag.runtimePanic _)).bR
   simp only[C,if_false];refine af.bind (af.typeInfo elem) λδ i0 U J f=>?_
   obtain⟨rfl,_⟩:=f
   by_cases D:IntKind.i64.wrap n*(i0.bytes:Int)>2^48
   .simp only[D,if_true]
    exact(ag.bind (aY.choose _) λ_=>ag.left (ag.runtimePanic _)).bR
   simp only[D,if_false];replace w:=w.trans J;generalize(IntKind.i64.wrap n).toNat=n
   have app:∀{q:Rel st},af P Q K q (if n*size=0 then(Pure.pure #[]:Sem (Array Value))else do Pure.pure (Builtin.zeroCells (<-Go.zeroValue elem).cells n)) (if n*size=0 then(Pure.pure #[]:Sem (Array Value))else do Pure.pure (Builtin.zeroCells (<-Go.zeroValue elem).cells n)) (λq a b=>aF (VR q) a b/\(n=0->a= #[]/\b= #[])):=by
        intro q
        by_cases S:n*size=0
        .rw[if_pos S]
         exact af.pure ⟨aF.empty,λ_=>⟨rfl,rfl⟩⟩
        .rw[if_neg S]
         refine af.bind (af.zeroValue elem (hz elem hd)) λT z z' o f=>?_
         obtain⟨rfl,E⟩:=f;exact af.pure ⟨aF.zeroCells (aF.cells E) _,λh0=>by rw[h0]at S;simp at S⟩
   by_cases hle:l+n<=c
   .simp only[hle,if_true]
    refine af.bind app λq4 new I G g=>?_
    cases a with
    |none=>
     obtain rfl:=O.aV;exact af.pure (VR.slice trivial)
    |some a=>
     obtain⟨c',rfl,hc⟩:=O.aO;rcases hc with hc|⟨⟨rfl,rfl⟩,V⟩
     case inr=>
         obtain rfl:n=0:=(by omega);obtain⟨rfl,rfl⟩:=g.2 rfl;exact af.pure (VR.kJ (.inr ⟨⟨rfl,rfl⟩,V⟩))
     have N:=hc.mono (w.trans G);refine af.bind (af.storeCells _ _ 0 (N.add _) g.1.toList.1 g.1.toList.2) λq5 _ _ F _=>af.pure (VR.slice (N.mono F))
   .simp only[hle,if_false]
    refine af.bind (af.typeInfo elem) λq4 i U G f=>?_
    obtain⟨rfl,_⟩:=f
    by_cases R:((l+n:Nat):Int)>IntKind.i64.max
    .simp only[R,if_true]
     exact(ag.left (ag.runtimePanic _)).bR
    .simp only[R,if_false]
     have α:=((h1.ext (H.trans j)).ext (w.trans G));refine af.bind (af.typeInfo elem) λq5 i2 U F f=>?_
     obtain⟨rfl,_⟩:=f;split
     .exact(ag.left (ag.runtimePanic _)).bR
     .refine af.bind (af.choose _) λq6 nc θ Y f=>?_
      subst f;refine af.bind (af.typeInfo elem) λq7 i3 U X f=>?_
      obtain⟨rfl,_⟩:=f;refine af.bind (af.askRoom _) λq8 _ _ W _=>?_
      have Z:=F.trans (Y.trans (X.trans W));refine af.bind (af.firstCells size l (α.ext Z) λ_ _ _ h=>by cases h;exact ZL _) λq9 old β ι hold=>?_
      refine af.bind app λη new I L g=>?_
      refine af.bind (af.zeroValue elem (hz elem hd)) λT z z' o f=>?_
      obtain⟨rfl,E⟩:=f;refine af.bind (af.l6 elem (((hold.ext (L.trans o)).append (g.1.ext o)).append (aF.zeroCells (aF.cells E) _))) λζ r r' γ hr=>?_
      exact af.pure (VR.slice hr.1)
  |_=>cases v<;>first|exact hx.elim|exact Bool.noConfusion hx|exact ag.bR (ag.halt _)
 |_=>exact af.halt
def af.Ck {r c s g}{mx j}(len cap)(hl:OV p r c)(u:OV p s g)(hm:VR p mx j):af P Q K p (Instr.sliceBounds true len cap r s (some mx)) (Instr.sliceBounds true len cap c g (some j)) (λ_ a b=>a=b/\a.2.1<=a.2.2/\a.2.2<=cap):=by
 unfold Instr.sliceBounds;simp only[pure_bind,Option.isSome_some,if_true];refine af.bind (af.sliceBound _ _ hm) λq m m' t e=>?_
 obtain⟨rfl,k⟩:=e
 have low:∀{o:Rel st} (h:Nat),Ext q o->h<=m->af P Q K o
  (do let l<-match r with
   |some v=>Instr.sliceBound v h .slice3C
   |none=>Pure.pure 0
      Pure.pure (l,h,m))
  (do let l<-match c with
   |some v=>Instr.sliceBound v h .slice3C
   |none=>Pure.pure 0
      Pure.pure (l,h,m)) (λ_ a b=>a=b/\a.2.1<=a.2.2/\a.2.2<=cap):=by
  intro o h d n;have f:=hl.ext (t.trans d)
  cases r<;>cases c<;>first
   |exact f.elim
   |exact Bool.noConfusion f
   |exact af.bind (af.pure (A:=λ_ a b=>a=b) rfl) λ_ _ _ _ e=>by subst e;exact af.pure ⟨rfl,n,k⟩
   |exact af.bind (af.sliceBound _ _ f) λ_ _ _ _ e=>by obtain⟨rfl,_⟩:=e;exact af.pure ⟨rfl,n,k⟩
 have i:=u.ext t
 cases s<;>cases g<;>first
  |exact i.elim
  |exact Bool.noConfusion i
  |exact ag.bR (ag.left (ag.halt _))
  |exact af.bind (af.sliceBound _ _ i) λo a b d e=>by obtain⟨rfl,he⟩:=e;exact low _ d he
def af.slice3 {x v}{A i D k}{mx g}(t)(n:∃e,P.underlying t=some (.slice e))(h:VR p x v)(hl:OV p A i)(H:OV p D k)(hm:VR p mx g):af P Q K p (Instr.sliceAt t x A D (some mx)) (Instr.sliceAt t v i k (some g)) (λq a b=>VR q a b):=by
 obtain⟨elem,n⟩:=n;unfold Instr.sliceAt;refine af.bind (af.underlying t) λq d d' C e=>?_
 obtain⟨rfl,hd⟩:=e;rw[n]at hd;cases hd;simp only;unfold Instr.slice;refine af.bind (af.underlying t) λM d d' j e=>?_
 obtain⟨rfl,hd⟩:=e;rw[n]at hd;cases hd;have E:=(h.ext C).ext j;have hx:=E.cases;have f:=C.trans j;cases x with
 |slice a l c=>
  obtain⟨b,rfl,hb⟩:=E.bD;refine af.bind (af.Ck l c (hl.ext f) (H.ext f) (hm.ext f)) λL r I y e=>?_
  obtain⟨rfl,u,o⟩:=e;obtain⟨z,G,F⟩:=r;simp only at u o⊢;refine af.bind (af.sizeOf _) λJ s s' w e=>?_
  subst e;have m:=SA.mono (y.trans w) hb;have B:l=0/\c=0->G-z=0/\F-z=0:=λh=>by omega
  split
  .exact af.pure (VR.kJ (m.to B))
  .exact af.pure (VR.kJ ((m.to B).add _))
 |_=>cases v<;>first|exact hx.elim|exact Bool.noConfusion hx|exact ag.bR (ag.halt _)
def af.stringOp (op)(a b):af P Q K p (Op.stringOp op a b) (Op.stringOp op a b) (λq a b=>VR q a b):=by
 unfold Op.stringOp
 cases op<;>first
  |exact af.halt
  |exact af.pure (VR.bool _)
  |(simp only;split
    .exact ag.bR (ag.halt _)
    .exact af.pure (VR.string _))
def af.Sq {x y v u}(t)(l:P.underlying t=some .string)(h:VR p x v)(f:VR p y u):af P Q K p (binOp .add t x y) (binOp .add t v u) (λq a b=>VR q a b):=by
 have c:∀{x y v u:Value},VR p x v->VR p y u->(∃a,x=.pointer a)->af P Q K p (do if(<-Go.underlying t) matches .unsafePointer then Go.movedPointer t x y else Go.movedNumber t x y)
  (do if(<-Go.underlying t) matches .unsafePointer then Go.movedPointer t v u else Go.movedNumber t v u) (λq a b=>VR q a b):=by
  intro x y v u hx hy hp;refine af.bind (af.underlying t) λq d d' i e=>?_
  obtain⟨rfl,hd⟩:=e;rw[l]at hd;cases hd;exact af.movedNumber t (hx.ext i) (hy.ext i) hp
 cases x with
 |string a=>
  obtain rfl:=h.bO;cases y with
  |string b=>obtain rfl:=f.bO;exact af.stringOp .add a b
  |_=>exact ag.bR (ag.halt _)
 |int k a=>
  obtain rfl:=h.bT;cases y with
  |int k' b=>
   obtain rfl:=f.bT
   by_cases g:k≠k'
   .simp only[binOp,if_pos g];exact af.halt
   .simp only[binOp,if_neg g];exact af.intArith _ _ _ _
  |pointer o=>obtain⟨j,rfl,_⟩:=f.bV;exact af.movedNumber t f h ⟨_,rfl⟩
  |_=>exact ag.bR (ag.halt _)
 |pointer o=>
  obtain⟨j,rfl,_⟩:=h.bV;cases y with
  |int k' b=>obtain rfl:=f.bT;exact c h f ⟨_,rfl⟩
  |_=>exact ag.bR (ag.halt _)
 |float k a=>exact h.cases.elim
 |complex k a b=>exact h.cases.elim
 |_=>cases y<;>exact ag.bR (ag.halt _)
def af.acv {x y v u:Value}(t:TypeId)(h:VR p x v)(m:VR p y u):af P Q K p (binOp .leq t x y) (binOp .leq t v u) (λq a b=>VR q a b):=by
 have cmp:∀{a b c d:Addr} (op:BinOp),AR p a c->AR p b d->af P Q K p (do Op.addrCmp op (<-Go.behindNumber a).1 (<-Go.behindNumber b).1) (do Op.addrCmp op (<-Go.behindNumber c).1 (<-Go.behindNumber d).1) (λq a b=>VR q a b):=λop A w=>
  af.bind (af.behindNumber A) λG z C j e=>af.bind (af.behindNumber (w.mono j)) λF v v' i B=>af.addrCmp op (e.1.mono i) B.1
 cases x with
 |string a=>
  obtain rfl:=h.bO;cases y with
  |string b=>obtain rfl:=m.bO;exact af.stringOp .leq a b
  |_=>exact ag.bR (ag.halt _)
 |int k a=>
  obtain rfl:=h.bT;cases y with
  |int k' b=>
   obtain rfl:=m.bT
   by_cases f:k≠k'
   .simp only[binOp,if_pos f];exact af.halt
   .simp only[binOp,if_neg f];exact af.intCmp _ _ _
  |_=>exact ag.bR (ag.halt _)
 |pointer o=>
  obtain⟨I,rfl,s⟩:=h.bV;cases y with
  |pointer r=>
   obtain⟨E,rfl,n⟩:=m.bV;cases o with
   |none=>cases r<;>exact ag.bR (ag.halt _)
   |some o=>
    obtain⟨H,rfl,l⟩:=s.aO;cases r with
    |none=>exact ag.bR (ag.halt _)
    |some r=>
     obtain⟨D,rfl,g⟩:=n.aO;exact cmp .leq l g
  |_=>cases o<;>exact ag.bR (ag.halt _)
 |float k a=>exact h.cases.elim
 |complex k a b=>exact h.cases.elim
 |_=>cases y<;>exact ag.bR (ag.halt _)
def af.abZ {x y v u:Value}(t:TypeId)(a b:Operand):af P Q K p (Go.eqGuard .leq t a b x y) (Go.eqGuard .leq t a b v u) (λ_ _ _=>True):=by
 unfold Go.eqGuard;exact af.pure trivial
def af.I1 {x y v u}(t)(a b):af P Q K p (Go.eqGuard .add t a b x y) (Go.eqGuard .add t a b v u) (λ_ _ _=>True):=by
 unfold Go.eqGuard;exact af.pure trivial
end
variable {st:Prop}
section
variable {α β γ δ:Type}{P Q:Program}{K:Nat->Prop}{p:Rel st}
def iZ (P)(a)(w)(es):(Go.frozen a).runT P w es=(.ok (w.frozen? a) w,es):=rfl
def af.frozen (m:∀c,¬K c){a b}(h:AR p a b):af P Q K p (Go.frozen a) (Go.frozen b) (λ_ x y=>x=y):=by
 intro o w u es fs hw l;refine⟨⟨λh w' k j=>(by cases j),⟨ZL _,rfl,λq _=>rfl⟩⟩,λx w' k j=>?_⟩;rw[iZ]at j;cases j;refine⟨p,u.frozen? b,u,#[],by rw[iZ,ac4],?_,hw,l,dE.refl _ _ _,λe he=>by simp at he⟩;obtain⟨xs,ys,e,f,g,i,d,_,_,n⟩|⟨_,_,_,i,d,_⟩|⟨_,_,_,i,d,_⟩:=hw.rows _ _ h.1
 .obtain rfl:=n (m _)
  simp only[World.frozen?,i,d,h.2.1]
 .simp only[World.frozen?,i,d]
 .simp only[World.frozen?,i,d]
def af.stringish (g:∀c,¬K c){a b}(h:AR p a b):af P Q K p (Go.stringish a) (Go.stringish b) (λ_ x y=>x=y):=by
 unfold Go.stringish;refine af.bind (af.frozen g h) λq x y f e=>?_
 subst e;cases x with
 |true=>exact af.pure rfl
 |false=>
  simp only[Z0,if_false];refine af.bind (af.shape (f _ _ h.1)) λi x y d e=>?_
  subst e;cases x with
  |none=>exact af.pure rfl
  |some x=>exact af.frozen g ⟨(f.trans d) _ _ h.1,rfl,rfl⟩
def af.mayBeOne (j:∀c,¬K c){a b c d}(h:AR p a c)(k:AR p b d):af P Q K p (Go.mayBeOne a b) (Go.mayBeOne c d) (λ_ x y=>x=y):=by
 have none:∀{q:Rel st} {a c:Addr},AR q a c->af P Q K q
  (do Pure.pure (match<-Go.shape a.block with
        |some (_,0)=>true
        |_=>false)) (do Pure.pure (match<-Go.shape c.block with
        |some (_,0)=>true
        |_=>false)) (λ_ x y=>x=y):=by
  intro q a c h;refine af.bind (af.shape h.1) λr x y _ e=>?_
  subst e;exact af.pure rfl
 unfold Go.mayBeOne;refine af.bind (af.stringish j h) λq x y i e=>?_
 subst e;refine af.bind (af.stringish j (k.mono i)) λo x y f e=>?_
 subst e;simp only;refine af.bind (none (h.mono (i.trans f))) λn x y g e=>?_
 subst e;refine af.bind (none (k.mono ((i.trans f).trans g))) λm x y l e=>?_
 subst e;exact af.pure rfl
def af.sameAddr (l:∀c,¬K c){a b c d}(h:AR p a c)(k:AR p b d):af P Q K p (Go.sameAddr a b) (Go.sameAddr c d) (λ_ x y=>x=y):=by
 refine af.given fun⟨w,u,hw⟩=>?_
 unfold Go.sameAddr;rw[<-AR.iM hw h k,<-AR.eq_iff hw h k];split
 .exact af.pure rfl
 .refine af.bind (af.frozen l h) λq x y i e=>?_
  subst e;refine af.bind (af.frozen l (k.mono i)) λv x y f e=>?_
  subst e;simp only;split
  .exact ag.bR (ag.left (ag.halt _))
  .refine af.bind (af.noView (h.mono (i.trans f))) λt _ _ g _=>?_
   refine af.bind (af.noView (k.mono ((i.trans f).trans g))) λs _ _ j _=>?_
   have m:=(i.trans f).trans (g.trans j);refine af.bind (af.mayBeOne l (h.mono m) (k.mono m)) λr x y n e=>?_
   subst e;split
   .refine af.bind (af.choose _) λo x y _ e=>?_
    subst e;exact af.pure rfl
   .exact af.pure rfl
def af.oh (o:∀c,¬K c){x y v u}(n)(t){e}(m:P.underlying t=some (.pointer e))(h:VR p x v)(k:VR p y u):af P Q K p (Op.equalIn n t x y) (Op.equalIn n t v u) (λ_ a b=>a=b):=by
 cases n with
 |zero=>exact af.halt
 |succ n=>
  unfold Op.equalIn;refine af.bind (af.underlying t) λq d d' l j=>?_
  obtain⟨rfl,hd⟩:=j;rw[m]at hd;cases hd;have r:=h.ext l;have k':=k.ext l;cases x with
  |pointer a=>
   obtain⟨c,rfl,g⟩:=r.bV;cases y with
   |pointer b=>
    obtain⟨d,rfl,f⟩:=k'.bV;cases a with
    |none=>
     obtain rfl:=g.aV;cases b with
     |none=>obtain rfl:=f.aV;exact af.pure rfl
     |some b=>obtain⟨d,rfl,_⟩:=f.aO;exact af.pure rfl
    |some a=>
     obtain⟨c,rfl,g⟩:=g.aO;cases b with
     |none=>obtain rfl:=f.aV;exact af.pure rfl
     |some b=>
      obtain⟨d,rfl,f⟩:=f.aO;refine af.given fun⟨w,u,hw⟩=>?_
      simp only;refine af.bind (af.sizeOf _) λB s s' i j=>?_
      subst j;have z:=AR.eq_iff hw g f;rw[<-z];split
      .exact af.sameAddr o (g.mono i) (f.mono i)
      .split
       .exact af.pure rfl
       .refine af.bind (af.choose _) λA x y _ e=>?_
        subst e;exact af.pure rfl
   |_=>exact ag.bR (by cases a<;>exact ag.halt _)
  |_=>exact ag.bR (ag.halt _)
def oP (P:Program):Bool:=sU.all λt=>match P.underlying t with
 |some .string|some (.pointer _)=>true
 |_=>false
def af.IY (E:∀c,¬K c)(C:oP P=true){x y v u}(n)(t){ms}(B:P.underlying t=some (.interface ms))(hx:∀z,x≠.iface bP z)(h:VR p x v)(k:VR p y u):af P Q K p (Op.equalIn n t x y) (Op.equalIn n t v u) (λ_ a b=>a=b):=by
 cases n with
 |zero=>exact af.halt
 |succ n=>
  unfold Op.equalIn;refine af.bind (af.underlying t) λq d d' A w=>?_
  obtain⟨rfl,hd⟩:=w;rw[B]at hd;cases hd;have F:=h.ext A;have k':=k.ext A;have g:=F.cases;have f:=k'.cases;cases x with
  |nilIface=>
   cases v with
   |nilIface=>
    cases y with
    |nilIface=>cases u<;>first|exact f.elim|exact af.pure rfl
    |iface a b=>cases u<;>first|exact f.elim|exact af.pure rfl
    |_=>exact ag.bR (ag.halt _)
   |_=>exact g.elim
  |iface a b=>
   cases v with
   |iface a' I=>
    obtain⟨rfl,g⟩:=g;rcases g with⟨D,hb⟩|⟨rfl,_⟩
    rotate_left
    .exact absurd rfl (hx _)
    cases y with
    |nilIface=>cases u<;>first|exact f.elim|exact af.pure rfl
    |iface c d=>
     cases u with
     |iface H d'=>
      obtain⟨rfl,f⟩:=f;simp only
      by_cases l:a≠c
      .rw[if_pos l,if_pos l];exact af.pure rfl
      .rw[if_neg l,if_neg l]
       have o:a=c:=Classical.not_not.1 l;subst o
       have hd:VR q d d':=by
           rcases f with⟨_,hd⟩|⟨rfl,_⟩
           .exact hd
           .exact absurd rfl (hx _)
       refine af.bind (af.typeInfo a) λG i j m w=>?_
       obtain⟨rfl,_⟩:=w;split
       .refine ag.bR (ag.bind aY.program λa=>ag.bind aY.program λb=>?_)
        split
        .exact ag.left (ag.halt _)
        .refine ag.bind ?_ λs=>ag.runtimePanic _
         unfold typeStr;refine aY.bind (aY.typeInfo _) λi=>?_
         show aY P (if i.str.isEmpty=true then unsupported (Unsupported.noEntry "a type whose name as gc spells it is not known")else Pure.pure i.str)
         split
         .exact aY.halt _
         .exact aY.pure _
       .have r:(match P.underlying a with|some .string|some (.pointer _)=>true|_=>false)=true:=ZU.1 C a (by simpa[sO] using D)
        cases hu:P.underlying a with
        |none=>rw[hu]at r;cases r
        |some d0=>
         rw[hu]at r;cases d0 with
         |string=>exact af.jA 1 _ _ (by simp[jO,hu]) (hb.ext m) (hd.ext m)
         |pointer e=>exact af.oh E _ _ hu (hb.ext m) (hd.ext m)
         |_=>cases r
     |_=>exact f.elim
    |_=>exact ag.bR (ag.halt _)
   |_=>exact g.elim
  |_=>exact ag.bR (ag.halt _)
end
variable {st:Prop}
section
variable {α β γ δ:Type}{P Q:Program}{K:Nat->Prop}{p:Rel st}
def ja (P)(a)(n)(w)(es):(Go.freeze a n).runT P w es=(.ok () (w.freeze a n),es):=rfl
def uJ (w:World)(a)(n):(w.freeze a n).tape=w.tape/\(w.freeze a n).drawn=w.drawn/\(w.freeze a n).os=w.os/\(w.freeze a n).output=w.output/\(w.freeze a n).heap.size=w.heap.size/\∀k,k≠a.block->(w.freeze a n).heap[k]? =w.heap[k]?:=by
 unfold World.freeze;split
 .exact⟨rfl,rfl,rfl,rfl,rfl,λ_ _=>rfl⟩
 .exact⟨rfl,rfl,rfl,rfl,by simp,λk b=>by simp[Array.getElem?_modify,Ne.symm b]⟩
def modify_id {A:Array Obj}{i}{f}(h:∀o,A[i]? =some o->f o=o):A.modify i f=A:=Array.ext (by simp) λj c b=>by
 rw[Array.getElem_modify];split
 .rename_i a
  subst a;exact h _ (ZM b)
 .rfl
def af.freeze {a b}(h:AR p a b)(y:¬K b.block)(n):af P Q K p (Go.freeze a n) (Go.freeze b n) (λ_ _ _=>True):=by
 intro H w u es fs hw s;obtain⟨t1,t2,t3,t4,t5,t6⟩:=uJ w a n;obtain⟨s1,s2,E,D,B,A⟩:=uJ u b n;refine⟨⟨λh w' z t=>(by cases t),⟨Nat.le_of_eq t2.symm,t1,λC _=>?_⟩⟩,λx w' z t=>?_⟩
 .show(Result.ok () ((ay w C).freeze a n),es)=(Result.ok () (ay (w.freeze a n) C),es)
  unfold World.freeze;split<;>rfl
 .rw[ja]at t
  cases t;have d:TR (w.freeze a n) (u.freeze b n):=λi q=>by rw[t1,t2,s1,s2];exact s i q
  by_cases k:n=0
  .subst k
   have e:∀(w:World) (a:Addr),w.freeze a 0=w:=λw a=>by simp[World.freeze]
   refine⟨p,(),u,#[],by rw[ja,ac4,e],trivial,by rw[e];exact hw,by rw[e]at d⊢;exact s,dE.refl _ _ _,λe he=>by simp at he⟩
  obtain⟨xs,ys,e,f,g,c,m,G,_,F⟩|⟨_,_,_,c,m,_⟩|⟨_,_,_,c,m,_⟩:=hw.rows _ _ h.1
  .obtain rfl:=F y
   obtain⟨r,v⟩:=f
   have m1:(w.freeze a n).heap[a.block]? =some (.cells xs e (if(r==v)=true then(a.off,a.off+n)else(min r a.off,max v (a.off+n)))):=by
     simp only[World.freeze,if_neg k,Array.getElem?_modify,c,ads,if_true]
   have m2:(u.freeze b n).heap[b.block]? =some (.cells ys e (if(r==v)=true then(a.off,a.off+n)else(min r a.off,max v (a.off+n)))):=by
     simp only[World.freeze,if_neg k,Array.getElem?_modify,m,ads,if_true,<-h.2.1]
   exact⟨p,(),u.freeze b n,#[],by rw[ja,ac4],trivial,hw.put h.1 y G m1 m2 t6 A t5 B,d,dE.put h.1 y s1 E D A B,λe he=>by simp at he⟩
  .have same:∀(w:World) (a:Addr) (x:Addr) (l:Bool),w.heap[a.block]? =some (.number x l)->w.freeze a n=w:=λw a x l h=>by
     unfold World.freeze;rw[if_neg k];exact congrArg (λh=>({w with heap:=h}:World)) (modify_id λo j=>by rw[h]at j;cases j;rfl)
   refine⟨p,(),u,#[],by rw[ja,ac4,same u b _ _ m],trivial,by rw[same w a _ _ c];exact hw,by rw[same w a _ _ c];exact s,dE.refl _ _ _,λe he=>by simp at he⟩
  .have same:∀(w:World) (a:Addr) (x:Addr) (l:TypeId),w.heap[a.block]? =some (.view x l)->w.freeze a n=w:=λw a x l h=>by
     unfold World.freeze;rw[if_neg k];exact congrArg (λh=>({w with heap:=h}:World)) (modify_id λo j=>by rw[h]at j;cases j;rfl)
   refine⟨p,(),u,#[],by rw[ja,ac4,same u b _ _ m],trivial,by rw[same w a _ _ c];exact hw,by rw[same w a _ _ c];exact s,dE.refl _ _ _,λe he=>by simp at he⟩
def af.Rw {a b}(h:AR p a b):af P Q K p (Go.load a) (Go.load b) (λq v x=>VR q v x/\(¬Ae v->¬K b.block)):=by
 intro j w u es fs hw k;refine⟨(af.load h j w u es fs hw k).1,λv w' i c=>?_⟩;obtain⟨q,x,u',new,r,o,n⟩:=(af.load h j w u es fs hw k).2 v w' i c;refine⟨q,x,u',new,r,⟨o,λl d=>?_⟩,n⟩;obtain⟨xs,ys,e,f,g,m1,m2,_,m4,_⟩|⟨_,_,_,_,_,_,m⟩|⟨_,_,_,_,_,_,m⟩:=hw.rows _ _ h.1
 .rw[ic]at c
  have hf:World.farLoad P w a false=.error (w.noCell a "load: no such cell"):=by simp only[World.farLoad,m1]
  cases hc:w.cell? a with
  |none=>rw[hc,hf]at c;cases c
  |some y=>
   rw[hc]at c;cases c;simp only[World.cell?,m1]at hc;split at hc
   .cases hc
   .exact l ((m4 d).2.2.2 _ _ hc)
 .exact m d
 .exact m d
def af.loadBytes:∀(n:Nat) {p:Rel st} {a b:Addr} (acc:ByteArray),AR p a b->af P Q K p (Go.loadBytes a acc n) (Go.loadBytes b acc n) (λ_ x y=>x=y/\(0<n->¬K b.block))
 |0,_,_,_,acc,_=>by unfold Go.loadBytes;exact af.pure ⟨rfl,λh=>absurd h (aby _)⟩
 |n+1,p,a,b,acc,h=>by
  unfold Go.loadBytes;refine af.bind (af.Rw h) λq v x f e=>?_
  obtain⟨c,g⟩:=e;have d:=c.cases;cases v with
  |int k m=>
   obtain rfl:=c.bT;cases k with
   |u8=>exact(af.loadBytes n _ ((h.mono f).add 1)).mono λ_ _ _ _ e=>⟨e.1,λ_=>g (λh=>h)⟩
   |_=>exact af.halt
  |_=>exact ag.bR (ag.halt _)
def af.elemOf (t):af P Q K p (Go.elemOf t) (Go.elemOf t) (λ_ a b=>a=b):=by
 unfold Go.elemOf;refine af.bind (af.underlying t) λq d d' c e=>?_
 obtain⟨rfl,_⟩:=e;cases d<;>first|exact af.halt|exact af.pure rfl
def af.variablesAt {a b}(h:AR p a b)(t)(n):af P Q K p (Go.variablesAt a t n) (Go.variablesAt b t n) (λ_ x y=>x=y):=by
 unfold Go.variablesAt;refine af.twin λc=>af.bind af.program λq s s' d e=>?_
 rw[e.1,e.2,c.liesAt,c.cellsOf,<-h.2.1];refine af.bind (af.shape (d _ _ h.1)) λf x y _ e=>?_
 subst e;cases x<;>exact af.pure rfl
def af.unsafeString {x y v u}(t1 t2 l)(h:VR p x v)(k:VR p y u):af P Q K p (Builtin.unsafeString_ #[t1,t2] l #[x,y]) (Builtin.unsafeString_ #[t1,t2] l #[v,u]) (λq a b=>VR q a b):=by
 unfold Builtin.unsafeString_;cases x with
 |pointer o=>
  obtain⟨J,rfl,C⟩:=h.bV;refine af.bind (af.asInt k) λq n m B e=>?_
  subst e;have d:=OA.mono B C;simp only[List.getElem?_toArray,List.getElem?_cons_zero]
  by_cases A:n<0
  .simp only[A,if_true];exact ag.bR (ag.left (ag.runtimePanic _))
  simp only[A,if_false]
  by_cases w:n>IntKind.i64.max
  .simp only[w,if_true];exact ag.bR (ag.left (ag.halt _))
  simp only[w,if_false];cases o with
  |none=>
   obtain rfl:=d.aV;simp only;split
   .exact af.pure (VR.string _)
   .exact ag.bR (ag.runtimePanic _)
  |some a=>
   obtain⟨b,rfl,f⟩:=d.aO;simp only
   by_cases r:n=0
   .simp only[r,if_true];exact af.pure (VR.string _)
   simp only[r,if_false];refine af.bind (af.elemOf t1) λI e L c g=>?_
   subst g;refine af.bind (af.variablesAt (f.mono c) e n.toNat) λH z E j g=>?_
   subst g;split
   .have t:=(f.mono c).mono j
    refine af.bind (af.loadBytes n.toNat _ t) λG s s' i g=>?_
    obtain⟨rfl,D⟩:=g;refine af.bind (af.freeze (t.mono i) (D (by omega)) _) λF _ _ _ _=>af.pure (VR.string _)
   .exact ag.bR (ag.halt _)
 |_=>exact ag.bR (ag.halt _)
def af.unsafeSliceData (g:¬st){x v}(t1 f)(h:VR p x v):af P Q K p (Builtin.unsafeSliceData_ #[t1] f #[x]) (Builtin.unsafeSliceData_ #[t1] f #[v]) (λq a b=>VR q a b):=by
 unfold Builtin.unsafeSliceData_;cases x with
 |slice o l c=>
  obtain⟨w,rfl,m⟩:=h.bD;cases o with
  |none=>obtain rfl:=m.aV;exact af.pure (VR.ptr trivial)
  |some a=>
   obtain⟨b,rfl,d⟩:=m.aO;rcases d with d|⟨_,hs⟩
   rotate_left
   .exact absurd hs g
   have fin:∀(a b:Addr),AR p a b->af P Q K p (if c≠0 then(Pure.pure (.pointer (some a)):Sem Value)else(do
          let y<-Go.viewAt a.block
          if y.isSome=true then Pure.pure (.pointer (some a))else do
            let e<-Go.elemOf f
            let r<-newObj (.view a e)
            Pure.pure (.pointer (some ⟨r,0,none⟩)))) (if c≠0 then(Pure.pure (.pointer (some b)):Sem Value)else(do
          let y<-Go.viewAt b.block
          if y.isSome=true then Pure.pure (.pointer (some b))else do
            let e<-Go.elemOf f
            let r<-newObj (.view b e)
            Pure.pure (.pointer (some ⟨r,0,none⟩)))) (λq a b=>VR q a b):=by
        intro a b d
        by_cases hc:c≠0
        .rw[if_pos hc,if_pos hc];exact af.pure (VR.ptr d)
        .rw[if_neg hc,if_neg hc]
         refine af.bind (af.viewAt d.1) λq x y k e=>?_
         cases x with
         |none=>
          cases y with
          |some y=>exact e.elim
          |none=>
           simp only[Option.isSome_none,Z0,if_false];refine af.bind (af.elemOf f) λu e z i j=>?_
           subst j;refine af.bind (af.CK e ((d.mono k).mono i)) λt r s n j=>?_
           exact af.pure (VR.ptr ⟨j.1,rfl,rfl⟩)
         |some x=>
          cases y with
          |none=>exact e.elim
          |some y=>
           simp only[Option.isSome_some,if_true];exact af.pure (VR.ptr (d.mono k))
   exact fin a b d
 |_=>exact ag.bR (ag.halt _)
def af.seenAt {a b}(h:AR p a b):af P Q K p (Conv.seenAt a) (Conv.seenAt b) (λq x y=>AR q x y):=by
 unfold Conv.seenAt;refine af.bind (af.viewAt h.1) λq x y l e=>?_
 cases x with
 |none=>
  cases y with
  |some y=>exact e.elim
  |none=>exact af.pure (h.mono l)
 |some x=>
  cases y with
  |none=>exact e.elim
  |some y=>
   obtain⟨x1,x2⟩:=x;obtain⟨k,j⟩:=y;obtain⟨d,rfl⟩:AR q x1 k/\x2=j:=e;simp only;rw[<-h.2.1,<-h.2.2];split
   .exact af.pure d
   .rw[<-d.2.2]
    split
    .exact ag.bR (ag.left (ag.halt _))
    .refine af.twin λg=>af.bind af.program λo s s' f e=>?_
     rw[e.1,e.2,g.byteOfCell];cases Go.byteOfCell P P.depth x2 a.off with
     |none=>exact af.halt
     |some β=>
      simp only;refine af.bind (af.shape (f _ _ d.1)) λn z m i e=>?_
      subst e;cases z with
      |none=>exact af.halt
      |some z=>
       simp only;rw[g.cellAtBytes,g.cellsOf,<-d.2.1];split
       .exact ag.bR (ag.left (ag.halt _))
       .cases Go.cellAtBytes P P.depth z.1 (z.2/P.cellsOf z.1) x1.off (β:Int)with
        |none=>exact af.halt
        |some c=>exact af.pure ⟨(f.trans i) _ _ d.1,rfl,rfl⟩
def af.cellsIn {r s}(h:p r s):af P Q K p (Go.cellsIn r) (Go.cellsIn s) (λ_ a b=>a=b):=by
 intro D w u es fs hw z
 have k1:∀(P:Program) (w:World) (es:Array Event) (r:Nat) xs e f,w.heap[r]? =some (.cells xs e f)->(Go.cellsIn r).runT P w es=(.ok (some xs.size) w,es):=by
  intro P w es r xs e f h;show(Sem.bind (Go.shape r) _).runT P w es=_
  rw[Sem.runT_bind'];have:(Go.shape r).runT P w es=(.ok (w.shape? r) w,es):=rfl;rw[this];simp only[World.shape?,h];rfl
 have n:∀(P:Program) (w:World) (es:Array Event) (r:Nat) o,w.heap[r]? =some o->((∃a l,o=.number a l)\/∃a t,o=.view a t)->(Go.cellsIn r).runT P w es=(.ok none w,es.push ⟨.obj r,false,false⟩):=by
  intro P w es r o h j;show(Sem.bind (Go.shape r) _).runT P w es=_
  rw[Sem.runT_bind'];have:(Go.shape r).runT P w es=(.ok (w.shape? r) w,es):=rfl;rw[this];rcases j with⟨a,l,rfl⟩|⟨a,l,rfl⟩
  all_goals
   simp only[World.shape?,h];show(Sem.bind (Go.getObj r) _).runT P w es=_
   rw[Sem.runT_bind']
   have:∀o,w.heap[r]? =some o->((∃a l,o=.number a l)\/∃a t,o=.view a t)->(Go.getObj r).runT P w es=(.ok o w,es.push ⟨.obj r,false,false⟩):=λo h j=>by
        unfold Go.getObj Sem.runT;rw[h];rcases j with⟨a,l,rfl⟩|⟨a,l,rfl⟩<;>rfl
  .rw[this _ h (.inl ⟨_,_,rfl⟩)]
   rfl
  .rw[this _ h (.inr ⟨_,_,rfl⟩)]
   rfl
 have other:∀o m,w.heap[r]? =some o->u.heap[s]? =some m->((∃a l,o=.number a l)\/∃a t,o=.view a t)->((∃a l,m=.number a l)\/∃a t,m=.view a t)->vV P (Go.cellsIn r) w es/\∀a w' i,(Go.cellsIn r).runT P w es=(.ok a w',i)->
  ∃q b u' new,(Go.cellsIn s).runT Q u fs=(.ok b u',fs++new)/\a=b/\WR P.globals.size K q w' u'/\TR w' u'/\dE K p q u u'/\∀e∈new,vG K q e:=by
  intro o m c k j v;refine⟨⟨λA w' i d=>(by rw[n P w es r o c j]at d;cases d),(by unfold Local;rw[n P w es r o c j];exact⟨ZL _,rfl,λy _=>(n P (ay w y) es r o c j).trans rfl⟩)⟩,λa w' i d=>?_⟩;rw[n P w es r o c j]at d;cases d
  exact⟨p,none,u,#[⟨.obj s,false,false⟩],by rw[n Q u fs s m k v];rfl,rfl,hw,z,dE.refl _ _ _,λe he=>by
   obtain rfl:e=⟨.obj s,false,false⟩:=by simpa using he
   exact .inl ⟨s,r,.inl rfl,h,rfl,λh=>by cases h⟩⟩
 obtain⟨xs,ys,e,f,g,c,k,x,_⟩|⟨C,a2,l,c,k,x,B⟩|⟨C,a2,l,c,k,x,B⟩:=hw.rows _ _ h
 .refine⟨⟨λA w' i d=>(by rw[k1 P w es r xs e f c]at d;cases d),(by unfold Local;rw[k1 P w es r xs e f c];exact⟨ZL _,rfl,λy _=>(k1 P (ay w y) es r xs e f c).trans rfl⟩)⟩,λa w' i d=>?_⟩
  rw[k1 P w es r xs e f c]at d;cases d;exact⟨p,some ys.size,u,#[],by rw[k1 Q u fs s ys e g k,ac4],by rw[x.1],hw,z,dE.refl _ _ _,λe he=>by simp at he⟩
 .exact other _ _ c k (.inl ⟨_,_,rfl⟩) (.inl ⟨_,_,rfl⟩)
 .exact other _ _ c k (.inr ⟨_,_,rfl⟩) (.inr ⟨_,_,rfl⟩)
def af.unsafePointer {x v}(s t)(h:VR p x v)(A:(∃e,P.underlying s=some (.pointer e)/\P.underlying t=some .unsafePointer)\/∃e,P.underlying s=some .unsafePointer/\P.underlying t=some (.pointer e)):af P Q K p (Conv.unsafePointer s t x) (Conv.unsafePointer s t v) (λq a b=>VR q a b):=by
 unfold Conv.unsafePointer;refine af.bind (af.underlying s) λq d d' Y e=>?_
 obtain⟨rfl,hd⟩:=e;refine af.bind (af.underlying t) λq1 c c' J e=>?_
 obtain⟨rfl,hc⟩:=e;have D:=(h.ext Y).ext J;rcases A with⟨e,hs,A⟩|⟨e,hs,A⟩
 .rw[hs]at hd
  cases hd;rw[A]at hc;cases hc;cases x with
  |pointer o=>
   obtain⟨V,rfl,B⟩:=D.bV;cases o with
   |none=>obtain rfl:=B.aV;exact af.pure D
   |some a=>
    obtain⟨b,rfl,l⟩:=B.aO;refine af.bind (af.seenAt l) λU z u I m=>?_
    refine af.bind (af.cellsIn m.1) λq3 n n' H f=>?_
    subst f;simp only;refine af.bind (af.sizeOf e) λL k k' g f=>?_
    subst f;have i:=(m.mono H).mono g;rw[<-i.2.1,<-i.2.2]
    have fin:∀N:Bool,af P Q K L (if(decide (k=0)||N)=true then(do let r<-newObj (.view z e);Pure.pure (.pointer (some ⟨r,0,none⟩)):Sem Value)else Pure.pure (.pointer (some z)))
        (if(decide (k=0)||N)=true then(do let r<-newObj (.view u e);Pure.pure (.pointer (some ⟨r,0,none⟩)):Sem Value)else Pure.pure (.pointer (some u))) (λq a b=>VR q a b):=by
     intro N
     by_cases C:(decide (k=0)||N)=true
     .rw[if_pos C,if_pos C]
      refine af.bind (af.CK e i) λT r s j f=>?_
      exact af.pure (VR.ptr (a:=some _) (b:=some _) ⟨f.1,rfl,rfl⟩)
     .rw[if_neg C,if_neg C]
      exact af.pure (VR.ptr (a:=some z) (b:=some u) i)
    exact fin _
  |_=>exact ag.bR (ag.halt _)
 .rw[hs]at hd
  cases hd;rw[A]at hc;cases hc;cases x with
  |pointer o=>
   obtain⟨V,rfl,B⟩:=D.bV;cases o with
   |none=>obtain rfl:=B.aV;exact af.pure D
   |some a=>
    obtain⟨b,rfl,l⟩:=B.aO;refine af.bind (af.seenAt l) λU z u I m=>?_
    refine af.bind (af.sizeOf e) λL k k' g f=>?_
    subst f;refine af.bind (af.variablesAt (m.mono g) e 1) λT k2 W j f=>?_
    subst f;split
    .exact af.pure (VR.ptr (a:=some z) (b:=some u) (m.mono (g.trans j)))
    .have w:=(m.mono g).mono j
     refine af.bind (af.shape w.1) λq6 y Z G f=>?_
     subst f;cases y with
     |none=>exact ag.bR (ag.left (ag.halt _))
     |some y=>
      simp only;refine af.twin λO=>af.bind af.program λq7 s1 S F f=>?_
      rw[f.1,f.2];refine af.bind af.program λq8 s2 R E M=>?_
      rw[M.1,M.2,O.holdsStoodIn];split
      .exact ag.bR (ag.left (ag.halt _))
      .refine af.bind (af.CK e (((w.mono G).mono F).mono E)) λq9 r s X f=>?_
       exact af.pure (VR.ptr ⟨f.1,rfl,rfl⟩)
  |_=>exact ag.bR (ag.halt _)
def af.pO {x v}(s t)(h:VR p x v)(f:(∃e,P.underlying s=some (.pointer e)/\P.underlying t=some .unsafePointer)\/∃e,P.underlying s=some .unsafePointer/\P.underlying t=some (.pointer e)):af P Q K p (Go.convert s t x) (Go.convert s t v) (λq a b=>VR q a b):=by
 unfold Go.convert;refine af.bind (af.underlying s) λq d d' j e=>?_
 obtain⟨rfl,hd⟩:=e;refine af.bind (af.underlying t) λk c l g e=>?_
 obtain⟨rfl,hc⟩:=e;have i:=(h.ext j).ext g;have hx:=i.cases;have key:=af.unsafePointer (K:=K) (Q:=Q) s t i f;rcases f with⟨e,hs,f⟩|⟨e,hs,f⟩<;>(rw[hs]at hd;cases hd;rw[f]at hc;cases hc;cases x<;>cases v<;>first|exact hx.elim|exact Bool.noConfusion hx|exact key)
end
variable {st:Prop}
section
variable {fns:List Nat}{α β γ δ:Type}{P Q:Program}{K:Nat->Prop}{p:Rel st}
def j5 (P:Program)(g:Nat)(e:Array Value->Sem Value):Prop:=∃fn,P.funcs[g]? =some fn/\(fn.name== "runtime.NumGoroutine")=false/\fn.body.isNone=true/\Extern.findNext fn=none/\Extern.find fn=some e
def pU (l:List Nat)(P Q:Program):Prop:=∀g∈l,∃e,j5 P g e/\j5 Q g e/\∀(st:Prop) (K:Nat->Prop) (p:Rel st) (a b:Array Value),aF (VR p) a b->af P Q K p (e a) (e b) (λq x y=>VR q x y)
def dY {P}{g}{e}(h:j5 P g e)(a)(w)(es):(callFunc g a).runT P w es=(do Go.mark (.extern g);Pure.pure (Next.value (<-e a)):Sem Next).runT P w es:=by
 obtain⟨fn,i,f,d,c,b⟩:=h;show(match P.funcs[g]? with|none=>_|some fn=>_:Sem Next).runT P w es=_
 simp only[i,f,d,c,b,Z0,if_false,if_true]
def af.qT {s s'}{t g}{A:Rel st->α->β->Prop}(h:af P Q K p s' g A)(f:∀w es,s.runT P w es=s'.runT P w es)(n:∀w es,t.runT Q w es=g.runT Q w es):af P Q K p s t A:=by
 intro j w u es fs hw l;have e:=h j w u es fs hw l;refine⟨⟨λm w' c d=>e.1.ET m w' c (by rw[<-f];exact d),?_⟩,λa w' c d=>?_⟩
 .have i:=e.1.loc
  unfold Local at i⊢;simp only[f];exact i
 .obtain⟨q,b,u',new,k1,k⟩:=e.2 a w' c (by rw[<-f];exact d)
  exact⟨q,b,u',new,by rw[n];exact k1,k⟩
def af.P5 {l}(hx:pU l P Q){g}(d:g∈l){a b}(h:aF (VR p) a b):af P Q K p (Go.callFunc g a) (Go.callFunc g b) (NR fns):=by
 obtain⟨e,j,i,f⟩:=hx g d;refine af.qT ?_ (dY j a) (dY i b);refine af.bind (af.mark _ trivial) λq _ _ c _=>?_
 exact af.bB (f _ _ _ _ _ (h.ext c))
def nT (P:Program)(t:TypeId):Bool:=match P.underlying t with|some (.interface _)=>true|_=>false
def isUnsafe (P:Program)(t:TypeId):Bool:=match P.underlying t with|some .unsafePointer=>true|_=>false
def Rv (P:Program)(fns:List Nat)(name:String)(t:TypeId):Bool:=match P.info? t with
 |none=>true
 |some i=>match i.methods.find? (λm=>m.name==name)with
  |none=>true
  |some m=>m.path.isEmpty&&(match m.func,P.underlying t with
   |some (f,true),some (.pointer _)=>fns.contains f&&(f !=42&&f !=88)
   |_,_=>false)
def Wy (P:Program)(name:String)(t:TypeId):Bool:=match P.info? t with
 |none=>true
 |some i=>(i.methods.find? (λm=>m.name==name)).isNone
def yh (P:Program)(fns:List Nat)(name:String):Bool:=sU.all (Rv P fns name)&&Wy P name bP
def af.method {name}{t}(hm:Rv P fns name t=true){a b}(h:VR p a b)(n m):af P Q K p (Go.method (n+1) t a name) (Go.method (m+1) t b name) (λq x y=>x.1=y.1/\(x.1∈fns/\x.1≠42/\x.1≠88)/\VR q x.2 y.2):=by
 unfold Go.method;refine af.bind (af.typeInfo t) λq i j u e=>?_
 obtain⟨rfl,v⟩:=e;unfold Rv at hm;rw[v]at hm;simp only at hm;cases hf:i.methods.find? (λm=>m.name==name)with
 |none=>exact af.halt
 |some r=>
  rw[hf]at hm;simp only[ZQ]at hm;obtain⟨hp,hm⟩:=hm
  have c:r.path.toList=[]:=by
   have:r.path= #[]:=by simpa using hp
   rw[this]
  simp only;rw[c];refine af.bind (A:=λq x y=>x=(t,Place.val a)/\y=(t,Place.val b)) (af.pure ⟨rfl,rfl⟩) λC x y k e=>?_
  obtain⟨rfl,rfl⟩:=e;simp only;split at hm;rotate_left
  .cases hm
  rename_i f e l hu;rw[l];simp only;simp only[ZQ,bne_iff_ne]at hm;have o:=(h.ext u).ext k;refine af.bind (A:=λq x y=>VR q x y) ?_ λB x y s e=>af.pure ⟨rfl,⟨by simpa using hm.1,hm.2⟩,e⟩
  unfold receiverAt;refine af.bind (af.underlying t) λz d d' g w=>?_
  obtain⟨rfl,hd⟩:=w;rw[hu]at hd;cases hd;exact af.pure (o.ext g)
def ag.program {k:Program->Sem γ}(h:ag P (k P)):ag P (Go.program>>=k):=λw es=>h w es
def ag.FY {t}{f:TypeInfo->Sem γ}(h:∀i,P.info? t=some i->ag P (f i)):ag P (Go.typeInfo t>>=f):=by
 unfold Go.typeInfo;rw[bind_assoc];refine ag.program ?_;cases a:P.info? t with
 |none=>exact ag.left (ag.halt _)
 |some i=>simp only[pure_bind];exact h i a
def CP {name}{t}(hm:Wy P name t=true)(a)(n):ag P (Go.method (n+1) t a name):=by
 unfold Go.method;refine ag.FY λi b=>?_
 unfold Wy at hm;rw[b]at hm;simp only[Option.isNone_iff_eq_none]at hm;rw[hm];exact ag.halt _
def af.callMethod {name}(hp:gL fns P Q)(hm:yh P fns name=true){x v}{a b}(h:VR p x v)(m:aF (VR p) a b):af P Q K p (Go.callMethod x name a) (Go.callMethod v name b) (NR fns):=by
 unfold yh at hm;rw[ZQ]at hm;obtain⟨k,j⟩:=hm;unfold Go.callMethod;have hx:=h.cases;cases x with
 |iface t c=>
  cases v with
  |iface C d=>
   obtain⟨rfl,hx⟩:=hx;rcases hx with⟨u,l⟩|⟨rfl,rfl⟩
   .refine af.bind af.program λq s s' n e=>?_
    rw[e.1,e.2];have g:Rv P fns name t=true:=ZU.1 k t (by simpa[sO] using u);refine af.bind (af.method (K:=K) g (l.ext n) (P.types.size+99) (Q.types.size+99)) λD y z f w=>?_
    obtain⟨B,A⟩:=y;obtain⟨z1,z2⟩:=z;obtain⟨rfl,⟨hf,o⟩,r⟩:=w;refine af.callFunc hf ⟨λe=>absurd e o.1,λe=>absurd e o.2⟩ hp (aF.append ⟨rfl,λi x y hx hy=>?_⟩ (m.ext (n.trans f)))
    match i,hx,hy with
    |0,hx,hy=>cases hx;cases hy;exact r
   .refine ag.bR ?_
    exact ag.program (ag.left (CP j c (P.types.size+99)))
  |_=>exact hx.elim
 |nilIface=>exact ag.bR (ag.runtimePanic _)
 |_=>exact ag.bR (ag.halt _)
def UW (P:Program)(rx:List Nat)(name:String):Bool:=(match P.underlying bP with|some (.struct _)=>true|_=>false)&&match P.info? bP with
 |none=>true
 |some i=>match i.methods.find? (λm=>m.name==name)with
  |none=>true
  |some m=>m.path.isEmpty&&(match m.func with
   |some (f,false)=>rx.contains f
   |_=>false)
def fU (l:List Nat)(P Q:Program):Prop:=∀g∈l,∃e,j5 P g e/\j5 Q g e/\∀(st:Prop) (K:Nat->Prop) (p:Rel st) (c:Value),af P Q K p (e #[c]) (e #[c]) (λq x y=>VR q x y)
def af.Po {rx}{name}(hm:UW P rx name=true)(c)(n m):af P Q K p (Go.method (n+1) bP c name) (Go.method (m+1) bP c name) (λ_ x y=>x.1=y.1/\x.1∈rx/\x.2=c/\y.2=c):=by
 unfold Go.method;refine af.bind (af.typeInfo bP) λq i j w e=>?_
 obtain⟨rfl,r⟩:=e;unfold UW at hm;rw[ZQ]at hm;obtain⟨b,hm⟩:=hm
 obtain⟨fs,hu⟩:∃fs,P.underlying bP=some (.struct fs):=by
  split at b
  .rename_i fs e;exact⟨fs,e⟩
  .cases b
 rw[r]at hm;simp only at hm;cases hf:i.methods.find? (λm=>m.name==name)with
 |none=>exact af.halt
 |some h=>
  rw[hf]at hm;simp only[ZQ]at hm;obtain⟨hp,hm⟩:=hm
  have a:h.path.toList=[]:=by
   have:h.path= #[]:=by simpa using hp
   rw[this]
  simp only;rw[a];refine af.bind (A:=λq x y=>x=(bP,Place.val c)/\y=(bP,Place.val c)) (af.pure ⟨rfl,rfl⟩) λv x y o e=>?_
  obtain⟨rfl,rfl⟩:=e;simp only;split at hm;rotate_left
  .cases hm
  rename_i f g;rw[g];simp only;refine af.bind (A:=λq x y=>x=c/\y=c) ?_ λu x y l e=>af.pure ⟨rfl,by simpa using hm,e.1,e.2⟩
  unfold receiverAt;refine af.bind (af.underlying bP) λt d d' k s=>?_
  obtain⟨rfl,hd⟩:=s;rw[hu]at hd;cases hd;exact af.pure ⟨rfl,rfl⟩
def af.FW {rx}{name}(hp:gL fns P Q)(l:sU.all (Rv P fns name)=true)(k:UW P rx name=true)(hx:fU rx P Q){x v}(h:VR p x v):af P Q K p (Go.callMethod x name #[]) (Go.callMethod v name #[]) (NR fns):=by
 unfold Go.callMethod;have a:=h.cases;cases x with
 |iface t c=>
  cases v with
  |iface H d=>
   obtain⟨rfl,a⟩:=a;rcases a with⟨C,m⟩|⟨rfl,rfl⟩
   .refine af.bind af.program λq s s' g e=>?_
    rw[e.1,e.2];have j:Rv P fns name t=true:=ZU.1 l t (by simpa[sO] using C);refine af.bind (af.method (K:=K) j (m.ext g) (P.types.size+99) (Q.types.size+99)) λo y z f n=>?_
    obtain⟨b,A⟩:=y;obtain⟨z1,z2⟩:=z;obtain⟨rfl,⟨hf,w⟩,B⟩:=n;refine af.callFunc hf ⟨λe=>absurd e w.1,λe=>absurd e w.2⟩ hp (aF.append ⟨rfl,λi x y hx hy=>?_⟩ aF.empty)
    match i,hx,hy with
    |0,hx,hy=>cases hx;cases hy;exact B
   .refine af.bind af.program λq s s' g e=>?_
    rw[e.1,e.2];refine af.bind (af.Po (K:=K) k c (P.types.size+99) (Q.types.size+99)) λo y z f n=>?_
    obtain⟨b,A⟩:=y;obtain⟨z1,z2⟩:=z;obtain⟨u,hf,k1,r⟩:=n;simp only at u hf k1 r;subst u k1 r;obtain⟨e,F,E,D⟩:=hx b hf;have G: #[z2]++(#[]:Array Value)= #[z2]:=(by simp);show af P Q K o (Go.callFunc b (#[z2]++ #[])) (Go.callFunc b (#[z2]++ #[])) (NR fns)
    rw[G];refine af.qT ?_ (dY F _) (dY E _);refine af.bind (af.mark _ trivial) λq _ _ g _=>?_
    exact af.bB (D _ _ _ _)
  |_=>exact a.elim
 |nilIface=>exact ag.bR (ag.runtimePanic _)
 |_=>exact ag.bR (ag.halt _)
def nP (P:Program)(fns ext rx:List Nat)(c:Call):Bool:=
 c.args.all aA&&match c.callee with
 |.value (.func g)=>ext.contains g
 |.invoke r name=>aA r&&(yh P fns name||(c.args.size==0&&(sU.all (Rv P fns name)&&UW P rx name)))
 |.builtin .cap=>c.args.size==1&&c.argTypes.size==1&&c.argTypes.all (isSlice P)
 |.builtin .append=>c.args.size==2&&c.argTypes.size==2&&PM P (c.argTypes.getD 0 0)&&isInt P (c.argTypes.getD 1 0)
 |.builtin .unsafeString=>c.args.size==2&&c.argTypes.size==2
 |_=>false
def nO (P:Program)(fns ext rx:List Nat)(o:Oper):Bool:=match o.op with
 |.makeInterface t x=>sO t&&aA x
 |.panic x=>aA x
 |.typeAssert x _ u ok=>ok&&(aA x&&(AF P u&& !(u==bP)))
 |.binOp op t x y _=>aA x&&(aA y&&(((op matches .add|.leq)&&isStr P t)||(isEq op&&nT P t&&(match y with|.const .nilIface=>true|_=>false))))
 |.convert s t x=>aA x&&((nS P s&&isUnsafe P t)||(isUnsafe P s&&nS P t))
 |.slice t x a b (some mx)=>aA x&&(a.map aA).getD true&&(b.map aA).getD true&&aA mx&&isSlice P t
 |.call c=>nP P fns ext rx c
 |_=>false
end
end
