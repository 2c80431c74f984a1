/- Part 4 of the proof. -/
import Derived.Test.YtfpaamhppamcoaaGreatDoorSp3
set_option linter.all false
namespace Go.Proofs.YtfpaamhppamcoaaGreatDoor
section
open Go
variable {st:Prop}
section
variable {α β γ δ:Type}{P Q:Program}{K:Nat->Prop}{p:Rel st}
theorem af.unary {x v}(op)(h:VR p x v):af P Q K p (Op.unary op x) (Op.unary op v) (λq a b=>VR q a b):=by
 have hx:=h.cases;unfold Op.unary;cases x with
 |int k n=>obtain rfl:=h.bT;cases op<;>first|exact af.intArith _ _ _ _|exact af.intBits _ _ _ _|exact af.halt
 |bool b=>obtain rfl:=h.j3;cases op<;>first|exact af.pure (VR.bool _)|exact af.halt
 |pointer o=>cases v<;>first
  |exact hx.elim
  |exact Bool.noConfusion hx
  |(rename_i c;cases op<;>cases o<;>cases c<;>first|exact af.halt|exact(hx:False).elim)
 |_=>cases v<;>first|exact hx.elim|exact Bool.noConfusion hx|(cases op<;>exact af.halt)
theorem af.convertInt {x v}(s t){j k}(hs:P.underlying s=some (.int j))(l:P.underlying t=some (.int k))(h:VR p x v):af P Q K p (convert s t x) (convert s t v) (λq a b=>VR q a b):=by
 unfold Go.convert;refine af.bind (af.underlying s) λq d d' m e=>?_
 obtain⟨rfl,hd⟩:=e;rw[hs]at hd;cases hd;refine af.bind (af.underlying t) λr d d' c e=>?_
 obtain⟨rfl,hd⟩:=e;rw[l]at hd;cases hd;have f:=(h.ext m).ext c;have hx:=f.cases;cases x with
 |int i n=>obtain rfl:=f.bT;exact af.pure (VR.int _ _)
 |pointer o=>cases v<;>first
  |exact hx.elim
  |exact Bool.noConfusion hx
  |(rename_i g;cases o<;>cases g<;>first|exact af.halt|exact(hx:False).elim)
 |_=>cases v<;>first|exact hx.elim|exact Bool.noConfusion hx|exact af.halt
theorem af.pushBytes:∀(l m:List Value) (s:ByteArray) {p:Rel st},l.length=m.length->(∀(i:Nat) x y,l[i]? =some x->m[i]? =some y->VR p x y)->
 af P Q K p (forIn l s (λc s=>match c with
  |.int .u8 n=>do Pure.pure PUnit.unit;Pure.pure (ForInStep.yield (s.push (UInt8.ofNat n.toNat)))
  |_=>stuck "bytesToString: byte expected")) (forIn m s (λc s=>match c with
  |.int .u8 n=>do Pure.pure PUnit.unit;Pure.pure (ForInStep.yield (s.push (UInt8.ofNat n.toNat)))
  |_=>stuck "bytesToString: byte expected")) (λ_ a b=>a=b)
 |[],[],s,p,_,_=>by simp only[List.forIn_nil];exact af.pure rfl
 |[],_::_,_,_,h,_=>by cases h
 |_::_,[],_,_,h,_=>by cases h
 |x::l,y::m,s,p,h,f=>by
  simp only[List.forIn_cons];have d:=f 0 x y rfl rfl;refine af.bind (A:=λ_ a b=>a=b) ?_ λq a b g e=>?_
  .have hx:=d.cases
   cases x with
   |int k n=>
    obtain rfl:=d.bT;cases k<;>first|exact af.pure rfl|exact af.halt
   |_=>exact af.halt
  .subst e
   cases a with
   |done s'=>exact af.pure rfl
   |yield s'=>exact af.pushBytes l m s' (by simpa using h) λi x y hx hy=>(f (i+1) x y (by simpa using hx) (by simpa using hy)).ext g
theorem af.loadCellsS {l c n}{a b}(h:AR p a b\/((l=0/\c=0)/\st))(d:l=0->n=0):af P Q K p (Go.loadCells a n) (Go.loadCells b n) (λq a b=>aF (VR q) a b):=by
 rcases h with h|h
 .exact af.loadCells h n
 .obtain rfl:=d h.1.1
  exact af.pure aF.empty
theorem af.bytesToString {x v}(h:VR p x v):af P Q K p (Conv.bytesToString x) (Conv.bytesToString v) (λq a b=>VR q a b):=by
 have hx:=h.cases;unfold Conv.bytesToString;cases x with
 |slice o l c=>
  obtain⟨j,rfl,g⟩:=h.bD;cases o with
  |none=>
   obtain rfl:=g.aV;exact af.pure (VR.string _)
  |some a=>
   obtain⟨b,rfl,f⟩:=g.aO;refine af.bind (af.loadCellsS f λh=>h) λq xs ys k d=>?_
   simp only[<-Array.forIn_toList];refine af.bind (af.pushBytes xs.toList ys.toList _ d.toList.1 d.toList.2) λi a b _ e=>?_
   subst e;exact af.pure (VR.string _)
 |_=>cases v<;>first|exact hx.elim|exact Bool.noConfusion hx|exact af.halt
theorem af.convertBytes {x v}(s t e)(hs:P.underlying s=some (.slice e))(he:P.underlying e=some (.int .u8))(r:P.underlying t=some .string)(h:VR p x v):af P Q K p (convert s t x) (convert s t v) (λq a b=>VR q a b):=by
 unfold Go.convert;refine af.bind (af.underlying s) λq d d' u f=>?_
 obtain⟨rfl,hd⟩:=f;rw[hs]at hd;cases hd;refine af.bind (af.underlying t) λw d d' j f=>?_
 obtain⟨rfl,hd⟩:=f;rw[r]at hd;cases hd;have i:=(h.ext u).ext j;have hx:=i.cases;cases x with
 |slice o l c=>
  obtain⟨y,rfl,z⟩:=i.bD;refine af.bind (af.underlying e) λm d d' g f=>?_
  obtain⟨rfl,hd⟩:=f;rw[he]at hd;cases hd;exact af.bytesToString (i.ext g)
 |int k n=>obtain rfl:=i.bT;exact af.pure (VR.string _)
 |string b=>obtain rfl:=i.bO;exact af.pure (VR.string _)
 |nilFunc=>exact ag.bR (ag.type he (ag.halt _))
 |_=>cases v<;>first
  |exact hx.elim
  |exact Bool.noConfusion hx
  |(refine af.bind (af.underlying e) λm d d' g f=>?_
    obtain⟨rfl,hd⟩:=f;rw[he]at hd;cases hd;exact af.halt)
theorem af.lenOf {x v}(h:VR p x v):af P Q K p (Builtin.lenOf x) (Builtin.lenOf v) (λ_ a b=>a=b/\∀o l c,x=.slice o l c->a=l):=by
 have hx:=h.cases;unfold Builtin.lenOf
 cases x<;>cases v<;>first
  |exact hx.elim
  |exact Bool.noConfusion hx
  |exact af.halt
  |(obtain⟨_,rfl,rfl⟩:=hx;exact af.pure ⟨rfl,λ_ _ _ h=>by cases h;rfl⟩)
  |(obtain rfl:_=_:=hx;exact af.pure ⟨rfl,λ_ _ _ h=>by cases h⟩)
theorem af.len {x v}(t u)(c:(∀k e,P.underlying t≠some (.map k e))/\(∀k e,P.underlying t≠some (.chan k e)))(h:VR p x v):af P Q K p (Builtin.len_ #[t] u #[x]) (Builtin.len_ #[t] u #[v]) (λq a b=>VR q a b):=by
 unfold Builtin.len_;refine af.bind (af.underlying t) λq d d' f e=>?_
 obtain⟨rfl,hd⟩:=e;have g:=h.ext f;have hx:=g.cases;cases d with
 |map k e=>exact absurd hd (c.1 _ _)
 |chan k e=>exact absurd hd (c.2 _ _)
 |array n e=>exact af.pure (VR.int _ _)
 |pointer arr=>
  refine af.bind (af.underlying arr) λi d d' _ e=>?_
  obtain⟨rfl,_⟩:=e;cases d<;>first|exact af.pure (VR.int _ _)|exact af.halt
 |string=>cases x<;>cases v<;>first
  |exact hx.elim
  |exact Bool.noConfusion hx
  |exact af.halt
  |(obtain rfl:_=_:=hx;exact af.pure (VR.int _ _))
 |slice e=>cases x<;>cases v<;>first
  |exact hx.elim
  |exact Bool.noConfusion hx
  |exact af.halt
  |(obtain⟨_,rfl,rfl⟩:=hx;exact af.pure (VR.int _ _))
 |_=>cases x<;>cases v<;>first|exact hx.elim|exact Bool.noConfusion hx|exact af.halt
theorem aF.bytes (l:ByteArray):aF (VR p) (l.data.map λb=>Value.int .u8 b.toNat) (l.data.map λb=>Value.int .u8 b.toNat):=aF.same λv a=>by
 obtain⟨b,_,rfl⟩:=Array.mem_map.1 a;exact VR.int _ _
theorem af.firstCells0 {x v}(size)(h:VR p x v):af P Q K p (Builtin.firstCells size 0 x) (Builtin.firstCells size 0 v) (λq a b=>a= #[]/\b= #[]):=by
 have hx:=h.cases;unfold Builtin.firstCells;cases x with
 |slice a l c=>
  obtain⟨b,rfl,hb⟩:=h.bD;cases a with
  |none=>obtain rfl:=hb.aV;exact af.pure ⟨rfl,rfl⟩
  |some a=>
   obtain⟨c,rfl,hc⟩:=hb.aO;simp only[Nat.zero_mul];exact af.pure ⟨rfl,rfl⟩
 |string s=>
  obtain rfl:=h.bO;have e:(s.extract 0 0).data= #[]:=by simp
  simp only[e];exact af.pure ⟨by simp,by simp⟩
 |_=>cases v<;>first|exact hx.elim|exact Bool.noConfusion hx|exact af.halt
theorem af.firstCells {x v}(size n)(h:VR p x v)(d:∀o l c,x=.slice o l c->n<=l):af P Q K p (Builtin.firstCells size n x) (Builtin.firstCells size n v) (λq a b=>aF (VR q) a b):=by
 have hx:=h.cases;unfold Builtin.firstCells;cases x with
 |slice a l c=>
  obtain⟨b,rfl,hb⟩:=h.bD;cases a with
  |none=>obtain rfl:=hb.aV;exact af.pure aF.empty
  |some a=>
   obtain⟨c,rfl,hc⟩:=hb.aO;refine af.loadCellsS hc λg=>?_
   have f:=d _ _ _ rfl;have e:n=0:=(by omega);rw[e,Nat.zero_mul]
 |string s=>obtain rfl:=h.bO;exact af.pure (aF.bytes _)
 |_=>cases v<;>first|exact hx.elim|exact Bool.noConfusion hx|exact af.halt
theorem af.copy {x v y u}(t F C)(h:VR p x v)(z:VR p y u):af P Q K p (Builtin.copy_ #[t,F] C #[x,y]) (Builtin.copy_ #[t,F] C #[v,u]) (λq a b=>VR q a b):=by
 unfold Builtin.copy_;refine af.bind (af.underlying t) λq d d' r e=>?_
 obtain⟨rfl,hd⟩:=e;cases d with
 |slice e=>
  have E:=h.ext r;have hx:=E.cases;cases x with
  |slice a l c=>
   obtain⟨b,rfl,hb⟩:=E.bD;simp only;refine af.bind (af.lenOf (z.ext r)) λJ n m g A=>?_
   obtain⟨rfl,hlen⟩:=A;refine af.bind (af.sizeOf e) λI s s' f A=>?_
   subst A;have i:∀o k B,y=.slice o k B->Nat.min n l<=k:=λo k B hy=>by rw[<-hlen o k B hy];exact Nat.min_le_left _ _
   cases a with
   |none=>
    obtain rfl:=hb.aV;refine af.bind (af.firstCells s _ ((z.ext r).ext (g.trans f)) i) λD cs w j hcs=>?_
    exact af.pure (VR.int _ _)
   |some a=>
    obtain⟨c,rfl,hc⟩:=hb.aO;rcases hc with hc|⟨⟨rfl,_⟩,_⟩
    case inr=>
        have G:Nat.min n 0=0:=Nat.min_zero n;simp only[G];refine af.bind (af.firstCells0 s ((z.ext r).ext (g.trans f))) λD cs w j hcs=>?_
        obtain⟨rfl,rfl⟩:=hcs;exact af.pure (VR.int _ _)
    refine af.bind (af.firstCells s _ ((z.ext r).ext (g.trans f)) i) λD cs w j hcs=>?_
    refine af.bind (af.storeCells _ _ 0 (hc.mono ((g.trans f).trans j)) hcs.toList.1 hcs.toList.2) λH _ _ _ _=>af.pure (VR.int _ _)
  |_=>cases v<;>first|exact hx.elim|exact Bool.noConfusion hx|exact af.halt
 |_=>exact af.halt
theorem aF.zeroCells {z}(h:aF (VR p) z z)(n):aF (VR p) (Builtin.zeroCells z n) (Builtin.zeroCells z n):=by
 refine⟨rfl,λi x y hx hy=>?_⟩;rw[hx]at hy;cases hy;unfold Builtin.zeroCells at hx;rw[Array.getElem?_map]at hx;cases a:(Array.range (n*z.size))[i]? with
 |none=>rw[a]at hx;cases hx
 |some j=>
  rw[a]at hx;cases hx
  have c:0<z.size:=by
   have:=(ZK.1 a).1;simp at this;rcases Nat.eq_zero_or_pos z.size with b|b
   .rw[b]at this;omega
   .exact b
  have hl:j%z.size<z.size:=Nat.mod_lt _ c;show VR p (z[j%z.size]!) (z[j%z.size]!)
  rw[getElem!_pos z _ hl];exact h.2 _ _ _ (ZM hl) (ZM hl)
theorem af.append {x v y u}(t s t')(hz:ZeroEl P t)(hs:∀k,P.underlying s≠some (.int k))(h:VR p x v)(h':VR p y u):af P Q K p (Builtin.append_ #[t,s] t' #[x,y]) (Builtin.append_ #[t,s] t' #[v,u]) (λq a b=>VR q a b):=by
 unfold Builtin.append_;refine af.bind (af.underlying t) λq d d' hq e=>?_
 obtain⟨rfl,hd⟩:=e;cases d with
 |slice elem=>
  have h1:=h.ext hq;have hx:=h1.cases;cases x with
  |slice a l c=>
   obtain⟨b,rfl,hb⟩:=h1.bD;simp only;refine af.bind (af.sizeOf elem) λq1 size s' H g=>?_
   subst g;refine af.bind (af.underlying s) λq2 d d' C g=>?_
   obtain⟨rfl,Z⟩:=g;refine af.bind (A:=λ_ a b=>a=b/\a=false) (af.pure ⟨rfl,by cases d<;>first|rfl|exact absurd Z (hs _)⟩) λδ z z' E g=>?_
   obtain⟨rfl,rfl⟩:=g;replace C:=C.trans E;clear E;have hy:=((h'.ext hq).ext (H.trans C));have L:=SA.mono (H.trans C) hb;simp only[pure_bind,Z0,if_false,Bool.not_false,if_true,false_or];refine af.bind (af.lenOf hy) λq3 n m w g=>?_
   obtain⟨rfl,hlen⟩:=g;have D:∀o k O,y=.slice o k O->n<=k:=λo k O hy=>Nat.le_of_eq (hlen o k O hy)
   by_cases hle:l+n<=c
   .simp only[hle,if_true]
    cases a with
    |none=>
     obtain rfl:=L.aV;refine af.bind (af.firstCells size n (hy.ext w) D) λR new B j f=>?_
     exact af.pure (VR.slice trivial)
    |some a=>
     obtain⟨O,rfl,hc⟩:=L.aO;rcases hc with hc|⟨⟨rfl,rfl⟩,U⟩
     case inr=>
         obtain rfl:n=0:=(by omega);refine af.bind (af.firstCells0 size (hy.ext w)) λR new B j f=>?_
         obtain⟨rfl,rfl⟩:=f;exact af.pure (VR.kJ (.inr ⟨⟨rfl,rfl⟩,U⟩))
     refine af.bind (af.firstCells size n (hy.ext w) D) λR new B j f=>?_
     have J:=hc.mono (w.trans j);refine af.bind (af.storeCells _ _ 0 (J.add _) f.toList.1 f.toList.2) λq5 _ _ G _=>af.pure (VR.slice (J.mono G))
   .simp only[hle,if_false]
    refine af.bind (af.typeInfo elem) λR i i' j g=>?_
    obtain⟨rfl,_⟩:=g
    by_cases M:((l+n:Nat):Int)>IntKind.i64.max/\i.bytes=0
    .simp only[M,and_self,if_true]
     exact(ag.left (ag.runtimePanic _)).bR
    .simp only[M,if_false]
     have T:=hy.ext (w.trans j);have α:=((h1.ext (H.trans C)).ext (w.trans j));refine af.bind (af.typeInfo elem) λq5 i2 i' G g=>?_
     obtain⟨rfl,_⟩:=g;split
     .refine(ag.left (ag.bind (aY.mayShare _ _ _ _ _) λb=>?_)).bR
      split
      .exact ag.bind (aY.mark _) λ_=>ag.halt _
      .exact ag.halt _
     .refine af.bind (af.choose _) λq6 nc θ Y g=>?_
      subst g;refine af.bind (af.typeInfo elem) λq7 i3 i' X g=>?_
      obtain⟨rfl,_⟩:=g;refine af.bind (af.askRoom _) λq8 _ _ W _=>?_
      have N:=G.trans (Y.trans (X.trans W));refine af.bind (af.firstCells size l (α.ext N) λ_ _ _ h=>by cases h;exact ZL _) λq9 old β V hold=>?_
      refine af.bind (af.firstCells size n ((T.ext N).ext V) D) λη new B I f=>?_
      refine af.bind (af.zeroValue elem (hz elem hd)) λζ z z' F g=>?_
      obtain⟨rfl,S⟩:=g;refine af.bind (af.l6 elem (((hold.ext (I.trans F)).append (f.ext F)).append (aF.zeroCells (aF.cells S) _))) λε r r' γ hr=>?_
      exact af.pure (VR.slice hr.1)
  |_=>cases v<;>first|exact hx.elim|exact Bool.noConfusion hx|exact af.halt
 |_=>exact af.halt
theorem aF.mod {z}(h:aF (VR p) z z)(n)(c:n=0\/0<z.size):aF (VR p) ((Array.range n).map (z[· %z.size]!)) ((Array.range n).map (z[· %z.size]!)):=by
 refine⟨rfl,λi x y hx hy=>?_⟩;rw[hx]at hy;cases hy;rw[Array.getElem?_map]at hx;cases b:(Array.range n)[i]? with
 |none=>rw[b]at hx;cases hx
 |some j=>
  rw[b]at hx;cases hx;have d:=(ZK.1 b).1;simp at d;have a:0<z.size:=by rcases c with rfl|h<;>omega
  have hl:j%z.size<z.size:=Nat.mod_lt _ a;show VR p (z[j%z.size]!) (z[j%z.size]!)
  rw[getElem!_pos z _ hl];exact h.2 _ _ _ (ZM hl) (ZM hl)
theorem VR.default:VR p default default:=VR.bool _
theorem aF.mod' {z}(h:aF (VR p) z z)(n):aF (VR p) ((Array.range n).map (z[· %z.size]!)) ((Array.range n).map (z[· %z.size]!)):=by
 rcases Nat.eq_zero_or_pos z.size with b|b
 .refine⟨rfl,λi x y hx hy=>?_⟩
  rw[hx]at hy;cases hy;rw[Array.getElem?_map]at hx;cases a:(Array.range n)[i]? with
  |none=>rw[a]at hx;cases hx
  |some j=>
   rw[a]at hx;cases hx;show VR p (z[j%z.size]!) (z[j%z.size]!)
   rw[getElem!_neg z _ (by omega)];exact VR.default
 .exact aF.mod h n (.inr b)
theorem af.makeSlice {x v y u}(t)(B:ZeroEl P t)(h:VR p x v)(H:VR p y u):af P Q K p (Instr.makeSlice t x y) (Instr.makeSlice t v u) (λq a b=>VR q a b):=by
 unfold Instr.makeSlice;refine af.bind (af.underlying t) λq d d' o e=>?_
 obtain⟨rfl,hd⟩:=e;cases d with
 |slice elem=>
  simp only;refine af.bind (af.asInt (h.ext o)) λR n m l e=>?_
  subst e;refine af.bind (af.asInt ((H.ext o).ext l)) λO k m G e=>?_
  subst e;refine af.bind (af.typeInfo elem) λN i j F e=>?_
  obtain⟨rfl,_⟩:=e;split
  .refine ag.bR ?_
   split
   .exact ag.left (ag.runtimePanic _)
   .split
    .exact ag.left (ag.runtimePanic _)
    .exact ag.bind (aY.choose _) λ_=>ag.left (ag.runtimePanic _)
  .refine af.bind (af.askRoom _) λM _ _ E _=>?_
   refine af.bind (af.sizeOf elem) λL s s' D e=>?_
   subst e;split
   .simp only[pure_bind]
    refine af.bind (af.l6 elem (aF.mod' aF.empty _)) λA r w g f=>af.pure (VR.slice f.1)
   .refine af.bind (af.zeroValue elem (B elem hd)) λA z I g e=>?_
    obtain⟨rfl,c⟩:=e;simp only[pure_bind];refine af.bind (af.l6 elem (aF.mod' (aF.cells c) _)) λJ r w C f=>af.pure (VR.slice f.1)
 |_=>exact af.halt
end
variable {st:Prop}
section
variable {α β γ δ:Type}{P Q:Program}{K:Nat->Prop}{p:Rel st}
theorem af.clear {x v}(t i)(m:ZeroEl P t)(h:VR p x v):af P Q K p (Builtin.clear_ #[t] i #[x]) (Builtin.clear_ #[t] i #[v]) (λq a b=>VR q a b):=by
 unfold Builtin.clear_;refine af.bind (af.underlying t) λq d d' n e=>?_
 obtain⟨rfl,hd⟩:=e;have j:=h.ext n;have hx:=j.cases;have k:∀{q:Rel st},VR q (.tuple #[]) (.tuple #[]):=VR.tuple aF.empty;cases x with
 |slice a l c=>
  obtain⟨b,rfl,hb⟩:=j.bD;cases a with
  |none=>obtain rfl:=hb.aV;cases d<;>exact af.pure k
  |some a=>
   obtain⟨u,rfl,hc⟩:=hb.aO;cases l with
   |zero=>cases d<;>exact af.pure k
   |succ l=>
    have hc:=hc.resolve_right (λh=>by omega);cases d with
    |slice elem=>
     refine af.bind (af.zeroValue elem (m elem hd)) λs z o g e=>?_
     obtain⟨rfl,f⟩:=e;have hcs:=aF.zeroCells (aF.cells f) (l+1);refine af.bind (af.storeCells _ _ 0 (hc.mono g) hcs.toList.1 hcs.toList.2) λr _ _ _ _=>af.pure (VR.tuple aF.empty)
    |_=>exact ag.bR (ag.left (ag.halt _))
 |_=>cases v<;>first|exact hx.elim|exact Bool.noConfusion hx|(cases d<;>exact ag.bR (ag.left (ag.halt _)))
theorem af.sliceBound {x v}(n)(c)(h:VR p x v):af P Q K p (Instr.sliceBound x n c) (Instr.sliceBound v n c) (λ_ a b=>a=b/\a<=n):=by
 unfold Instr.sliceBound;refine af.bind (af.asIntOf h) λq a b _ e=>?_
 subst e;obtain⟨k,i⟩:=a;simp only;split
 .rename_i d
  exact af.pure ⟨rfl,by omega⟩
 .exact(ag.boundsPanic _ _ _ _).bR
def OV (p:Rel st):Option Value->Option Value->Prop
 |none,none=>True
 |some a,some b=>VR p a b
 |_,_=>False
theorem OV.ext {q}(c:Ext p q){a b}(h:OV p a b):OV q a b:=by
 cases a<;>cases b<;>first|exact h|exact VR.ext c h
theorem af.sliceBounds {g c j f}(s)(len cap)(hl:OV p g c)(k:OV p j f):af P Q K p (Instr.sliceBounds s len cap g j none) (Instr.sliceBounds s len cap c f none) (λ_ a b=>a=b/\(a.2.1=len\/a.2.1<=cap)/\a.2.2=cap):=by
 unfold Instr.sliceBounds;simp only[pure_bind,Option.isSome_none,Z0,if_false]
 have low:∀{q:Rel st} (h m:Nat),Ext p q->af P Q K q
  (do let l<-match g with
   |some v=>Instr.sliceBound v h .sliceB
   |none=>Pure.pure 0
      Pure.pure (l,h,m))
  (do let l<-match c with
   |some v=>Instr.sliceBound v h .sliceB
   |none=>Pure.pure 0
      Pure.pure (l,h,m)) (λ_ a b=>a=b/\a.2=(h,m)):=by
  intro q h m i;have d:=hl.ext i
  cases g<;>cases c<;>first
   |exact d.elim
   |exact Bool.noConfusion d
   |exact af.bind (af.pure (A:=λ_ a b=>a=b) rfl) λ_ _ _ _ e=>by subst e;exact af.pure ⟨rfl,rfl⟩
   |exact af.bind (af.sliceBound _ _ d) λ_ _ _ _ e=>by obtain⟨rfl,_⟩:=e;exact af.pure ⟨rfl,rfl⟩
 cases j<;>cases f<;>first
  |exact k.elim
  |exact Bool.noConfusion k
  |exact(low _ _ (Ext.refl _)).mono λ_ a b _ h=>by obtain⟨rfl,h⟩:=h;exact⟨rfl,.inl (by rw[h]),by rw[h]⟩
  |exact af.bind (af.sliceBound _ _ k) λq a b i e=>by obtain⟨rfl,he⟩:=e;exact(low _ _ i).mono λ_ a b _ h=>by obtain⟨rfl,h⟩:=h;exact⟨rfl,.inr (by rw[h];exact he),by rw[h]⟩
theorem SA.to {l c l' d}{a b}(h:SA p l c a b)(e:l=0/\c=0->l'=0/\d=0):SA p l' d a b:=by
 cases a<;>cases b<;>first|exact h|exact h.imp id λk=>⟨e k.1,k.2⟩
theorem SA.add {l c}{a b}(h:SA p l c a b)(n):SA p l c (a.map (·.add n)) (b.map (·.add n)):=by
 cases a<;>cases b<;>first|exact h|exact h.imp (λh=>AR.add h n) id
theorem af.sliceOp {x v}{y f A j}(t)(h:VR p x v)(hl:OV p y f)(B:OV p A j)(hp:∀e,P.underlying t≠some (.pointer e)):af P Q K p (Instr.slice t x y A none) (Instr.slice t v f j none) (λq a b=>VR q a b):=by
 unfold Instr.slice;refine af.bind (af.underlying t) λq d d' i e=>?_
 obtain⟨rfl,hd⟩:=e;have u:=h.ext i;have hx:=u.cases;cases d with
 |pointer e=>exact absurd hd (hp _)
 |slice elem=>
  cases x with
  |slice a l c=>
   obtain⟨b,rfl,hb⟩:=u.bD;refine af.bind (af.sliceBounds true l c (hl.ext i) (B.ext i)) λF r E g e=>?_
   obtain⟨rfl,n,m⟩:=e;obtain⟨w,D,C⟩:=r;simp only at n m⊢;refine af.bind (af.sizeOf elem) λG s s' o e=>?_
   subst e;have k:=SA.mono (g.trans o) hb;have z:l=0/\c=0->D-w=0/\C-w=0:=λh=>by omega
   split
   .exact af.pure (VR.kJ (k.to z))
   .exact af.pure (VR.kJ ((k.to z).add _))
  |_=>cases v<;>first|exact hx.elim|exact Bool.noConfusion hx|exact af.halt
 |string=>
  cases x with
  |string a=>
   obtain rfl:=u.bO;simp only[Option.isSome_none,Z0,if_false];refine af.bind (af.sliceBounds false _ _ (hl.ext i) (B.ext i)) λF r E g e=>?_
   obtain⟨rfl,_⟩:=e;exact af.pure (VR.string _)
  |_=>cases v<;>first|exact hx.elim|exact Bool.noConfusion hx|exact af.halt
 |_=>cases x<;>cases v<;>first|exact hx.elim|exact Bool.noConfusion hx|exact af.halt
theorem af.sliceAt {x v}{o c u i}(t)(h:VR p x v)(hl:OV p o c)(w:OV p u i)(hp:∀e,P.underlying t≠some (.pointer e)):af P Q K p (Instr.sliceAt t x o u none) (Instr.sliceAt t v c i none) (λq a b=>VR q a b):=by
 unfold Instr.sliceAt;refine af.bind (af.underlying t) λq d d' g e=>?_
 obtain⟨rfl,hd⟩:=e;have y:=h.ext g;cases d with
 |array n elem=>
  refine af.bind (af.sureAddr y) λF a b f m=>?_
  refine af.bind (af.sliceBounds false n n (hl.ext (g.trans f)) (w.ext (g.trans f))) λE r C l e=>?_
  obtain⟨rfl,_⟩:=e;obtain⟨B,A,z⟩:=r;simp only;refine af.bind (af.sizeOf elem) λD s s' k e=>?_
  subst e;have j:=m.mono (l.trans k);refine af.pure (VR.slice ?_);split
  .exact j
  .exact j.add _
 |_=>exact af.sliceOp t y (hl.ext g) (w.ext g) hp
theorem aF.set {a b}(h:aF (VR p) a b)(i){x y}(d:VR p x y):aF (VR p) (a.setIfInBounds i x) (b.setIfInBounds i y):=by
 refine⟨by simp[h.1],λj s t hs c=>?_⟩;rw[Array.getElem?_setIfInBounds]at hs c;split at hs
 .rename_i e
  rw[if_pos e]at c;rw[<-h.1]at c;split at hs
  .rename_i f
   rw[if_pos f]at c;cases hs;cases c;exact d
  .cases hs
 .rename_i e
  rw[if_neg e]at c;exact h.2 j s t hs c
theorem aF.foldSet (o):∀(l m:List (Value×Nat)) {a b:Array Value},l.map (·.2)=m.map (·.2)->(∀(i:Nat) x y,l[i]? =some x->m[i]? =some y->VR p x.1 y.1)->aF (VR p) a b->
 aF (VR p) (l.foldl (λcs x=>cs.setIfInBounds (o+x.2) x.1) a) (m.foldl (λcs x=>cs.setIfInBounds (o+x.2) x.1) b)
 |[],[],a,b,_,_,h=>h
 |[],_::_,_,_,hl,_,_=>by simp at hl
 |_::_,[],_,_,hl,_,_=>by simp at hl
 |x::l,y::m,a,b,hl,c,h=>by
  simp only[List.map_cons,List.cons.injEq]at hl;simp only[List.foldl_cons];rw[hl.1];exact aF.foldSet o l m hl.2 (λi s t hs d=>c (i+1) s t (by simpa using hs) (by simpa using d)) (h.set _ (c 0 x y rfl rfl))
def kW (p:Rel st)(l m:List (Nat×Value)):Prop:=l.map (·.1)=m.map (·.1)/\∀(i:Nat) x y,l[i]? =some x->m[i]? =some y->VR p x.2 y.2
def OAR (p:Rel st):Option (Array Value)->Option (Array Value)->Prop
 |none,none=>True
 |some c,some d=>aF (VR p) c d
 |_,_=>False
theorem fill_rel (place):∀(l m:List (Nat×Value)) {a b:Array Value},kW p l m->aF (VR p) a b->OAR p (Instr.fill place a l) (Instr.fill place b m)
 |[],[],a,b,_,h=>h
 |[],_::_,_,_,hl,_=>by have:=hl.1;simp at this
 |_::_,[],_,_,hl,_=>by have:=hl.1;simp at this
 |(i,x)::l,(j,y)::m,a,b,hl,h=>by
  have u:=hl.1;simp only[List.map_cons,List.cons.injEq]at u;obtain⟨rfl,v⟩:=u;have n:VR p x y:=hl.2 0 _ _ rfl rfl;have hc:=aF.cells n;simp only[Instr.fill];cases place i with
  |none=>trivial
  |some o=>
   obtain⟨off,size⟩:=o;simp only;rw[hc.1,h.1]
   by_cases e:(decide (y.cells.size≠size)||decide (off+y.cells.size>b.size))=true
   .rw[if_pos e,if_pos e];trivial
   .rw[if_neg e,if_neg e]
    refine fill_rel place l m ⟨v,λk s t hs f=>hl.2 (k+1) s t (by simpa using hs) (by simpa using f)⟩ ?_
    have key:∀(c d:Array Value),aF (VR p) c d->aF (VR p) (c.zipIdx.foldl (λcs x=>cs.setIfInBounds (off+x.2) x.1) a) (d.zipIdx.foldl (λcs x=>cs.setIfInBounds (off+x.2) x.1) b):=by
     intro c d g;rw[<-Array.foldl_toList,<-Array.foldl_toList];refine aF.foldSet off _ _ ?_ ?_ h
     .simp[g.1]
     .intro k s t hs f
      simp only[Array.toList_zipIdx]at hs f;rw[List.getElem?_zipIdx]at hs f;cases r:c.toList[k]? with
      |none=>rw[r]at hs;cases hs
      |some s1=>cases q:d.toList[k]? with
       |none=>rw[q]at f;cases f
       |some t1=>
        rw[r]at hs;rw[q]at f;cases hs;cases f;exact g.toList.2 k _ _ r q
    exact key _ _ hc
end
variable {st:Prop}
section
variable {α β γ δ:Type}{P Q:Program}{K:Nat->Prop}{p:Rel st}
def jO (P:Program):Nat->TypeId->Bool
 |0,_=>false
 |d+1,t=>match P.underlying t with
  |some (.int _)|some .bool|some .string=>true
  |some (.struct fields)=> !P.stoodInHeld t&&fields.all λf=>jO P d f.type
  |some (.array _ e)=>jO P d e
  |_=>false
theorem af.forList {ρ c}(f g)(p₀):∀(l:List ρ) (s:c) {p:Rel st},Ext p₀ p->(∀q r s,r∈l->Ext p₀ q->af P Q K q (f r s) (g r s) (λ_ a b=>a=b))->af P Q K p (forIn l s f) (forIn l s g) (λ_ a b=>a=b)
 |[],s,p,_,_=>by simp only[List.forIn_nil];exact af.pure rfl
 |r::l,s,p,hp,h=>by
  simp only[List.forIn_cons];refine af.bind (h p r s (by simp) hp) λq a b i e=>?_
  subst e;cases a with
  |done s=>exact af.pure rfl
  |yield s=>exact af.forList f g p₀ l s (hp.trans i) λq r s d=>h q r s (by simp[d])
theorem af.jA:∀(d n:Nat) (t:TypeId) {p:Rel st} {x y v u:Value},jO P d t=true->VR p x v->VR p y u->af P Q K p (Op.equalIn n t x y) (Op.equalIn n t v u) (λ_ a b=>a=b)
 |0,_,_,_,_,_,_,_,hf,_,_=>by cases hf
 |d+1,0,_,_,_,_,_,_,_,_,_=>af.halt
 |d+1,n+1,t,p,x,y,v,u,hf,h,k=>by
  unfold jO at hf;split at hf
  .rename_i k' j;exact af.equalInt _ t j h k
  .rename_i j;exact af.equalBool _ t j h k
  .rename_i j
   unfold Op.equalIn;refine af.bind (af.underlying t) λq dd d' l e=>?_
   obtain⟨rfl,hd⟩:=e;rw[j]at hd;cases hd;have hx:=(h.ext l).cases;have hy:=(k.ext l).cases
   cases x<;>cases v<;>first
    |exact hx.elim
    |exact Bool.noConfusion hx
    |(cases y<;>cases u<;>first
         |exact hy.elim
         |exact Bool.noConfusion hy
         |(obtain rfl:_=_:=hx;obtain rfl:_=_:=hy;exact af.pure rfl)
         |exact af.halt)
  .rename_i fields j
   rw[ZQ]at hf;obtain⟨hs,hf⟩:=hf;have C:P.stoodInHeld t=false:=by simpa using hs
   unfold Op.equalIn;refine af.bind (af.underlying t) λq dd d' l e=>?_
   obtain⟨rfl,hd⟩:=e;rw[j]at hd;cases hd;have hx:=(h.ext l).cases;have hy:=(k.ext l).cases
   cases x<;>cases v<;>first
    |exact hx.elim
    |exact Bool.noConfusion hx
    |exact af.halt
    |(cases y<;>cases u<;>first|exact hy.elim|exact Bool.noConfusion hy|exact af.halt|skip)
   rename_i xs vs ys us;refine af.twin λJ=>af.bind af.program λB s s' g e=>?_
   rw[e.1,e.2,J.stoodInHeld,C];simp only[Z0,if_false,pure_bind];refine af.bind (A:=λ_ a b=>a=b) ?_ λz a b c e=>?_
   .rw[<-Array.forIn_toList,<-Array.forIn_toList]
    refine af.forList _ _ B _ _ (Ext.refl _) λz f s w c=>?_
    have E:jO P d f.type=true:=by
     have:=Array.all_eq_true'.1 hf f (by simpa using w);exact this
    by_cases I:f.name≠ "_"
    .simp only[if_pos I]
     refine af.bind (af.part f.type (hx.ext (g.trans c)) f.offset) λO a b o H=>?_
     refine af.bind (af.part f.type (hy.ext (g.trans (c.trans o))) f.offset) λN a' R m G=>?_
     refine af.bind (af.jA d n f.type E (H.ext m) G) λM r L D F=>?_
     subst F;cases r<;>exact af.pure rfl
    .simp only[if_neg I]
     exact af.pure rfl
   .subst e
    obtain⟨r,s⟩:=a;cases r<;>exact af.pure rfl
  .rename_i len elem j
   unfold Op.equalIn;refine af.bind (af.underlying t) λq dd d' l e=>?_
   obtain⟨rfl,hd⟩:=e;rw[j]at hd;cases hd;have hx:=(h.ext l).cases;have hy:=(k.ext l).cases
   cases x<;>cases v<;>first
    |exact hx.elim
    |exact Bool.noConfusion hx
    |exact af.halt
    |(cases y<;>cases u<;>first|exact hy.elim|exact Bool.noConfusion hy|exact af.halt|skip)
   rename_i xs vs ys us;refine af.bind (af.sizeOf elem) λB s s' g e=>?_
   subst e;refine af.bind (A:=λ_ a b=>a=b) ?_ λz a b c e=>?_
   .simp only[Std.Legacy.Range.forIn_eq_forIn_range']
    refine af.forList _ _ B _ _ (Ext.refl _) λz i st w c=>?_
    refine af.bind (af.part elem (hx.ext (g.trans c)) _) λO a b o H=>?_
    refine af.bind (af.part elem (hy.ext (g.trans (c.trans o))) _) λN a' R m G=>?_
    refine af.bind (af.jA d n elem hf (H.ext m) G) λM r L D F=>?_
    subst F;cases r<;>exact af.pure rfl
   .subst e
    obtain⟨r,s⟩:=a;cases r<;>exact af.pure rfl
  .cases hf
theorem af.eqGuardNil (n)(t):af P Q K p (Op.eqGuardIn n t .nilIface .nilIface) (Op.eqGuardIn n t .nilIface .nilIface) (λ_ a b=>a=b):=by
 cases n with
 |zero=>exact af.halt
 |succ n=>
  unfold Op.eqGuardIn;refine af.bind (af.underlying t) λq d d' c e=>?_
  obtain⟨rfl,hd⟩:=e;cases d<;>exact af.pure rfl
theorem af.eqGuardFlat {x y v u}(op)(t)(a b)(j:P.eqGuardType P.depth t=false)(h:VR p x v)(k:VR p y u):af P Q K p (Go.eqGuard op t a b x y) (Go.eqGuard op t a b v u) (λ_ _ _=>True):=by
 have hx:=h.cases;have hy:=k.cases;unfold Go.eqGuard
 have f:∀{q:Rel st} (c:Bool),af P Q K q
  (if c then(Pure.pure ():Sem Unit)else do
        if<-Op.eqGuardIn Op.maxDepth t .nilIface .nilIface then unsupported (.noEntry "binop/eql: two nil values of an interface type with methods, neither of them the literal nil"))
  (if c then(Pure.pure ():Sem Unit)else do
        if<-Op.eqGuardIn Op.maxDepth t .nilIface .nilIface then unsupported (.noEntry "binop/eql: two nil values of an interface type with methods, neither of them the literal nil")) (λ_ _ _=>True):=by
  intro q c;cases c with
  |true=>exact af.pure trivial
  |false=>
   refine af.bind (af.eqGuardNil _ t) λl c d _ e=>?_
   subst e;cases c with
   |true=>exact af.halt
   |false=>exact af.pure trivial
 have g:∀{q:Rel st} (xs ys vs us:Array Value),af P Q K q
  (do if !(<-Go.program).eqGuardType (<-Go.program).depth t then return
      if<-Op.eqGuardIn Op.maxDepth t (.agg xs) (.agg ys)then unsupported (.noEntry "binop/eql: two nil values of an interface type with methods, in a part of a struct or an array"))
  (do if !(<-Go.program).eqGuardType (<-Go.program).depth t then return
      if<-Op.eqGuardIn Op.maxDepth t (.agg vs) (.agg us)then unsupported (.noEntry "binop/eql: two nil values of an interface type with methods, in a part of a struct or an array")) (λ_ _ _=>True):=by
  intro q xs ys vs us;refine af.twin λi=>af.bind af.program λq s s' _ e=>?_
  rw[e.1,e.2];refine af.bind af.program λq s s' _ e=>?_
  rw[e.1,e.2,i.eqGuardType,j];exact af.pure trivial
 cases op<;>first
  |exact af.pure trivial
  |(cases x<;>cases v<;>first
       |exact hx.elim
       |exact Bool.noConfusion hx
       |(cases y<;>cases u<;>first
        |exact hy.elim
        |exact Bool.noConfusion hy
        |exact af.pure trivial
        |exact f _
        |exact g _ _ _ _))
theorem mR (d n)(t){x y}(hf:jO P d t=true)(h:isIface x):ag P (Op.equalIn n t x y):=by
 cases d with
 |zero=>cases hf
 |succ d=>
  cases n with
  |zero=>exact ag.halt _
  |succ n=>
   unfold jO at hf;split at hf
   .rename_i k' a;exact iX _ t (.inl ⟨_,a⟩) h
   .rename_i a;exact iX _ t (.inr (.inl a)) h
   .rename_i a
    unfold Op.equalIn;refine ag.type a ?_;cases x<;>first|exact h.elim|(cases y<;>exact ag.halt _)
   .rename_i fields a
    unfold Op.equalIn;refine ag.type a ?_;cases x<;>first|exact h.elim|(cases y<;>exact ag.halt _)
   .rename_i len elem a
    unfold Op.equalIn;refine ag.type a ?_;cases x<;>first|exact h.elim|(cases y<;>exact ag.halt _)
   .cases hf
theorem never_binFlat {x y}(d)(op)(t)(c:jO P d t=true)(h:isIface x):ag P (binOp op t x y):=by
 have b:∀y,ag P (do Pure.pure (.bool (<-Op.equal t x y)):Sem Value):=λy=>ag.left (mR d _ t c h)
 have a:∀y,ag P (do Pure.pure (.bool (!(<-Op.equal t x y))):Sem Value):=λy=>ag.left (mR d _ t c h)
 cases x<;>first|exact h.elim|skip
 cases y<;>cases op<;>first|exact ag.halt _|exact b _|exact a _
theorem lI (d n)(t){x}(hf:jO P d t=true):ag P (Op.equalIn n t x .nilFunc):=by
 cases d with
 |zero=>cases hf
 |succ d=>
  cases n with
  |zero=>exact ag.halt _
  |succ n=>
   unfold jO at hf;split at hf
   .rename_i k' a;exact iw _ t (.inl ⟨_,a⟩)
   .rename_i a;exact iw _ t (.inr (.inl a))
   .rename_i a
    unfold Op.equalIn;refine ag.type a ?_;cases x<;>exact ag.halt _
   .rename_i fields a
    unfold Op.equalIn;refine ag.type a ?_;cases x<;>exact ag.halt _
   .rename_i len elem a
    unfold Op.equalIn;refine ag.type a ?_;cases x<;>exact ag.halt _
   .cases hf
theorem never_binFlatR {x}(d)(op)(t)(e:op=.eql\/op=.neq)(c:jO P d t=true):ag P (binOp op t x .nilFunc):=by
 have b:∀x,ag P (do Pure.pure (.bool (<-Op.equal t x .nilFunc)):Sem Value):=λx=>ag.left (lI d _ t c)
 have a:∀x,ag P (do Pure.pure (.bool (!(<-Op.equal t x .nilFunc))):Sem Value):=λx=>ag.left (lI d _ t c)
 rcases e with rfl|rfl<;>cases x<;>first|exact b _|exact a _
theorem af.binFlat {x y v u}(d)(op)(t)(l:op=.eql\/op=.neq)(n:jO P d t=true)(h:VR p x v)(f:VR p y u):af P Q K p (binOp op t x y) (binOp op t v u) (λq a b=>VR q a b):=by
 have hx:=h.cases;have c:=f.cases
 have eqv:af P Q K p (do Pure.pure (.bool (<-Op.equal t x y))) (do Pure.pure (.bool (<-Op.equal t v u))) (λq a b=>VR q a b):=
  af.bind (A:=λ_ a b=>a=b) (af.jA d _ t n h f) λq a b _ e=>by subst e;exact af.pure (VR.bool _)
 have o:af P Q K p (do Pure.pure (.bool (!(<-Op.equal t x y)))) (do Pure.pure (.bool (!(<-Op.equal t v u)))) (λq a b=>VR q a b):=
  af.bind (A:=λ_ a b=>a=b) (af.jA d _ t n h f) λq a b _ e=>by subst e;exact af.pure (VR.bool _)
 have k:∀(k1 m:IntKind) (a b:Int),af P Q K p (binOp op t (.int k1 a) (.int m b)) (binOp op t (.int k1 a) (.int m b)) (λq a b=>VR q a b):=by
  intro k1 m a b
  by_cases f:k1≠m
  .rcases l with rfl|rfl<;>(simp only[binOp,if_pos f];exact af.halt)
  .rcases l with rfl|rfl<;>(simp only[binOp,if_neg f];exact af.intCmp _ _ _)
 have g:∀(a b:ByteArray),af P Q K p (binOp op t (.string a) (.string b)) (binOp op t (.string a) (.string b)) (λq a b=>VR q a b):=by
  intro a b;rcases l with rfl|rfl<;>(simp only[binOp,Op.stringOp];exact af.pure (VR.bool _))
 have j:isIface x->af P Q K p (binOp op t x y) (binOp op t v u) (λq a b=>VR q a b):=λr=>ag.bR (never_binFlat d op t n r)
 have i:y=.nilFunc->af P Q K p (binOp op t x y) (binOp op t v u) (λq a b=>VR q a b):=λr=>by
  subst r;exact ag.bR (never_binFlatR d op t l n)
 cases x<;>cases v<;>first
  |exact hx.elim
  |exact j trivial
  |exact Bool.noConfusion hx
  |(cases y<;>cases u<;>first
       |exact c.elim
       |exact i rfl
       |exact Bool.noConfusion c
       |(obtain⟨rfl,rfl⟩:=hx;obtain⟨rfl,rfl⟩:=c;exact k _ _ _ _)
       |(obtain rfl:_=_:=hx;obtain rfl:_=_:=c;exact g _ _)
       |(rcases l with rfl|rfl
         .exact eqv
         .exact o))
end
end
