/- Part 8 of the proof. -/
import Derived.Test.YtfpaamhppamcoaaGreatDoorSp7
set_option linter.all false
namespace Go.Proofs.YtfpaamhppamcoaaGreatDoor
section
open Go
variable {st:Prop}
section
variable {fns:List Nat}{α β γ δ:Type}{P Q:Program}{K:Nat->Prop}{p:Rel st}
theorem isPtr_ok {t}(h:nS P t=true):∃e,P.underlying t=some (.pointer e):=by
 unfold nS at h;split at h
 .rename_i e;exact⟨_,e⟩
 .cases h
theorem isSlice_ok {t}(h:isSlice P t=true):∃e,P.underlying t=some (.slice e):=by
 unfold isSlice at h;split at h
 .rename_i e;exact⟨_,e⟩
 .cases h
theorem isStr_ok {t}(h:isStr P t=true):P.underlying t=some .string:=by
 unfold isStr at h;split at h
 .rename_i e;exact e
 .cases h
theorem isInt_ok {t}(h:isInt P t=true):∃k,P.underlying t=some (.int k):=by
 unfold isInt at h;split at h
 .rename_i e;exact⟨_,e⟩
 .cases h
theorem isUnsafe_ok {t}(h:isUnsafe P t=true):P.underlying t=some .unsafePointer:=by
 unfold isUnsafe at h;split at h
 .rename_i e;exact e
 .cases h
theorem isIfaceT_ok {t}(h:nT P t=true):∃ms,P.underlying t=some (.interface ms):=by
 unfold nT at h;split at h
 .rename_i e;exact⟨_,e⟩
 .cases h
theorem af.equalNilIface {x v}(n)(t){ms}(c:P.underlying t=some (.interface ms))(h:VR p x v):af P Q K p (Op.equalIn n t x .nilIface) (Op.equalIn n t v .nilIface) (λ_ a b=>a=b):=by
 cases n with
 |zero=>exact af.halt
 |succ n=>
  unfold Op.equalIn;refine af.bind (af.underlying t) λq d d' f e=>?_
  obtain⟨rfl,hd⟩:=e;rw[c]at hd;cases hd;have hx:=h.cases;cases x with
  |nilIface=>cases v<;>first|exact hx.elim|exact af.pure rfl
  |iface a b=>cases v<;>first|exact hx.elim|exact af.pure rfl
  |_=>exact ag.bR (ag.halt _)
theorem af.binNilIface {x v}(op)(t){ms}(c:P.underlying t=some (.interface ms))(d:op=.eql\/op=.neq)(h:VR p x v):af P Q K p (binOp op t x .nilIface) (binOp op t v .nilIface) (λq a b=>VR q a b):=by
 have he:af P Q K p (Op.equal t x .nilIface) (Op.equal t v .nilIface) (λ_ a b=>a=b):=af.equalNilIface _ t c h
 exact binEq_by (R:=λs s'=>af P Q K p s s' (λq a b=>VR q a b)) (λ_ _ h=>h) op t d h VR.nilIface (λe=>iq (.inr ⟨_,c⟩) d (.inl e)) (λe=>by cases e)
  (af.bind he λq a b _ e=>by subst e;exact af.pure (VR.bool _)) (af.bind he λq a b _ e=>by subst e;exact af.pure (VR.bool _))
theorem af.nP {ext rx:List Nat}(N:dM P)(hp:gL fns P Q)(hx:ExtOk ext P Q)(F:fU rx P Q){r s:Operand->Value}(c:Call)(t:TypeId)(D:nP P fns ext rx c=true)(h:∀x,aA x=true->VR p (r x) (s x))(o:∀g,r (.func g)=.func (.func g) #[] #[]/\s (.func g)=.func (.func g) #[] #[]):
 af P Q K p (do let d<-resolve r c t;invoke d.target d.args) (do let d<-resolve s c t;invoke d.target d.args) (NR fns):=by
 obtain⟨callee,args,argTypes⟩:=c;unfold Go.Proofs.YtfpaamhppamcoaaGreatDoor.nP at D;rw[ZQ]at D;obtain⟨z,i⟩:=D;have j:=aF.kD h z;cases callee with
 |value f=>
  cases f with
  |func g=>
   have I:g∈ext:=by simpa using i
   have e:∀r:Operand->Value,(do let d<-resolve r ⟨.value (.func g),args,argTypes⟩ t;invoke d.target d.args)=(do let d<-Deferred.ofValue (r (.func g)) (args.map r);invoke d.target d.args):=λ_=>rfl
   rw[e r,e s,(o g).1,(o g).2];refine af.bind (A:=λq d e=>d.target=.fn (.func g) #[]/\d.args= #[]++args.map r/\e.target=.fn (.func g) #[]/\e.args= #[]++args.map s) (af.pure ⟨rfl,rfl,rfl,rfl⟩) λq d e G he=>?_
   obtain⟨M,C,B,L⟩:=he;rw[M,C,B,L];exact af.callExt hx I (((aF.empty.append j).append aF.empty).ext G)
  |_=>cases i
 |invoke x name=>
  rw[ZQ]at i;have y:=h x i.1;have e:∀r:Operand->Value,(do let d<-resolve r ⟨.invoke x name,args,argTypes⟩ t;invoke d.target d.args)=Go.invoke (.fn (.method name) #[]) (#[r x]++args.map r):=λ_=>rfl
  rw[e r,e s]
  have C:∀(v:Value) (a:Array Value),Go.invoke (.fn (.method name) #[]) (#[v]++a)=Go.callMethod v name ((#[v]++a).extract 1 (#[v]++a).size):=λv a=>by
   have J:(#[v]++a)[0]? =some v:=(by simp[Array.getElem?_append]);unfold Go.invoke;rw[J]
  have B:∀(v:Value) (a:Array Value),(#[v]++a).extract 1 (#[v]++a).size=a:=λv a=>by simp
  rw[C,C,B,B];rcases Bool.or_eq_true_iff.1 i.2 with m|m
  .exact af.callMethod hp m y j
  .simp only[ZQ,beq_iff_eq]at m
   obtain⟨n,u,E⟩:=m;obtain rfl:args= #[]:=Array.eq_empty_of_size_eq_zero n;simpa using af.callMethodR hp u E F y
 |builtin b=>
  have e:∀(r:Operand->Value),(do let d<-resolve r ⟨.builtin b,args,argTypes⟩ t;invoke d.target d.args)=builtin b argTypes t (args.map fun|.const _=>true|_=>false) (args.map r):=λr=>rfl
  rw[e r,e s];cases b with
  |cap=>
   simp only[ZQ,beq_iff_eq]at i;obtain⟨⟨m,n⟩,u⟩:=i;obtain⟨a,rfl⟩:=ji m;obtain⟨ty,rfl⟩:=ji n;have y:VR p (r a) (s a):=h a (by simpa using z);have m1:∀f:Operand->Value,(#[a]:Array Operand).map f= #[f a]:=λf=>by simp
   rw[m1 r,m1 s];exact af.bB (af.cap ty t (isSlice_ok (by simpa using u)) y)
  |append=>
   simp only[ZQ,beq_iff_eq]at i;obtain⟨⟨⟨m,n⟩,u⟩,E⟩:=i;obtain⟨a,b,rfl⟩:=array2 m;obtain⟨ty,w,rfl⟩:=array2 n;have l:aA a=true/\aA b=true:=by simpa using z
   have m2:∀f:Operand->Value,(#[a,b]:Array Operand).map f= #[f a,f b]:=λf=>by simp
   rw[m2 r,m2 s];obtain⟨k,H⟩:=isInt_ok (P:=P) (t:=w) (by simpa using E);exact af.bB (af.appendZeros ty w t (elT_ok (by simpa using u)) H (h a l.1) (h b l.2))
  |unsafeString=>
   simp only[ZQ,beq_iff_eq]at i;obtain⟨m,n⟩:=i;obtain⟨a,b,rfl⟩:=array2 m;obtain⟨ty,w,rfl⟩:=array2 n;have l:aA a=true/\aA b=true:=by simpa using z
   have m2:∀f:Operand->Value,(#[a,b]:Array Operand).map f= #[f a,f b]:=λf=>by simp
   rw[m2 r,m2 s];exact af.bB (af.unsafeString ty w t (h a l.1) (h b l.2))
  |_=>cases i
theorem af.execMore {ext rx}(B:dM P)(hp:gL fns P Q)(hx:ExtOk ext P Q)(C:fU rx P Q){r s}(o)(d:nO P fns ext rx o=true)(h:∀x,aA x=true->VR p (r x) (s x))(A:∀v,r (.const v)=v/\s (.const v)=v)(z:∀g,r (.func g)=.func (.func g) #[] #[]/\s (.func g)=.func (.func g) #[] #[]):af P Q K p (Go.execOp r o) (Go.execOp s o) (NR fns):=by
 obtain⟨dst,op,type,pos,after,guard⟩:=o;unfold Go.execOp;cases op with
 |makeInterface t x=>
  simp only[nO,ZQ]at d;exact af.bB (af.makeInterface t d.1 (h x d.2))
 |panic x=>exact af.bB (af.panic (h x d))
 |typeAssert x t u ok=>
  simp only[nO,ZQ,Bool.not_eq_true']at d;obtain⟨rfl,i,j,f⟩:=d;exact af.bB (af.typeAssert t u (zeroT_ok j) f (h x i))
 |binOp op t x y D=>
  simp only[nO,ZQ,Bool.or_eq_true]at d;obtain⟨i,j,f⟩:=d;rcases f with⟨f,k⟩|⟨⟨f,k⟩,n⟩
  .have w:op=.add:=by cases op<;>first|rfl|cases f
   subst w;exact af.bB (af.bind (af.eqGuardAdd t x y) λq _ _ l _=>af.addStr t (isStr_ok k) ((h x i).ext l) ((h y j).ext l))
  .obtain⟨ms,hm⟩:=isIfaceT_ok k
   have he:op=.eql\/op=.neq:=by cases op<;>first|exact .inl rfl|exact .inr rfl|cases f
   have hy:y=.const .nilIface:=by
        split at n
        .rfl
        .cases n
   subst hy;simp only[(A _).1,(A _).2];exact af.bB (af.bind (af.eqGuardRef op t x _ (.inr ⟨_,hm⟩) (h x i) VR.nilIface) λq _ _ l _=>af.binNilIface op t hm he ((h x i).ext l))
 |convert a b x=>
  simp only[nO,ZQ,Bool.or_eq_true]at d;obtain⟨i,⟨j,f⟩|⟨j,f⟩⟩:=d
  .obtain⟨e,he⟩:=isPtr_ok j
   exact af.bB (af.pO a b (h x i) (.inl ⟨e,he,isUnsafe_ok f⟩))
  .obtain⟨e,he⟩:=isPtr_ok f
   exact af.bB (af.pO a b (h x i) (.inr ⟨e,isUnsafe_ok j,he⟩))
 |slice t x E F mx=>
  cases mx with
  |none=>cases d
  |some m=>
   simp only[nO,ZQ]at d;obtain⟨⟨⟨⟨i,j⟩,f⟩,k⟩,n⟩:=d;exact af.bB (af.slice3 t (isSlice_ok n) (h x i) (OV.kD h j) (OV.kD h f) (h m k))
 |call c=>exact af.nP B hp hx C c _ d h z
 |_=>cases d
theorem af.overlaps (G:∀c,¬K c)(ps rs){x v}(h:aF (VR p) x v):af P Q K p (Extern.SlicesOverlaps.overlaps ps rs x) (Extern.SlicesOverlaps.overlaps ps rs v) (λq a b=>VR q a b):=by
 obtain⟨N⟩:=x;obtain⟨O⟩:=v;have B:N.length=O.length:=h.1
 match N,O,B with
 |[],[],_=>exact ag.bR (ag.halt _)
 |[x],[v],_=>exact ag.bR (by cases x<;>exact ag.halt _)
 |x::y::z::r,v::u::s::t,_=>exact ag.bR (by cases x<;>cases y<;>exact ag.halt _)
 |[x,y],[v,u],_=>
  have hx:VR p x v:=h.2 0 x v rfl rfl;have hy:VR p y u:=h.2 1 y u rfl rfl;cases x with
  |slice a la ca=>
   obtain⟨a',rfl,R⟩:=hx.bD;cases y with
   |slice b A cb=>
    obtain⟨M,rfl,hb⟩:=hy.bD;unfold Extern.SlicesOverlaps.overlaps;cases ps[0]? with
    |none=>exact ag.bR (ag.halt _)
    |some t=>
    refine af.bind (af.underlying t) λq d d' o e=>?_
    obtain⟨rfl,_⟩:=e;cases d with
    |slice elem=>
     refine af.bind (af.sizeOf elem) λT n n' g e=>?_
     subst e;cases a with
     |none=>obtain rfl:=R.aV;exact af.pure (VR.bool _)
     |some a=>
      obtain⟨a',rfl,F⟩:=R.aO;cases b with
      |none=>obtain rfl:=hb.aV;exact af.pure (VR.bool _)
      |some b=>
       obtain⟨M,rfl,E⟩:=hb.aO;show af P Q K T (if la=0\/A=0\/n=0 then _ else _) (if la=0\/A=0\/n=0 then _ else _) _
       by_cases k:la=0\/A=0\/n=0
       .rw[if_pos k,if_pos k];exact af.pure (VR.bool _)
       .rw[if_neg k,if_neg k]
        have L:AR p a a':=F.resolve_right λh=>k (.inl h.1.1)
        have J:AR p b M:=E.resolve_right λh=>k (.inr (.inl h.1.1))
        refine af.given fun⟨w,u,hw⟩=>?_
        have k1:=AR.iM hw (L.mono (o.trans g)) (J.mono (o.trans g));have U:(a.block !=b.block)=(a'.block !=M.block):=(by simp only[bne,k1]);rw[<-U,<-k1,<-L.2.1,<-J.2.1];have g1:=L.mono (o.trans g);have g2:=J.mono (o.trans g);refine af.bind (af.frozen G g1) λq2 x Y f W=>?_
        subst W;refine af.bind (af.frozen G (g2.mono f)) λq3 y X j V=>?_
        subst V
        by_cases I:(a.block !=b.block)=true
        .have D:(a.block==b.block)=false:=by simpa[bne] using I
         simp only[I,D,Bool.true_and,Bool.false_and,if_true]
         by_cases i:(x&&y)=true
         .rw[if_pos i];exact ag.bR (ag.halt _)
         .rw[if_neg i,if_neg i]
          refine af.bind (af.noView (g1.mono (f.trans j))) λq4 _ _ l _=>?_
          refine af.bind (af.noView (g2.mono ((f.trans j).trans l))) λq5 _ _ C _=>?_
          have S:=(f.trans j).trans (l.trans C);refine af.bind (af.mayBeOne G (g1.mono S) (g2.mono S)) λZ m m' _ e=>?_
          subst e;split
          .exact af.bind (af.choose _) λ_ _ _ _ e=>by subst e;exact af.pure (VR.bool _)
          .exact af.pure (VR.bool _)
        .have H:(a.block !=b.block)=false:=by simpa using I
         simp only[H,Bool.false_and,Z0,if_false];exact af.pure (VR.bool _)
    |_=>exact ag.bR (ag.halt _)
   |_=>exact ag.bR (ag.halt _)
  |_=>exact ag.bR (ag.halt _)
def dw (l:List Nat)(P Q:Program):Prop:=∀g∈l,∃e,j5 P g e/\j5 Q g e/\(∀(st:Prop) (K:Nat->Prop) (p:Rel st) (a b:Array Value),(∀c,¬K c)->aF (VR p) a b->af P Q K p (e a) (e b) (λq x y=>VR q x y))/\
 ∀(st:Prop) (K:Nat->Prop) (p:Rel st) (a b:Array Value),aF (VR p) a b->bC P Q K p (e a) (e b) (λq x y=>VR q x y)
theorem bC.of_runT {s s'}{t f}{A:Rel st->α->β->Prop}(h:bC P Q K p s' f A)(e:∀w es,s.runT P w es=s'.runT P w es)(l:∀w es,t.runT Q w es=f.runT Q w es):bC P Q K p s t A:=by
 intro g w u es fs hw;obtain⟨⟨hm,hl⟩,T,k⟩:=h g w u es fs hw;refine⟨⟨λj w' c d=>hm j w' c (by rw[<-e];exact d),?_⟩,T,λa w' c d=>?_⟩
 .unfold Local at hl⊢
  simp only[e];exact hl
 .obtain⟨q,b,u',new,k1,i⟩:=k a w' c (by rw[<-e];exact d)
  exact⟨q,b,u',new,by rw[l];exact k1,i⟩
theorem af.callHard {l}(hx:dw l P Q)(i:∀c,¬K c){g}(f:g∈l){a b}(h:aF (VR p) a b):af P Q K p (Go.callFunc g a) (Go.callFunc g b) (NR fns):=by
 obtain⟨e,m,k,j,_⟩:=hx g f;refine af.of_runT ?_ (dY m a) (dY k b);refine af.bind (af.mark _ trivial) λq _ _ d _=>?_
 exact af.bB (j _ _ _ _ _ i (h.ext d))
theorem bC.bB {s t}(h:bC P Q K p s t (λq a b=>VR q a b)):bC P Q K p (do Pure.pure (Next.value (<-s))) (do Pure.pure (Next.value (<-t))) (NR fns):=bC.map h λ_ _ _ e=>e
theorem bC.callHard {l}(hx:dw l P Q){g}(d:g∈l){a b}(h:aF (VR p) a b):bC P Q K p (Go.callFunc g a) (Go.callFunc g b) (NR fns):=by
 obtain⟨e,j,i,_,f⟩:=hx g d;refine bC.of_runT ?_ (dY j a) (dY i b);refine bC.after (af.mark _ trivial) λq _ _ c _=>?_
 exact bC.bB (f _ _ _ _ _ (h.ext c))
def nY (P:Program)(l:List Nat)(sd:Bool)(o:Oper):Bool:=match o.op with
 |.binOp op t x y _=>aA x&&(aA y&&(isEq op&&((nS P t||nT P t)&&(oP P&&kC P))))
 |.call c=>c.args.all aA&&match c.callee with
  |.value (.func g)=>l.contains g
  |.builtin .unsafeSliceData=>sd&&(c.args.size==1&&c.argTypes.size==1)
  |_=>false
 |_=>false
theorem refT_ok {t}(h:(nS P t||nT P t)=true):refT P t:=by
 rw[Bool.or_eq_true]at h;exact h.imp isPtr_ok isIfaceT_ok
theorem af.execHard {l}{sd}(C:∀c,¬K c)(z:¬st)(hx:dw l P Q){r s}(o)(k:nY P l sd o=true)(h:∀x,aA x=true->VR p (r x) (s x))(m:∀g,r (.func g)=.func (.func g) #[] #[]/\s (.func g)=.func (.func g) #[] #[]):af P Q K p (Go.execOp r o) (Go.execOp s o) (NR fns):=by
 obtain⟨dst,op,type,pos,after,guard⟩:=o;unfold Go.execOp;cases op with
 |binOp op t x y M=>
  simp only[nY,ZQ]at k;obtain⟨u,i,B,w,G,F⟩:=k;have he:op=.eql\/op=.neq:=by cases op<;>first|exact .inl rfl|exact .inr rfl|cases B
  exact af.bB (af.bind (af.eqGuardRef op t x y (refT_ok w) (h x u) (h y i)) λq _ _ v _=>af.binRef C G F op t (refT_ok w) he ((h x u).ext v) ((h y i).ext v))
 |call c=>
  obtain⟨callee,args,argTypes⟩:=c;simp only[nY,ZQ]at k;obtain⟨u,i⟩:=k;have j:=aF.kD h u;cases callee with
  |value f=>
   cases f with
   |func g=>
    have E:g∈l:=by simpa using i
    have e:∀r:Operand->Value,(do let d<-resolve r ⟨.value (.func g),args,argTypes⟩ type;invoke d.target d.args)=(do let d<-Deferred.ofValue (r (.func g)) (args.map r);invoke d.target d.args):=λ_=>rfl
    show af P Q K p (do let d<-resolve r ⟨.value (.func g),args,argTypes⟩ type;invoke d.target d.args) (do let d<-resolve s ⟨.value (.func g),args,argTypes⟩ type;invoke d.target d.args) (NR fns)
    rw[e r,e s,(m g).1,(m g).2];refine af.bind (A:=λq d e=>d.target=.fn (.func g) #[]/\d.args= #[]++args.map r/\e.target=.fn (.func g) #[]/\e.args= #[]++args.map s) (af.pure ⟨rfl,rfl,rfl,rfl⟩) λq d e v he=>?_
    obtain⟨L,J,I,H⟩:=he;rw[L,J,I,H];exact af.callHard hx C E (((aF.empty.append j).append aF.empty).ext v)
   |_=>cases i
  |builtin b=>
   cases b with
   |unsafeSliceData=>
    simp only[ZQ,beq_iff_eq]at i;obtain⟨_,B,w⟩:=i;obtain⟨a,rfl⟩:=ji B;obtain⟨ty,rfl⟩:=ji w;have D:VR p (r a) (s a):=h a (by simpa using u);have e:∀(r:Operand->Value),(do let d<-resolve r ⟨.builtin .unsafeSliceData,#[a],#[ty]⟩ type;invoke d.target d.args)=builtin .unsafeSliceData #[ty] type ((#[a]:Array Operand).map fun|.const _=>true|_=>false) ((#[a]:Array Operand).map r):=λr=>rfl
    have m1:∀f:Operand->Value,(#[a]:Array Operand).map f= #[f a]:=λf=>by simp
    show af P Q K p (do let d<-resolve r ⟨.builtin .unsafeSliceData,#[a],#[ty]⟩ type;invoke d.target d.args) (do let d<-resolve s ⟨.builtin .unsafeSliceData,#[a],#[ty]⟩ type;invoke d.target d.args) (NR fns)
    rw[e r,e s,m1 r,m1 s];exact af.bB (af.unsafeSliceData z ty type D)
   |_=>cases i
  |invoke x n=>cases i
 |_=>cases k
theorem bC.execHard {l}{sd}(i:sd=false\/¬st)(hx:dw l P Q){r s}(o)(m:nY P l sd o=true)(h:∀x,aA x=true->VR p (r x) (s x))(u:∀g,r (.func g)=.func (.func g) #[] #[]/\s (.func g)=.func (.func g) #[] #[]):bC P Q K p (Go.execOp r o) (Go.execOp s o) (NR fns):=by
 obtain⟨dst,op,type,pos,after,guard⟩:=o;unfold Go.execOp;cases op with
 |binOp op t x y M=>
  simp only[nY,ZQ]at m;obtain⟨v,j,B,z,G,F⟩:=m;have he:op=.eql\/op=.neq:=by cases op<;>first|exact .inl rfl|exact .inr rfl|cases B
  exact bC.bB (bC.after (af.eqGuardRef op t x y (refT_ok z) (h x v) (h y j)) λq _ _ w _=>bC.binRef G F op t (refT_ok z) he ((h x v).ext w) ((h y j).ext w))
 |call c=>
  obtain⟨callee,args,argTypes⟩:=c;simp only[nY,ZQ]at m;obtain⟨v,j⟩:=m;have k:=aF.kD h v;cases callee with
  |value f=>
   cases f with
   |func g=>
    have E:g∈l:=by simpa using j
    have e:∀r:Operand->Value,(do let d<-resolve r ⟨.value (.func g),args,argTypes⟩ type;invoke d.target d.args)=(do let d<-Deferred.ofValue (r (.func g)) (args.map r);invoke d.target d.args):=λ_=>rfl
    show bC P Q K p (do let d<-resolve r ⟨.value (.func g),args,argTypes⟩ type;invoke d.target d.args) (do let d<-resolve s ⟨.value (.func g),args,argTypes⟩ type;invoke d.target d.args) (NR fns)
    rw[e r,e s,(u g).1,(u g).2];refine bC.after (A:=λq d e=>d.target=.fn (.func g) #[]/\d.args= #[]++args.map r/\e.target=.fn (.func g) #[]/\e.args= #[]++args.map s) (af.pure ⟨rfl,rfl,rfl,rfl⟩) λq d e w he=>?_
    obtain⟨L,J,I,H⟩:=he;rw[L,J,I,H];exact bC.callHard hx E (((aF.empty.append k).append aF.empty).ext w)
   |_=>cases j
  |builtin b=>
   cases b with
   |unsafeSliceData=>
    simp only[ZQ,beq_iff_eq]at j;obtain⟨C,B,z⟩:=j;rcases i with i|i
    .rw[i]at C;cases C
    obtain⟨a,rfl⟩:=ji B;obtain⟨ty,rfl⟩:=ji z;have D:VR p (r a) (s a):=h a (by simpa using v);have e:∀(r:Operand->Value),(do let d<-resolve r ⟨.builtin .unsafeSliceData,#[a],#[ty]⟩ type;invoke d.target d.args)=builtin .unsafeSliceData #[ty] type ((#[a]:Array Operand).map fun|.const _=>true|_=>false) ((#[a]:Array Operand).map r):=λr=>rfl
    have m1:∀f:Operand->Value,(#[a]:Array Operand).map f= #[f a]:=λf=>by simp
    show bC P Q K p (do let d<-resolve r ⟨.builtin .unsafeSliceData,#[a],#[ty]⟩ type;invoke d.target d.args) (do let d<-resolve s ⟨.builtin .unsafeSliceData,#[a],#[ty]⟩ type;invoke d.target d.args) (NR fns)
    rw[e r,e s,m1 r,m1 s];exact bC.bB (af.unsafeSliceData i ty type D).lQ
   |_=>cases j
  |invoke x n=>cases j
 |_=>cases m
end
structure iG where
 fns:List Nat
 sp:List Nat
 mark:Oper->Bool
 sg:Oper->Oper
 root:Nat
 rt:Nat
 jh:Bool
 dd:List Deferred
 kd:CallKind
 pv:Nat->Bool
 okF:List Item->Array Value->Prop
 gl:List Nat:=[]
 ext:List Nat:=[]
 rx:List Nat:=[]
 hx:List Nat:=[]
 hard:Bool:=false
 sd:Bool:=false
 bare:Bool:=false
 bareOk:bare=true->∀i,pv i=false:=by intro h;cases h
def Tr:List Item->List Item->Prop
 |.inBlock _::k,y=>y=k
 |.inLoop c::k,y=>y=.code c:: .inLoop c::k
 |.inRegion _ []::k,y=>y=k
 |.code .skip::k,y=>y=k
 |.code (.label _)::k,y=>y=k
 |.code (.seq a b)::k,y=>y=.code a:: .code b::k
 |.code (.block id c)::k,y=>y=.code c:: .inBlock id::k
 |.code (.loop c)::k,y=>y=.code c:: .inLoop c::k
 |.code (.cond _ a b)::k,y=>y=.code a::k\/y=.code b::k
 |.code (.exit id)::k,y=>exitTo id k=some y
 |.code (.region _ ops false)::k,y=>y=.inRegion ops (List.range ops.size)::k
 |.code (.region _ ops true)::k,y=>∃m t,y=.inRegion ops (Region.schedule m ops t)::k
 |_,_=>False
structure j6 (C:iG):Prop where
 idle:∀o,C.mark o=false->C.sg o=o
 dst:∀o,(C.sg o).dst=o.dst
 after:∀o,(C.sg o).after=o.after
 guard:∀o,(C.sg o).guard=o.guard
 free:∀o,C.mark o=true->o.guard=none
 clos:∀x x' y,C.okF x y->Tr x x'->C.okF x' y
 pop:∀ops i rest k y y',(∀o,ops[i]? =some o->C.mark o=false)->C.okF (.inRegion ops (i::rest)::k) y->(y'=y\/∃d v,C.pv d=false/\y'=y.setIfInBounds d v)->C.okF (.inRegion ops rest::k) y'
def sgC (C:iG):Code->Code
 |.region id ops d=>.region id (ops.map C.sg) d
 |.seq a b=>.seq (sgC C a) (sgC C b)
 |.cond c a b=>.cond c (sgC C a) (sgC C b)
 |.block id a=>.block id (sgC C a)
 |.loop a=>.loop (sgC C a)
 |c=>c
def sgI (C:iG):Item->Item
 |.code c=>.code (sgC C c)
 |.inLoop c=>.inLoop (sgC C c)
 |.inRegion ops l=>.inRegion (ops.map C.sg) l
 |x=>x
section
variable {st:Prop}{α β γ δ:Type}{P Q:Program}{K:Nat->Prop}{p:Rel st}{C:iG}
def openTo (C:iG):Operand->Bool
 |.tmp t=> !C.pv t
 |_=>true
def glOk (C:iG):Operand->Bool
 |.global g=>C.gl.contains g
 |_=>true
def anyOp (C:iG)(P:Program)(o:Oper):Bool:=(fE P C.fns o||(nO P C.fns C.ext C.rx o||(C.hard&&nY P C.hx C.sd o)))&&o.op.operands.all (glOk C)
def kM (C:iG)(P:Program)(f:Nat)(o:Oper):Bool:=
 anyOp C P o&&(f !=C.root||(o.op.operands.all (openTo C)&&(C.mark o||(o.dst !=some C.rt&&(o.dst.all λd=> !C.pv d)&&(o.guard.isNone||C.bare)))))&&(!C.mark o||f==C.root)
def bA (C:iG)(P:Program)(f:Nat):Code->Bool
 |.skip|.ret|.exit _|.label _|.refuse _=>true
 |.seq a b=>bA C P f a&&bA C P f b
 |.cond c a b=>((aA c&&glOk C c)&&(f !=C.root||openTo C c))&&bA C P f a&&bA C P f b
 |.block _ a|.loop a=>bA C P f a
 |.region _ ops _=>ops.all (kM C P f)
 |_=>false
def fB (C:iG)(P:Program)(f:Nat):Item->Bool
 |.code c|.inLoop c=>bA C P f c
 |.inBlock _=>true
 |.inRegion ops _=>ops.all (kM C P f)
 |_=>false
def aU (C:iG)(P:Program)(f:Nat)(l:List Item):Prop:=∀x∈l,fB C P f x=true
theorem aU.cons {f}{x}{l}(h:aU C P f (x::l)):fB C P f x=true/\aU C P f l:=⟨h x (by simp),λy hy=>h y (by simp[hy])⟩
theorem aU.of {f}{x}{l}(hx:fB C P f x=true)(h:aU C P f l):aU C P f (x::l):=λy hy=>by
 rcases ZW.1 hy with rfl|hy
 .exact hx
 .exact h y hy
structure aH (C:iG)(P Q:Program):Prop where
 cfg:j6 C
 ext:ExtOk C.ext P Q
 rext:fU C.rx P Q
 hext:dw C.hx P Q
 vals:∀g∈dS,g∈C.fns
 body:∀g∈C.fns,∃fn c fn',P.funcs[g]? =some fn/\(fn.name== "runtime.NumGoroutine")=false/\fn.body=some c/\Q.funcs[g]? =some fn'/\(fn'.name== "runtime.NumGoroutine")=false/\fn'.body.isNone=false/\
  (g∉C.sp->bA C P g c=true/\fn'.body=some (sgC C c)/\fn'.ntmps=fn.ntmps/\fn'.results=fn.results)
 root:∀g∈C.fns,g∉C.sp->g≠C.root
theorem aH.get (h:aH C P Q){g}(d:g∈C.fns)(hs:g∉C.sp):∃fn c a,P.funcs[g]? =some fn/\(fn.name== "runtime.NumGoroutine")=false/\fn.body=some c/\bA C P g c=true/\
 Q.funcs[g]? =some a/\(a.name== "runtime.NumGoroutine")=false/\a.body=some (sgC C c)/\a.ntmps=fn.ntmps/\a.results=fn.results:=by
 obtain⟨fn,c,a,o,n,m,l,k,_,j⟩:=h.body g d;obtain⟨i,f,e,b⟩:=j hs;exact⟨fn,c,a,o,n,m,i,l,k,f,e,b⟩
theorem aH.pfns (h:aH C P Q):gL C.fns P Q:=⟨h.vals,λg b=>by
 obtain⟨fn,c,a,k,j,i,f,e,d,_⟩:=h.body g b;exact⟨⟨fn,k,j,by rw[i];rfl⟩,a,f,e,d⟩⟩
def oH (C:iG)(a:Frame):Prop:=∃ops i rest k o,a.todo=.inRegion ops (i::rest)::k/\ops[i]? =some o/\Region.wanted o (yielded ops a.tmps)=true/\C.mark o=true
def kY (C:iG)(a:Frame):Prop:=∀ops i rest k,a.todo=.inRegion ops (i::rest)::k->(∀o,ops[i]? =some o->C.mark o=false)/\(a.fn=C.root->(ops[i]?).bind (·.dst)≠some C.rt/\∀d,(ops[i]?).bind (·.dst)=some d->C.pv d=false)
theorem kM.parts {f}{o}(h:kM C P f o=true):anyOp C P o=true/\(C.mark o=true->f=C.root)/\(f=C.root->∀x∈o.op.operands,openTo C x=true)/\
 (f=C.root->C.mark o=false->o.dst≠some C.rt/\(∀d,o.dst=some d->C.pv d=false)/\(o.guard=none\/C.bare=true)):=by
 simp only[kM,ZQ,Bool.or_eq_true,bne_iff_ne,ne_eq,beq_iff_eq,Bool.not_eq_true',Option.isNone_iff_eq_none]at h;obtain⟨⟨e,a⟩,c⟩:=h;refine⟨e,λhm=>c.resolve_left (by rw[hm];simp),λhf x hx=>?_,λhf hm=>?_⟩
 .exact Array.all_eq_true'.1 (a.resolve_left λh=>h hf).1 x hx
 rcases(a.resolve_left λh=>h hf).2 with a|a
 .rw[hm]at a;cases a
 .obtain⟨⟨i,b⟩,g⟩:=a
  refine⟨i,λd hd=>?_,g⟩;rw[hd]at b;simpa using b
theorem headOk_of {a}{ops}{i}{rest}{k}(f:a.todo=.inRegion ops (i::rest)::k)(b:ops.all (kM C P a.fn)=true)
 (hm:∀o,ops[i]? =some o->C.mark o=false):kY C a:=λg n c k' e=>by
 rw[f]at e;simp only[List.cons.injEq,Item.inRegion.injEq]at e;obtain⟨⟨rfl,rfl,rfl⟩,rfl⟩:=e;refine⟨hm,λj=>?_⟩;cases h:ops[i]? with
 |none=>exact⟨λe=>(by cases e),λd e=>(by cases e)⟩
 |some o=>
  obtain⟨m,l,_⟩:=(kM.parts (Array.all_eq_true'.1 b o (Array.mem_of_getElem? h))).2.2.2 j (hm o h);exact⟨m,l⟩
structure TmR (C:iG)(p:Rel st)(f:Nat)(x y:Array Value):Prop where
 get:∀i,(f=C.root/\C.pv i=true)\/VR p (x.getD i undef) (y.getD i undef)
 size:x.size=y.size
structure FR (C:iG)(P:Program)(p:Rel st)(a b:Frame):Prop where
 known:∃fn,P.funcs[a.fn]? =some fn
 tmps:TmR C p a.fn a.tmps b.tmps
 plain:aU C P a.fn a.todo
 da:a.defers=[]
 ka:a.kind=.normal
 ra:a.roundOf=none
 same:b={a with tmps:=b.tmps,todo:=a.todo.map (sgI C),defers:=b.defers,kind:=b.kind}
 rt:a.fn=C.root->a.tmps.getD C.rt undef=undef
 shape:a.fn=C.root->C.okF a.todo b.tmps
 kb:b.kind≠.early
 glob:∀g∈C.gl,p g g
theorem TmR.ext {q}(a:Ext p q){f}{x y}(h:TmR C p f x y):TmR C q f x y:=⟨λi=>(h.get i).imp id λk=>k.ext a,h.size⟩
theorem FR.ext {q}(c:Ext p q){a b}(h:FR C P p a b):FR C P q a b:={h with tmps:=h.tmps.ext c,glob:=λg d=>c _ _ (h.glob g d)}
theorem aF.getD {a b}(h:aF (VR p) a b)(i):VR p (a.getD i undef) (b.getD i undef):=by
 by_cases c:i<a.size
 .have hb:i<b.size:=h.1▸c
  have:=h.2 i a[i] b[i] (ZM c) (ZM hb);simpa[Array.getD,c,hb] using this
 .have hb:¬i<b.size:=h.1▸c
  simpa[Array.getD,c,hb] using VR.undef
theorem FR.eval {a b}(h:FR C P p a b)(x)(hx:aA x=true)(d:glOk C x=true)(c:a.fn=C.root->openTo C x=true):VR p (a.eval x) (b.eval x):=by
 cases x with
 |tmp t=>
  refine(h.tmps.get t).resolve_left fun⟨i,e⟩=>?_
  have:=c i;simp[openTo,e]at this
 |const v=>exact flatV_VR hx
 |global g=>exact VR.ptr (a:=some _) (b:=some _) ⟨h.glob g (by simpa[glOk] using d),rfl,rfl⟩
 |func f=>exact VR.func (show FnOk (.func f)from(show f∈dS by simpa[aA] using hx)) aF.empty aF.empty
theorem bU {a:Array Value}{d}{v}(h:d<a.size):(a.setIfInBounds d v).getD d undef=v:=by
 simp only[ZY,Array.getElem?_setIfInBounds_self_of_lt h,Option.getD_some]
theorem TmR.of {f}{x y}(h:aF (VR p) x y):TmR C p f x y:=⟨λi=>.inr (h.getD i),h.1⟩
theorem getD_set_ne {a:Array Value}{d k}{v}(h:d≠k):(a.setIfInBounds d v).getD k undef=a.getD k undef:=by
 simp only[ZY,Array.getElem?_setIfInBounds_ne h]
theorem TmR.set {f}{x y}(h:TmR C p f x y)(d){v u}(c:VR p v u):TmR C p f (x.setIfInBounds d v) (y.setIfInBounds d u):=by
 refine⟨λi=>?_,by simpa using h.size⟩
 by_cases a:d=i
 .subst a
  by_cases hx:d<x.size
  .rw[bU hx,bU (h.size▸hx)];exact .inr c
  .have e:∀(z:Array Value) (v:Value),¬d<z.size->(z.setIfInBounds d v).getD d undef=z.getD d undef:=λz v b=>by
        simp only[Array.setIfInBounds,b,dite_false]
   rw[e x v hx,e y u (h.size▸hx)];exact h.get d
 .rw[getD_set_ne a,getD_set_ne a];exact h.get i
theorem FR.finish {a b}(hc:j6 C)(h:FR C P p a b){v u}(L:VR p v u)(B:kY C a):FR C P p (a.finish v) (b.finish u):=by
 obtain⟨fn,tmps,todo,defers,mode,kind,ro⟩:=a;obtain⟨y,j,D,z,E,F,K⟩:=b;obtain⟨n,m,s,J,I,H,G,q,r,f,g⟩:=h;simp only at m s J I H q r f;simp only[Frame.mk.injEq]at G;obtain⟨rfl,-,rfl,-,rfl,-,rfl⟩:=G;subst J I H;cases todo with
 |nil=>exact⟨n,m,s,rfl,rfl,rfl,rfl,q,r,f,g⟩
 |cons x k=>
  obtain⟨hx,N⟩:=s.cons;cases x with
  |inRegion ops l=>
   cases l with
   |nil=>exact⟨n,m,s,rfl,rfl,rfl,rfl,q,r,f,g⟩
   |cons i rest=>
    have t:∀A,(A=j\/∃d v,(ops[i]?).bind (·.dst)=some d/\A=j.setIfInBounds d v)->y=C.root->C.okF (.inRegion ops rest::k) A:=λA hy e=>hc.pop _ _ _ _ _ _ (B ops i rest k rfl).1 (r e) (hy.imp id fun⟨d,v,n,m⟩=>⟨d,v,((B ops i rest k rfl).2 e).2 d n,m⟩)
    have w:aU C P y (.inRegion ops rest::k):=aU.of hx N
    have O:((ops.map C.sg)[i]?).bind (·.dst)=(ops[i]?).bind (·.dst):=by
     rw[Array.getElem?_map];cases M:ops[i]? with
     |none=>rfl
     |some o=>simp only[Option.map_some,Option.bind_some,hc.idle o ((B ops i rest k rfl).1 o M)]
    simp only[Frame.finish,List.map_cons,sgI,O];cases hd:(ops[i]?).bind (·.dst)with
    |none=>exact⟨n,m,w,rfl,rfl,rfl,rfl,q,t _ (.inl rfl),f,g⟩
    |some d=>
     refine⟨n,m.set d L,w,rfl,rfl,rfl,rfl,λe=>?_,t _ (.inr ⟨d,_,hd,rfl⟩),f,g⟩;have:=((B ops i rest k rfl).2 e).1;rw[hd]at this;show(tmps.setIfInBounds d v).getD C.rt undef=undef
     rw[getD_set_ne (λQ=>this (by rw[Q]))];exact q e
  |code c=>exact⟨n,m,s,rfl,rfl,rfl,rfl,q,r,f,g⟩
  |inBlock id=>exact⟨n,m,s,rfl,rfl,rfl,rfl,q,r,f,g⟩
  |inLoop c=>exact⟨n,m,s,rfl,rfl,rfl,rfl,q,r,f,g⟩
  |_=>cases hx
theorem jd (a:Frame)(v):(a.finish v).mode=a.mode:=by
 unfold Frame.finish;split<;>rfl
theorem finish_kind (a:Frame)(v):(a.finish v).kind=a.kind:=by
 unfold Frame.finish;split<;>rfl
theorem oU (a:Frame)(v):(a.finish v).fn=a.fn/\(a.finish v).defers=a.defers:=by
 unfold Frame.finish;split<;>exact⟨rfl,rfl⟩
theorem FR.enter (hp:aH C P Q){f}(hf:f∈C.fns)(hs:f∉C.sp){x y}(h:aF (VR p) x y)(d:∀g∈C.gl,p g g):FR C P p (Frame.enter P f x .normal) (Frame.enter Q f y .normal):=by
 obtain⟨fn,c,u,a,z,k,r,j,w,q,o,v⟩:=hp.get hf hs
 have l:∀n,aF (VR p) (Array.replicate n undef) (Array.replicate n undef):=λn=>⟨rfl,λi s t hs b=>by
  rw[Array.getElem?_replicate]at hs b;split at hs
  .rename_i m
   rw[if_pos m]at b;cases hs;cases b;exact VR.undef
  .cases hs⟩
 refine⟨⟨fn,a⟩,TmR.of ?_,?_,rfl,rfl,rfl,?_,λe=>absurd e (hp.root f hf hs),λe=>absurd e (hp.root f hf hs),λe=>(by cases e),d⟩
 .show aF (VR p) (x++Array.replicate _ undef) (y++Array.replicate _ undef)
  rw[a,j,h.1];simp only[Option.map_some,Option.getD_some,o];exact h.append (l _)
 .refine aU.of ?_ (λ_ hy=>by cases hy)
  show bA C P f _=true
  rw[a];simp only[Option.bind_some,k,Option.getD_some];exact r
 .simp only[Frame.enter,a,j,Option.bind_some,k,q,Option.getD_some,List.map_cons,List.map_nil,sgI]
theorem pK (hc:j6 C)(md)(ops):∀(fuel t:Nat) (listed:Array Bool) (acc:List Nat),Region.linearise.go md (ops.map C.sg) fuel t listed acc=Region.linearise.go md ops fuel t listed acc
 |0,_,_,_=>rfl
 |fuel+1,t,listed,acc=>by
  have e:∀i:Nat,(((ops.map C.sg)[i]?).map (·.after.all λe=> !Region.binds md e||listed.getD e.on false)).getD false=((ops[i]?).map (·.after.all λe=> !Region.binds md e||listed.getD e.on false)).getD false:=λi=>by
   rw[Array.getElem?_map];cases ops[i]? with
   |none=>rfl
   |some o=>simp only[Option.map_some,hc.after]
  simp only[Region.linearise.go,Array.size_map,e];split
  .exact pK hc md ops fuel _ _ _
  .rfl
theorem schedule_map (hc:j6 C)(m)(ops)(t):Region.schedule m (ops.map C.sg) t=Region.schedule m ops t:=by
 have b:Region.departs (ops.map C.sg)=Region.departs ops:=by
  unfold Region.departs;rw[Array.any_map]
  congr 1
  funext o
  simp only[Function.comp,hc.after]
 have a:∀md t,Region.linearise md (ops.map C.sg) t=Region.linearise md ops t:=λmd t=>by
  unfold Region.linearise;rw[Array.size_map];exact pK hc md ops _ _ _ _
 unfold Region.schedule;rw[b];simp only[a]
theorem yielded_map (hc:j6 C){ops}{x}:yielded (ops.map C.sg) x=yielded ops x:=by
 funext j
 unfold yielded;rw[Array.getElem?_map];cases a:ops[j]? with
 |none=>rfl
 |some o=>simp only[Option.map_some,Option.bind_some,hc.dst]
theorem exitTo_map (id):∀(k:List Item),exitTo id (k.map (sgI C))=(exitTo id k).map (·.map (sgI C))
 |[]=>rfl
 |x::k=>by
  have a:=exitTo_map id k;cases x with
  |inBlock b=>
   simp only[List.map_cons,sgI,exitTo];split
   .rfl
   .exact a
  |_=>simp only[List.map_cons,sgI,exitTo];exact a
end
end
