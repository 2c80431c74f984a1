/- Part 3 of the proof. -/
import Derived.Test.YtfpaamhppamcoaaGreatDoorSp2
import Derived.Laws.Entries
set_option linter.all false
set_option maxHeartbeats 60000000
namespace Go.Proofs.YtfpaamhppamcoaaGreatDoor
section
open Go
variable {st:Prop}
section
variable {α β γ δ:Type}{P Q:Program}{K:Nat->Prop}{p:Rel st}
theorem AR.iM {w u}{G}(hw:WR G K p w u){a b c d}(h:AR p a c)(k:AR p b d):(a.block==b.block)=(c.block==d.block):=by
 have:=hw.fit _ _ _ _ h.1 k.1;rw[Bool.eq_iff_iff];simp[this]
theorem af.given {s}{t}{A:(Rel st)->α->β->Prop}(h:(∃w u,WR P.globals.size K p w u)->af P Q K p s t A):af P Q K p s t A:=
 λa w u es fs hw b=>h ⟨w,u,hw⟩ a w u es fs hw b
theorem af.twoPlaces {a b c d}(h:AR p a c)(k:AR p b d):af P Q K p (Op.twoPlaces a b) (Op.twoPlaces c d) (λ_ x y=>x=y):=by
 refine af.given fun⟨w,u,hw⟩=>?_
 have A:=AR.iM hw h k;unfold Op.twoPlaces;refine af.twin λj=>af.bind af.program λq s t i e=>?_
 rw[e.1,e.2,j.globals]
 have z:(a.block !=b.block||decide (a.block≥P.globals.size))=(c.block !=d.block||decide (c.block≥P.globals.size)):=by
  have v:(a.block !=b.block)=(c.block !=d.block):=by simp only[bne,A]
  rw[v]
  by_cases f:a.block=c.block
  .rw[f]
  .obtain⟨n,m⟩:=hw.low _ _ h.1 f
   have r:decide (a.block≥P.globals.size)=true:=(by simp[n]);have o:decide (c.block≥P.globals.size)=true:=(by simp[m]);rw[r,o]
 rw[z];split
 .exact ag.bR (λw es=>by refine⟨⟨_,_,_,?_,rfl⟩,ZL _,rfl,λC _=>rfl⟩;trivial)
 .refine af.bind (af.byteOf (h.mono i)) λB x y g e=>?_
  subst e;refine af.bind (af.byteOf ((k.mono i).mono g)) λl x y _ e=>?_
  subst e;exact af.pure rfl
theorem af.addrSub {a b c d}(k)(h:AR p a c)(f:AR p b d):af P Q K p (Op.addrSub k a b) (Op.addrSub k c d) (λq x y=>VR q x y):=by
 unfold Op.addrSub;refine af.bind (af.twoPlaces h f) λq x y _ e=>?_
 subst e;exact af.pure (VR.int _ _)
theorem af.addrCmp {a b c d}(op)(h:AR p a c)(f:AR p b d):af P Q K p (Op.addrCmp op a b) (Op.addrCmp op c d) (λq x y=>VR q x y):=by
 unfold Op.addrCmp;refine af.bind (af.twoPlaces h f) λq x y _ e=>?_
 subst e;cases op<;>first|exact af.halt|exact af.pure (VR.bool _)
theorem af.addrMod {a c}(k)(n)(h:AR p a c):af P Q K p (Op.addrMod k a n) (Op.addrMod k c n) (λq x y=>VR q x y):=by
 unfold Op.addrMod;refine af.bind (af.shape h.1) λq x y f e=>?_
 subst e;cases x with
 |none=>exact af.halt
 |some x=>
  simp only;refine af.bind (af.typeInfo x.1) λg i j b e=>?_
  obtain⟨rfl,_⟩:=e;split
  .exact ag.bR (λw es=>by refine⟨⟨_,_,_,?_,rfl⟩,ZL _,rfl,λl _=>rfl⟩;trivial)
  .refine af.bind (af.byteOf (h.mono (f.trans b))) λd x y _ e=>?_
   subst e;exact af.pure (VR.int _ _)
theorem af.intArith (op)(k)(x y):af P Q K p (Op.intArith op k x y) (Op.intArith op k x y) (λq a b=>VR q a b):=by
 unfold Op.intArith;cases op<;>first|exact af.pure (VR.int _ _)|exact af.halt
theorem af.intDiv (op)(k)(x y):af P Q K p (Op.intDiv op k x y) (Op.intDiv op k x y) (λq a b=>VR q a b):=by
 unfold Op.intDiv;split
 .exact(ag.runtimePanic _).bR
 .cases op<;>first|exact af.pure (VR.int _ _)|exact af.halt
theorem af.intBits (op)(k)(x y):af P Q K p (Op.intBits op k x y) (Op.intBits op k x y) (λq a b=>VR q a b):=by
 unfold Op.intBits;cases op<;>first|exact af.pure (VR.int _ _)|exact af.halt
theorem af.intCmp (op)(x y):af P Q K p (Op.intCmp op x y) (Op.intCmp op x y) (λq a b=>VR q a b):=by
 unfold Op.intCmp;cases op<;>first|exact af.pure (VR.bool _)|exact af.halt
theorem af.shift (op)(k)(x)(j)(y):af P Q K p (Op.shift op k x j y) (Op.shift op k x j y) (λq a b=>VR q a b):=by
 unfold Op.shift;split
 .exact(ag.runtimePanic _).bR
 .cases op<;>first|exact af.pure (VR.int _ _)|exact af.halt
theorem AR.eq_iff {w u}{G}(hw:WR G K p w u){a b c d}(h:AR p a c)(k:AR p b d):(a==b)=(c==d):=by
 rw[Bool.eq_iff_iff];simp only[beq_iff_eq];have:=hw.fit _ _ _ _ h.1 k.1;constructor
 .rintro rfl
  obtain⟨j,c2,c3⟩:=c;obtain⟨d1,d2,d3⟩:=d;have e:=this.1 rfl;simp only at e;have g:c2=d2:=h.2.1.symm.trans k.2.1;have f:c3=d3:=h.2.2.symm.trans k.2.2;rw[e,g,f]
 .rintro rfl
  obtain⟨l,a2,a3⟩:=a;obtain⟨b1,b2,i⟩:=b;have e:=this.2 rfl;simp only at e;have g:a2=b2:=h.2.1.trans k.2.1.symm;have f:a3=i:=h.2.2.trans k.2.2.symm;rw[e,g,f]
theorem af.equalInt {x y v u}(n)(t){k}(ht:P.underlying t=some (.int k))(h:VR p x v)(k':VR p y u):af P Q K p (Op.equalIn n t x y) (Op.equalIn n t v u) (λ_ a b=>a=b):=by
 cases n with
 |zero=>exact af.halt
 |succ n=>
  unfold Op.equalIn;refine af.bind (af.underlying t) λq d d' M e=>?_
  obtain⟨rfl,hd⟩:=e;rw[ht]at hd;cases hd;have hx:=h.ext M;have hy:=k'.ext M;have B:=hx.cases;have c:=hy.cases;cases x with
  |int k1 a=>
   rw[hx.bT];cases y with
   |int Z b=>
    rw[hy.bT];simp only;split
    .exact af.pure rfl
    .exact af.halt
   |pointer o=>
    obtain⟨W,rfl,E⟩:=hy.bV;cases o with
    |none=>
     obtain rfl:=E.aV;cases a with
     |ofNat m=>cases m<;>exact af.halt
     |negSucc m=>exact af.halt
    |some o=>
     obtain⟨V,rfl,_⟩:=E.aO;cases a with
     |ofNat m=>cases m with
      |zero=>exact af.pure rfl
      |succ m=>exact af.halt
     |negSucc m=>exact af.halt
   |_=>first|exact c.elim|exact Bool.noConfusion c|(cases u<;>first|exact c.elim|exact Bool.noConfusion c|exact af.halt)
  |pointer o=>
   obtain⟨W,rfl,E⟩:=hx.bV;cases o with
   |none=>cases y<;>cases u<;>first|exact c.elim|exact Bool.noConfusion c|exact af.halt
   |some o=>
    obtain⟨V,rfl,I⟩:=E.aO;cases y with
    |int Z b=>
     rw[hy.bT];cases b with
     |ofNat m=>cases m with
      |zero=>exact af.pure rfl
      |succ m=>exact af.halt
     |negSucc m=>exact af.halt
    |pointer r=>
     obtain⟨r',rfl,L⟩:=hy.bV;cases r with
     |none=>obtain rfl:=L.aV;exact af.halt
     |some r=>
      obtain⟨r2,rfl,F⟩:=L.aO;refine af.bind (af.behindNumber I) λU z N H e=>?_
      obtain⟨l,z2⟩:=z;obtain⟨A,O⟩:=N;obtain⟨e1,rfl⟩:AR U l A/\z2=O:=e;refine af.bind (af.behindNumber (F.mono H)) λT v v' G e=>?_
      obtain⟨v1,v2⟩:=v;obtain⟨u1,u2⟩:=v';obtain⟨J,rfl⟩:AR T v1 u1/\v2=u2:=e;have g:=e1.mono G;refine af.twin λR=>af.bind af.program λq3 s s' f e=>?_
      rw[e.1,e.2,R.globals];refine af.given fun⟨w,u,hw⟩=>?_
      have f1:=AR.iM hw (g.mono f) (J.mono f);have f2:=AR.eq_iff hw (g.mono f) (J.mono f)
      have f3:(l.block==v1.block&&decide (l.block<P.globals.size))=(A.block==u1.block&&decide (A.block<P.globals.size)):=by
           rw[f1]
           by_cases D:l.block=A.block
           .rw[D]
           .obtain⟨Y,X⟩:=hw.low _ _ ((g.mono f).1) D
            have e4:decide (l.block<P.globals.size)=false:=(by simp[Y]);have e5:decide (A.block<P.globals.size)=false:=(by simp[X]);rw[e4,e5]
      simp only[f3];split
      .refine af.bind (af.byteOf (g.mono f)) λS b b' C e=>?_
       subst e;refine af.bind (af.byteOf ((J.mono f).mono C)) λq5 b b' α e=>?_
       subst e;exact af.pure rfl
      .refine af.bind (af.typeInfo t) λS i j C e=>?_
       obtain⟨rfl,_⟩:=e;rw[f2];split
       .split
        .exact af.pure rfl
        .exact af.halt
       .exact af.halt
    |_=>first|exact c.elim|exact Bool.noConfusion c|(cases u<;>first|exact c.elim|exact Bool.noConfusion c|exact af.halt)
  |_=>cases v<;>first|exact B.elim|exact Bool.noConfusion B|(cases y<;>cases u<;>first|exact c.elim|exact Bool.noConfusion c|exact af.halt)
end
variable {st:Prop}
section
variable {α β γ δ:Type}{P Q:Program}{K:Nat->Prop}{p:Rel st}
theorem ag.type {t}{d}(i:P.underlying t=some d){f:TypeDesc->Sem γ}(h:ag P (f d)):ag P (Go.underlying t>>=f):=λw es=>by
 obtain⟨r,b,g⟩:∃r b,(Go.underlying t).runT P w es=(r,b):=⟨_,_,rfl⟩
 have j:r=.ok d w:=by
  have:=congrArg Prod.fst g;rw[Sem.runT_fst,run_underlying i]at this;exact this.symm
 subst j;refine⟨?_,Local.bind ((aY.underlying t) w es).2 λa w' k c=>?_⟩
 .have e:(Go.underlying t>>=f).runT P w es=((Go.underlying t).bind f).runT P w es:=rfl
  rw[e,Sem.runT_bind',g];exact(h w b).1
 .rw[g]at c
  cases c;exact(h w b).2
def isIface:Value->Prop
 |.nilFunc=>True
 |_=>False
theorem iX {x y}(n)(t)(a:(∃k,P.underlying t=some (.int k))\/P.underlying t=some .bool\/(∃e,P.underlying t=some (.slice e))\/(∃e,P.underlying t=some (.pointer e)))(h:isIface x):ag P (Op.equalIn n t x y):=by
 cases n with
 |zero=>exact ag.halt _
 |succ n=>
  unfold Op.equalIn;cases x<;>first|exact h.elim|skip
  rcases a with⟨k,a⟩|a|⟨e,a⟩|⟨e,a⟩
  all_goals refine ag.type a ?_
  all_goals cases y<;>first|exact ag.halt _|(rename_i o;cases o<;>exact ag.halt _)|(rename_i o l c;cases o<;>exact ag.halt _)
theorem never_binOp {x y}(op)(t)(c:(∃k,P.underlying t=some (.int k))\/P.underlying t=some .bool\/(∃e,P.underlying t=some (.slice e))\/(∃e,P.underlying t=some (.pointer e)))(h:isIface x):ag P (binOp op t x y):=by
 have b:∀y,ag P (do Pure.pure (.bool (<-Op.equal t x y)):Sem Value):=λy=>ag.left (iX _ t c h)
 have a:∀y,ag P (do Pure.pure (.bool (!(<-Op.equal t x y))):Sem Value):=λy=>ag.left (iX _ t c h)
 cases x<;>first|exact h.elim|skip
 cases y<;>cases op<;>first|exact ag.halt _|exact b _|exact a _
theorem iw {x}(n)(t)(a:(∃k,P.underlying t=some (.int k))\/P.underlying t=some .bool\/(∃e,P.underlying t=some (.slice e))\/(∃e,P.underlying t=some (.pointer e))):ag P (Op.equalIn n t x .nilFunc):=by
 cases n with
 |zero=>exact ag.halt _
 |succ n=>
  unfold Op.equalIn;rcases a with⟨k,a⟩|a|⟨e,a⟩|⟨e,a⟩
  all_goals refine ag.type a ?_
  all_goals cases x<;>first|exact ag.halt _|(rename_i o;cases o<;>exact ag.halt _)|(rename_i o l c;cases o<;>exact ag.halt _)|(rename_i k n;cases n with
   |ofNat m=>cases m<;>exact ag.halt _
   |negSucc m=>exact ag.halt _)
theorem l7 {x}(op)(t)(c:(∃k,P.underlying t=some (.int k))\/P.underlying t=some .bool\/(∃e,P.underlying t=some (.slice e))\/(∃e,P.underlying t=some (.pointer e))):ag P (binOp op t x .nilFunc):=by
 have b:∀x,ag P (do Pure.pure (.bool (<-Op.equal t x .nilFunc)):Sem Value):=λx=>ag.left (iw _ t c)
 have a:∀x,ag P (do Pure.pure (.bool (!(<-Op.equal t x .nilFunc))):Sem Value):=λx=>ag.left (iw _ t c)
 cases x<;>cases op<;>first|exact ag.halt _|exact b _|exact a _|(rename_i o;cases o<;>exact ag.halt _)
theorem af.equalBool {x y v u}(n)(t)(f:P.underlying t=some .bool)(h:VR p x v)(k':VR p y u):af P Q K p (Op.equalIn n t x y) (Op.equalIn n t v u) (λ_ a b=>a=b):=by
 cases n with
 |zero=>exact af.halt
 |succ n=>
  unfold Op.equalIn;refine af.bind (af.underlying t) λq d d' c e=>?_
  obtain⟨rfl,hd⟩:=e;rw[f]at hd;cases hd;have hx:=(h.ext c).cases;have hy:=(k'.ext c).cases
  cases x<;>cases v<;>first
   |exact hx.elim
   |exact Bool.noConfusion hx
   |(cases y<;>cases u<;>first
        |exact hy.elim
        |exact Bool.noConfusion hy
        |(obtain rfl:_=_:=hx;obtain rfl:_=_:=hy;exact af.pure rfl)
        |exact af.halt)
theorem af.equalNil {x v}{y}(n)(t)(c:(∃e,P.underlying t=some (.slice e)/\y=.slice none 0 0)\/(∃e,P.underlying t=some (.pointer e)/\y=.pointer none))(h:VR p x v):af P Q K p (Op.equalIn n t x y) (Op.equalIn n t v y) (λ_ a b=>a=b):=by
 cases n with
 |zero=>exact af.halt
 |succ n=>
  unfold Op.equalIn;refine af.bind (af.underlying t) λq d d' g e=>?_
  obtain⟨rfl,hd⟩:=e;have hx:=(h.ext g).cases;rcases c with⟨e,c,rfl⟩|⟨e,c,rfl⟩<;>rw[c]at hd<;>cases hd
  .cases x<;>cases v<;>first
        |exact hx.elim
        |exact Bool.noConfusion hx
        |exact af.halt
        |(rename_i f k l a2 j c2
          obtain⟨i,rfl,rfl⟩:=hx;cases f<;>cases a2<;>first|exact af.pure rfl|exact i.elim)
  .cases x<;>cases v<;>first
        |exact hx.elim
        |exact Bool.noConfusion hx
        |exact af.halt
        |(rename_i f a2
          cases f<;>cases a2<;>first|exact af.pure rfl|exact(hx:False).elim)
theorem af.eqGuardIn {x y v u}(n)(t)(c:(∃k,P.underlying t=some (.int k))\/P.underlying t=some .bool\/(∃e,P.underlying t=some (.slice e))\/(∃e,P.underlying t=some (.pointer e))):af P Q K p (Op.eqGuardIn n t x y) (Op.eqGuardIn n t v u) (λ_ a b=>a=b):=by
 cases n with
 |zero=>exact af.halt
 |succ n=>
  unfold Op.eqGuardIn;refine af.bind (af.underlying t) λq d d' f e=>?_
  obtain⟨rfl,hd⟩:=e;rcases c with⟨k,c⟩|c|⟨e,c⟩|⟨e,c⟩<;>rw[c]at hd<;>cases hd<;>exact af.pure rfl
theorem af.eqGuard {x y v u:Value}(op:BinOp)(t:TypeId)(a b:Operand)(i:(∃k,P.underlying t=some (.int k))\/P.underlying t=some .bool\/(∃e,P.underlying t=some (.slice e))\/(∃e,P.underlying t=some (.pointer e)))(h:VR p x v)(k:VR p y u):af P Q K p (eqGuard op t a b x y) (eqGuard op t a b v u) (λ_ _ _=>True):=by
 have hx:=h.cases;have hy:=k.cases;unfold Go.eqGuard
 have f:∀{q:Rel st} (c:Bool),af P Q K q
  (if c then(Pure.pure ():Sem Unit)else do
        if<-Op.eqGuardIn Op.maxDepth t .nilIface .nilIface then unsupported (.noEntry "binop/eql: two nil values of an interface type with methods, neither of them the literal nil"))
  (if c then(Pure.pure ():Sem Unit)else do
        if<-Op.eqGuardIn Op.maxDepth t .nilIface .nilIface then unsupported (.noEntry "binop/eql: two nil values of an interface type with methods, neither of them the literal nil")) (λ_ _ _=>True):=by
  intro q c;cases c with
  |true=>exact af.pure trivial
  |false=>
   refine af.bind (af.eqGuardIn _ t i) λl c d _ e=>?_
   subst e;cases c with
   |true=>exact af.halt
   |false=>exact af.pure trivial
 have g:∀{q:Rel st} (xs ys vs us:Array Value),af P Q K q
  (do if !(<-Go.program).eqGuardType (<-Go.program).depth t then return
      if<-Op.eqGuardIn Op.maxDepth t (.agg xs) (.agg ys)then unsupported (.noEntry "binop/eql: two nil values of an interface type with methods, in a part of a struct or an array"))
  (do if !(<-Go.program).eqGuardType (<-Go.program).depth t then return
      if<-Op.eqGuardIn Op.maxDepth t (.agg vs) (.agg us)then unsupported (.noEntry "binop/eql: two nil values of an interface type with methods, in a part of a struct or an array")) (λ_ _ _=>True):=by
  intro q xs ys vs us;refine af.twin λj=>af.bind af.program λq s s' _ e=>?_
  rw[e.1,e.2];refine af.bind af.program λq s s' _ e=>?_
  rw[e.1,e.2,j.eqGuardType];split
  .exact af.pure trivial
  .refine af.bind (af.eqGuardIn _ t i) λl c d _ e=>?_
   subst e;cases c with
   |true=>exact af.halt
   |false=>exact af.pure trivial
 cases op<;>first
  |exact af.pure trivial
  |(cases x<;>cases v<;>first
       |exact hx.elim
       |exact Bool.noConfusion hx
       |(cases y<;>cases u<;>first
        |exact hy.elim
        |exact Bool.noConfusion hy
        |exact af.pure trivial
        |exact f _
        |exact g _ _ _ _))
theorem af.binInt {x y v u}(op)(t){k}(B:P.underlying t=some (.int k))(h:VR p x v)(f:VR p y u):af P Q K p (binOp op t x y) (binOp op t v u) (λq a b=>VR q a b):=by
 have hx:=h.cases;have hy:=f.cases
 have eqv:∀{a b c d:Value},VR p a c->VR p b d->af P Q K p (do Pure.pure (.bool (<-Op.equal t a b))) (do Pure.pure (.bool (<-Op.equal t c d))) (λq a b=>VR q a b):=λA C=>
  af.bind (af.equalInt _ t B A C) λq a b _ e=>by subst e;exact af.pure (VR.bool _)
 have g:∀{a b c d:Value},VR p a c->VR p b d->af P Q K p (do Pure.pure (.bool (!(<-Op.equal t a b)))) (do Pure.pure (.bool (!(<-Op.equal t c d)))) (λq a b=>VR q a b):=λA C=>
  af.bind (af.equalInt _ t B A C) λq a b _ e=>by subst e;exact af.pure (VR.bool _)
 have cmp:∀{a b c d:Addr} (op:BinOp),AR p a c->AR p b d->af P Q K p (do Op.addrCmp op (<-Go.behindNumber a).1 (<-Go.behindNumber b).1) (do Op.addrCmp op (<-Go.behindNumber c).1 (<-Go.behindNumber d).1) (λq a b=>VR q a b):=λop A C=>
  af.bind (af.behindNumber A) λI z H l e=>af.bind (af.behindNumber (C.mono l)) λR v v' w G=>af.addrCmp op (e.1.mono w) G.1
 have mod:∀{a c:Addr} (k:IntKind) (n:Int),AR p a c->af P Q K p (do Op.addrMod k (<-Go.behindNumber a).1 n) (do Op.addrMod k (<-Go.behindNumber c).1 n) (λq a b=>VR q a b):=λk n A=>
  af.bind (af.behindNumber A) λI z H l e=>af.addrMod k n e.1
 have str:∀(op:BinOp) (a b:ByteArray),af P Q K p (Op.stringOp op a b) (Op.stringOp op a b) (λq a b=>VR q a b):=by
  intro op a b;unfold Op.stringOp
  cases op<;>first
   |exact af.pure (VR.bool _)
   |exact af.halt
   |(simp only;split
     .exact af.halt
     .exact af.pure (VR.string _))
 cases x with
 |int k1 a=>
  obtain rfl:=h.bT;cases y with
  |int L b=>
   obtain rfl:=f.bT;cases op with
   |shl=>simp only[binOp];exact af.shift _ _ _ _ _
   |shr=>simp only[binOp];exact af.shift _ _ _ _ _
   |_=>
    by_cases N:k1≠L
    .simp only[binOp,if_pos N];exact af.halt
    .simp only[binOp,if_neg N]
     first|exact af.intArith _ _ _ _|exact af.intDiv _ _ _ _|exact af.intBits _ _ _ _|exact af.intCmp _ _ _
  |pointer o=>
   obtain⟨D,rfl,m⟩:=f.bV;cases o with
   |none=>
    obtain rfl:=m.aV;cases op with
    |eql=>exact eqv h f
    |neq=>exact g h f
    |add=>exact af.movedNumber t f h ⟨_,rfl⟩
    |_=>exact af.halt
   |some o=>
    obtain⟨J,rfl,i⟩:=m.aO;cases op with
    |eql=>exact eqv h f
    |neq=>exact g h f
    |add=>exact af.movedNumber t f h ⟨_,rfl⟩
    |and=>exact mod _ _ i
    |_=>exact af.halt
  |nilFunc=>exact ag.bR (l7 op t (.inl ⟨_,B⟩))
  |_=>cases u<;>first
    |exact hy.elim
    |exact Bool.noConfusion hy
    |(cases op with
       |eql=>exact eqv h f
       |neq=>exact g h f
       |_=>exact af.halt)
 |pointer o=>
  obtain⟨D,rfl,m⟩:=h.bV
  have s:∀{y u:Value},VR p y u->af P Q K p (do if(<-Go.underlying t) matches .unsafePointer then movedPointer t (.pointer o) y else Go.movedNumber t (.pointer o) y)
        (do if(<-Go.underlying t) matches .unsafePointer then movedPointer t (.pointer D) u else Go.movedNumber t (.pointer D) u) (λq a b=>VR q a b):=by
   intro y u E;refine af.bind (af.underlying t) λq d d' M e=>?_
   obtain⟨rfl,hd⟩:=e;rw[B]at hd;cases hd;exact af.movedNumber t (h.ext M) (E.ext M) ⟨_,rfl⟩
  cases y with
  |int L b=>
   obtain rfl:=f.bT;cases o with
   |none=>
    obtain rfl:=m.aV;cases op with
    |eql=>exact eqv h f
    |neq=>exact g h f
    |add=>exact s f
    |sub=>exact af.movedNumber t h (VR.int _ _) ⟨_,rfl⟩
    |_=>exact af.halt
   |some o=>
    obtain⟨J,rfl,i⟩:=m.aO;cases op with
    |eql=>exact eqv h f
    |neq=>exact g h f
    |add=>exact s f
    |sub=>exact af.movedNumber t h (VR.int _ _) ⟨_,rfl⟩
    |rem=>exact mod _ _ i
    |and=>exact mod _ _ i
    |_=>exact af.halt
  |pointer r=>
   obtain⟨O,rfl,F⟩:=f.bV;cases o with
   |none=>
    obtain rfl:=m.aV;cases op with
    |eql=>exact eqv h f
    |neq=>exact g h f
    |_=>cases r<;>cases O<;>first|exact af.halt|exact F.elim
   |some o=>
    obtain⟨J,rfl,i⟩:=m.aO;cases r with
    |none=>
     obtain rfl:=F.aV;cases op with
     |eql=>exact eqv h f
     |neq=>exact g h f
     |_=>exact af.halt
    |some r=>
     obtain⟨S,rfl,j⟩:=F.aO;cases op with
     |eql=>exact eqv h f
     |neq=>exact g h f
     |sub=>exact af.bind (af.behindNumber i) λI z H l e=>af.bind (af.behindNumber (j.mono l)) λR v v' w G=>af.addrSub _ (e.1.mono w) G.1
     |lss=>exact cmp _ i j
     |leq=>exact cmp _ i j
     |gtr=>exact cmp _ i j
     |geq=>exact cmp _ i j
     |_=>exact af.halt
  |_=>cases u<;>first
    |exact hy.elim
    |exact Bool.noConfusion hy
    |(cases op with
          |eql=>exact eqv h f
          |neq=>exact g h f
          |_=>cases o<;>cases D<;>first|exact af.halt|exact m.elim)
 |string a=>
  obtain rfl:=h.bO;cases y with
  |string b=>
   obtain rfl:=f.bO;cases op<;>(simp only[binOp];exact str _ _ _)
  |nilFunc=>exact ag.bR (l7 op t (.inl ⟨_,B⟩))
  |_=>cases u<;>first
    |exact hy.elim
    |exact Bool.noConfusion hy
    |(cases op with
       |eql=>exact eqv h f
       |neq=>exact g h f
       |_=>exact af.halt)
 |nilFunc=>exact ag.bR (never_binOp op t (.inl ⟨_,B⟩) trivial)
 |_=>cases v<;>first
   |exact hx.elim
   |exact Bool.noConfusion hx
   |(cases y<;>cases u<;>first
      |exact hy.elim
      |exact Bool.noConfusion hy
      |(cases op with
       |eql=>exact eqv h f
       |neq=>exact g h f
       |_=>exact af.halt))
theorem af.binEq {x y v u}(op)(t)(m:op=.eql\/op=.neq)(h:VR p x v)
 (c:(P.underlying t=some .bool/\VR p y u)\/(u=y/\((∃e,P.underlying t=some (.slice e)/\y=.slice none 0 0)\/(∃e,P.underlying t=some (.pointer e)/\y=.pointer none)))):af P Q K p (binOp op t x y) (binOp op t v u) (λq a b=>VR q a b):=by
 have hx:=h.cases
 have eqv:af P Q K p (do Pure.pure (.bool (<-Op.equal t x y))) (do Pure.pure (.bool (<-Op.equal t v u))) (λq a b=>VR q a b):=by
  refine af.bind (A:=λ_ a b=>a=b) ?_ λq a b _ e=>by subst e;exact af.pure (VR.bool _)
  rcases c with⟨c,f⟩|⟨rfl,c⟩
  .exact af.equalBool _ t c h f
  .exact af.equalNil _ t c h
 have n:af P Q K p (do Pure.pure (.bool (!(<-Op.equal t x y)))) (do Pure.pure (.bool (!(<-Op.equal t v u)))) (λq a b=>VR q a b):=by
  refine af.bind (A:=λ_ a b=>a=b) ?_ λq a b _ e=>by subst e;exact af.pure (VR.bool _)
  rcases c with⟨c,f⟩|⟨rfl,c⟩
  .exact af.equalBool _ t c h f
  .exact af.equalNil _ t c h
 have hy:(∃a,y=.slice a 0 0/\u=y)\/(y=.pointer none/\u=y)\/VR p y u:=by
  rcases c with⟨_,f⟩|⟨rfl,⟨e,_,rfl⟩|⟨e,_,rfl⟩⟩
  .exact .inr (.inr f)
  .exact .inl ⟨_,rfl,rfl⟩
  .exact .inr (.inl ⟨rfl,rfl⟩)
 have o:VR p y u:=by
  rcases c with⟨_,f⟩|⟨rfl,⟨e,_,rfl⟩|⟨e,_,rfl⟩⟩
  .exact f
  .exact VR.slice trivial
  .exact VR.ptr trivial
 have d:=o.cases
 have k:∀(k1 l:IntKind) (a b:Int),af P Q K p (binOp op t (.int k1 a) (.int l b)) (binOp op t (.int k1 a) (.int l b)) (λq a b=>VR q a b):=by
  intro k1 l a b
  by_cases s:k1≠l
  .rcases m with rfl|rfl<;>(simp only[binOp,if_pos s];exact af.halt)
  .rcases m with rfl|rfl<;>(simp only[binOp,if_neg s];exact af.intCmp _ _ _)
 have g:∀(a b:ByteArray),af P Q K p (binOp op t (.string a) (.string b)) (binOp op t (.string a) (.string b)) (λq a b=>VR q a b):=by
  intro a b;rcases m with rfl|rfl<;>(simp only[binOp,Op.stringOp];exact af.pure (VR.bool _))
 have j:isIface x->af P Q K p (binOp op t x y) (binOp op t v u) (λq a b=>VR q a b):=λr=>ag.bR (never_binOp op t (by
  rcases c with⟨c,_⟩|⟨_,⟨e,c,_⟩|⟨e,c,_⟩⟩
  .exact .inr (.inl c)
  .exact .inr (.inr (.inl ⟨e,c⟩))
  .exact .inr (.inr (.inr ⟨e,c⟩))) r)
 have i:y=.nilFunc->af P Q K p (binOp op t x y) (binOp op t v u) (λq a b=>VR q a b):=λr=>by
  subst r
  exact ag.bR (l7 op t (by
   rcases c with⟨c,_⟩|⟨_,⟨e,c,_⟩|⟨e,c,_⟩⟩
   .exact .inr (.inl c)
   .exact .inr (.inr (.inl ⟨e,c⟩))
   .exact .inr (.inr (.inr ⟨e,c⟩))))
 clear c hy
 cases x<;>cases v<;>first
  |exact hx.elim
  |exact j trivial
  |exact Bool.noConfusion hx
  |(cases y<;>cases u<;>first
       |exact d.elim
       |exact i rfl
       |exact Bool.noConfusion d
       |(obtain⟨rfl,rfl⟩:=hx;obtain⟨rfl,rfl⟩:=d;exact k _ _ _ _)
       |(obtain rfl:_=_:=hx;obtain rfl:_=_:=d;exact g _ _)
       |(rcases m with rfl|rfl
         .exact eqv
         .exact n))
end
end
