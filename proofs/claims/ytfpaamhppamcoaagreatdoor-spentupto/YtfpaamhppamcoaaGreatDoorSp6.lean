/- Part 6 of the proof. -/
import Derived.Test.YtfpaamhppamcoaaGreatDoorSp5
set_option linter.all false
namespace Go.Proofs.YtfpaamhppamcoaaGreatDoor
section
open Go
variable {st:Prop}
section
variable {α β γ δ:Type}{P Q:Program}{K:Nat->Prop}{p:Rel st}
theorem iZ (P)(a)(w)(es):(Go.frozen a).runT P w es=(.ok (w.frozen? a) w,es):=rfl
theorem af.frozen (m:∀c,¬K c){a b}(h:AR p a b):af P Q K p (Go.frozen a) (Go.frozen b) (λ_ x y=>x=y):=by
 intro o w u es fs hw l;refine⟨⟨λh w' k j=>(by cases j),⟨ZL _,rfl,λq _=>rfl⟩⟩,λx w' k j=>?_⟩;rw[iZ]at j;cases j;refine⟨p,u.frozen? b,u,#[],by rw[iZ,Array.append_empty],?_,hw,l,dE.refl _ _ _,λe he=>by simp at he⟩;obtain⟨xs,ys,e,f,g,i,d,_,_,n⟩|⟨_,_,_,i,d,_⟩|⟨_,_,_,i,d,_⟩:=hw.rows _ _ h.1
 .obtain rfl:=n (m _)
  simp only[World.frozen?,i,d,h.2.1]
 .simp only[World.frozen?,i,d]
 .simp only[World.frozen?,i,d]
theorem af.stringish (g:∀c,¬K c){a b}(h:AR p a b):af P Q K p (Go.stringish a) (Go.stringish b) (λ_ x y=>x=y):=by
 unfold Go.stringish;refine af.bind (af.frozen g h) λq x y f e=>?_
 subst e;cases x with
 |true=>exact af.pure rfl
 |false=>
  simp only[Z0,if_false];refine af.bind (af.shape (f _ _ h.1)) λi x y d e=>?_
  subst e;cases x with
  |none=>exact af.pure rfl
  |some x=>exact af.frozen g ⟨(f.trans d) _ _ h.1,rfl,rfl⟩
theorem af.mayBeOne (j:∀c,¬K c){a b c d}(h:AR p a c)(k:AR p b d):af P Q K p (Go.mayBeOne a b) (Go.mayBeOne c d) (λ_ x y=>x=y):=by
 have none:∀{q:Rel st} {a c:Addr},AR q a c->af P Q K q
  (do Pure.pure (match<-Go.shape a.block with
        |some (_,0)=>true
        |_=>false)) (do Pure.pure (match<-Go.shape c.block with
        |some (_,0)=>true
        |_=>false)) (λ_ x y=>x=y):=by
  intro q a c h;refine af.bind (af.shape h.1) λr x y _ e=>?_
  subst e;exact af.pure rfl
 unfold Go.mayBeOne;refine af.bind (af.stringish j h) λq x y i e=>?_
 subst e;refine af.bind (af.stringish j (k.mono i)) λo x y f e=>?_
 subst e;simp only;refine af.bind (none (h.mono (i.trans f))) λn x y g e=>?_
 subst e;refine af.bind (none (k.mono ((i.trans f).trans g))) λm x y l e=>?_
 subst e;exact af.pure rfl
theorem af.sameAddr (l:∀c,¬K c){a b c d}(h:AR p a c)(k:AR p b d):af P Q K p (Go.sameAddr a b) (Go.sameAddr c d) (λ_ x y=>x=y):=by
 refine af.given fun⟨w,u,hw⟩=>?_
 unfold Go.sameAddr;rw[<-AR.iM hw h k,<-AR.eq_iff hw h k];split
 .exact af.pure rfl
 .refine af.bind (af.frozen l h) λq x y i e=>?_
  subst e;refine af.bind (af.frozen l (k.mono i)) λv x y f e=>?_
  subst e;simp only;split
  .exact ag.bR (ag.left (ag.halt _))
  .refine af.bind (af.noView (h.mono (i.trans f))) λt _ _ g _=>?_
   refine af.bind (af.noView (k.mono ((i.trans f).trans g))) λs _ _ j _=>?_
   have m:=(i.trans f).trans (g.trans j);refine af.bind (af.mayBeOne l (h.mono m) (k.mono m)) λr x y n e=>?_
   subst e;split
   .refine af.bind (af.choose _) λo x y _ e=>?_
    subst e;exact af.pure rfl
   .exact af.pure rfl
theorem af.oh (o:∀c,¬K c){x y v u}(n)(t){e}(m:P.underlying t=some (.pointer e))(h:VR p x v)(k:VR p y u):af P Q K p (Op.equalIn n t x y) (Op.equalIn n t v u) (λ_ a b=>a=b):=by
 cases n with
 |zero=>exact af.halt
 |succ n=>
  unfold Op.equalIn;refine af.bind (af.underlying t) λq d d' l j=>?_
  obtain⟨rfl,hd⟩:=j;rw[m]at hd;cases hd;have r:=h.ext l;have k':=k.ext l;cases x with
  |pointer a=>
   obtain⟨c,rfl,g⟩:=r.bV;cases y with
   |pointer b=>
    obtain⟨d,rfl,f⟩:=k'.bV;cases a with
    |none=>
     obtain rfl:=g.aV;cases b with
     |none=>obtain rfl:=f.aV;exact af.pure rfl
     |some b=>obtain⟨d,rfl,_⟩:=f.aO;exact af.pure rfl
    |some a=>
     obtain⟨c,rfl,g⟩:=g.aO;cases b with
     |none=>obtain rfl:=f.aV;exact af.pure rfl
     |some b=>
      obtain⟨d,rfl,f⟩:=f.aO;refine af.given fun⟨w,u,hw⟩=>?_
      simp only;refine af.bind (af.sizeOf _) λB s s' i j=>?_
      subst j;have z:=AR.eq_iff hw g f;rw[<-z];split
      .exact af.sameAddr o (g.mono i) (f.mono i)
      .split
       .exact af.pure rfl
       .refine af.bind (af.choose _) λA x y _ e=>?_
        subst e;exact af.pure rfl
   |_=>exact ag.bR (by cases a<;>exact ag.halt _)
  |_=>exact ag.bR (ag.halt _)
def oP (P:Program):Bool:=ifaceT.all λt=>match P.underlying t with
 |some .string|some (.pointer _)=>true
 |_=>false
theorem af.equalIface (E:∀c,¬K c)(C:oP P=true){x y v u}(n)(t){ms}(B:P.underlying t=some (.interface ms))(hx:∀z,x≠.iface bP z)(h:VR p x v)(k:VR p y u):af P Q K p (Op.equalIn n t x y) (Op.equalIn n t v u) (λ_ a b=>a=b):=by
 cases n with
 |zero=>exact af.halt
 |succ n=>
  unfold Op.equalIn;refine af.bind (af.underlying t) λq d d' A w=>?_
  obtain⟨rfl,hd⟩:=w;rw[B]at hd;cases hd;have F:=h.ext A;have k':=k.ext A;have g:=F.cases;have f:=k'.cases;cases x with
  |nilIface=>
   cases v with
   |nilIface=>
    cases y with
    |nilIface=>cases u<;>first|exact f.elim|exact af.pure rfl
    |iface a b=>cases u<;>first|exact f.elim|exact af.pure rfl
    |_=>exact ag.bR (ag.halt _)
   |_=>exact g.elim
  |iface a b=>
   cases v with
   |iface a' I=>
    obtain⟨rfl,g⟩:=g;rcases g with⟨D,hb⟩|⟨rfl,_⟩
    rotate_left
    .exact absurd rfl (hx _)
    cases y with
    |nilIface=>cases u<;>first|exact f.elim|exact af.pure rfl
    |iface c d=>
     cases u with
     |iface H d'=>
      obtain⟨rfl,f⟩:=f;simp only
      by_cases l:a≠c
      .rw[if_pos l,if_pos l];exact af.pure rfl
      .rw[if_neg l,if_neg l]
       have o:a=c:=Classical.not_not.1 l;subst o
       have hd:VR q d d':=by
           rcases f with⟨_,hd⟩|⟨rfl,_⟩
           .exact hd
           .exact absurd rfl (hx _)
       refine af.bind (af.typeInfo a) λG i j m w=>?_
       obtain⟨rfl,_⟩:=w;split
       .refine ag.bR (ag.bind aY.program λa=>ag.bind aY.program λb=>?_)
        split
        .exact ag.left (ag.halt _)
        .refine ag.bind ?_ λs=>ag.runtimePanic _
         unfold typeStr;refine aY.bind (aY.typeInfo _) λi=>?_
         show aY P (if i.str.isEmpty=true then unsupported (Unsupported.noEntry "a type whose name as gc spells it is not known")else Pure.pure i.str)
         split
         .exact aY.halt _
         .exact aY.pure _
       .have r:(match P.underlying a with|some .string|some (.pointer _)=>true|_=>false)=true:=ZU.1 C a (by simpa[okIb] using D)
        cases hu:P.underlying a with
        |none=>rw[hu]at r;cases r
        |some d0=>
         rw[hu]at r;cases d0 with
         |string=>exact af.jA 1 _ _ (by simp[jO,hu]) (hb.ext m) (hd.ext m)
         |pointer e=>exact af.oh E _ _ hu (hb.ext m) (hd.ext m)
         |_=>cases r
     |_=>exact f.elim
    |_=>exact ag.bR (ag.halt _)
   |_=>exact g.elim
  |_=>exact ag.bR (ag.halt _)
end
variable {st:Prop}
section
variable {α β γ δ:Type}{P Q:Program}{K:Nat->Prop}{p:Rel st}
theorem ja (P)(a)(n)(w)(es):(Go.freeze a n).runT P w es=(.ok () (w.freeze a n),es):=rfl
theorem freeze_tape (w:World)(a)(n):(w.freeze a n).tape=w.tape/\(w.freeze a n).drawn=w.drawn/\(w.freeze a n).os=w.os/\(w.freeze a n).output=w.output/\(w.freeze a n).heap.size=w.heap.size/\∀k,k≠a.block->(w.freeze a n).heap[k]? =w.heap[k]?:=by
 unfold World.freeze;split
 .exact⟨rfl,rfl,rfl,rfl,rfl,λ_ _=>rfl⟩
 .exact⟨rfl,rfl,rfl,rfl,by simp,λk b=>by simp[Array.getElem?_modify,Ne.symm b]⟩
theorem modify_id {A:Array Obj}{i}{f}(h:∀o,A[i]? =some o->f o=o):A.modify i f=A:=Array.ext (by simp) λj c b=>by
 rw[Array.getElem_modify];split
 .rename_i a
  subst a;exact h _ (ZM b)
 .rfl
theorem af.freeze {a b}(h:AR p a b)(y:¬K b.block)(n):af P Q K p (Go.freeze a n) (Go.freeze b n) (λ_ _ _=>True):=by
 intro H w u es fs hw s;obtain⟨t1,t2,t3,t4,t5,t6⟩:=freeze_tape w a n;obtain⟨s1,s2,E,D,B,A⟩:=freeze_tape u b n;refine⟨⟨λh w' z t=>(by cases t),⟨Nat.le_of_eq t2.symm,t1,λC _=>?_⟩⟩,λx w' z t=>?_⟩
 .show(Result.ok () ((ay w C).freeze a n),es)=(Result.ok () (ay (w.freeze a n) C),es)
  unfold World.freeze;split<;>rfl
 .rw[ja]at t
  cases t;have d:TR (w.freeze a n) (u.freeze b n):=λi q=>by rw[t1,t2,s1,s2];exact s i q
  by_cases k:n=0
  .subst k
   have e:∀(w:World) (a:Addr),w.freeze a 0=w:=λw a=>by simp[World.freeze]
   refine⟨p,(),u,#[],by rw[ja,Array.append_empty,e],trivial,by rw[e];exact hw,by rw[e]at d⊢;exact s,dE.refl _ _ _,λe he=>by simp at he⟩
  obtain⟨xs,ys,e,f,g,c,m,G,_,F⟩|⟨_,_,_,c,m,_⟩|⟨_,_,_,c,m,_⟩:=hw.rows _ _ h.1
  .obtain rfl:=F y
   obtain⟨r,v⟩:=f
   have m1:(w.freeze a n).heap[a.block]? =some (.cells xs e (if(r==v)=true then(a.off,a.off+n)else(min r a.off,max v (a.off+n)))):=by
     simp only[World.freeze,if_neg k,Array.getElem?_modify,c,Option.map_some,if_true]
   have m2:(u.freeze b n).heap[b.block]? =some (.cells ys e (if(r==v)=true then(a.off,a.off+n)else(min r a.off,max v (a.off+n)))):=by
     simp only[World.freeze,if_neg k,Array.getElem?_modify,m,Option.map_some,if_true,<-h.2.1]
   exact⟨p,(),u.freeze b n,#[],by rw[ja,Array.append_empty],trivial,hw.put h.1 y G m1 m2 t6 A t5 B,d,dE.put h.1 y s1 E D A B,λe he=>by simp at he⟩
  .have same:∀(w:World) (a:Addr) (x:Addr) (l:Bool),w.heap[a.block]? =some (.number x l)->w.freeze a n=w:=λw a x l h=>by
     unfold World.freeze;rw[if_neg k];exact congrArg (λh=>({w with heap:=h}:World)) (modify_id λo j=>by rw[h]at j;cases j;rfl)
   refine⟨p,(),u,#[],by rw[ja,Array.append_empty,same u b _ _ m],trivial,by rw[same w a _ _ c];exact hw,by rw[same w a _ _ c];exact s,dE.refl _ _ _,λe he=>by simp at he⟩
  .have same:∀(w:World) (a:Addr) (x:Addr) (l:TypeId),w.heap[a.block]? =some (.view x l)->w.freeze a n=w:=λw a x l h=>by
     unfold World.freeze;rw[if_neg k];exact congrArg (λh=>({w with heap:=h}:World)) (modify_id λo j=>by rw[h]at j;cases j;rfl)
   refine⟨p,(),u,#[],by rw[ja,Array.append_empty,same u b _ _ m],trivial,by rw[same w a _ _ c];exact hw,by rw[same w a _ _ c];exact s,dE.refl _ _ _,λe he=>by simp at he⟩
theorem af.loadU8 {a b}(h:AR p a b):af P Q K p (Go.load a) (Go.load b) (λq v x=>VR q v x/\(¬noU8 v->¬K b.block)):=by
 intro j w u es fs hw k;refine⟨(af.load h j w u es fs hw k).1,λv w' i c=>?_⟩;obtain⟨q,x,u',new,r,o,n⟩:=(af.load h j w u es fs hw k).2 v w' i c;refine⟨q,x,u',new,r,⟨o,λl d=>?_⟩,n⟩;obtain⟨xs,ys,e,f,g,m1,m2,_,m4,_⟩|⟨_,_,_,_,_,_,m⟩|⟨_,_,_,_,_,_,m⟩:=hw.rows _ _ h.1
 .rw[ic]at c
  have hf:World.farLoad P w a false=.error (w.noCell a "load: no such cell"):=by simp only[World.farLoad,m1]
  cases hc:w.cell? a with
  |none=>rw[hc,hf]at c;cases c
  |some y=>
   rw[hc]at c;cases c;simp only[World.cell?,m1]at hc;split at hc
   .cases hc
   .exact l ((m4 d).2.2.2 _ _ hc)
 .exact m d
 .exact m d
theorem af.loadBytes:∀(n:Nat) {p:Rel st} {a b:Addr} (acc:ByteArray),AR p a b->af P Q K p (Go.loadBytes a acc n) (Go.loadBytes b acc n) (λ_ x y=>x=y/\(0<n->¬K b.block))
 |0,_,_,_,acc,_=>by unfold Go.loadBytes;exact af.pure ⟨rfl,λh=>absurd h (Nat.lt_irrefl _)⟩
 |n+1,p,a,b,acc,h=>by
  unfold Go.loadBytes;refine af.bind (af.loadU8 h) λq v x f e=>?_
  obtain⟨c,g⟩:=e;have d:=c.cases;cases v with
  |int k m=>
   obtain rfl:=c.bT;cases k with
   |u8=>exact(af.loadBytes n _ ((h.mono f).add 1)).mono λ_ _ _ _ e=>⟨e.1,λ_=>g (λh=>h)⟩
   |_=>exact af.halt
  |_=>exact ag.bR (ag.halt _)
theorem af.elemOf (t):af P Q K p (Go.elemOf t) (Go.elemOf t) (λ_ a b=>a=b):=by
 unfold Go.elemOf;refine af.bind (af.underlying t) λq d d' c e=>?_
 obtain⟨rfl,_⟩:=e;cases d<;>first|exact af.halt|exact af.pure rfl
theorem af.variablesAt {a b}(h:AR p a b)(t)(n):af P Q K p (Go.variablesAt a t n) (Go.variablesAt b t n) (λ_ x y=>x=y):=by
 unfold Go.variablesAt;refine af.twin λc=>af.bind af.program λq s s' d e=>?_
 rw[e.1,e.2,c.liesAt,c.cellsOf,<-h.2.1];refine af.bind (af.shape (d _ _ h.1)) λf x y _ e=>?_
 subst e;cases x<;>exact af.pure rfl
theorem af.unsafeString {x y v u}(t1 t2 l)(h:VR p x v)(k:VR p y u):af P Q K p (Builtin.unsafeString_ #[t1,t2] l #[x,y]) (Builtin.unsafeString_ #[t1,t2] l #[v,u]) (λq a b=>VR q a b):=by
 unfold Builtin.unsafeString_;cases x with
 |pointer o=>
  obtain⟨J,rfl,C⟩:=h.bV;refine af.bind (af.asInt k) λq n m B e=>?_
  subst e;have d:=OA.mono B C;simp only[List.getElem?_toArray,List.getElem?_cons_zero]
  by_cases A:n<0
  .simp only[A,if_true];exact ag.bR (ag.left (ag.runtimePanic _))
  simp only[A,if_false]
  by_cases w:n>IntKind.i64.max
  .simp only[w,if_true];exact ag.bR (ag.left (ag.halt _))
  simp only[w,if_false];cases o with
  |none=>
   obtain rfl:=d.aV;simp only;split
   .exact af.pure (VR.string _)
   .exact ag.bR (ag.runtimePanic _)
  |some a=>
   obtain⟨b,rfl,f⟩:=d.aO;simp only
   by_cases r:n=0
   .simp only[r,if_true];exact af.pure (VR.string _)
   simp only[r,if_false];refine af.bind (af.elemOf t1) λI e L c g=>?_
   subst g;refine af.bind (af.variablesAt (f.mono c) e n.toNat) λH z E j g=>?_
   subst g;split
   .have t:=(f.mono c).mono j
    refine af.bind (af.loadBytes n.toNat _ t) λG s s' i g=>?_
    obtain⟨rfl,D⟩:=g;refine af.bind (af.freeze (t.mono i) (D (by omega)) _) λF _ _ _ _=>af.pure (VR.string _)
   .exact ag.bR (ag.halt _)
 |_=>exact ag.bR (ag.halt _)
theorem af.unsafeSliceData (g:¬st){x v}(t1 f)(h:VR p x v):af P Q K p (Builtin.unsafeSliceData_ #[t1] f #[x]) (Builtin.unsafeSliceData_ #[t1] f #[v]) (λq a b=>VR q a b):=by
 unfold Builtin.unsafeSliceData_;cases x with
 |slice o l c=>
  obtain⟨w,rfl,m⟩:=h.bD;cases o with
  |none=>obtain rfl:=m.aV;exact af.pure (VR.ptr trivial)
  |some a=>
   obtain⟨b,rfl,d⟩:=m.aO;rcases d with d|⟨_,hs⟩
   rotate_left
   .exact absurd hs g
   have fin:∀(a b:Addr),AR p a b->af P Q K p (if c≠0 then(Pure.pure (.pointer (some a)):Sem Value)else(do
          let y<-Go.viewAt a.block
          if y.isSome=true then Pure.pure (.pointer (some a))else do
            let e<-Go.elemOf f
            let r<-newObj (.view a e)
            Pure.pure (.pointer (some ⟨r,0,none⟩)))) (if c≠0 then(Pure.pure (.pointer (some b)):Sem Value)else(do
          let y<-Go.viewAt b.block
          if y.isSome=true then Pure.pure (.pointer (some b))else do
            let e<-Go.elemOf f
            let r<-newObj (.view b e)
            Pure.pure (.pointer (some ⟨r,0,none⟩)))) (λq a b=>VR q a b):=by
        intro a b d
        by_cases hc:c≠0
        .rw[if_pos hc,if_pos hc];exact af.pure (VR.ptr d)
        .rw[if_neg hc,if_neg hc]
         refine af.bind (af.viewAt d.1) λq x y k e=>?_
         cases x with
         |none=>
          cases y with
          |some y=>exact e.elim
          |none=>
           simp only[Option.isSome_none,Z0,if_false];refine af.bind (af.elemOf f) λu e z i j=>?_
           subst j;refine af.bind (af.newView e ((d.mono k).mono i)) λt r s n j=>?_
           exact af.pure (VR.ptr ⟨j.1,rfl,rfl⟩)
         |some x=>
          cases y with
          |none=>exact e.elim
          |some y=>
           simp only[Option.isSome_some,if_true];exact af.pure (VR.ptr (d.mono k))
   exact fin a b d
 |_=>exact ag.bR (ag.halt _)
theorem af.seenAt {a b}(h:AR p a b):af P Q K p (Conv.seenAt a) (Conv.seenAt b) (λq x y=>AR q x y):=by
 unfold Conv.seenAt;refine af.bind (af.viewAt h.1) λq x y l e=>?_
 cases x with
 |none=>
  cases y with
  |some y=>exact e.elim
  |none=>exact af.pure (h.mono l)
 |some x=>
  cases y with
  |none=>exact e.elim
  |some y=>
   obtain⟨x1,x2⟩:=x;obtain⟨k,j⟩:=y;obtain⟨d,rfl⟩:AR q x1 k/\x2=j:=e;simp only;rw[<-h.2.1,<-h.2.2];split
   .exact af.pure d
   .rw[<-d.2.2]
    split
    .exact ag.bR (ag.left (ag.halt _))
    .refine af.twin λg=>af.bind af.program λo s s' f e=>?_
     rw[e.1,e.2,g.byteOfCell];cases Go.byteOfCell P P.depth x2 a.off with
     |none=>exact af.halt
     |some β=>
      simp only;refine af.bind (af.shape (f _ _ d.1)) λn z m i e=>?_
      subst e;cases z with
      |none=>exact af.halt
      |some z=>
       simp only;rw[g.cellAtBytes,g.cellsOf,<-d.2.1];split
       .exact ag.bR (ag.left (ag.halt _))
       .cases Go.cellAtBytes P P.depth z.1 (z.2/P.cellsOf z.1) x1.off (β:Int)with
        |none=>exact af.halt
        |some c=>exact af.pure ⟨(f.trans i) _ _ d.1,rfl,rfl⟩
theorem af.cellsIn {r s}(h:p r s):af P Q K p (Go.cellsIn r) (Go.cellsIn s) (λ_ a b=>a=b):=by
 intro D w u es fs hw z
 have k1:∀(P:Program) (w:World) (es:Array Event) (r:Nat) xs e f,w.heap[r]? =some (.cells xs e f)->(Go.cellsIn r).runT P w es=(.ok (some xs.size) w,es):=by
  intro P w es r xs e f h;show(Sem.bind (Go.shape r) _).runT P w es=_
  rw[Sem.runT_bind'];have:(Go.shape r).runT P w es=(.ok (w.shape? r) w,es):=rfl;rw[this];simp only[World.shape?,h];rfl
 have n:∀(P:Program) (w:World) (es:Array Event) (r:Nat) o,w.heap[r]? =some o->((∃a l,o=.number a l)\/∃a t,o=.view a t)->(Go.cellsIn r).runT P w es=(.ok none w,es.push ⟨.obj r,false,false⟩):=by
  intro P w es r o h j;show(Sem.bind (Go.shape r) _).runT P w es=_
  rw[Sem.runT_bind'];have:(Go.shape r).runT P w es=(.ok (w.shape? r) w,es):=rfl;rw[this];rcases j with⟨a,l,rfl⟩|⟨a,l,rfl⟩
  all_goals
   simp only[World.shape?,h];show(Sem.bind (Go.getObj r) _).runT P w es=_
   rw[Sem.runT_bind']
   have:∀o,w.heap[r]? =some o->((∃a l,o=.number a l)\/∃a t,o=.view a t)->(Go.getObj r).runT P w es=(.ok o w,es.push ⟨.obj r,false,false⟩):=λo h j=>by
        unfold Go.getObj Sem.runT;rw[h];rcases j with⟨a,l,rfl⟩|⟨a,l,rfl⟩<;>rfl
  .rw[this _ h (.inl ⟨_,_,rfl⟩)]
   rfl
  .rw[this _ h (.inr ⟨_,_,rfl⟩)]
   rfl
 have other:∀o m,w.heap[r]? =some o->u.heap[s]? =some m->((∃a l,o=.number a l)\/∃a t,o=.view a t)->((∃a l,m=.number a l)\/∃a t,m=.view a t)->Plainly P (Go.cellsIn r) w es/\∀a w' i,(Go.cellsIn r).runT P w es=(.ok a w',i)->
  ∃q b u' new,(Go.cellsIn s).runT Q u fs=(.ok b u',fs++new)/\a=b/\WR P.globals.size K q w' u'/\TR w' u'/\dE K p q u u'/\∀e∈new,EvOk K q e:=by
  intro o m c k j v;refine⟨⟨λA w' i d=>(by rw[n P w es r o c j]at d;cases d),(by unfold Local;rw[n P w es r o c j];exact⟨ZL _,rfl,λy _=>(n P (ay w y) es r o c j).trans rfl⟩)⟩,λa w' i d=>?_⟩;rw[n P w es r o c j]at d;cases d
  exact⟨p,none,u,#[⟨.obj s,false,false⟩],by rw[n Q u fs s m k v];rfl,rfl,hw,z,dE.refl _ _ _,λe he=>by
   obtain rfl:e=⟨.obj s,false,false⟩:=by simpa using he
   exact .inl ⟨s,r,.inl rfl,h,rfl,λh=>by cases h⟩⟩
 obtain⟨xs,ys,e,f,g,c,k,x,_⟩|⟨C,a2,l,c,k,x,B⟩|⟨C,a2,l,c,k,x,B⟩:=hw.rows _ _ h
 .refine⟨⟨λA w' i d=>(by rw[k1 P w es r xs e f c]at d;cases d),(by unfold Local;rw[k1 P w es r xs e f c];exact⟨ZL _,rfl,λy _=>(k1 P (ay w y) es r xs e f c).trans rfl⟩)⟩,λa w' i d=>?_⟩
  rw[k1 P w es r xs e f c]at d;cases d;exact⟨p,some ys.size,u,#[],by rw[k1 Q u fs s ys e g k,Array.append_empty],by rw[x.1],hw,z,dE.refl _ _ _,λe he=>by simp at he⟩
 .exact other _ _ c k (.inl ⟨_,_,rfl⟩) (.inl ⟨_,_,rfl⟩)
 .exact other _ _ c k (.inr ⟨_,_,rfl⟩) (.inr ⟨_,_,rfl⟩)
theorem af.unsafePointer {x v}(s t)(h:VR p x v)(A:(∃e,P.underlying s=some (.pointer e)/\P.underlying t=some .unsafePointer)\/∃e,P.underlying s=some .unsafePointer/\P.underlying t=some (.pointer e)):af P Q K p (Conv.unsafePointer s t x) (Conv.unsafePointer s t v) (λq a b=>VR q a b):=by
 unfold Conv.unsafePointer;refine af.bind (af.underlying s) λq d d' Y e=>?_
 obtain⟨rfl,hd⟩:=e;refine af.bind (af.underlying t) λq1 c c' J e=>?_
 obtain⟨rfl,hc⟩:=e;have D:=(h.ext Y).ext J;rcases A with⟨e,hs,A⟩|⟨e,hs,A⟩
 .rw[hs]at hd
  cases hd;rw[A]at hc;cases hc;cases x with
  |pointer o=>
   obtain⟨V,rfl,B⟩:=D.bV;cases o with
   |none=>obtain rfl:=B.aV;exact af.pure D
   |some a=>
    obtain⟨b,rfl,l⟩:=B.aO;refine af.bind (af.seenAt l) λU z u I m=>?_
    refine af.bind (af.cellsIn m.1) λq3 n n' H f=>?_
    subst f;simp only;refine af.bind (af.sizeOf e) λL k k' g f=>?_
    subst f;have i:=(m.mono H).mono g;rw[<-i.2.1,<-i.2.2]
    have fin:∀N:Bool,af P Q K L (if(decide (k=0)||N)=true then(do let r<-newObj (.view z e);Pure.pure (.pointer (some ⟨r,0,none⟩)):Sem Value)else Pure.pure (.pointer (some z)))
        (if(decide (k=0)||N)=true then(do let r<-newObj (.view u e);Pure.pure (.pointer (some ⟨r,0,none⟩)):Sem Value)else Pure.pure (.pointer (some u))) (λq a b=>VR q a b):=by
     intro N
     by_cases C:(decide (k=0)||N)=true
     .rw[if_pos C,if_pos C]
      refine af.bind (af.newView e i) λT r s j f=>?_
      exact af.pure (VR.ptr (a:=some _) (b:=some _) ⟨f.1,rfl,rfl⟩)
     .rw[if_neg C,if_neg C]
      exact af.pure (VR.ptr (a:=some z) (b:=some u) i)
    exact fin _
  |_=>exact ag.bR (ag.halt _)
 .rw[hs]at hd
  cases hd;rw[A]at hc;cases hc;cases x with
  |pointer o=>
   obtain⟨V,rfl,B⟩:=D.bV;cases o with
   |none=>obtain rfl:=B.aV;exact af.pure D
   |some a=>
    obtain⟨b,rfl,l⟩:=B.aO;refine af.bind (af.seenAt l) λU z u I m=>?_
    refine af.bind (af.sizeOf e) λL k k' g f=>?_
    subst f;refine af.bind (af.variablesAt (m.mono g) e 1) λT k2 W j f=>?_
    subst f;split
    .exact af.pure (VR.ptr (a:=some z) (b:=some u) (m.mono (g.trans j)))
    .have w:=(m.mono g).mono j
     refine af.bind (af.shape w.1) λq6 y Z G f=>?_
     subst f;cases y with
     |none=>exact ag.bR (ag.left (ag.halt _))
     |some y=>
      simp only;refine af.twin λO=>af.bind af.program λq7 s1 S F f=>?_
      rw[f.1,f.2];refine af.bind af.program λq8 s2 R E M=>?_
      rw[M.1,M.2,O.holdsStoodIn];split
      .exact ag.bR (ag.left (ag.halt _))
      .refine af.bind (af.newView e (((w.mono G).mono F).mono E)) λq9 r s X f=>?_
       exact af.pure (VR.ptr ⟨f.1,rfl,rfl⟩)
  |_=>exact ag.bR (ag.halt _)
theorem af.pO {x v}(s t)(h:VR p x v)(f:(∃e,P.underlying s=some (.pointer e)/\P.underlying t=some .unsafePointer)\/∃e,P.underlying s=some .unsafePointer/\P.underlying t=some (.pointer e)):af P Q K p (Go.convert s t x) (Go.convert s t v) (λq a b=>VR q a b):=by
 unfold Go.convert;refine af.bind (af.underlying s) λq d d' j e=>?_
 obtain⟨rfl,hd⟩:=e;refine af.bind (af.underlying t) λk c l g e=>?_
 obtain⟨rfl,hc⟩:=e;have i:=(h.ext j).ext g;have hx:=i.cases;have key:=af.unsafePointer (K:=K) (Q:=Q) s t i f;rcases f with⟨e,hs,f⟩|⟨e,hs,f⟩<;>(rw[hs]at hd;cases hd;rw[f]at hc;cases hc;cases x<;>cases v<;>first|exact hx.elim|exact Bool.noConfusion hx|exact key)
end
variable {st:Prop}
section
variable {fns:List Nat}{α β γ δ:Type}{P Q:Program}{K:Nat->Prop}{p:Rel st}
def j5 (P:Program)(g:Nat)(e:Array Value->Sem Value):Prop:=∃fn,P.funcs[g]? =some fn/\(fn.name== "runtime.NumGoroutine")=false/\fn.body.isNone=true/\Extern.findNext fn=none/\Extern.find fn=some e
def ExtOk (l:List Nat)(P Q:Program):Prop:=∀g∈l,∃e,j5 P g e/\j5 Q g e/\∀(st:Prop) (K:Nat->Prop) (p:Rel st) (a b:Array Value),aF (VR p) a b->af P Q K p (e a) (e b) (λq x y=>VR q x y)
theorem dY {P}{g}{e}(h:j5 P g e)(a)(w)(es):(callFunc g a).runT P w es=(do Go.mark (.extern g);Pure.pure (Next.value (<-e a)):Sem Next).runT P w es:=by
 obtain⟨fn,i,f,d,c,b⟩:=h;show(match P.funcs[g]? with|none=>_|some fn=>_:Sem Next).runT P w es=_
 simp only[i,f,d,c,b,Z0,if_false,if_true]
theorem af.of_runT {s s'}{t g}{A:Rel st->α->β->Prop}(h:af P Q K p s' g A)(f:∀w es,s.runT P w es=s'.runT P w es)(n:∀w es,t.runT Q w es=g.runT Q w es):af P Q K p s t A:=by
 intro j w u es fs hw l;have e:=h j w u es fs hw l;refine⟨⟨λm w' c d=>e.1.mild m w' c (by rw[<-f];exact d),?_⟩,λa w' c d=>?_⟩
 .have i:=e.1.loc
  unfold Local at i⊢;simp only[f];exact i
 .obtain⟨q,b,u',new,k1,k⟩:=e.2 a w' c (by rw[<-f];exact d)
  exact⟨q,b,u',new,by rw[n];exact k1,k⟩
theorem af.callExt {l}(hx:ExtOk l P Q){g}(d:g∈l){a b}(h:aF (VR p) a b):af P Q K p (Go.callFunc g a) (Go.callFunc g b) (NR fns):=by
 obtain⟨e,j,i,f⟩:=hx g d;refine af.of_runT ?_ (dY j a) (dY i b);refine af.bind (af.mark _ trivial) λq _ _ c _=>?_
 exact af.bB (f _ _ _ _ _ (h.ext c))
def nT (P:Program)(t:TypeId):Bool:=match P.underlying t with|some (.interface _)=>true|_=>false
def isUnsafe (P:Program)(t:TypeId):Bool:=match P.underlying t with|some .unsafePointer=>true|_=>false
def mOk (P:Program)(fns:List Nat)(name:String)(t:TypeId):Bool:=match P.info? t with
 |none=>true
 |some i=>match i.methods.find? (λm=>m.name==name)with
  |none=>true
  |some m=>m.path.isEmpty&&(match m.func,P.underlying t with
   |some (f,true),some (.pointer _)=>fns.contains f&&(f !=42&&f !=88)
   |_,_=>false)
def noM (P:Program)(name:String)(t:TypeId):Bool:=match P.info? t with
 |none=>true
 |some i=>(i.methods.find? (λm=>m.name==name)).isNone
def invokeOk (P:Program)(fns:List Nat)(name:String):Bool:=ifaceT.all (mOk P fns name)&&noM P name bP
theorem af.method {name}{t}(hm:mOk P fns name t=true){a b}(h:VR p a b)(n m):af P Q K p (Go.method (n+1) t a name) (Go.method (m+1) t b name) (λq x y=>x.1=y.1/\(x.1∈fns/\x.1≠42/\x.1≠88)/\VR q x.2 y.2):=by
 unfold Go.method;refine af.bind (af.typeInfo t) λq i j u e=>?_
 obtain⟨rfl,v⟩:=e;unfold mOk at hm;rw[v]at hm;simp only at hm;cases hf:i.methods.find? (λm=>m.name==name)with
 |none=>exact af.halt
 |some r=>
  rw[hf]at hm;simp only[ZQ]at hm;obtain⟨hp,hm⟩:=hm
  have c:r.path.toList=[]:=by
   have:r.path= #[]:=by simpa using hp
   rw[this]
  simp only;rw[c];refine af.bind (A:=λq x y=>x=(t,Place.val a)/\y=(t,Place.val b)) (af.pure ⟨rfl,rfl⟩) λC x y k e=>?_
  obtain⟨rfl,rfl⟩:=e;simp only;split at hm;rotate_left
  .cases hm
  rename_i f e l hu;rw[l];simp only;simp only[ZQ,bne_iff_ne]at hm;have o:=(h.ext u).ext k;refine af.bind (A:=λq x y=>VR q x y) ?_ λB x y s e=>af.pure ⟨rfl,⟨by simpa using hm.1,hm.2⟩,e⟩
  unfold receiverAt;refine af.bind (af.underlying t) λz d d' g w=>?_
  obtain⟨rfl,hd⟩:=w;rw[hu]at hd;cases hd;exact af.pure (o.ext g)
theorem ag.program {k:Program->Sem γ}(h:ag P (k P)):ag P (Go.program>>=k):=λw es=>h w es
theorem ag.bindInfo {t}{f:TypeInfo->Sem γ}(h:∀i,P.info? t=some i->ag P (f i)):ag P (Go.typeInfo t>>=f):=by
 unfold Go.typeInfo;rw[bind_assoc];refine ag.program ?_;cases a:P.info? t with
 |none=>exact ag.left (ag.halt _)
 |some i=>simp only[pure_bind];exact h i a
theorem never_method {name}{t}(hm:noM P name t=true)(a)(n):ag P (Go.method (n+1) t a name):=by
 unfold Go.method;refine ag.bindInfo λi b=>?_
 unfold noM at hm;rw[b]at hm;simp only[Option.isNone_iff_eq_none]at hm;rw[hm];exact ag.halt _
theorem af.callMethod {name}(hp:gL fns P Q)(hm:invokeOk P fns name=true){x v}{a b}(h:VR p x v)(m:aF (VR p) a b):af P Q K p (Go.callMethod x name a) (Go.callMethod v name b) (NR fns):=by
 unfold invokeOk at hm;rw[ZQ]at hm;obtain⟨k,j⟩:=hm;unfold Go.callMethod;have hx:=h.cases;cases x with
 |iface t c=>
  cases v with
  |iface D d=>
   obtain⟨rfl,hx⟩:=hx;rcases hx with⟨u,l⟩|⟨rfl,rfl⟩
   .refine af.bind af.program λq s s' n e=>?_
    rw[e.1,e.2];have g:mOk P fns name t=true:=ZU.1 k t (by simpa[okIb] using u);refine af.bind (af.method (K:=K) g (l.ext n) (P.types.size+99) (Q.types.size+99)) λE y z f w=>?_
    obtain⟨C,B⟩:=y;obtain⟨A,z2⟩:=z;obtain⟨rfl,⟨hf,o⟩,r⟩:=w;refine af.callFunc hf ⟨λe=>absurd e o.1,λe=>absurd e o.2⟩ hp (aF.append ⟨rfl,λi x y hx hy=>?_⟩ (m.ext (n.trans f)))
    match i,hx,hy with
    |0,hx,hy=>cases hx;cases hy;exact r
   .refine ag.bR ?_
    exact ag.program (ag.left (never_method j c (P.types.size+99)))
  |_=>exact hx.elim
 |nilIface=>exact ag.bR (ag.runtimePanic _)
 |_=>exact ag.bR (ag.halt _)
def rtM (P:Program)(rx:List Nat)(name:String):Bool:=(match P.underlying bP with|some (.struct _)=>true|_=>false)&&match P.info? bP with
 |none=>true
 |some i=>match i.methods.find? (λm=>m.name==name)with
  |none=>true
  |some m=>m.path.isEmpty&&(match m.func with
   |some (f,false)=>rx.contains f
   |_=>false)
def fU (l:List Nat)(P Q:Program):Prop:=∀g∈l,∃e,j5 P g e/\j5 Q g e/\∀(st:Prop) (K:Nat->Prop) (p:Rel st) (c:Value),af P Q K p (e #[c]) (e #[c]) (λq x y=>VR q x y)
theorem af.methodR {rx}{name}(hm:rtM P rx name=true)(c)(n m):af P Q K p (Go.method (n+1) bP c name) (Go.method (m+1) bP c name) (λ_ x y=>x.1=y.1/\x.1∈rx/\x.2=c/\y.2=c):=by
 unfold Go.method;refine af.bind (af.typeInfo bP) λq i j w e=>?_
 obtain⟨rfl,r⟩:=e;unfold rtM at hm;rw[ZQ]at hm;obtain⟨b,hm⟩:=hm
 obtain⟨fs,hu⟩:∃fs,P.underlying bP=some (.struct fs):=by
  split at b
  .rename_i fs e;exact⟨fs,e⟩
  .cases b
 rw[r]at hm;simp only at hm;cases hf:i.methods.find? (λm=>m.name==name)with
 |none=>exact af.halt
 |some h=>
  rw[hf]at hm;simp only[ZQ]at hm;obtain⟨hp,hm⟩:=hm
  have a:h.path.toList=[]:=by
   have:h.path= #[]:=by simpa using hp
   rw[this]
  simp only;rw[a];refine af.bind (A:=λq x y=>x=(bP,Place.val c)/\y=(bP,Place.val c)) (af.pure ⟨rfl,rfl⟩) λv x y o e=>?_
  obtain⟨rfl,rfl⟩:=e;simp only;split at hm;rotate_left
  .cases hm
  rename_i f g;rw[g];simp only;refine af.bind (A:=λq x y=>x=c/\y=c) ?_ λu x y l e=>af.pure ⟨rfl,by simpa using hm,e.1,e.2⟩
  unfold receiverAt;refine af.bind (af.underlying bP) λt d d' k s=>?_
  obtain⟨rfl,hd⟩:=s;rw[hu]at hd;cases hd;exact af.pure ⟨rfl,rfl⟩
theorem af.callMethodR {rx}{name}(hp:gL fns P Q)(l:ifaceT.all (mOk P fns name)=true)(k:rtM P rx name=true)(hx:fU rx P Q){x v}(h:VR p x v):af P Q K p (Go.callMethod x name #[]) (Go.callMethod v name #[]) (NR fns):=by
 unfold Go.callMethod;have a:=h.cases;cases x with
 |iface t c=>
  cases v with
  |iface I d=>
   obtain⟨rfl,a⟩:=a;rcases a with⟨D,m⟩|⟨rfl,rfl⟩
   .refine af.bind af.program λq s s' g e=>?_
    rw[e.1,e.2];have j:mOk P fns name t=true:=ZU.1 l t (by simpa[okIb] using D);refine af.bind (af.method (K:=K) j (m.ext g) (P.types.size+99) (Q.types.size+99)) λo y z f n=>?_
    obtain⟨b,B⟩:=y;obtain⟨A,z2⟩:=z;obtain⟨rfl,⟨hf,w⟩,C⟩:=n;refine af.callFunc hf ⟨λe=>absurd e w.1,λe=>absurd e w.2⟩ hp (aF.append ⟨rfl,λi x y hx hy=>?_⟩ aF.empty)
    match i,hx,hy with
    |0,hx,hy=>cases hx;cases hy;exact C
   .refine af.bind af.program λq s s' g e=>?_
    rw[e.1,e.2];refine af.bind (af.methodR (K:=K) k c (P.types.size+99) (Q.types.size+99)) λo y z f n=>?_
    obtain⟨b,B⟩:=y;obtain⟨A,z2⟩:=z;obtain⟨u,hf,k1,r⟩:=n;simp only at u hf k1 r;subst u k1 r;obtain⟨e,G,F,E⟩:=hx b hf;have H: #[z2]++(#[]:Array Value)= #[z2]:=(by simp);show af P Q K o (Go.callFunc b (#[z2]++ #[])) (Go.callFunc b (#[z2]++ #[])) (NR fns)
    rw[H];refine af.of_runT ?_ (dY G _) (dY F _);refine af.bind (af.mark _ trivial) λq _ _ g _=>?_
    exact af.bB (E _ _ _ _)
  |_=>exact a.elim
 |nilIface=>exact ag.bR (ag.runtimePanic _)
 |_=>exact ag.bR (ag.halt _)
def nP (P:Program)(fns ext rx:List Nat)(c:Call):Bool:=
 c.args.all aA&&match c.callee with
 |.value (.func g)=>ext.contains g
 |.invoke r name=>aA r&&(invokeOk P fns name||(c.args.size==0&&(ifaceT.all (mOk P fns name)&&rtM P rx name)))
 |.builtin .cap=>c.args.size==1&&c.argTypes.size==1&&c.argTypes.all (isSlice P)
 |.builtin .append=>c.args.size==2&&c.argTypes.size==2&&elT P (c.argTypes.getD 0 0)&&isInt P (c.argTypes.getD 1 0)
 |.builtin .unsafeString=>c.args.size==2&&c.argTypes.size==2
 |_=>false
def nO (P:Program)(fns ext rx:List Nat)(o:Oper):Bool:=match o.op with
 |.makeInterface t x=>okIb t&&aA x
 |.panic x=>aA x
 |.typeAssert x _ u ok=>ok&&(aA x&&(zeroT P u&& !(u==bP)))
 |.binOp op t x y _=>aA x&&(aA y&&((op matches .add&&isStr P t)||(isEq op&&nT P t&&(match y with|.const .nilIface=>true|_=>false))))
 |.convert s t x=>aA x&&((nS P s&&isUnsafe P t)||(isUnsafe P s&&nS P t))
 |.slice t x a b (some mx)=>aA x&&(a.map aA).getD true&&(b.map aA).getD true&&aA mx&&isSlice P t
 |.call c=>nP P fns ext rx c
 |_=>false
end
end
