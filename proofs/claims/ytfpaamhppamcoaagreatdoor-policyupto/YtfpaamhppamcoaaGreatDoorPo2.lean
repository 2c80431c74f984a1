/- Part 2 of the proof. -/
import Derived.Test.YtfpaamhppamcoaaGreatDoorPo1
set_option linter.all false
set_option maxHeartbeats 60000000
namespace Go.Proofs.YtfpaamhppamcoaaGreatDoor
section
open Go
variable {st:Prop}
section
variable {α β γ δ:Type}{P Q:Program}{K:Nat->Prop}{p:Rel st}
def WR.kv {G}{w u}(h:WR G K p w u)(T a):WR G K p (ay w T) (ay u a):=⟨h.fit,h.rows,h.qp,h.low,h.BB⟩
def bC (P Q:Program)(K:Nat->Prop)(p:Rel st)(s:Sem α)(t:Sem β)(A:Rel st->α->β->Prop):Prop:=
 Twin P Q->∀(w u:World) (es fs:Array Event),WR P.globals.size K p w u->vV P s w es/\∃T,∀a w' c,s.runT P (ay w T) es=(.ok a w',c)->
    ∃q b u' new,t.runT Q u fs=(.ok b u',fs++new)/\A q a b/\WR P.globals.size K q w' u'/\dE K p q u u'/\∀e∈new,vG K q e
def TR.back (w u):TR w (ay u λj q=>w.tape (w.drawn+(j-u.drawn)) q):=λi q=>by
 show w.tape (w.drawn+i) q=w.tape (w.drawn+(u.drawn+i-u.drawn)) q
 rw[ada]
def TR.JW (w u):TR (ay w λj q=>u.tape (u.drawn+(j-w.drawn)) q) u:=λi q=>by
 show u.tape (u.drawn+(w.drawn+i-w.drawn)) q=u.tape (u.drawn+i) q
 rw[ada]
def dU {s}{f:α->Sem γ}(w)(es):(s>>=f).runT P w es=match s.runT P w es with
 |(.ok a w',b)=>(f a).runT P w' b
 |(.halt h w',b)=>(.halt h w',b):=by
 show(s.bind f).runT P w es=_
 rw[Sem.runT_bind'];rcases s.runT P w es with⟨r,c⟩
 cases r<;>rfl
def af.lQ {s}{t}{A:Rel st->α->β->Prop}(h:af P Q K p s t A):bC P Q K p s t A:=λd w u es fs hw=>by
 refine⟨(h d w _ es fs (hw.kv w.tape _) (TR.back w u)).1,(λj q=>u.tape (u.drawn+(j-w.drawn)) q),λa w' c e=>?_⟩;obtain⟨q,b,u',new,l,k,i,_,g,f⟩:=(h d _ u es fs (hw.kv _ u.tape) (TR.JW w u)).2 a w' c e;exact⟨q,b,u',new,l,k,i,g,f⟩
def bC.after {A}{B}{s}{t}{f:α->Sem γ}{g:β->Sem δ}
 (h:af P Q K p s t A)(k:∀q a b,Ext p q->A q a b->bC P Q K q (f a) (g b) B):bC P Q K p (s>>=f) (t>>=g) B:=by
 intro z w u es fs hw;have hb:=h z w _ es fs (hw.kv w.tape _) (TR.back w u);refine⟨⟨λR w' v m=>?_,Local.bind hb.1.loc λa w1 i o=>?_⟩,?_⟩
 .rw[dU]at m
  rcases o:s.runT P w es with⟨r,i⟩
  rw[o]at m;cases r with
  |ok a w1=>
   obtain⟨q,b,u1,x,_,hA,l,_,g1,_⟩:=hb.2 a w1 i o;exact(k q a b g1.ext hA z w1 u1 i (fs++x) l).1.ET R w' v m
  |halt G w1=>cases m;exact hb.1.ET _ _ _ o
 .obtain⟨q,b,u1,x,_,hA,l,_,g1,_⟩:=hb.2 a w1 i o
  exact(k q a b g1.ext hA z w1 u1 i (fs++x) l).1.loc
 .have hf:=h z _ u es fs (hw.kv _ u.tape) (TR.JW w u)
  rcases o:s.runT P (ay w λj q=>u.tape (u.drawn+(j-w.drawn)) q) es with⟨r,i⟩
  cases r with
  |halt G w1=>
   refine⟨λj q=>u.tape (u.drawn+(j-w.drawn)) q,λc w' v m=>?_⟩;rw[dU,o]at m;cases m
  |ok a w1=>
   obtain⟨q,b,u1,x,L,hA,l,_,g1,v1⟩:=hf.2 a w1 i o;obtain⟨_,y,G⟩:=k q a b g1.ext hA z w1 u1 i (fs++x) l;have D:=(k q a b g1.ext hA z (ay w1 y) u1 i (fs++x) (l.kv y u1.tape)).1.loc;have hl:=hf.1.loc;unfold Local at hl;rw[o]at hl;obtain⟨Y,X,O⟩:=hl
   let T:Nat->Question->Nat:=λj q=>if j<w1.drawn then u.tape (u.drawn+(j-w.drawn)) q else y j q
   refine⟨T,λc w' v m=>?_⟩
   have W:s.runT P (ay w T) es=(.ok a (ay w1 T),i):=O T λj q _ F=>by
        have E:j<w1.drawn:=F;show(if j<w1.drawn then _ else _)=_
        rw[if_pos E];rfl
   rw[dU,W]at m;have n:(f a).runT P (ay w1 T) i=(.ok c w',v):=m
   have V:(f a).runT P (ay w1 T) i=(G9 T ((f a).runT P (ay w1 y) i).1,((f a).runT P (ay w1 y) i).2):=D.2.2 T λj q F _=>by
        have:¬j<w1.drawn:=(by have:w1.drawn<=j:=F;omega);show(if j<w1.drawn then _ else _)=y j q
        rw[if_neg this]
   rw[V]at n;rcases I:(f a).runT P (ay w1 y) i with⟨r,U⟩
   rw[I]at n;cases r with
   |halt _ _=>cases n
   |ok Z w2=>
    cases n;obtain⟨M,d,u2,N,J,S,C,g2,v2⟩:=G c w2 U I;refine⟨M,d,u2,x++N,?_,S,C.kv T u2.tape,g1.trans g2,λe he=>?_⟩
    .rw[dU,L]
     simp only;rw[J,Array.append_assoc]
    .rcases Array.mem_append.1 he with H|H
     .exact(v1 e H).mono g2.ext
     .exact v2 e H
def bC.map {A}{B}{s}{t}{f:α->γ}{g:β->δ}(h:bC P Q K p s t A)(k:∀q a b,A q a b->B q (f a) (g b)):
 bC P Q K p (s>>=λa=>Pure.pure (f a)) (t>>=λb=>Pure.pure (g b)) B:=by
 intro m w u es fs hw;obtain⟨⟨hm,hl⟩,T,n⟩:=h m w u es fs hw;refine⟨⟨λx w' i d=>?_,Local.bind hl λa w1 l _=>⟨ZL _,rfl,λy _=>rfl⟩⟩,T,λc w' i d=>?_⟩
 .rw[dU]at d
  rcases e:s.runT P w es with⟨r,l⟩
  rw[e]at d;cases r with
  |ok a w1=>cases d
  |halt j w1=>cases d;exact hm _ _ _ e
 .rw[dU]at d
  rcases e:s.runT P (ay w T) es with⟨r,l⟩
  rw[e]at d;cases r with
  |halt j w1=>cases d
  |ok a w1=>
   cases d;obtain⟨q,b,u',new,j,v,o⟩:=n a w' i e;exact⟨q,g b,u',new,by rw[dU,j];rfl,k q a b v,o⟩
def bC.given {s}{t}{A:Rel st->α->β->Prop}(h:(∃w u,WR P.globals.size K p w u)->bC P Q K p s t A):bC P Q K p s t A:=
 λa w u es fs hw=>h ⟨w,u,hw⟩ a w u es fs hw
def bC.LC {s t}{m m':World->Bool}(hs:∀w es,s.runT P w es=(.ok (m w) w,es))(D:∀w es,t.runT Q w es=(.ok (m' w) w,es))(hm:∀w T,m (ay w T)=m w)
 (hle:∀w u,WR P.globals.size K p w u->m' u=true->m w=true)(q)(E:q.cut 0=0)(f:Nat->γ)(y)(hy:f 0=y)(A)(hA:∀q c,A q (f c) (f c)):
 bC P Q K p (s>>=λx=>if x=true then(choose q>>=λc=>Pure.pure (f c))else Pure.pure y) (t>>=λx=>if x=true then(choose q>>=λc=>Pure.pure (f c))else Pure.pure y) A:=by
 classical
 have k:∀q,A q y y:=λq=>hy▸hA q 0
 intro v w u es fs hw;have o:∀w es,(s>>=λx=>if x=true then(choose q>>=λc=>Pure.pure (f c))else Pure.pure y).runT P w es=(if m w=true then(choose q>>=λc=>Pure.pure (f c))else Pure.pure y).runT P w es:=λw es=>by rw[dU,hs]
 have B:∀w es,(t>>=λx=>if x=true then(choose q>>=λc=>Pure.pure (f c))else Pure.pure y).runT Q w es=(if m' w=true then(choose q>>=λc=>Pure.pure (f c))else Pure.pure y).runT Q w es:=λw es=>by rw[dU,D]
 have key:∀z:Bool,bC P Q K p (if z=true then(choose q>>=λc=>Pure.pure (f c))else Pure.pure y) (if z=true then(choose q>>=λc=>Pure.pure (f c))else Pure.pure y) A:=λz=>by
  cases z with
  |true=>exact(af.bind (af.choose q) λ_ a b _ e=>af.pure (by rw[e];exact hA _ _)).lQ
  |false=>exact(af.pure (k _)).lQ
 have pl:∀w es,vV P (s>>=λx=>if x=true then(choose q>>=λc=>Pure.pure (f c))else Pure.pure y) w es:=λw es=>by
  have H:=(key (m w) v w u es fs);refine⟨λI w' i d=>?_,?_⟩
  .rw[o]at d
   cases j:m w with
   |true=>
    rw[j,if_pos rfl,dU,eT]at d
    by_cases g:q.forced=true
    .rw[if_pos g]at d;cases d
    .rw[if_neg g]at d;cases d
   |false=>rw[j]at d;cases d
  .unfold Local
   simp only[o,hm];cases j:m w with
   |true=>
    have:=Local.bind (l8 q w es) (f:=λc=>(Pure.pure (f c):Sem γ)) (P:=P) λa w' i _=>⟨ZL _,rfl,λG _=>rfl⟩
    exact this
   |false=>exact⟨ZL _,rfl,λG _=>rfl⟩
 refine⟨pl w es,?_⟩
 by_cases h:m w=true/\m' u=false
 .refine⟨λ_ _=>0,λa w' i d=>?_⟩
  rw[o,hm,h.1,if_pos rfl,dU,eT]at d;have hc:q.cut ((ay w λ_ _=>0).tape (ay w λ_ _=>0).drawn q)=0:=E;rw[hc]at d;refine⟨p,y,u,#[],by rw[B,h.2,ac4];rfl,?_,?_,dE.refl _ _ _,λe he=>by simp at he⟩
  .by_cases g:q.forced=true
   .rw[if_pos g]at d;cases d;rw[hy];exact k _
   .rw[if_neg g]at d;cases d;rw[hy];exact k _
  .by_cases g:q.forced=true
   .rw[if_pos g]at d;cases d;exact⟨hw.fit,hw.rows,hw.qp,hw.low,hw.BB⟩
   .rw[if_neg g]at d;cases d;exact⟨hw.fit,hw.rows,hw.qp,hw.low,hw.BB⟩
 .have r:m w=m' u:=by
   cases n:m w<;>cases l:m' u
   .rfl
   .have:=hle w u hw l;rw[n]at this;cases this
   .exact absurd ⟨n,l⟩ h
   .rfl
  obtain⟨_,T,F⟩:=key (m w) v w u es fs hw;refine⟨T,λa w' i d=>?_⟩;rw[o,hm]at d;obtain⟨C,b,u',new,n,l⟩:=F a w' i d;exact⟨C,b,u',new,by rw[B,<-r];exact n,l⟩
def sW {w u}{G}(hw:WR G K p w u){a b}(h:AR p a b)(hf:u.frozen? b=true):w.frozen? a=true:=by
 classical
 obtain⟨xs,ys,e,f,g,d,c,_,k,j⟩|⟨_,_,_,d,c,_⟩|⟨_,_,_,d,c,_⟩:=hw.rows _ _ h.1
 .simp only[World.frozen?,d,c,h.2.1,ZQ,decide_eq_true_eq]at hf⊢
  by_cases i:K b.block
  .obtain⟨k1,_,l,_⟩:=k i
   omega
  .obtain rfl:=j i
   exact hf
 .simp only[World.frozen?,c]at hf;cases hf
 .simp only[World.frozen?,c]at hf;cases hf
def xk {w u}{G}(hw:WR G K p w u){b c}(h:p b c):w.shape? b=u.shape? c:=by
 obtain⟨xs,ys,e,f,g,d,a,i,_⟩|⟨_,_,_,d,a,_⟩|⟨_,_,_,d,a,_⟩:=hw.rows _ _ h
 .simp only[World.shape?,d,a,i.1]
 .simp only[World.shape?,d,a]
 .simp only[World.shape?,d,a]
def Ch (w:World)(a:Addr):Bool:=w.frozen? a||(match w.shape? a.block with|some (_,n)=>w.frozen? {block:=a.block,off:=n}|none=>false)
def EE (w:World)(a:Addr):Bool:=(w.shape? a.block) matches some (_,0)
def MW (a b:Addr)(w:World):Bool:=(Ch w a&&Ch w b)||(Ch w a&&EE w a)||(Ch w b&&EE w b)
def xx (a)(w)(es):(stringish a).runT P w es=(.ok (Ch w a) w,es):=by
 unfold stringish Ch;rw[dU,iZ];simp only;cases w.frozen? a with
 |true=>rfl
 |false=>
  simp only[Z0,if_false,Bool.false_or];rw[dU];have:(Go.shape a.block).runT P w es=(.ok (w.shape? a.block) w,es):=rfl;rw[this];simp only;cases w.shape? a.block with
  |none=>rfl
  |some x=>rfl
def iW (a b)(w)(es):(mayBeOne a b).runT P w es=(.ok (MW a b w) w,es):=by
 unfold mayBeOne MW;simp only[dU,xx];rfl
def JL {w u}{G}(hw:WR G K p w u){a b c d}(h:AR p a c)(k:AR p b d)(hf:MW c d u=true):MW a b w=true:=by
 have hs:∀{a c:Addr},AR p a c->Ch u c=true->Ch w a=true:=fun{a c} h hc=>by
  unfold Ch at hc⊢;rw[xk hw h.1];rw[adB]at hc⊢;refine hc.imp (sW hw h) λhc=>?_
  cases hx:u.shape? c.block with
  |none=>rw[hx]at hc;cases hc
  |some x=>
   rw[hx]at hc;exact sW hw (a:=⟨a.block,x.2,none⟩) (b:=⟨c.block,x.2,none⟩) ⟨h.1,rfl,rfl⟩ hc
 have g:∀{a c:Addr},AR p a c->EE u c=true->EE w a=true:=fun{a c} h hc=>by
  unfold EE at hc⊢;rw[xk hw h.1];exact hc
 unfold MW at hf⊢;simp only[adB,ZQ]at hf⊢;rcases hf with(⟨f,e⟩|⟨f,e⟩)|⟨f,e⟩
 .exact .inl (.inl ⟨hs h f,hs k e⟩)
 .exact .inl (.inr ⟨hs h f,g h e⟩)
 .exact .inr ⟨hs k f,g k e⟩
def af.rC {a b}(h:AR p a b):af P Q K p (Go.frozen a) (Go.frozen b) (λ_ x y=>y=true->x=true):=by
 intro g w u es fs hw f;refine⟨⟨λh w' d c=>(by cases c),⟨ZL _,rfl,λi _=>rfl⟩⟩,λx w' d c=>?_⟩;rw[iZ]at c;cases c;exact⟨p,u.frozen? b,u,#[],by rw[iZ,ac4],sW hw h,hw,f,dE.refl _ _ _,λe he=>by simp at he⟩
def bC.sameAddr {a b c d}(h:AR p a c)(k:AR p b d):bC P Q K p (Go.sameAddr a b) (Go.sameAddr c d) (λ_ x y=>x=y):=by
 refine bC.given fun⟨w,u,hw⟩=>?_
 unfold Go.sameAddr;rw[<-AR.iM hw h k,<-AR.eq_iff hw h k];split
 .exact(af.pure rfl).lQ
 .refine bC.after (af.rC h) λq x y g n=>?_
  refine bC.after (af.rC (k.mono g)) λs x2 l e m=>?_
  simp only
  by_cases hx:(x&&x2)=true
  .rw[if_pos hx];exact(ag.bR (ag.left (ag.halt _))).lQ
  .have hy:¬(y&&l)=true:=λhy=>hx (by
        simp only[ZQ]at hy⊢;exact⟨n hy.1,m hy.2⟩)
   rw[if_neg hx,if_neg hy];refine bC.after (af.noView (h.mono (g.trans e))) λr _ _ f _=>?_
   refine bC.after (af.noView (k.mono ((g.trans e).trans f))) λo _ _ i _=>?_
   have j:=(g.trans e).trans (f.trans i);exact bC.LC (iW a b) (iW c d) (λ_ _=>rfl) (λw u hw=>JL hw (h.mono j) (k.mono j)) _ rfl (λc=>c==1) false rfl (λ_ x y=>x=y) (λ_ _=>rfl)
end
variable {st:Prop}
section
variable {α β γ δ:Type}{P Q:Program}{K:Nat->Prop}{p:Rel st}
def bC.oh {x y v u}(n)(t){e}(m:P.underlying t=some (.pointer e))(h:VR p x v)(k:VR p y u):bC P Q K p (Op.equalIn n t x y) (Op.equalIn n t v u) (λ_ a b=>a=b):=by
 cases n with
 |zero=>exact af.lQ af.halt
 |succ n=>
  unfold Op.equalIn;refine bC.after (af.underlying t) λq d d' l j=>?_
  obtain⟨rfl,hd⟩:=j;rw[m]at hd;cases hd;have o:=h.ext l;have k':=k.ext l;cases x with
  |pointer a=>
   obtain⟨c,rfl,g⟩:=o.bV;cases y with
   |pointer b=>
    obtain⟨d,rfl,f⟩:=k'.bV;cases a with
    |none=>
     obtain rfl:=g.aV;cases b with
     |none=>obtain rfl:=f.aV;exact(af.pure rfl).lQ
     |some b=>obtain⟨d,rfl,_⟩:=f.aO;exact(af.pure rfl).lQ
    |some a=>
     obtain⟨c,rfl,g⟩:=g.aO;cases b with
     |none=>obtain rfl:=f.aV;exact(af.pure rfl).lQ
     |some b=>
      obtain⟨d,rfl,f⟩:=f.aO;refine bC.given fun⟨w,u,hw⟩=>?_
      simp only;refine bC.after (af.sizeOf _) λA s s' i j=>?_
      subst j;have r:=AR.eq_iff hw g f;rw[<-r];split
      .exact bC.sameAddr (g.mono i) (f.mono i)
      .split
       .exact(af.pure rfl).lQ
       .refine(af.bind (af.choose _) λz x y _ e=>?_).lQ
        subst e;exact af.pure rfl
   |_=>exact(ag.bR (by cases a<;>exact ag.halt _)).lQ
  |_=>exact(ag.bR (ag.halt _)).lQ
def kC (P:Program):Bool:=(match P.underlying bP with|some (.struct _)=>true|_=>false)&&P.stoodInHeld bP
def EM (a:kC P=true)(n)(x y):ag P (Op.equalIn n bP x y):=by
 unfold kC at a;rw[ZQ]at a;obtain⟨b,c⟩:=a;cases n with
 |zero=>exact ag.halt _
 |succ n=>
  unfold Op.equalIn
  have hu:∃fs,P.underlying bP=some (.struct fs):=by
   split at b
   .rename_i fs e;exact⟨fs,e⟩
   .cases b
  obtain⟨fs,hu⟩:=hu;unfold Go.underlying;rw[bind_assoc];refine ag.program ?_;rw[hu];simp only[pure_bind]
  cases x<;>cases y<;>first
   |exact ag.halt _
   |(refine ag.program ?_
     simp only[c,if_true];exact ag.left (ag.halt _))
def af.yH (l:kC P=true){b y v u}(n)(t){ms}(j:P.underlying t=some (.interface ms))(h:VR p (.iface bP b) v)(k:VR p y u):af P Q K p (Op.equalIn n t (.iface bP b) y) (Op.equalIn n t v u) (λ_ a b=>a=b):=by
 cases n with
 |zero=>exact af.halt
 |succ n=>
  unfold Op.equalIn;refine af.bind (af.underlying t) λq d d' o m=>?_
  obtain⟨rfl,hd⟩:=m;rw[j]at hd;cases hd;have g:=h.cases;have e:=k.cases;cases v with
  |iface a' x=>
   obtain⟨rfl,_⟩:=g;cases y with
   |nilIface=>cases u<;>first|exact e.elim|exact af.pure rfl
   |iface c d=>
    cases u with
    |iface w d'=>
     obtain⟨rfl,_⟩:=e;simp only
     by_cases f:bP≠c
     .rw[if_pos f,if_pos f];exact af.pure rfl
     .rw[if_neg f]
      refine ag.bR (ag.FY λi r=>?_);split
      .refine ag.bind aY.program λa=>ag.bind aY.program λb=>?_
       split
       .exact ag.left (ag.halt _)
       .refine ag.bind ?_ λs=>ag.runtimePanic _
        unfold typeStr;refine aY.bind (aY.typeInfo _) λi=>?_
        show aY P (if i.str.isEmpty=true then unsupported (Unsupported.noEntry "a type whose name as gc spells it is not known")else Pure.pure i.str)
        split
        .exact aY.halt _
        .exact aY.pure _
      .exact EM l _ _ _
    |_=>exact e.elim
   |_=>exact ag.bR (ag.halt _)
  |_=>exact g.elim
def af.om (i:∀c,¬K c)(g:oP P=true)(f:kC P=true){x y v u}(n)(t){ms}(d:P.underlying t=some (.interface ms))(h:VR p x v)(k:VR p y u):af P Q K p (Op.equalIn n t x y) (Op.equalIn n t v u) (λ_ a b=>a=b):=by
 by_cases hx:∃z,x=.iface bP z
 .obtain⟨z,rfl⟩:=hx
  exact af.yH f n t d h k
 .exact af.IY i g n t d (λz e=>hx ⟨z,e⟩) h k
def bC.om (D:oP P=true)(C:kC P=true){x y v u}(n)(t){ms}(A:P.underlying t=some (.interface ms))(h:VR p x v)(k:VR p y u):bC P Q K p (Op.equalIn n t x y) (Op.equalIn n t v u) (λ_ a b=>a=b):=by
 by_cases hx:∃z,x=.iface bP z
 .obtain⟨z,rfl⟩:=hx
  exact(af.yH C n t A h k).lQ
 cases n with
 |zero=>exact af.lQ af.halt
 |succ n=>
  unfold Op.equalIn;refine bC.after (af.underlying t) λq d d' B w=>?_
  obtain⟨rfl,hd⟩:=w;rw[A]at hd;cases hd;have F:=h.ext B;have k':=k.ext B;have g:=F.cases;have f:=k'.cases;cases x with
  |nilIface=>
   cases v with
   |nilIface=>
    cases y with
    |nilIface=>cases u<;>first|exact f.elim|exact(af.pure rfl).lQ
    |iface a b=>cases u<;>first|exact f.elim|exact(af.pure rfl).lQ
    |_=>exact(ag.bR (ag.halt _)).lQ
   |_=>exact g.elim
  |iface a b=>
   cases v with
   |iface a' I=>
    obtain⟨rfl,g⟩:=g;rcases g with⟨E,hb⟩|⟨rfl,_⟩
    rotate_left
    .exact absurd ⟨_,rfl⟩ hx
    cases y with
    |nilIface=>cases u<;>first|exact f.elim|exact(af.pure rfl).lQ
    |iface c d=>
     cases u with
     |iface H d'=>
      obtain⟨rfl,f⟩:=f;simp only
      by_cases l:a≠c
      .rw[if_pos l,if_pos l];exact(af.pure rfl).lQ
      .rw[if_neg l,if_neg l]
       have o:a=c:=Classical.not_not.1 l;subst o
       have hd:VR q d d':=by
           rcases f with⟨_,hd⟩|⟨rfl,_⟩
           .exact hd
           .exact absurd ⟨_,rfl⟩ hx
       refine bC.after (af.typeInfo a) λG i j m w=>?_
       obtain⟨rfl,_⟩:=w;split
       .refine(ag.bR (ag.bind aY.program λa=>ag.bind aY.program λb=>?_)).lQ
        split
        .exact ag.left (ag.halt _)
        .refine ag.bind ?_ λs=>ag.runtimePanic _
         unfold typeStr;refine aY.bind (aY.typeInfo _) λi=>?_
         show aY P (if i.str.isEmpty=true then unsupported (Unsupported.noEntry "a type whose name as gc spells it is not known")else Pure.pure i.str)
         split
         .exact aY.halt _
         .exact aY.pure _
       .have r:(match P.underlying a with|some .string|some (.pointer _)=>true|_=>false)=true:=ZU.1 D a (by simpa[sO] using E)
        cases hu:P.underlying a with
        |none=>rw[hu]at r;cases r
        |some d0=>
         rw[hu]at r;cases d0 with
         |string=>exact(af.jA 1 _ _ (by simp[jO,hu]) (hb.ext m) (hd.ext m)).lQ
         |pointer e=>exact bC.oh _ _ hu (hb.ext m) (hd.ext m)
         |_=>cases r
     |_=>exact f.elim
    |_=>exact(ag.bR (ag.halt _)).lQ
   |_=>exact g.elim
  |_=>exact(ag.bR (ag.halt _)).lQ
def ze {x y v u}{R:Sem Value->Sem Value->Prop}(j:∀s s',af P Q K p s s' (λq a b=>VR q a b)->R s s')(op)(t)(g:op=.eql\/op=.neq)(h:VR p x v)(i:VR p y u)
 (m:x=.nilFunc->ag P (binOp op t x y))(l:y=.nilFunc->ag P (binOp op t x y))
 (eqv:R (do Pure.pure (.bool (<-Op.equal t x y))) (do Pure.pure (.bool (<-Op.equal t v u))))(k:R (do Pure.pure (.bool (!(<-Op.equal t x y)))) (do Pure.pure (.bool (!(<-Op.equal t v u))))):R (binOp op t x y) (binOp op t v u):=by
 have hx:=h.cases;have c:=i.cases
 have e:∀(k1 f:IntKind) (a b:Int),af P Q K p (binOp op t (.int k1 a) (.int f b)) (binOp op t (.int k1 a) (.int f b)) (λq a b=>VR q a b):=by
  intro k1 f a b
  by_cases i:k1≠f
  .rcases g with rfl|rfl<;>(simp only[binOp,if_pos i];exact af.halt)
  .rcases g with rfl|rfl<;>(simp only[binOp,if_neg i];exact af.intCmp _ _ _)
 have d:∀(a b:ByteArray),af P Q K p (binOp op t (.string a) (.string b)) (binOp op t (.string a) (.string b)) (λq a b=>VR q a b):=by
  intro a b;rcases g with rfl|rfl<;>(simp only[binOp,Op.stringOp];exact af.pure (VR.bool _))
 cases x<;>cases v<;>first
  |exact hx.elim
  |exact j _ _ (ag.bR (m rfl))
  |exact Bool.noConfusion hx
  |(cases y<;>cases u<;>first
       |exact c.elim
       |exact j _ _ (ag.bR (l rfl))
       |exact Bool.noConfusion c
       |(obtain⟨rfl,rfl⟩:=hx;obtain⟨rfl,rfl⟩:=c;exact j _ _ (e _ _ _ _))
       |(obtain rfl:_=_:=hx;obtain rfl:_=_:=c;exact j _ _ (d _ _))
       |(rcases g with rfl|rfl
         .exact eqv
         .exact k))
def Hm (P:Program)(t:TypeId):Prop:=(∃e,P.underlying t=some (.pointer e))\/∃ms,P.underlying t=some (.interface ms)
def nM {t}(a:Hm P t)(n){x y}(h:x=.nilFunc\/y=.nilFunc):ag P (Op.equalIn n t x y):=by
 cases n with
 |zero=>exact ag.halt _
 |succ n=>
  unfold Op.equalIn Go.underlying;rw[bind_assoc];refine ag.program ?_;rcases a with⟨e,a⟩|⟨ms,a⟩
  .rw[a]
   simp only[pure_bind];rcases h with rfl|rfl
   .exact ag.halt _
   .cases x<;>first|exact ag.halt _|(rename_i o;cases o<;>exact ag.halt _)
  .rw[a]
   simp only[pure_bind];rcases h with rfl|rfl
   .exact ag.halt _
   .cases x<;>exact ag.halt _
def iq {t}(c:Hm P t){op}(d:op=.eql\/op=.neq){x y}(h:x=.nilFunc\/y=.nilFunc):ag P (binOp op t x y):=by
 have b:ag P (do Pure.pure (.bool (<-Op.equal t x y)):Sem Value):=ag.left (nM c _ h);have a:ag P (do Pure.pure (.bool (!(<-Op.equal t x y))):Sem Value):=ag.left (nM c _ h);rcases d with rfl|rfl<;>rcases h with rfl|rfl<;>first|exact b|exact a|(cases x<;>first|exact b|exact a)|(cases y<;>first|exact b|exact a)
def af.Jl (g:∀c,¬K c)(j:oP P=true)(i:kC P=true){x y v u}(op)(t)(d:Hm P t)(f:op=.eql\/op=.neq)(h:VR p x v)(k:VR p y u):af P Q K p (binOp op t x y) (binOp op t v u) (λq a b=>VR q a b):=by
 have he:af P Q K p (Op.equal t x y) (Op.equal t v u) (λ_ a b=>a=b):=by
  rcases d with⟨e,d⟩|⟨ms,d⟩
  .exact af.oh g _ t d h k
  .exact af.om g j i _ t d h k
 exact ze (R:=λs s'=>af P Q K p s s' (λq a b=>VR q a b)) (λ_ _ h=>h) op t f h k (λe=>iq d f (.inl e)) (λe=>iq d f (.inr e))
  (af.bind he λq a b _ e=>by subst e;exact af.pure (VR.bool _)) (af.bind he λq a b _ e=>by subst e;exact af.pure (VR.bool _))
def bC.Jl (g:oP P=true)(f:kC P=true){x y v u}(op)(t)(c:Hm P t)(d:op=.eql\/op=.neq)(h:VR p x v)(k:VR p y u):bC P Q K p (binOp op t x y) (binOp op t v u) (λq a b=>VR q a b):=by
 have he:bC P Q K p (Op.equal t x y) (Op.equal t v u) (λ_ a b=>a=b):=by
  rcases c with⟨e,c⟩|⟨ms,c⟩
  .exact bC.oh _ t c h k
  .exact bC.om g f _ t c h k
 exact ze (R:=λs s'=>bC P Q K p s s' (λq a b=>VR q a b)) (λ_ _ h=>h.lQ) op t d h k (λe=>iq c d (.inl e)) (λe=>iq c d (.inr e))
  (bC.map he λq a b e=>by subst e;exact VR.bool _) (bC.map he λq a b e=>by subst e;exact VR.bool _)
def af.IZ (n){t}(c:Hm P t)(xs ys vs us):af P Q K p (Op.eqGuardIn n t (.agg xs) (.agg ys)) (Op.eqGuardIn n t (.agg vs) (.agg us)) (λ_ a b=>a=b):=by
 cases n with
 |zero=>exact af.halt
 |succ n=>
  unfold Op.eqGuardIn;refine af.bind (af.underlying t) λq d d' f e=>?_
  obtain⟨rfl,hd⟩:=e;rcases c with⟨e,c⟩|⟨ms,c⟩<;>(rw[c]at hd;cases hd;exact af.pure rfl)
def af.qz {x y v u}(op)(t)(a b)(l:Hm P t)(h:VR p x v)(k:VR p y u):af P Q K p (Go.eqGuard op t a b x y) (Go.eqGuard op t a b v u) (λ_ _ _=>True):=by
 have hx:=h.cases;have hy:=k.cases;unfold Go.eqGuard
 have f:∀{q:Rel st} (c:Bool),af P Q K q
  (if c then(Pure.pure ():Sem Unit)else do
        if<-Op.eqGuardIn Op.maxDepth t .nilIface .nilIface then unsupported (.noEntry "binop/eql: two nil values of an interface type with methods, neither of them the literal nil"))
  (if c then(Pure.pure ():Sem Unit)else do
        if<-Op.eqGuardIn Op.maxDepth t .nilIface .nilIface then unsupported (.noEntry "binop/eql: two nil values of an interface type with methods, neither of them the literal nil")) (λ_ _ _=>True):=by
  intro q c;cases c with
  |true=>exact af.pure trivial
  |false=>
   refine af.bind (af.yK _ t) λj c d _ e=>?_
   subst e;cases c with
   |true=>exact af.halt
   |false=>exact af.pure trivial
 have g:∀{q:Rel st} (xs ys vs us:Array Value),af P Q K q
  (do if !(<-Go.program).eqGuardType (<-Go.program).depth t then return
      if<-Op.eqGuardIn Op.maxDepth t (.agg xs) (.agg ys)then unsupported (.noEntry "binop/eql: two nil values of an interface type with methods, in a part of a struct or an array"))
  (do if !(<-Go.program).eqGuardType (<-Go.program).depth t then return
      if<-Op.eqGuardIn Op.maxDepth t (.agg vs) (.agg us)then unsupported (.noEntry "binop/eql: two nil values of an interface type with methods, in a part of a struct or an array")) (λ_ _ _=>True):=by
  intro q xs ys vs us;refine af.twin λi=>af.bind af.program λq s s' _ e=>?_
  rw[e.1,e.2];refine af.bind af.program λq s s' _ e=>?_
  rw[e.1,e.2,i.eqGuardType];cases P.eqGuardType P.depth t with
  |false=>exact af.pure trivial
  |true=>
   refine af.bind (af.IZ _ l xs ys vs us) λj c d _ e=>?_
   subst e;cases c with
   |true=>exact af.halt
   |false=>exact af.pure trivial
 cases op<;>first
  |exact af.pure trivial
  |(cases x<;>cases v<;>first
       |exact hx.elim
       |exact Bool.noConfusion hx
       |(cases y<;>cases u<;>first
        |exact hy.elim
        |exact Bool.noConfusion hy
        |exact af.pure trivial
        |exact f _
        |exact g _ _ _ _))
end
variable {st:Prop}
section
variable {fns:List Nat}{α β γ δ:Type}{P Q:Program}{K:Nat->Prop}{p:Rel st}
def bC.overlaps (ps rs){x v}(h:aF (VR p) x v):bC P Q K p (Extern.SlicesOverlaps.overlaps ps rs x) (Extern.SlicesOverlaps.overlaps ps rs v) (λq a b=>VR q a b):=by
 obtain⟨M⟩:=x;obtain⟨N⟩:=v;have E:M.length=N.length:=h.1
 match M,N,E with
 |[],[],_=>exact af.lQ (ag.bR (ag.halt _))
 |[x],[v],_=>exact af.lQ (ag.bR (by cases x<;>exact ag.halt _))
 |x::y::z::r,v::u::s::t,_=>exact af.lQ (ag.bR (by cases x<;>cases y<;>exact ag.halt _))
 |[x,y],[v,u],_=>
  have hx:VR p x v:=h.2 0 x v rfl rfl;have hy:VR p y u:=h.2 1 y u rfl rfl;cases x with
  |slice a la ca=>
   obtain⟨a',rfl,O⟩:=hx.bD;cases y with
   |slice b D cb=>
    obtain⟨A,rfl,hb⟩:=hy.bD;unfold Extern.SlicesOverlaps.overlaps;cases ps[0]? with
    |none=>exact af.lQ (ag.bR (ag.halt _))
    |some t=>
    refine bC.after (af.underlying t) λq d d' k e=>?_
    obtain⟨rfl,_⟩:=e;cases d with
    |slice elem=>
     refine bC.after (af.sizeOf elem) λU n n' f e=>?_
     subst e;cases a with
     |none=>obtain rfl:=O.aV;exact af.lQ (af.pure (VR.bool _))
     |some a=>
      obtain⟨a',rfl,I⟩:=O.aO;cases b with
      |none=>obtain rfl:=hb.aV;exact af.lQ (af.pure (VR.bool _))
      |some b=>
       obtain⟨A,rfl,H⟩:=hb.aO;show bC P Q K U (if la=0\/D=0\/n=0 then _ else _) (if la=0\/D=0\/n=0 then _ else _) _
       by_cases l:la=0\/D=0\/n=0
       .rw[if_pos l,if_pos l];exact af.lQ (af.pure (VR.bool _))
       .rw[if_neg l,if_neg l]
        have C:AR p a a':=I.resolve_right λh=>l (.inl h.1.1)
        have B:AR p b A:=H.resolve_right λh=>l (.inr (.inl h.1.1))
        refine bC.given fun⟨w,u,hw⟩=>?_
        have k1:=AR.iM hw (C.mono (k.trans f)) (B.mono (k.trans f))
        have k2:(a !=b)=(a' !=A):=by
         have:=AR.eq_iff hw (C.mono (k.trans f)) (B.mono (k.trans f));simp only[bne,this]
        have V:(a.block !=b.block)=(a'.block !=A.block):=(by simp only[bne,k1]);rw[<-V,<-k1,<-C.2.1,<-B.2.1];have g1:=C.mono (k.trans f);have g2:=B.mono (k.trans f);refine bC.after (af.rC g1) λq2 x T g X=>?_
        refine bC.after (af.rC (g2.mono g)) λq3 y S j W=>?_
        by_cases L:(a.block !=b.block)=true
        .have G:(a.block==b.block)=false:=by simpa[bne] using L
         simp only[L,G,Bool.true_and,Bool.false_and,if_true]
         by_cases i:(x&&y)=true
         .rw[if_pos i];exact af.lQ (ag.bR (ag.halt _))
         .have m:¬(T&&S)=true:=λhy=>i (by
                simp only[ZQ]at hy⊢;exact⟨X hy.1,W hy.2⟩)
          rw[if_neg i,if_neg m];refine bC.after (af.noView (g1.mono (g.trans j))) λZ _ _ o _=>?_
          refine bC.after (af.noView (g2.mono ((g.trans j).trans o))) λY _ _ F _=>?_
          have R:=(g.trans j).trans (o.trans F);exact bC.LC (iW a b) (iW a' A) (λ_ _=>rfl) (λw u hw=>JL hw (g1.mono R) (g2.mono R)) _ rfl (λc=>Value.bool (c==1)) (Value.bool false) rfl (λq a b=>VR q a b) (λ_ _=>VR.bool _)
        .have J:(a.block !=b.block)=false:=by simpa using L
         simp only[J,Bool.false_and,Z0,if_false];exact af.lQ (af.pure (VR.bool _))
    |_=>exact af.lQ (ag.bR (ag.halt _))
   |_=>exact af.lQ (ag.bR (ag.halt _))
  |_=>exact af.lQ (ag.bR (ag.halt _))
end
variable {st:Prop}
section
variable {fns:List Nat}{α β γ δ:Type}{P Q:Program}{K:Nat->Prop}{p:Rel st}
def yg {t}(h:nS P t=true):∃e,P.underlying t=some (.pointer e):=by
 unfold nS at h;split at h
 .rename_i e;exact⟨_,e⟩
 .cases h
def yc {t}(h:isSlice P t=true):∃e,P.underlying t=some (.slice e):=by
 unfold isSlice at h;split at h
 .rename_i e;exact⟨_,e⟩
 .cases h
def Ns {t}(h:isStr P t=true):P.underlying t=some .string:=by
 unfold isStr at h;split at h
 .rename_i e;exact e
 .cases h
def Nt {t}(h:isInt P t=true):∃k,P.underlying t=some (.int k):=by
 unfold isInt at h;split at h
 .rename_i e;exact⟨_,e⟩
 .cases h
def uE {t}(h:isUnsafe P t=true):P.underlying t=some .unsafePointer:=by
 unfold isUnsafe at h;split at h
 .rename_i e;exact e
 .cases h
def uF {t}(h:nT P t=true):∃ms,P.underlying t=some (.interface ms):=by
 unfold nT at h;split at h
 .rename_i e;exact⟨_,e⟩
 .cases h
def af.Ar {x v}(n)(t){ms}(c:P.underlying t=some (.interface ms))(h:VR p x v):af P Q K p (Op.equalIn n t x .nilIface) (Op.equalIn n t v .nilIface) (λ_ a b=>a=b):=by
 cases n with
 |zero=>exact af.halt
 |succ n=>
  unfold Op.equalIn;refine af.bind (af.underlying t) λq d d' f e=>?_
  obtain⟨rfl,hd⟩:=e;rw[c]at hd;cases hd;have hx:=h.cases;cases x with
  |nilIface=>cases v<;>first|exact hx.elim|exact af.pure rfl
  |iface a b=>cases v<;>first|exact hx.elim|exact af.pure rfl
  |_=>exact ag.bR (ag.halt _)
def af.FZ {x v}(op)(t){ms}(c:P.underlying t=some (.interface ms))(d:op=.eql\/op=.neq)(h:VR p x v):af P Q K p (binOp op t x .nilIface) (binOp op t v .nilIface) (λq a b=>VR q a b):=by
 have he:af P Q K p (Op.equal t x .nilIface) (Op.equal t v .nilIface) (λ_ a b=>a=b):=af.Ar _ t c h
 exact ze (R:=λs s'=>af P Q K p s s' (λq a b=>VR q a b)) (λ_ _ h=>h) op t d h VR.nilIface (λe=>iq (.inr ⟨_,c⟩) d (.inl e)) (λe=>by cases e)
  (af.bind he λq a b _ e=>by subst e;exact af.pure (VR.bool _)) (af.bind he λq a b _ e=>by subst e;exact af.pure (VR.bool _))
def af.nP {ext rx:List Nat}(N:dM P)(hp:gL fns P Q)(hx:pU ext P Q)(F:fU rx P Q){r s:Operand->Value}(c:Call)(t:TypeId)(D:nP P fns ext rx c=true)(h:∀x,aA x=true->VR p (r x) (s x))(o:∀g,r (.func g)=.func (.func g) #[] #[]/\s (.func g)=.func (.func g) #[] #[]):
 af P Q K p (do let d<-resolve r c t;invoke d.target d.args) (do let d<-resolve s c t;invoke d.target d.args) (NR fns):=by
 obtain⟨callee,args,argTypes⟩:=c;unfold Go.Proofs.YtfpaamhppamcoaaGreatDoor.nP at D;rw[ZQ]at D;obtain⟨z,i⟩:=D;have j:=aF.kD h z;cases callee with
 |value f=>
  cases f with
  |func g=>
   have I:g∈ext:=by simpa using i
   have e:∀r:Operand->Value,(do let d<-resolve r ⟨.value (.func g),args,argTypes⟩ t;invoke d.target d.args)=(do let d<-Deferred.ofValue (r (.func g)) (args.map r);invoke d.target d.args):=λ_=>rfl
   rw[e r,e s,(o g).1,(o g).2];refine af.bind (A:=λq d e=>d.target=.fn (.func g) #[]/\d.args= #[]++args.map r/\e.target=.fn (.func g) #[]/\e.args= #[]++args.map s) (af.pure ⟨rfl,rfl,rfl,rfl⟩) λq d e G he=>?_
   obtain⟨M,C,B,L⟩:=he;rw[M,C,B,L];exact af.P5 hx I (((aF.empty.append j).append aF.empty).ext G)
  |_=>cases i
 |invoke x name=>
  rw[ZQ]at i;have y:=h x i.1;have e:∀r:Operand->Value,(do let d<-resolve r ⟨.invoke x name,args,argTypes⟩ t;invoke d.target d.args)=Go.invoke (.fn (.method name) #[]) (#[r x]++args.map r):=λ_=>rfl
  rw[e r,e s]
  have C:∀(v:Value) (a:Array Value),Go.invoke (.fn (.method name) #[]) (#[v]++a)=Go.callMethod v name ((#[v]++a).extract 1 (#[v]++a).size):=λv a=>by
   have J:(#[v]++a)[0]? =some v:=(by simp[Array.getElem?_append]);unfold Go.invoke;rw[J]
  have B:∀(v:Value) (a:Array Value),(#[v]++a).extract 1 (#[v]++a).size=a:=λv a=>by simp
  rw[C,C,B,B];rcases Bool.or_eq_true_iff.1 i.2 with m|m
  .exact af.callMethod hp m y j
  .simp only[ZQ,beq_iff_eq]at m
   obtain⟨n,u,E⟩:=m;obtain rfl:args= #[]:=Array.eq_empty_of_size_eq_zero n;simpa using af.FW hp u E F y
 |builtin b=>
  have e:∀(r:Operand->Value),(do let d<-resolve r ⟨.builtin b,args,argTypes⟩ t;invoke d.target d.args)=builtin b argTypes t (args.map fun|.const _=>true|_=>false) (args.map r):=λr=>rfl
  rw[e r,e s];cases b with
  |cap=>
   simp only[ZQ,beq_iff_eq]at i;obtain⟨⟨m,n⟩,u⟩:=i;obtain⟨a,rfl⟩:=ji m;obtain⟨ty,rfl⟩:=ji n;have y:VR p (r a) (s a):=h a (by simpa using z);have m1:∀f:Operand->Value,(#[a]:Array Operand).map f= #[f a]:=λf=>by simp
   rw[m1 r,m1 s];exact af.bB (af.cap ty t (yc (by simpa using u)) y)
  |append=>
   simp only[ZQ,beq_iff_eq]at i;obtain⟨⟨⟨m,n⟩,u⟩,E⟩:=i;obtain⟨a,b,rfl⟩:=array2 m;obtain⟨ty,w,rfl⟩:=array2 n;have l:aA a=true/\aA b=true:=by simpa using z
   have m2:∀f:Operand->Value,(#[a,b]:Array Operand).map f= #[f a,f b]:=λf=>by simp
   rw[m2 r,m2 s];obtain⟨k,H⟩:=Nt (P:=P) (t:=w) (by simpa using E);exact af.bB (af.F8 ty w t (yM (by simpa using u)) H (h a l.1) (h b l.2))
  |unsafeString=>
   simp only[ZQ,beq_iff_eq]at i;obtain⟨m,n⟩:=i;obtain⟨a,b,rfl⟩:=array2 m;obtain⟨ty,w,rfl⟩:=array2 n;have l:aA a=true/\aA b=true:=by simpa using z
   have m2:∀f:Operand->Value,(#[a,b]:Array Operand).map f= #[f a,f b]:=λf=>by simp
   rw[m2 r,m2 s];exact af.bB (af.unsafeString ty w t (h a l.1) (h b l.2))
  |_=>cases i
def af.FF {ext rx}(B:dM P)(hp:gL fns P Q)(hx:pU ext P Q)(C:fU rx P Q){r s}(o)(d:nO P fns ext rx o=true)(h:∀x,aA x=true->VR p (r x) (s x))(A:∀v,r (.const v)=v/\s (.const v)=v)(z:∀g,r (.func g)=.func (.func g) #[] #[]/\s (.func g)=.func (.func g) #[] #[]):af P Q K p (Go.execOp r o) (Go.execOp s o) (NR fns):=by
 obtain⟨dst,op,type,pos,after,guard⟩:=o;unfold Go.execOp;cases op with
 |makeInterface t x=>
  simp only[nO,ZQ]at d;exact af.bB (af.makeInterface t d.1 (h x d.2))
 |panic x=>exact af.bB (af.panic (h x d))
 |typeAssert x t u ok=>
  simp only[nO,ZQ,Bool.not_eq_true']at d;obtain⟨rfl,i,j,f⟩:=d;exact af.bB (af.typeAssert t u (qG j) f (h x i))
 |binOp op t x y D=>
  simp only[nO,ZQ,adB]at d;obtain⟨i,j,f⟩:=d;rcases f with⟨f,l⟩|⟨⟨f,l⟩,n⟩
  .have w:op=.add\/op=.leq:=by cases op<;>first|exact .inl rfl|exact .inr rfl|cases f
   rcases w with rfl|rfl
   .exact af.bB (af.bind (af.I1 t x y) λq _ _ k _=>af.Sq t (Ns l) ((h x i).ext k) ((h y j).ext k))
   .exact af.bB (af.bind (af.abZ t x y) λq _ _ k _=>af.acv t ((h x i).ext k) ((h y j).ext k))
  .obtain⟨ms,hm⟩:=uF l
   have he:op=.eql\/op=.neq:=by cases op<;>first|exact .inl rfl|exact .inr rfl|cases f
   have hy:y=.const .nilIface:=by
        split at n
        .rfl
        .cases n
   subst hy;simp only[(A _).1,(A _).2];exact af.bB (af.bind (af.qz op t x _ (.inr ⟨_,hm⟩) (h x i) VR.nilIface) λq _ _ k _=>af.FZ op t hm he ((h x i).ext k))
 |convert a b x=>
  simp only[nO,ZQ,adB]at d;obtain⟨i,⟨j,f⟩|⟨j,f⟩⟩:=d
  .obtain⟨e,he⟩:=yg j
   exact af.bB (af.pO a b (h x i) (.inl ⟨e,he,uE f⟩))
  .obtain⟨e,he⟩:=yg f
   exact af.bB (af.pO a b (h x i) (.inr ⟨e,uE j,he⟩))
 |slice t x E F mx=>
  cases mx with
  |none=>cases d
  |some m=>
   simp only[nO,ZQ]at d;obtain⟨⟨⟨⟨i,j⟩,f⟩,l⟩,n⟩:=d;exact af.bB (af.slice3 t (yc n) (h x i) (OV.kD h j) (OV.kD h f) (h m l))
 |call c=>exact af.nP B hp hx C c _ d h z
 |_=>cases d
def af.overlaps (G:∀c,¬K c)(ps rs){x v}(h:aF (VR p) x v):af P Q K p (Extern.SlicesOverlaps.overlaps ps rs x) (Extern.SlicesOverlaps.overlaps ps rs v) (λq a b=>VR q a b):=by
 obtain⟨N⟩:=x;obtain⟨O⟩:=v;have B:N.length=O.length:=h.1
 match N,O,B with
 |[],[],_=>exact ag.bR (ag.halt _)
 |[x],[v],_=>exact ag.bR (by cases x<;>exact ag.halt _)
 |x::y::z::r,v::u::s::t,_=>exact ag.bR (by cases x<;>cases y<;>exact ag.halt _)
 |[x,y],[v,u],_=>
  have hx:VR p x v:=h.2 0 x v rfl rfl;have hy:VR p y u:=h.2 1 y u rfl rfl;cases x with
  |slice a la ca=>
   obtain⟨a',rfl,R⟩:=hx.bD;cases y with
   |slice b A cb=>
    obtain⟨M,rfl,hb⟩:=hy.bD;unfold Extern.SlicesOverlaps.overlaps;cases ps[0]? with
    |none=>exact ag.bR (ag.halt _)
    |some t=>
    refine af.bind (af.underlying t) λq d d' o e=>?_
    obtain⟨rfl,_⟩:=e;cases d with
    |slice elem=>
     refine af.bind (af.sizeOf elem) λT n n' g e=>?_
     subst e;cases a with
     |none=>obtain rfl:=R.aV;exact af.pure (VR.bool _)
     |some a=>
      obtain⟨a',rfl,F⟩:=R.aO;cases b with
      |none=>obtain rfl:=hb.aV;exact af.pure (VR.bool _)
      |some b=>
       obtain⟨M,rfl,E⟩:=hb.aO;show af P Q K T (if la=0\/A=0\/n=0 then _ else _) (if la=0\/A=0\/n=0 then _ else _) _
       by_cases k:la=0\/A=0\/n=0
       .rw[if_pos k,if_pos k];exact af.pure (VR.bool _)
       .rw[if_neg k,if_neg k]
        have L:AR p a a':=F.resolve_right λh=>k (.inl h.1.1)
        have J:AR p b M:=E.resolve_right λh=>k (.inr (.inl h.1.1))
        refine af.given fun⟨w,u,hw⟩=>?_
        have k1:=AR.iM hw (L.mono (o.trans g)) (J.mono (o.trans g));have U:(a.block !=b.block)=(a'.block !=M.block):=(by simp only[bne,k1]);rw[<-U,<-k1,<-L.2.1,<-J.2.1];have g1:=L.mono (o.trans g);have g2:=J.mono (o.trans g);refine af.bind (af.frozen G g1) λq2 x Y f W=>?_
        subst W;refine af.bind (af.frozen G (g2.mono f)) λq3 y X j V=>?_
        subst V
        by_cases I:(a.block !=b.block)=true
        .have D:(a.block==b.block)=false:=by simpa[bne] using I
         simp only[I,D,Bool.true_and,Bool.false_and,if_true]
         by_cases i:(x&&y)=true
         .rw[if_pos i];exact ag.bR (ag.halt _)
         .rw[if_neg i,if_neg i]
          refine af.bind (af.noView (g1.mono (f.trans j))) λq4 _ _ l _=>?_
          refine af.bind (af.noView (g2.mono ((f.trans j).trans l))) λq5 _ _ C _=>?_
          have S:=(f.trans j).trans (l.trans C);refine af.bind (af.mayBeOne G (g1.mono S) (g2.mono S)) λZ m m' _ e=>?_
          subst e;split
          .exact af.bind (af.choose _) λ_ _ _ _ e=>by subst e;exact af.pure (VR.bool _)
          .exact af.pure (VR.bool _)
        .have H:(a.block !=b.block)=false:=by simpa using I
         simp only[H,Bool.false_and,Z0,if_false];exact af.pure (VR.bool _)
    |_=>exact ag.bR (ag.halt _)
   |_=>exact ag.bR (ag.halt _)
  |_=>exact ag.bR (ag.halt _)
def dw (l:List Nat)(P Q:Program):Prop:=∀g∈l,∃e,j5 P g e/\j5 Q g e/\(∀(st:Prop) (K:Nat->Prop) (p:Rel st) (a b:Array Value),(∀c,¬K c)->aF (VR p) a b->af P Q K p (e a) (e b) (λq x y=>VR q x y))/\
 ∀(st:Prop) (K:Nat->Prop) (p:Rel st) (a b:Array Value),aF (VR p) a b->bC P Q K p (e a) (e b) (λq x y=>VR q x y)
def bC.qT {s s'}{t f}{A:Rel st->α->β->Prop}(h:bC P Q K p s' f A)(e:∀w es,s.runT P w es=s'.runT P w es)(l:∀w es,t.runT Q w es=f.runT Q w es):bC P Q K p s t A:=by
 intro g w u es fs hw;obtain⟨⟨hm,hl⟩,T,k⟩:=h g w u es fs hw;refine⟨⟨λj w' c d=>hm j w' c (by rw[<-e];exact d),?_⟩,T,λa w' c d=>?_⟩
 .unfold Local at hl⊢
  simp only[e];exact hl
 .obtain⟨q,b,u',new,k1,i⟩:=k a w' c (by rw[<-e];exact d)
  exact⟨q,b,u',new,by rw[l];exact k1,i⟩
def af.y7 {l}(hx:dw l P Q)(i:∀c,¬K c){g}(f:g∈l){a b}(h:aF (VR p) a b):af P Q K p (Go.callFunc g a) (Go.callFunc g b) (NR fns):=by
 obtain⟨e,m,k,j,_⟩:=hx g f;refine af.qT ?_ (dY m a) (dY k b);refine af.bind (af.mark _ trivial) λq _ _ d _=>?_
 exact af.bB (j _ _ _ _ _ i (h.ext d))
def bC.bB {s t}(h:bC P Q K p s t (λq a b=>VR q a b)):bC P Q K p (do Pure.pure (Next.value (<-s))) (do Pure.pure (Next.value (<-t))) (NR fns):=bC.map h λ_ _ _ e=>e
def bC.y7 {l}(hx:dw l P Q){g}(d:g∈l){a b}(h:aF (VR p) a b):bC P Q K p (Go.callFunc g a) (Go.callFunc g b) (NR fns):=by
 obtain⟨e,j,i,_,f⟩:=hx g d;refine bC.qT ?_ (dY j a) (dY i b);refine bC.after (af.mark _ trivial) λq _ _ c _=>?_
 exact bC.bB (f _ _ _ _ _ (h.ext c))
def nY (P:Program)(l:List Nat)(sd:Bool)(o:Oper):Bool:=match o.op with
 |.binOp op t x y _=>aA x&&(aA y&&(isEq op&&((nS P t||nT P t)&&(oP P&&kC P))))
 |.call c=>c.args.all aA&&match c.callee with
  |.value (.func g)=>l.contains g
  |.builtin .unsafeSliceData=>sd&&(c.args.size==1&&c.argTypes.size==1)
  |_=>false
 |_=>false
def vI {t}(h:(nS P t||nT P t)=true):Hm P t:=by
 rw[adB]at h;exact h.imp yg uF
def af.yG {l}{sd}(C:∀c,¬K c)(z:¬st)(hx:dw l P Q){r s}(o)(k:nY P l sd o=true)(h:∀x,aA x=true->VR p (r x) (s x))(m:∀g,r (.func g)=.func (.func g) #[] #[]/\s (.func g)=.func (.func g) #[] #[]):af P Q K p (Go.execOp r o) (Go.execOp s o) (NR fns):=by
 obtain⟨dst,op,type,pos,after,guard⟩:=o;unfold Go.execOp;cases op with
 |binOp op t x y M=>
  simp only[nY,ZQ]at k;obtain⟨u,i,B,w,G,F⟩:=k;have he:op=.eql\/op=.neq:=by cases op<;>first|exact .inl rfl|exact .inr rfl|cases B
  exact af.bB (af.bind (af.qz op t x y (vI w) (h x u) (h y i)) λq _ _ v _=>af.Jl C G F op t (vI w) he ((h x u).ext v) ((h y i).ext v))
 |call c=>
  obtain⟨callee,args,argTypes⟩:=c;simp only[nY,ZQ]at k;obtain⟨u,i⟩:=k;have j:=aF.kD h u;cases callee with
  |value f=>
   cases f with
   |func g=>
    have E:g∈l:=by simpa using i
    have e:∀r:Operand->Value,(do let d<-resolve r ⟨.value (.func g),args,argTypes⟩ type;invoke d.target d.args)=(do let d<-Deferred.ofValue (r (.func g)) (args.map r);invoke d.target d.args):=λ_=>rfl
    show af P Q K p (do let d<-resolve r ⟨.value (.func g),args,argTypes⟩ type;invoke d.target d.args) (do let d<-resolve s ⟨.value (.func g),args,argTypes⟩ type;invoke d.target d.args) (NR fns)
    rw[e r,e s,(m g).1,(m g).2];refine af.bind (A:=λq d e=>d.target=.fn (.func g) #[]/\d.args= #[]++args.map r/\e.target=.fn (.func g) #[]/\e.args= #[]++args.map s) (af.pure ⟨rfl,rfl,rfl,rfl⟩) λq d e v he=>?_
    obtain⟨L,J,I,H⟩:=he;rw[L,J,I,H];exact af.y7 hx C E (((aF.empty.append j).append aF.empty).ext v)
   |_=>cases i
  |builtin b=>
   cases b with
   |unsafeSliceData=>
    simp only[ZQ,beq_iff_eq]at i;obtain⟨_,B,w⟩:=i;obtain⟨a,rfl⟩:=ji B;obtain⟨ty,rfl⟩:=ji w;have D:VR p (r a) (s a):=h a (by simpa using u);have e:∀(r:Operand->Value),(do let d<-resolve r ⟨.builtin .unsafeSliceData,#[a],#[ty]⟩ type;invoke d.target d.args)=builtin .unsafeSliceData #[ty] type ((#[a]:Array Operand).map fun|.const _=>true|_=>false) ((#[a]:Array Operand).map r):=λr=>rfl
    have m1:∀f:Operand->Value,(#[a]:Array Operand).map f= #[f a]:=λf=>by simp
    show af P Q K p (do let d<-resolve r ⟨.builtin .unsafeSliceData,#[a],#[ty]⟩ type;invoke d.target d.args) (do let d<-resolve s ⟨.builtin .unsafeSliceData,#[a],#[ty]⟩ type;invoke d.target d.args) (NR fns)
    rw[e r,e s,m1 r,m1 s];exact af.bB (af.unsafeSliceData z ty type D)
   |_=>cases i
  |invoke x n=>cases i
 |_=>cases k
def bC.yG {l}{sd}(i:sd=false\/¬st)(hx:dw l P Q){r s}(o)(m:nY P l sd o=true)(h:∀x,aA x=true->VR p (r x) (s x))(u:∀g,r (.func g)=.func (.func g) #[] #[]/\s (.func g)=.func (.func g) #[] #[]):bC P Q K p (Go.execOp r o) (Go.execOp s o) (NR fns):=by
 obtain⟨dst,op,type,pos,after,guard⟩:=o;unfold Go.execOp;cases op with
 |binOp op t x y M=>
  simp only[nY,ZQ]at m;obtain⟨v,j,B,z,G,F⟩:=m;have he:op=.eql\/op=.neq:=by cases op<;>first|exact .inl rfl|exact .inr rfl|cases B
  exact bC.bB (bC.after (af.qz op t x y (vI z) (h x v) (h y j)) λq _ _ w _=>bC.Jl G F op t (vI z) he ((h x v).ext w) ((h y j).ext w))
 |call c=>
  obtain⟨callee,args,argTypes⟩:=c;simp only[nY,ZQ]at m;obtain⟨v,j⟩:=m;have k:=aF.kD h v;cases callee with
  |value f=>
   cases f with
   |func g=>
    have E:g∈l:=by simpa using j
    have e:∀r:Operand->Value,(do let d<-resolve r ⟨.value (.func g),args,argTypes⟩ type;invoke d.target d.args)=(do let d<-Deferred.ofValue (r (.func g)) (args.map r);invoke d.target d.args):=λ_=>rfl
    show bC P Q K p (do let d<-resolve r ⟨.value (.func g),args,argTypes⟩ type;invoke d.target d.args) (do let d<-resolve s ⟨.value (.func g),args,argTypes⟩ type;invoke d.target d.args) (NR fns)
    rw[e r,e s,(u g).1,(u g).2];refine bC.after (A:=λq d e=>d.target=.fn (.func g) #[]/\d.args= #[]++args.map r/\e.target=.fn (.func g) #[]/\e.args= #[]++args.map s) (af.pure ⟨rfl,rfl,rfl,rfl⟩) λq d e w he=>?_
    obtain⟨L,J,I,H⟩:=he;rw[L,J,I,H];exact bC.y7 hx E (((aF.empty.append k).append aF.empty).ext w)
   |_=>cases j
  |builtin b=>
   cases b with
   |unsafeSliceData=>
    simp only[ZQ,beq_iff_eq]at j;obtain⟨C,B,z⟩:=j;rcases i with i|i
    .rw[i]at C;cases C
    obtain⟨a,rfl⟩:=ji B;obtain⟨ty,rfl⟩:=ji z;have D:VR p (r a) (s a):=h a (by simpa using v);have e:∀(r:Operand->Value),(do let d<-resolve r ⟨.builtin .unsafeSliceData,#[a],#[ty]⟩ type;invoke d.target d.args)=builtin .unsafeSliceData #[ty] type ((#[a]:Array Operand).map fun|.const _=>true|_=>false) ((#[a]:Array Operand).map r):=λr=>rfl
    have m1:∀f:Operand->Value,(#[a]:Array Operand).map f= #[f a]:=λf=>by simp
    show bC P Q K p (do let d<-resolve r ⟨.builtin .unsafeSliceData,#[a],#[ty]⟩ type;invoke d.target d.args) (do let d<-resolve s ⟨.builtin .unsafeSliceData,#[a],#[ty]⟩ type;invoke d.target d.args) (NR fns)
    rw[e r,e s,m1 r,m1 s];exact bC.bB (af.unsafeSliceData i ty type D).lQ
   |_=>cases j
  |invoke x n=>cases j
 |_=>cases m
end
structure iG where
 fns:List Nat
 sp:List Nat
 mark:Oper->Bool
 sg:Oper->Oper
 root:Nat
 rt:Nat
 jh:Bool
 dd:List Deferred
 kd:CallKind
 pv:Nat->Bool
 okF:List Item->Array Value->Prop
 gl:List Nat:=[]
 ext:List Nat:=[]
 rx:List Nat:=[]
 hx:List Nat:=[]
 ID:Bool:=false
 sd:Bool:=false
 bare:Bool:=false
 Oa:bare=true->∀i,pv i=false:=by intro h;cases h
def Tr:List Item->List Item->Prop
 |.inBlock _::k,y=>y=k
 |.inLoop c::k,y=>y=.code c:: .inLoop c::k
 |.inRegion _ []::k,y=>y=k
 |.code .skip::k,y=>y=k
 |.code (.label _)::k,y=>y=k
 |.code (.seq a b)::k,y=>y=.code a:: .code b::k
 |.code (.block id c)::k,y=>y=.code c:: .inBlock id::k
 |.code (.loop c)::k,y=>y=.code c:: .inLoop c::k
 |.code (.cond _ a b)::k,y=>y=.code a::k\/y=.code b::k
 |.code (.exit id)::k,y=>exitTo id k=some y
 |.code (.region _ ops false)::k,y=>y=.inRegion ops (List.range ops.size)::k
 |.code (.region _ ops true)::k,y=>∃m t,y=.inRegion ops (Region.schedule m ops t)::k
 |_,_=>False
structure j6 (C:iG):Prop where
 idle:∀o,C.mark o=false->C.sg o=o
 dst:∀o,(C.sg o).dst=o.dst
 after:∀o,(C.sg o).after=o.after
 guard:∀o,(C.sg o).guard=o.guard
 free:∀o,C.mark o=true->o.guard=none
 UE:∀x x' y,C.okF x y->Tr x x'->C.okF x' y
 pop:∀ops i rest k y y',(∀o,ops[i]? =some o->C.mark o=false)->C.okF (.inRegion ops (i::rest)::k) y->(y'=y\/∃d v,C.pv d=false/\y'=y.setIfInBounds d v)->C.okF (.inRegion ops rest::k) y'
def uq (C:iG):Code->Code
 |.region id ops d=>.region id (ops.map C.sg) d
 |.seq a b=>.seq (uq C a) (uq C b)
 |.cond c a b=>.cond c (uq C a) (uq C b)
 |.block id a=>.block id (uq C a)
 |.loop a=>.loop (uq C a)
 |c=>c
def qE (C:iG):Item->Item
 |.code c=>.code (uq C c)
 |.inLoop c=>.inLoop (uq C c)
 |.inRegion ops l=>.inRegion (ops.map C.sg) l
 |x=>x
section
variable {st:Prop}{α β γ δ:Type}{P Q:Program}{K:Nat->Prop}{p:Rel st}{C:iG}
def ql (C:iG):Operand->Bool
 |.tmp t=> !C.pv t
 |_=>true
def Db (C:iG):Operand->Bool
 |.global g=>C.gl.contains g
 |_=>true
def anyOp (C:iG)(P:Program)(o:Oper):Bool:=(fE P C.fns o||(nO P C.fns C.ext C.rx o||(C.ID&&nY P C.hx C.sd o)))&&o.op.operands.all (Db C)
def kM (C:iG)(P:Program)(f:Nat)(o:Oper):Bool:=
 anyOp C P o&&(f !=C.root||(o.op.operands.all (ql C)&&(C.mark o||(o.dst !=some C.rt&&(o.dst.all λd=> !C.pv d)&&(o.guard.isNone||C.bare)))))&&(!C.mark o||f==C.root)
def bA (C:iG)(P:Program)(f:Nat):Code->Bool
 |.skip|.ret|.exit _|.label _|.refuse _=>true
 |.seq a b=>bA C P f a&&bA C P f b
 |.cond c a b=>((aA c&&Db C c)&&(f !=C.root||ql C c))&&bA C P f a&&bA C P f b
 |.block _ a|.loop a=>bA C P f a
 |.region _ ops _=>ops.all (kM C P f)
 |_=>false
def fB (C:iG)(P:Program)(f:Nat):Item->Bool
 |.code c|.inLoop c=>bA C P f c
 |.inBlock _=>true
 |.inRegion ops _=>ops.all (kM C P f)
 |_=>false
def aU (C:iG)(P:Program)(f:Nat)(l:List Item):Prop:=∀x∈l,fB C P f x=true
def aU.cons {f}{x}{l}(h:aU C P f (x::l)):fB C P f x=true/\aU C P f l:=⟨h x (by simp),λy hy=>h y (by simp[hy])⟩
def aU.of {f}{x}{l}(hx:fB C P f x=true)(h:aU C P f l):aU C P f (x::l):=λy hy=>by
 rcases ZW.1 hy with rfl|hy
 .exact hx
 .exact h y hy
structure aH (C:iG)(P Q:Program):Prop where
 cfg:j6 C
 ext:pU C.ext P Q
 Tm:fU C.rx P Q
 Lc:dw C.hx P Q
 vals:∀g∈dS,g∈C.fns
 body:∀g∈C.fns,∃fn c SK,P.funcs[g]? =some fn/\(fn.name== "runtime.NumGoroutine")=false/\fn.body=some c/\Q.funcs[g]? =some SK/\(SK.name== "runtime.NumGoroutine")=false/\SK.body.isNone=false/\
  (g∉C.sp->bA C P g c=true/\SK.body=some (uq C c)/\SK.ntmps=fn.ntmps/\SK.results=fn.results)
 root:∀g∈C.fns,g∉C.sp->g≠C.root
def aH.get (h:aH C P Q){g}(d:g∈C.fns)(hs:g∉C.sp):∃fn c a,P.funcs[g]? =some fn/\(fn.name== "runtime.NumGoroutine")=false/\fn.body=some c/\bA C P g c=true/\
 Q.funcs[g]? =some a/\(a.name== "runtime.NumGoroutine")=false/\a.body=some (uq C c)/\a.ntmps=fn.ntmps/\a.results=fn.results:=by
 obtain⟨fn,c,a,o,n,m,l,k,_,j⟩:=h.body g d;obtain⟨i,f,e,b⟩:=j hs;exact⟨fn,c,a,o,n,m,i,l,k,f,e,b⟩
def aH.Pf (h:aH C P Q):gL C.fns P Q:=⟨h.vals,λg b=>by
 obtain⟨fn,c,a,k,j,i,f,e,d,_⟩:=h.body g b;exact⟨⟨fn,k,j,by rw[i];rfl⟩,a,f,e,d⟩⟩
def oH (C:iG)(a:Frame):Prop:=∃ops i rest k o,a.todo=.inRegion ops (i::rest)::k/\ops[i]? =some o/\Region.wanted o (yielded ops a.tmps)=true/\C.mark o=true
def kY (C:iG)(a:Frame):Prop:=∀ops i rest k,a.todo=.inRegion ops (i::rest)::k->(∀o,ops[i]? =some o->C.mark o=false)/\(a.fn=C.root->(ops[i]?).bind (·.dst)≠some C.rt/\∀d,(ops[i]?).bind (·.dst)=some d->C.pv d=false)
def kM.parts {f}{o}(h:kM C P f o=true):anyOp C P o=true/\(C.mark o=true->f=C.root)/\(f=C.root->∀x∈o.op.operands,ql C x=true)/\
 (f=C.root->C.mark o=false->o.dst≠some C.rt/\(∀d,o.dst=some d->C.pv d=false)/\(o.guard=none\/C.bare=true)):=by
 simp only[kM,ZQ,adB,bne_iff_ne,ne_eq,beq_iff_eq,Bool.not_eq_true',Option.isNone_iff_eq_none]at h;obtain⟨⟨e,a⟩,c⟩:=h;refine⟨e,λhm=>c.resolve_left (by rw[hm];simp),λhf x hx=>?_,λhf hm=>?_⟩
 .exact adb.1 (a.resolve_left λh=>h hf).1 x hx
 rcases(a.resolve_left λh=>h hf).2 with a|a
 .rw[hm]at a;cases a
 .obtain⟨⟨i,b⟩,g⟩:=a
  refine⟨i,λd hd=>?_,g⟩;rw[hd]at b;simpa using b
def Bg {a}{ops}{i}{rest}{k}(f:a.todo=.inRegion ops (i::rest)::k)(b:ops.all (kM C P a.fn)=true)
 (hm:∀o,ops[i]? =some o->C.mark o=false):kY C a:=λg n c k' e=>by
 rw[f]at e;simp only[ac0,Item.inRegion.injEq]at e;obtain⟨⟨rfl,rfl,rfl⟩,rfl⟩:=e;refine⟨hm,λj=>?_⟩;cases h:ops[i]? with
 |none=>exact⟨λe=>(by cases e),λd e=>(by cases e)⟩
 |some o=>
  obtain⟨m,l,_⟩:=(kM.parts (adb.1 b o (ac5 h))).2.2.2 j (hm o h);exact⟨m,l⟩
structure J' (C:iG)(p:Rel st)(f:Nat)(x y:Array Value):Prop where
 get:∀i,(f=C.root/\C.pv i=true)\/VR p (x.getD i undef) (y.getD i undef)
 size:x.size=y.size
structure FR (C:iG)(P:Program)(p:Rel st)(a b:Frame):Prop where
 known:∃fn,P.funcs[a.fn]? =some fn
 tmps:J' C p a.fn a.tmps b.tmps
 plain:aU C P a.fn a.todo
 da:a.defers=[]
 ka:a.kind=.normal
 ra:a.roundOf=none
 same:b={a with tmps:=b.tmps,todo:=a.todo.map (qE C),defers:=b.defers,kind:=b.kind}
 rt:a.fn=C.root->a.tmps.getD C.rt undef=undef
 shape:a.fn=C.root->C.okF a.todo b.tmps
 kb:b.kind≠.early
 Fs:∀g∈C.gl,p g g
def J'.ext {q}(a:Ext p q){f}{x y}(h:J' C p f x y):J' C q f x y:=⟨λi=>(h.get i).imp id λk=>k.ext a,h.size⟩
def FR.ext {q}(c:Ext p q){a b}(h:FR C P p a b):FR C P q a b:={h with tmps:=h.tmps.ext c,Fs:=λg d=>c _ _ (h.Fs g d)}
def aF.getD {a b}(h:aF (VR p) a b)(i):VR p (a.getD i undef) (b.getD i undef):=by
 by_cases c:i<a.size
 .have hb:i<b.size:=h.1▸c
  have:=h.2 i a[i] b[i] (ZM c) (ZM hb);simpa[Array.getD,c,hb] using this
 .have hb:¬i<b.size:=h.1▸c
  simpa[Array.getD,c,hb] using VR.undef
def FR.eval {a b}(h:FR C P p a b)(x)(hx:aA x=true)(d:Db C x=true)(c:a.fn=C.root->ql C x=true):VR p (a.eval x) (b.eval x):=by
 cases x with
 |tmp t=>
  refine(h.tmps.get t).resolve_left fun⟨i,e⟩=>?_
  have:=c i;simp[ql,e]at this
 |const v=>exact Fy hx
 |global g=>exact VR.ptr (a:=some _) (b:=some _) ⟨h.Fs g (by simpa[Db] using d),rfl,rfl⟩
 |func f=>exact VR.func (show Ju (.func f)from(show f∈dS by simpa[aA] using hx)) aF.empty aF.empty
def bU {a:Array Value}{d}{v}(h:d<a.size):(a.setIfInBounds d v).getD d undef=v:=by
 simp only[ZY,acV h,ac9]
def J'.of {f}{x y}(h:aF (VR p) x y):J' C p f x y:=⟨λi=>.inr (h.getD i),h.1⟩
def getD_set_ne {a:Array Value}{d k}{v}(h:d≠k):(a.setIfInBounds d v).getD k undef=a.getD k undef:=by
 simp only[ZY,ade h]
def J'.set {f}{x y}(h:J' C p f x y)(d){v u}(c:VR p v u):J' C p f (x.setIfInBounds d v) (y.setIfInBounds d u):=by
 refine⟨λi=>?_,by simpa using h.size⟩
 by_cases a:d=i
 .subst a
  by_cases hx:d<x.size
  .rw[bU hx,bU (h.size▸hx)];exact .inr c
  .have e:∀(z:Array Value) (v:Value),¬d<z.size->(z.setIfInBounds d v).getD d undef=z.getD d undef:=λz v b=>by
        simp only[Array.setIfInBounds,b,dite_false]
   rw[e x v hx,e y u (h.size▸hx)];exact h.get d
 .rw[getD_set_ne a,getD_set_ne a];exact h.get i
def FR.finish {a b}(hc:j6 C)(h:FR C P p a b){v u}(L:VR p v u)(B:kY C a):FR C P p (a.finish v) (b.finish u):=by
 obtain⟨fn,tmps,todo,defers,mode,kind,ro⟩:=a;obtain⟨y,j,D,z,E,F,K⟩:=b;obtain⟨n,m,s,J,I,H,G,q,r,f,g⟩:=h;simp only at m s J I H q r f;simp only[Frame.mk.injEq]at G;obtain⟨rfl,-,rfl,-,rfl,-,rfl⟩:=G;subst J I H;cases todo with
 |nil=>exact⟨n,m,s,rfl,rfl,rfl,rfl,q,r,f,g⟩
 |cons x k=>
  obtain⟨hx,N⟩:=s.cons;cases x with
  |inRegion ops l=>
   cases l with
   |nil=>exact⟨n,m,s,rfl,rfl,rfl,rfl,q,r,f,g⟩
   |cons i rest=>
    have t:∀A,(A=j\/∃d v,(ops[i]?).bind (·.dst)=some d/\A=j.setIfInBounds d v)->y=C.root->C.okF (.inRegion ops rest::k) A:=λA hy e=>hc.pop _ _ _ _ _ _ (B ops i rest k rfl).1 (r e) (hy.imp id fun⟨d,v,n,m⟩=>⟨d,v,((B ops i rest k rfl).2 e).2 d n,m⟩)
    have w:aU C P y (.inRegion ops rest::k):=aU.of hx N
    have O:((ops.map C.sg)[i]?).bind (·.dst)=(ops[i]?).bind (·.dst):=by
     rw[ac6];cases M:ops[i]? with
     |none=>rfl
     |some o=>simp only[ads,Option.bind_some,hc.idle o ((B ops i rest k rfl).1 o M)]
    simp only[Frame.finish,adr,qE,O];cases hd:(ops[i]?).bind (·.dst)with
    |none=>exact⟨n,m,w,rfl,rfl,rfl,rfl,q,t _ (.inl rfl),f,g⟩
    |some d=>
     refine⟨n,m.set d L,w,rfl,rfl,rfl,rfl,λe=>?_,t _ (.inr ⟨d,_,hd,rfl⟩),f,g⟩;have:=((B ops i rest k rfl).2 e).1;rw[hd]at this;show(tmps.setIfInBounds d v).getD C.rt undef=undef
     rw[getD_set_ne (λQ=>this (by rw[Q]))];exact q e
  |code c=>exact⟨n,m,s,rfl,rfl,rfl,rfl,q,r,f,g⟩
  |inBlock id=>exact⟨n,m,s,rfl,rfl,rfl,rfl,q,r,f,g⟩
  |inLoop c=>exact⟨n,m,s,rfl,rfl,rfl,rfl,q,r,f,g⟩
  |_=>cases hx
def jd (a:Frame)(v):(a.finish v).mode=a.mode:=by
 unfold Frame.finish;split<;>rfl
def Fz (a:Frame)(v):(a.finish v).kind=a.kind:=by
 unfold Frame.finish;split<;>rfl
def oU (a:Frame)(v):(a.finish v).fn=a.fn/\(a.finish v).defers=a.defers:=by
 unfold Frame.finish;split<;>exact⟨rfl,rfl⟩
def FR.enter (hp:aH C P Q){f}(hf:f∈C.fns)(hs:f∉C.sp){x y}(h:aF (VR p) x y)(d:∀g∈C.gl,p g g):FR C P p (Frame.enter P f x .normal) (Frame.enter Q f y .normal):=by
 obtain⟨fn,c,u,a,z,k,r,j,w,q,o,v⟩:=hp.get hf hs
 have l:∀n,aF (VR p) (Array.replicate n undef) (Array.replicate n undef):=λn=>⟨rfl,λi s t hs b=>by
  rw[Array.getElem?_replicate]at hs b;split at hs
  .rename_i m
   rw[if_pos m]at b;cases hs;cases b;exact VR.undef
  .cases hs⟩
 refine⟨⟨fn,a⟩,J'.of ?_,?_,rfl,rfl,rfl,?_,λe=>absurd e (hp.root f hf hs),λe=>absurd e (hp.root f hf hs),λe=>(by cases e),d⟩
 .show aF (VR p) (x++Array.replicate _ undef) (y++Array.replicate _ undef)
  rw[a,j,h.1];simp only[ads,ac9,o];exact h.append (l _)
 .refine aU.of ?_ (λ_ hy=>by cases hy)
  show bA C P f _=true
  rw[a];simp only[Option.bind_some,k,ac9];exact r
 .simp only[Frame.enter,a,j,Option.bind_some,k,q,ac9,adr,List.map_nil,qE]
def pK (hc:j6 C)(md)(ops):∀(fuel t:Nat) (listed:Array Bool) (acc:List Nat),Region.linearise.go md (ops.map C.sg) fuel t listed acc=Region.linearise.go md ops fuel t listed acc
 |0,_,_,_=>rfl
 |fuel+1,t,listed,acc=>by
  have e:∀i:Nat,(((ops.map C.sg)[i]?).map (·.after.all λe=> !Region.binds md e||listed.getD e.on false)).getD false=((ops[i]?).map (·.after.all λe=> !Region.binds md e||listed.getD e.on false)).getD false:=λi=>by
   rw[ac6];cases ops[i]? with
   |none=>rfl
   |some o=>simp only[ads,hc.after]
  simp only[Region.linearise.go,Array.size_map,e];split
  .exact pK hc md ops fuel _ _ _
  .rfl
def Cn (hc:j6 C)(m)(ops)(t):Region.schedule m (ops.map C.sg) t=Region.schedule m ops t:=by
 have b:Region.departs (ops.map C.sg)=Region.departs ops:=by
  unfold Region.departs;rw[Array.any_map]
  congr 1
  funext o
  simp only[Function.comp,hc.after]
 have a:∀md t,Region.linearise md (ops.map C.sg) t=Region.linearise md ops t:=λmd t=>by
  unfold Region.linearise;rw[Array.size_map];exact pK hc md ops _ _ _ _
 unfold Region.schedule;rw[b];simp only[a]
def DX (hc:j6 C){ops}{x}:yielded (ops.map C.sg) x=yielded ops x:=by
 funext j
 unfold yielded;rw[ac6];cases a:ops[j]? with
 |none=>rfl
 |some o=>simp only[ads,Option.bind_some,hc.dst]
def yE (id):∀(k:List Item),exitTo id (k.map (qE C))=(exitTo id k).map (·.map (qE C))
 |[]=>rfl
 |x::k=>by
  have a:=yE id k;cases x with
  |inBlock b=>
   simp only[adr,qE,exitTo];split
   .rfl
   .exact a
  |_=>simp only[adr,qE,exitTo];exact a
end
section
variable {α β γ δ:Type}{P Q:Program}{K:Nat->Prop}{st:Prop}{p:Rel st}{C:iG}
def Deep (C:iG)(a b:Frame):Prop:=b.defers=[]/\b.kind=.normal/\a.fn∈C.fns/\a.fn∉C.sp
def kI (C:iG)(ZJ:List Frame)(a b:Frame):Prop:=(ZJ≠[]->Deep C a b)/\(ZJ=[]->b.defers=C.dd/\b.kind=C.kd/\(C.jh=true->a.fn=C.root))
def kI.finish {ZJ}{a b}(h:kI C ZJ a b)(v u):kI C ZJ (a.finish v) (b.finish u):=by
 unfold kI Deep;rw[(oU a v).1,(oU b u).2,Fz b u];exact h
def CR (C:iG)(P:Program)(p:Rel st):List Frame->List Frame->Prop
 |[],[]=>True
 |a::ZJ,b::bs=>(FR C P p a b/\a.mode=.run/\kY C a/\kI C ZJ a b)/\CR C P p ZJ bs
 |_,_=>False
def CR.ext {q}(a:Ext p q):∀{ZJ bs:List Frame},CR C P p ZJ bs->CR C P q ZJ bs
 |[],[],_=>trivial
 |_::_,_::_,h=>⟨⟨h.1.1.ext a,h.1.2⟩,h.2.ext a⟩
 |[],_::_,h=>h.elim
 |_::_,[],h=>h.elim
def CR.left:∀{ZJ bs:List Frame},CR C P p ZJ bs->∀x∈ZJ,x.mode=.run/\x.defers=[]/\∃fn,P.funcs[x.fn]? =some fn
 |[],_,_,x,hx=>by cases hx
 |a::ZJ,b::bs,h,x,hx=>by
  rcases ZW.1 hx with rfl|hx
  .exact⟨h.1.2.1,h.1.1.da,h.1.1.known⟩
  .exact h.2.left x hx
 |_::_,[],h,_,_=>h.elim
abbrev df (fr:Frame)(cs:List Frame):Goroutine:={frame:=fr,callers:=cs,status:=.running,dying:=none}
structure Live (C:iG)(P:Program)(p:Rel st)(a:Frame)(ZJ:List Frame)(b:Frame)(bs:List Frame):Prop where
 fr:FR C P p a b
 mode:a.mode=.run\/a.mode=.returning
 cs:CR C P p ZJ bs
 deep:kI C ZJ a b
def FR.mode {a b}(h:FR C P p a b):b.mode=a.mode:=by rw[h.same]
def FR.todo {a b}(h:FR C P p a b):b.todo=a.todo.map (qE C):=by rw[h.same]
def FR.fn {a b}(h:FR C P p a b):b.fn=a.fn:=by rw[h.same]
def Gt (P:Program)(ch:List PanicEntry)(fr:Frame)(ZJ:List Frame):Prop:=fr.mode=.panicking ch/\fr.defers=[]/\(∃fn,P.funcs[fr.fn]? =some fn)/\∀x∈ZJ,x.mode=.run/\x.defers=[]/\∃fn,P.funcs[x.fn]? =some fn
def SE (P:Program)(fr:Frame)(ZJ:List Frame):Prop:=∃ch,(∀e∈ch,EJ e.v)/\Gt P ch fr ZJ
def Kh (P:Program)(s:GStep)(cs:List Frame):Prop:=(∃o w es,s=.ended o w es)\/∃fr ZJ w es,s=.go (df fr (ZJ++cs)) w es/\SE P fr ZJ
def Xi (C:iG)(P:Program)(K:Nat->Prop)(p:Rel st)(u:World)(cs ds:List Frame)(s t:GStep):Prop:=
 ∃q a ZJ b bs w' u' es new,s=.go (df a (ZJ++cs)) w' es/\t=.go (df b (bs++ds)) u' new/\Live C P q a ZJ b bs/\WR P.globals.size K q w' u'/\True/\dE K p q u u'/\∀e∈new,vG K q e
def Edge (C:iG)(P Q:Program)(K:Nat->Prop)(p:Rel st)(u:World)(cs ds:List Frame)(s t:GStep):Prop:=
 ∃q f x y a ZJ b bs w' u' es new,f∈C.fns/\f∈C.sp/\s=.go (df (Frame.enter P f x .normal) (a::ZJ++cs)) w' es/\t=.go (df (Frame.enter Q f y .normal) (b::bs++ds)) u' new/\(aF (VR q) x y/\Jw f x.size)/\CR C P q (a::ZJ) (b::bs)/\WR P.globals.size K q w' u'/\True/\dE K p q u u'/\∀e∈new,vG K q e
def Alike (C:iG)(P Q:Program)(K:Nat->Prop)(p:Rel st)(u:World)(cs ds:List Frame)(s t:GStep):Prop:=
 Kh P s cs\/Xi C P K p u cs ds s t\/Edge C P Q K p u cs ds s t
def Alike.stay {w u}{cs ds ZJ bs}{a b}{s t}(h:Live C P p a ZJ b bs)(hw:WR P.globals.size K p w u)
 (d:s=.go (df a (ZJ++cs)) w #[])(c:t=.go (df b (bs++ds)) u #[]):Alike C P Q K p u cs ds s t:=
 .inr (.inl ⟨p,a,ZJ,b,bs,w,u,#[],#[],d,c,h,hw,trivial,dE.refl _ _ _,λe he=>by simp at he⟩)
def Alike.bad {u}{cs ds}{s t}{o}{w}{es}(h:s=.ended o w es):Alike C P Q K p u cs ds s t:=.inl (.inl ⟨o,w,es,h⟩)
def jF {P}{fn}{es}:∀e∈seen P fn es,e∈es:=by
 have key:∀(l:List Event) (q:Bool) (kept:Array Event) (f:Bool×Array Event->Event->Bool×Array Event),
  (∀x e y,y∈(f x e).2->y∈x.2\/y=e)->∀e∈(l.foldl f (q,kept)).2,e∈kept\/e∈l:=by
  intro l
  induction l with
  |nil=>intro q kept f _ e he;exact .inl he
  |cons x l a=>
   intro q kept f hf e he;rw[List.foldl_cons]at he;rcases a _ _ f hf e (by simpa using he)with h|h
   .rcases hf _ _ _ h with h|rfl
    .exact .inl h
    .exact .inr (by simp)
   .exact .inr (by simp[h])
 intro e he;unfold seen at he;simp only at he;rw[<-Array.foldl_toList]at he;refine(key es.toList _ #[] _ ?_ e he).elim (λh=>by simp at h) (λh=>by simpa using h);intro x e y hy;obtain⟨q,kept⟩:=x;simp only at hy;split at hy
 .exact .inl hy
 .split at hy
  .exact .inl hy
  .exact(Array.mem_push.1 hy).elim .inl .inr
def F6 (hp:aH C P Q){w u}{cs ds ZJ bs}{a b}{s t}(hl:Live C P p a ZJ b bs)(L:a.mode=.run)(U:kY C a){ops}{i}{rest}{k}
 (F:a.todo=.inRegion ops (i::rest)::k)(H:∀h w' B,s.runT P w #[]=(.halt h w',B)->DR h)
 (M:∀n w' B,s.runT P w #[]=(.ok n w',B)->∃q z u' new,t.runT Q u #[]=(.ok z u',#[]++new)/\NR C.fns q n z/\WR P.globals.size K q w' u'/\dE K p q u u'/\∀e∈new,vG K q e):
 Alike C P Q K p u cs ds (stepG.apply P true a (ZJ++cs) none s w) (stepG.apply Q true b (bs++ds) none t u):=by
 have J:b.todo=.inRegion (ops.map C.sg) (i::rest)::k.map (qE C):=by rw[hl.fr.todo,F];rfl
 have R:=hl.fr.ka;have O:(b.kind==CallKind.early)=false:=by simpa using hl.fr.kb
 unfold stepG.apply;rcases I:s.runT P w #[]with⟨r,es⟩
 cases r with
 |halt h w'=>
  have hm:=H h w' es I;simp only[if_true,I];cases h with
  |panic v=>
   refine .inl (.inr ⟨a.raise [{v,recovered:=false}],ZJ,w',_,rfl,[{v,recovered:=false}],?_,?_,?_,?_,hl.cs.left⟩)
   .intro e he
    rw[adi.1 he];exact hm
   .unfold Frame.raise;rw[L]
   .unfold Frame.raise;split<;>exact hl.fr.da
   .unfold Frame.raise;split<;>exact hl.fr.known
  |stuck m=>exact .inl (.inl ⟨_,_,_,rfl⟩)
  |unsupported m=>
   cases m with
   |initOrder g=>exact hm.elim
   |_=>exact .inl (.inl ⟨_,_,_,rfl⟩)
  |_=>exact hm.elim
 |ok n w'=>
  obtain⟨q,z,u',new,V,D,d,l,he⟩:=M n w' es I;have j:True:=trivial;simp only[Array.empty_append]at V;simp only[if_true,I,V,R,O,F,J];have c:∀e∈seen Q b.fn new++ #[],vG K q e:=λe hm=>he e (jF e (by simpa using hm))
  have N:∀v,(a.finish v).mode=.run:=λv=>(jd a v).trans L
  have o:∀v v',VR q v v'->Live C P q (a.finish v) ZJ (b.finish v') bs:=λv v' W=>⟨(hl.fr.ext l.ext).finish hp.cfg W U,.inl (N v),hl.cs.ext l.ext,hl.deep.finish v v'⟩
  cases n with
  |value v=>cases z with
   |value v'=>exact .inr (.inl ⟨q,_,ZJ,_,bs,w',u',_,_,rfl,rfl,o v v' D,d,j,l,c⟩)
   |_=>exact D.elim
  |skip=>cases z with
   |skip=>exact .inr (.inl ⟨q,_,ZJ,_,bs,w',u',_,_,rfl,rfl,o undef undef VR.undef,d,j,l,c⟩)
   |_=>exact D.elim
  |enter f x=>cases z with
   |enter g y=>
    obtain⟨rfl,hf,E,T⟩:=D;have G:CR C P q (a::ZJ) (b::bs):=⟨⟨hl.fr.ext l.ext,L,U,hl.deep⟩,hl.cs.ext l.ext⟩
    by_cases A:f∈C.sp
    .exact .inr (.inr ⟨q,f,x,y,a,ZJ,b,bs,w',u',_,_,hf,A,rfl,rfl,⟨E,T⟩,G,d,j,l,c⟩)
    .exact .inr (.inl ⟨q,_,a::ZJ,_,b::bs,w',u',_,_,rfl,rfl,⟨FR.enter hp hf A E λg S=>l.ext _ _ (hl.fr.Fs g S),.inl rfl,G,λ_=>⟨rfl,rfl,hf,A⟩,λe=>by cases e⟩,d,j,l,c⟩)
   |_=>exact D.elim
  |_=>cases z<;>exact D.elim
def F7 (hp:aH C P Q){w u}{cs ds ZJ bs}{a b}{s t}(hl:Live C P p a ZJ b bs)(h:a.mode=.run)(j:kY C a){ops}{i}{rest}{k}
 (c:a.todo=.inRegion ops (i::rest)::k)(hs:af P Q K p s t (NR C.fns))(e:Twin P Q)(hw:WR P.globals.size K p w u)(g:TR w u):
 Alike C P Q K p u cs ds (stepG.apply P true a (ZJ++cs) none s w) (stepG.apply Q true b (bs++ds) none t u):=by
 have hx:=hs e w u #[] #[] hw g;refine F6 hp hl h j c hx.1.ET λn w' d x=>?_
 obtain⟨q,f,u',new,v,r,o,_,m,l⟩:=hx.2 n w' d x;exact⟨q,f,u',new,v,r,o,m,l⟩
def DF (hp:aH C P Q){w u}{cs ds ZJ bs}{a b}{s t}(hl:Live C P p a ZJ b bs)(e:a.mode=.run)(f:kY C a){ops}{i}{rest}{k}
 (c:a.todo=.inRegion ops (i::rest)::k)(hs:bC P Q K p s t (NR C.fns))(d:Twin P Q)(hw:WR P.globals.size K p w u):
 ∃T,Alike C P Q K p u cs ds (stepG.apply P true a (ZJ++cs) none s (ay w T)) (stepG.apply Q true b (bs++ds) none t u):=by
 obtain⟨_,T,g⟩:=hs d w u #[] #[] hw;exact⟨T,F6 hp hl e f c (hs d (ay w T) u #[] #[] (hw.kv T u.tape)).1.ET g⟩
end
section
variable {α β γ δ:Type}{P Q:Program}{K:Nat->Prop}{st:Prop}{p:Rel st}{C:iG}
def exitTo_plain {f id}:∀{k k':List Item},exitTo id k=some k'->aU C P f k->aU C P f k'
 |[],k',h,_=>by cases h
 |x::k,k',h,c=>by
  have a:=c.cons.2;cases x with
  |inBlock b=>
   simp only[exitTo]at h;split at h
   .cases h;exact a
   .exact exitTo_plain h a
  |_=>exact exitTo_plain (id:=id) (by simpa only[exitTo] using h) a
def Gy {f}{ops}{x y}(h:J' C p f x y)(hf:f≠C.root\/C.bare=true):yielded ops x=yielded ops y:=by
 have key:∀(z:Array Value) (j:Nat),yielded ops z j=match(ops[j]?).bind (·.dst)with
  |none=>none
  |some d=>match z.getD d undef with
   |.bool b=>some b
   |_=>none:=λz j=>by
  unfold yielded;cases(ops[j]?).bind (·.dst)with
  |none=>rfl
  |some d=>
   simp only[Option.bind_some,ZY];cases z[d]? with
   |none=>rfl
   |some v=>cases v<;>rfl
 funext j
 rw[key,key];cases(ops[j]?).bind (·.dst)with
 |none=>rfl
 |some d=>
  have hc:=(h.get d).resolve_left λa=>hf.elim (λhf=>hf a.1) λhb=>by
   have:=C.Oa hb d;rw[this]at a;exact Bool.noConfusion a.2
  revert hc
  show VR p _ _->(match x.getD d undef with|.bool b=>some b|_=>none)=(match y.getD d undef with|.bool b=>some b|_=>none)
  generalize x.getD d undef=v;generalize y.getD d undef=u;intro hc;replace hc:=hc.cases;cases v<;>cases u<;>first|exact hc.elim|exact Bool.noConfusion hc|rfl|(simp only at hc;rw[hc])
def af.asAddr {v u:Value}(h:VR p v u):af P Q K p (asAddr v) (asAddr u) (λq a b=>AR q a b):=by
 have hc:=h.cases;cases v with
 |pointer a=>
  obtain⟨b,rfl,hb⟩:=h.bV;cases a with
  |none=>
   obtain rfl:=hb.aV;exact ag.bR (ag.runtimePanic .nilDeref)
  |some a=>
   obtain⟨b,rfl,c⟩:=hb.aO;exact af.pure c
 |_=>cases u<;>first|exact hc.elim|exact Bool.noConfusion hc|exact af.halt
def af.Fw {ρ}(f g:ρ->Sem Value)(p₀)(hf:∀q r,Ext p₀ q->af P Q K q (f r) (g r) (λq a b=>VR q a b)):∀(l:List ρ) {p:Rel st} {c d:Array Value},Ext p₀ p->aF (VR p) c d->
 af P Q K p (l.foldlM (init:=c) λacc r=>Functor.map acc.push (f r)) (l.foldlM (init:=d) λacc r=>Functor.map acc.push (g r)) (λq a b=>aF (VR q) a b)
 |[],p,c,d,_,h=>by simp only[List.foldlM_nil];exact af.pure h
 |r::l,p,c,d,hp,h=>by
  simp only[List.foldlM_cons];refine af.bind (A:=λq a b=>aF (VR q) a b) ?_ λq a b i e=>af.Fw f g p₀ hf l (hp.trans i) e
  exact af.bind (hf p r hp) λq a b i e=>af.pure ((h.ext i).push e)
def af.results {f:Nat}(fn:Func){x y:Array Value}(h:J' C p f x y)(hf:f≠C.root):af P Q K p (results fn x) (results fn y) (λq a b=>VR q a b):=by
 unfold Go.results;refine af.bind (A:=λq a b=>aF (VR q) a b) ?_ λq a b d e=>?_
 .rw[Array.mapM_eq_foldlM,Array.mapM_eq_foldlM,<-Array.foldlM_toList,<-Array.foldlM_toList]
  refine af.Fw _ _ p (λq r d=>?_) fn.results.toList (Ext.refl p) aF.empty;cases r with
  |tmp t=>exact af.pure (((h.ext d).get t).resolve_left λg=>hf g.1)
  |cell a t=>exact af.bind (af.asAddr (((h.ext d).get a).resolve_left λg=>hf g.1)) λq a b _ i=>af.loadVar t i
 .refine af.pure ?_
  by_cases hs:a.size=1
  .have c:b.size=1:=e.1▸hs
   rw[dif_pos hs,dif_pos c];exact e.2 0 _ _ (ZM (by omega)) (ZM (by omega))
  .have c:¬b.size=1:=e.1▸hs
   rw[dif_neg hs,dif_neg c];exact VR.tuple e
end
section
variable {α β γ δ:Type}{P Q:Program}{K:Nat->Prop}{st:Prop}{p:Rel st}{C:iG}
def uA {R:Sem Next->Sem Next->Prop}(o)(hs:∀cs b,o.op≠.select cs b){r s}(h:∀x∈o.op.operands,aA x=true->VR p (r x) (s x))(d:∀v,r (.const v)=v/\s (.const v)=v)(c:∀g,r (.func g)=.func (.func g) #[] #[]/\s (.func g)=.func (.func g) #[] #[])
 (base:∀r s:Operand->Value,(∀x,aA x=true->VR p (r x) (s x))->(∀v,r (.const v)=v/\s (.const v)=v)->(∀g,r (.func g)=.func (.func g) #[] #[]/\s (.func g)=.func (.func g) #[] #[])->R (Go.execOp r o) (Go.execOp s o)):R (Go.execOp r o) (Go.execOp s o):=by
 classical
 let cut:(Operand->Value)->Operand->Value:=λf x=>match x with
  |.tmp t=>if Operand.tmp t∈o.op.operands then f (.tmp t)else undef
  |.global g=>if Operand.global g∈o.op.operands then f (.global g)else undef
  |x=>f x
 have e:∀f:Operand->Value,Go.execOp f o=Go.execOp (cut f) o:=λf=>execOp_congr o hs λx hx=>by
  cases x with
  |tmp t=>simp only[cut,if_pos hx]
  |global t=>simp only[cut,if_pos hx]
  |_=>rfl
 rw[e r,e s];refine base _ _ (λx hx=>?_) (λv=>d v) λg=>c g
 cases x with
 |tmp t=>
  by_cases a:Operand.tmp t∈o.op.operands
  .simp only[cut,a,if_true];exact h _ a hx
  .simp only[cut,a,if_false];exact VR.undef
 |const v=>
  simp only[cut,(d v).1,(d v).2];exact Fy hx
 |global g=>
  by_cases a:Operand.global g∈o.op.operands
  .simp only[cut,a,if_true];exact h _ a hx
  .simp only[cut,a,if_false];exact VR.undef
 |func f=>
  simp only[cut,(c f).1,(c f).2];exact VR.func (show Ju (.func f)from(show f∈dS by simpa[aA] using hx)) aF.empty aF.empty
def uU {o}(h:anyOp C P o=true):(∀cs b,o.op≠.select cs b)/\(∀x∈o.op.operands,Db C x=true)/\(fE P C.fns o=true\/nO P C.fns C.ext C.rx o=true\/(C.ID=true/\nY P C.hx C.sd o=true)):=by
 simp only[anyOp,ZQ,adB]at h;obtain⟨a,c⟩:=h;refine⟨λcs b e=>?_,λx hx=>adb.1 c x hx,a⟩;obtain⟨dst,op,type,pos,after,guard⟩:=o;simp only at e;subst e;rcases a with h|h|⟨_,h⟩<;>cases h
def AB (C:iG)(st:Prop)(K:Nat->Prop):Prop:=C.ID=false\/((∀c,¬K c)/\¬st)
def af.vN (e:dM P)(hp:aH C P Q)(he:AB C st K){r s}(o)(d:anyOp C P o=true)(h:∀x∈o.op.operands,aA x=true->Db C x=true->VR p (r x) (s x))(c:∀v,r (.const v)=v/\s (.const v)=v)(a:∀g,r (.func g)=.func (.func g) #[] #[]/\s (.func g)=.func (.func g) #[] #[]):af P Q K p (Go.execOp r o) (Go.execOp s o) (NR C.fns):=by
 obtain⟨j,i,b⟩:=uU d;refine uA (R:=λx y=>af P Q K p x y (NR C.fns)) o j (λx hx d=>h x hx d (i x hx)) c a λr s h c a=>?_
 rcases b with b|b|⟨f,b⟩
 .exact af.execOp e hp.Pf o b h c a
 .exact af.FF e hp.Pf hp.ext hp.Tm o b h c a
 .rcases he with he|he
  .rw[f]at he;cases he
  .exact af.yG he.1 he.2 hp.Lc o b h a
def bC.vN (f:dM P)(hp:aH C P Q)(d:C.sd=false\/¬st){r s}(o)(e:anyOp C P o=true)(h:∀x∈o.op.operands,aA x=true->Db C x=true->VR p (r x) (s x))(c:∀v,r (.const v)=v/\s (.const v)=v)(a:∀g,r (.func g)=.func (.func g) #[] #[]/\s (.func g)=.func (.func g) #[] #[]):bC P Q K p (Go.execOp r o) (Go.execOp s o) (NR C.fns):=by
 obtain⟨j,i,b⟩:=uU e;refine uA (R:=λx y=>bC P Q K p x y (NR C.fns)) o j (λx hx e=>h x hx e (i x hx)) c a λr s h c a=>?_
 rcases b with b|b|⟨k,b⟩
 .exact(af.execOp f hp.Pf o b h c a).lQ
 .exact(af.FF f hp.Pf hp.ext hp.Tm o b h c a).lQ
 .exact bC.yG d hp.Lc o b h a
def Dk (hp:aH C P Q)(tw:Twin P Q){w u}{cs ds ZJ bs}{m m'}{a b}(hl:Live C P p a ZJ b bs)(hr:a.mode=.run)(Z:¬oH C a)(hw:WR P.globals.size K p w u)(I:TR w u\/∃ops i rest k,a.todo=.inRegion ops (i::rest)::k)
 (γ:∀ops i rest k o,a.todo=.inRegion ops (i::rest)::k->kY C a->kM C P a.fn o=true->ops[i]? =some o->Alike C P Q K p u cs ds (stepG.apply P true a (ZJ++cs) none (execOp a.eval o) w) (stepG.apply Q true b (bs++ds) none (execOp b.eval o) u)):
 Alike C P Q K p u cs ds (stepG.exec P m true a (ZJ++cs) none w) (stepG.exec Q m' true b (bs++ds) none u):=by
 have N:=hl;obtain⟨fn,tmps,todo,defers,mode,kind,ro⟩:=a;obtain⟨f,j,z,g,T,r,ε⟩:=b;obtain⟨⟨h1,h2,h3,h4,h5,h6,h7,h8,h9,S,R⟩,Y,hcs,B⟩:=hl;simp only[Frame.mk.injEq]at h7;obtain⟨rfl,-,rfl,-,rfl,-,rfl⟩:=h7;subst h4 h5 h6 hr;have to:∀z,aU C P f z->Tr todo z->Live C P p ⟨f,tmps,z,[],.run,.normal,none⟩ ZJ ⟨f,j,z.map (qE C),g,.run,r,none⟩ bs:=λz I V=>⟨⟨h1,h2,I,rfl,rfl,rfl,rfl,h8,λe=>hp.cfg.UE _ _ _ (h9 e) V,S,R⟩,.inl rfl,hcs,B⟩
 have leave:Live C P p ⟨f,tmps,todo,[],.returning,.normal,none⟩ ZJ ⟨f,j,todo.map (qE C),g,.returning,r,none⟩ bs:=⟨⟨h1,h2,h3,rfl,rfl,rfl,rfl,h8,h9,S,R⟩,.inr rfl,hcs,B⟩;have β:=λx hx hg G=>N.fr.eval x hx hg G
 cases todo with
 |nil=>exact Alike.stay leave hw rfl rfl
 |cons x k=>
  obtain⟨hx,E⟩:=h3.cons;cases x with
  |inBlock id=>exact Alike.stay (to k E rfl) hw rfl rfl
  |inLoop c=>exact Alike.stay (to _ (aU.of (x:=.code c) hx (aU.of (x:=.inLoop c) hx E)) rfl) hw rfl rfl
  |inRegion ops l=>
   cases l with
   |nil=>exact Alike.stay (to k E rfl) hw rfl rfl
   |cons i rest=>
    have D:=hx;simp only[stepG.exec,adr,qE]
    have U:(((ops.map C.sg)[i]?).map (Region.wanted · (yielded (ops.map C.sg) j))).getD false=((ops[i]?).map (Region.wanted · (yielded ops tmps))).getD false:=by
     rw[ac6];cases F:ops[i]? with
     |none=>rfl
     |some o=>
      simp
      by_cases hf:f=C.root/\C.bare=false
      .have hg:o.guard=none:=by
           cases hm:C.mark o with
           |true=>exact hp.cfg.free o hm
           |false=>exact((kM.parts (adb.1 D o (ac5 F))).2.2.2 hf.1 hm).2.2.resolve_right (by rw[hf.2];simp)
       simp only[Region.wanted,hp.cfg.guard,hg]
      .have α:f≠C.root\/C.bare=true:=by
           by_cases h:f=C.root
           .right
            cases hb:C.bare with
            |true=>rfl
            |false=>exact absurd ⟨h,hb⟩ hf
           .exact .inl h
       rw[DX hp.cfg,<-Gy h2 α];simp only[Region.wanted,hp.cfg.guard]
    rw[U]
    by_cases q:((ops[i]?).map (Region.wanted · (yielded ops tmps))).getD false=true
    .rw[if_pos q,if_pos q]
     cases F:ops[i]? with
     |none=>rw[F]at q;cases q
     |some o=>
      have O:=hx;have J:=adb.1 O o (ac5 F)
      have M:C.mark o=false:=by
        cases hm:C.mark o with
        |false=>rfl
        |true=>exact absurd ⟨ops,i,rest,k,o,rfl,F,by simpa[F] using q,hm⟩ Z
      have X:(ops.map C.sg)[i]? =some o:=(by rw[ac6,F];exact congrArg some (hp.cfg.idle o M));have hh:kY C ⟨f,tmps,.inRegion ops (i::rest)::k,[],.run,.normal,none⟩:=Bg (P:=P) rfl D λo' L=>by rw[F]at L;cases L;exact M
      have e1:stepG.oper P true ⟨f,tmps,.inRegion ops (i::rest)::k,[],.run,.normal,none⟩ (ZJ++cs) none w=
           stepG.apply P true ⟨f,tmps,.inRegion ops (i::rest)::k,[],.run,.normal,none⟩ (ZJ++cs) none (execOp (Frame.eval ⟨f,tmps,.inRegion ops (i::rest)::k,[],.run,.normal,none⟩) o) w:=by
        simp only[stepG.oper,Frame.oper?,F]
      have e2:stepG.oper Q true ⟨f,j,.inRegion (ops.map C.sg) (i::rest)::k.map (qE C),g,.run,r,none⟩ (bs++ds) none u=
           stepG.apply Q true ⟨f,j,.inRegion (ops.map C.sg) (i::rest)::k.map (qE C),g,.run,r,none⟩ (bs++ds) none (execOp (Frame.eval ⟨f,j,.inRegion (ops.map C.sg) (i::rest)::k.map (qE C),g,.run,r,none⟩) o) u:=by
        simp only[stepG.oper,Frame.oper?,X]
      rw[e1,e2];exact γ _ _ _ _ o rfl hh J F
    .rw[if_neg q,if_neg q]
     have hh:kY C ⟨f,tmps,.inRegion ops (i::rest)::k,[],.run,.normal,none⟩:=Bg (P:=P) rfl D λo F=>by
      cases hm:C.mark o with
      |false=>rfl
      |true=>exact absurd (by rw[F];simp[Region.wanted,hp.cfg.free o hm]) q
     exact Alike.stay ⟨N.fr.finish hp.cfg VR.undef hh,.inl (jd _ _),hcs,kI.finish B _ _⟩ hw rfl rfl
  |code c=>
   cases c with
   |skip=>exact Alike.stay (to k E rfl) hw rfl rfl
   |label l=>exact Alike.stay (to k E rfl) hw rfl rfl
   |ret=>exact Alike.stay leave hw rfl rfl
   |seq c d=>
    have A:bA C P f c=true/\bA C P f d=true:=by simpa[fB,bA] using hx
    exact Alike.stay (to _ (aU.of (x:=.code c) A.1 (aU.of (x:=.code d) A.2 E)) rfl) hw rfl rfl
   |block id c=>exact Alike.stay (to _ (aU.of (x:=.code c) hx (aU.of (x:=.inBlock id) rfl E)) rfl) hw rfl rfl
   |loop c=>exact Alike.stay (to _ (aU.of (x:=.code c) hx (aU.of (x:=.inLoop c) hx E)) rfl) hw rfl rfl
   |cond c x y=>
    have A:(((aA c=true/\Db C c=true)/\(f≠C.root\/ql C c=true))/\bA C P f x=true)/\bA C P f y=true:=by simpa[fB,bA] using hx
    have G:=β c A.1.1.1.1 A.1.1.1.2 λhf=>A.1.1.2.resolve_left λh=>h hf
    simp only[stepG.exec,adr,qE,uq];simp only[adr,qE,uq]at G
    revert G
    generalize Frame.eval ⟨f,tmps,.code (.cond c x y)::k,[],.run,.normal,none⟩ c=v;generalize Frame.eval ⟨f,j,.code (.cond c (uq C x) (uq C y))::k.map (qE C),g,.run,r,none⟩ c=v';intro G;have hc:=G.cases;cases v with
    |bool t=>cases v' with
     |bool t'=>
      obtain rfl:t=t':=hc;cases t
      .exact Alike.stay (to _ (aU.of (x:=.code y) A.2 E) (.inr rfl)) hw rfl rfl
      .exact Alike.stay (to _ (aU.of (x:=.code x) A.1.2 E) (.inl rfl)) hw rfl rfl
     |_=>exact hc.elim
    |_=>exact Alike.bad rfl
   |exit id=>
    simp only[stepG.exec,adr,qE,uq,yE];cases he:exitTo id k with
    |some k'=>exact Alike.stay (to k' (exitTo_plain he E) he) hw rfl rfl
    |none=>exact Alike.bad rfl
   |region id ops draw=>
    have δ:=hx;have W:(ops.map C.sg).size=ops.size:=Array.size_map ..;cases draw with
    |false=>exact Alike.stay (to _ (aU.of (x:=.inRegion ops (List.range ops.size)) hx E) rfl) hw rfl (by simp only[stepG.exec,adr,qE,uq,W];rfl)
    |true=>
     replace I:=I.resolve_right fun⟨_,_,_,_,h⟩=>by cases h
     have H:=I 0 (.order f id);simp at H
     refine .inr (.inl ⟨p,⟨f,tmps,.inRegion ops (Region.schedule (P.follows .mixedOrders) ops (w.tape w.drawn (.order f id)))::k,[],.run,.normal,none⟩,ZJ,⟨f,j,(Item.inRegion ops (Region.schedule (P.follows .mixedOrders) ops (w.tape w.drawn (.order f id)))::k).map (qE C),g,.run,r,none⟩,bs,
      {w with drawn:=w.drawn+1},{u with drawn:=u.drawn+1},#[],#[],rfl,?_,to _ (aU.of (x:=.inRegion ops _) hx E) ⟨_,_,rfl⟩,⟨hw.fit,hw.rows,hw.qp,hw.low,hw.BB⟩,trivial,⟨rfl,rfl,rfl,ZL _,λ_ _ _=>rfl,λ_ _ h n=>absurd h n,Ext.refl p⟩,λe he=>by simp at he⟩)
     rw[H,<-tw.mixed];simp only[adr,qE,uq,<-Cn hp.cfg (Q.follows .mixedOrders) ops];rfl
   |refuse s=>exact Alike.bad rfl
   |_=>cases hx
  |_=>cases hx
def IV (i:dM P)(hp:aH C P Q)(e:Twin P Q)(he:AB C st K){w u}{cs ds ZJ bs}{m m'}{a b}(hl:Live C P p a ZJ b bs)(g:a.mode=.run)(d:¬oH C a)(hw:WR P.globals.size K p w u)(f:TR w u):
 Alike C P Q K p u cs ds (stepG.exec P m true a (ZJ++cs) none w) (stepG.exec Q m' true b (bs++ds) none u):=
 Dk hp e hl g d hw (.inl f) λ_ _ _ _ o c j h _=>F7 hp hl g j c (af.vN i hp he o (kM.parts h).1 (λx hx l k=>hl.fr.eval x l k λhf=>(kM.parts h).2.2.1 hf x hx) (λ_=>⟨rfl,rfl⟩) λ_=>⟨rfl,rfl⟩) e hw f
def FE (t:dM P)(hp:aH C P Q)(h:Twin P Q)(l:C.sd=false\/¬st){w u}{cs ds ZJ bs}{m m'}{a b}(hl:Live C P p a ZJ b bs)(n:a.mode=.run)(g:¬oH C a)(hw:WR P.globals.size K p w u):
 ∃T,Alike C P Q K p u cs ds (stepG.exec P m true a (ZJ++cs) none (ay w T)) (stepG.exec Q m' true b (bs++ds) none u):=by
 classical
 by_cases hx:∃ops i rest k o,a.todo=.inRegion ops (i::rest)::k/\ops[i]? =some o/\kM C P a.fn o=true/\kY C a
 .obtain⟨ops,i,rest,k,o,d,q,e,r⟩:=hx
  obtain⟨T,v⟩:=DF (cs:=cs) (ds:=ds) hp hl n r d (bC.vN t hp l o (kM.parts e).1 (λx hx z y=>hl.fr.eval x z y λhf=>(kM.parts e).2.2.1 hf x hx) (λ_=>⟨rfl,rfl⟩) λ_=>⟨rfl,rfl⟩) h hw;refine⟨T,Dk hp h hl n g (hw.kv T u.tape) (.inr ⟨_,_,_,_,d⟩) λs B j k' A c _ _ f=>?_⟩;rw[d]at c;simp only[ac0,Item.inRegion.injEq]at c;obtain⟨⟨rfl,rfl,rfl⟩,rfl⟩:=c;rw[q]at f;cases f;exact v
 .refine⟨_,Dk hp h hl n g (hw.kv _ u.tape) (.inl (TR.JW w u)) λops i rest k o d r e q=>absurd ⟨ops,i,rest,k,o,d,q,e,r⟩ hx⟩
def zh (hp:aH C P Q)(B:Twin P Q){w u}{cs ds ZJ bs}{m m'}{a b}(hl:Live C P p a ZJ b bs)(hm:a.mode=.returning)(A:ZJ≠[])(hw:WR P.globals.size K p w u)(E:TR w u):
 Alike C P Q K p u cs ds (stepG P m (df a (ZJ++cs)) w) (stepG Q m' (df b (bs++ds)) u):=by
 have o:b.mode=.returning:=hl.fr.mode.trans hm;obtain⟨d1,kb,d2,d3⟩:=hl.deep.1 A;obtain⟨fn,c,f,f1,_,_,_,f5,_,_,_,f9⟩:=hp.get d2 d3;have f2:Q.funcs[b.fn]? =some f:=by rw[hl.fr.fn];exact f5
 have d:results f b.tmps=results fn b.tmps:=by unfold results;rw[f9]
 have H:b.defers=[]:=d1
 have e:∀(P:Program) (fn:Func) (m:Bool) (a:Frame) (cs:List Frame) (w:World),a.mode=.returning->a.defers=[]->P.funcs[a.fn]? =some fn->stepG P m (df a cs) w=
  GStep.after (seen P a.fn ((results fn a.tmps).runT P w #[]).2) (match((results fn a.tmps).runT P w #[]).1 with
        |.ok v w=>doReturn P m a cs none v w
        |.halt (.stuck s) w=>.ended (.stuck s (a.pos P)) w
        |.halt _ w=>.ended (.stuck "return: the result variables cannot be read" (a.pos P)) w):=by
  intro P fn m a cs w z g G;simp only[stepG,unwind,z,g,G];rcases(results fn a.tmps).runT P w #[]with⟨r,es⟩
  cases r with
  |ok v w=>rfl
  |halt h w=>cases h<;>rfl
 rw[e _ _ _ _ _ _ hm hl.fr.da f1,e _ _ _ _ _ _ o H f2,d];have hx:=af.results (P:=P) (Q:=Q) (K:=K) fn hl.fr.tmps (hp.root _ d2 d3) B w u #[] #[] hw E;rcases z:(results fn a.tmps).runT P w #[]with⟨r,es⟩
 cases r with
 |halt h w'=>cases h<;>exact Alike.bad rfl
 |ok v w'=>
  obtain⟨q,v',u',new,g,F,n,D,t,he⟩:=hx.2 v w' es z;simp only[Array.empty_append]at g;rw[g];cases ZJ with
  |nil=>exact absurd rfl A
  |cons x ZJ=>cases bs with
   |nil=>exact hl.cs.elim
   |cons y bs=>
    obtain⟨⟨i,j,k,l⟩,hcs⟩:=hl.cs;refine .inr (.inl ⟨q,x.finish v,ZJ,y.finish v',bs,w',u',seen P a.fn es++ #[],seen Q b.fn new++ #[],?_,?_,⟨(i.ext t.ext).finish hp.cfg F k,.inl ((jd x v).trans j),hcs.ext t.ext,kI.finish l v v'⟩,n,trivial,t,λe hm=>he e (jF e (by simpa using hm))⟩)
    .simp only[List.cons_append,doReturn,hl.fr.ka,GStep.after]
    .simp only[List.cons_append,doReturn,kb,GStep.after]
def pY (i:dM P)(hp:aH C P Q)(f:Twin P Q)(k:AB C st K){w u}{cs ds ZJ bs}{m m'}{a b}(hl:Live C P p a ZJ b bs)(c:a.mode=.run->¬oH C a)(j:a.mode=.returning->ZJ≠[])(hw:WR P.globals.size K p w u)(g:TR w u):
 Alike C P Q K p u cs ds (stepG P m (df a (ZJ++cs)) w) (stepG Q m' (df b (bs++ds)) u):=by
 rcases hl.mode with hm|hm
 .have d:b.mode=.run:=hl.fr.mode.trans hm
  have e:∀(P:Program) (m:Bool) (a:Frame) (cs:List Frame) (w:World),a.mode=.run->stepG P m (df a cs) w=stepG.exec P m true a cs none w:=by
   intro P m a cs w h;simp only[stepG,h]
  rw[e _ _ _ _ _ hm,e _ _ _ _ _ d];exact IV i hp f k hl hm (c hm) hw g
 .exact zh hp f hl hm (j hm) hw g
def uj (i:dM P)(hp:aH C P Q)(g:Twin P Q)(c:C.sd=false\/¬st){w u}{cs ds ZJ bs}{m m'}{a b}(hl:Live C P p a ZJ b bs)(d:a.mode=.run->¬oH C a)(j:a.mode=.returning->ZJ≠[])(hw:WR P.globals.size K p w u):
 ∃T,Alike C P Q K p u cs ds (stepG P m (df a (ZJ++cs)) (ay w T)) (stepG Q m' (df b (bs++ds)) u):=by
 rcases hl.mode with hm|hm
 .have f:b.mode=.run:=hl.fr.mode.trans hm
  have e:∀(P:Program) (m:Bool) (a:Frame) (cs:List Frame) (w:World),a.mode=.run->stepG P m (df a cs) w=stepG.exec P m true a cs none w:=by
   intro P m a cs w h;simp only[stepG,h]
  obtain⟨T,k⟩:=FE (cs:=cs) (ds:=ds) (m:=m) (m':=m') i hp g c hl hm (d hm) hw;exact⟨T,by rw[e _ _ _ _ _ hm,e _ _ _ _ _ f];exact k⟩
 .exact⟨_,zh hp g hl hm (j hm) (hw.kv _ u.tape) (TR.JW w u)⟩
end
section
variable {α β γ δ:Type}{P Q:Program}{K:Nat->Prop}{st:Prop}{p:Rel st}{C:iG}
def QV (w w':World)(T:Nat->Question->Nat):Prop:=∀j q,w.drawn<=j->j<w'.drawn->T j q=w.tape j q
def cZ (f:World->GStep)(w:World):Prop:=
 (∃g w' es,f w=.go g w' es/\w.drawn<=w'.drawn/\w'.tape=w.tape/\∀a,QV w w' a->f (ay w a)=.go g (ay w' a) es)\/
 (∃o w' es,f w=.ended o w' es/\w.drawn<=w'.drawn/\w'.tape=w.tape/\∀a,QV w w' a->f (ay w a)=.ended o (ay w' a) es)
def cZ.stay {f}{w}{g}(h:∀w,f w=.go g w #[]):cZ f w:=.inl ⟨g,w,#[],h w,ZL _,rfl,λa _=>h _⟩
def cZ.lost {f}{w}{o}(h:∀w,f w=.ended o w #[]):cZ f w:=.inr ⟨o,w,#[],h w,ZL _,rfl,λa _=>h _⟩
def F5 {w u}{cs ZJ bs}{a b}{s t}(hl:Live C P p a ZJ b bs){ops}{i}{rest}{k}
 (o:a.todo=.inRegion ops (i::rest)::k)(hs:af P Q K p s t (NR C.fns))(A:Twin P Q)(hw:WR P.globals.size K p w u)(D:TR w u):
 cZ (stepG.apply P true a (ZJ++cs) none s) w:=by
 have hx:=hs A w u #[] #[] hw D;have y:=hl.fr.ka;obtain⟨l,j,e⟩:=hx.1.loc;unfold cZ stepG.apply;rcases z:s.runT P w #[]with⟨r,es⟩
 rw[z]at l j e;cases r with
 |halt h w'=>
  have hm:=hx.1.ET h w' es z;simp only[if_true,o];cases h with
  |panic v=>exact .inl ⟨_,_,_,rfl,l,j,λd c=>by rw[e d c];rfl⟩
  |stuck m=>exact .inr ⟨_,_,_,rfl,l,j,λd c=>by rw[e d c];rfl⟩
  |unsupported m=>
   cases m with
   |initOrder g=>exact hm.elim
   |_=>exact .inr ⟨_,_,_,rfl,l,j,λd c=>by rw[e d c];rfl⟩
  |_=>exact hm.elim
 |ok n w'=>
  obtain⟨q,B,u',new,F,E,_⟩:=hx.2 n w' es z;simp only[if_true,o,y];cases n with
  |value v=>exact .inl ⟨_,_,_,rfl,l,j,λd c=>by rw[e d c];rfl⟩
  |skip=>exact .inl ⟨_,_,_,rfl,l,j,λd c=>by rw[e d c];rfl⟩
  |enter f x=>exact .inl ⟨_,_,_,rfl,l,j,λd c=>by rw[e d c];rfl⟩
  |_=>cases B<;>exact E.elim
def IQ (L:dM P)(hp:aH C P Q)(J:Twin P Q)(O:AB C st K){w u}{cs ZJ bs}{m}{a b}(hl:Live C P p a ZJ b bs)(D:a.mode=.run)(hw:WR P.globals.size K p w u)(M:TR w u):
 cZ (stepG.exec P m true a (ZJ++cs) none) w:=by
 have n:=hl;obtain⟨fn,tmps,todo,defers,mode,kind,ro⟩:=a;obtain⟨⟨h1,R,H,G,F,E,Z,Y,X,T,S⟩,r,hcs,B⟩:=hl;simp only at R H G F E D;subst G F E D;have A:∀x,aA x=true->Db C x=true->(fn=C.root->ql C x=true)->VR p (Frame.eval ⟨fn,tmps,todo,[],.run,.normal,none⟩ x) (b.eval x):=λx hx z q=>n.fr.eval x hx z q
 cases todo with
 |nil=>exact cZ.stay λ_=>rfl
 |cons x k=>
  obtain⟨hx,W⟩:=H.cons;cases x with
  |inBlock id=>exact cZ.stay λ_=>rfl
  |inLoop c=>exact cZ.stay λ_=>rfl
  |inRegion ops l=>
   cases l with
   |nil=>exact cZ.stay λ_=>rfl
   |cons i rest=>
    by_cases f:((ops[i]?).map (Region.wanted · (yielded ops tmps))).getD false=true
    .cases j:ops[i]? with
     |none=>rw[j]at f;cases f
     |some o=>
      have h:kM C P fn o=true:=adb.1 (show ops.all (kM C P fn)=true from hx) o (ac5 j)
      have V:stepG.exec P m true ⟨fn,tmps,.inRegion ops (i::rest)::k,[],.run,.normal,none⟩ (ZJ++cs) none=
           stepG.apply P true ⟨fn,tmps,.inRegion ops (i::rest)::k,[],.run,.normal,none⟩ (ZJ++cs) none (execOp (Frame.eval ⟨fn,tmps,.inRegion ops (i::rest)::k,[],.run,.normal,none⟩) o):=by
       funext w
       simp only[stepG.exec];rw[if_pos f];simp only[stepG.oper,Frame.oper?,j]
      rw[V];exact F5 n rfl (af.vN L hp O o (kM.parts h).1 (λx hx j z=>A x j z λhf=>(kM.parts h).2.2.1 hf x hx) (λv=>⟨rfl,rfl⟩) λg=>⟨rfl,rfl⟩) J hw M
    .refine cZ.stay (g:=df (Frame.finish ⟨fn,tmps,.inRegion ops (i::rest)::k,[],.run,.normal,none⟩ undef) (ZJ++cs)) λw=>?_
     simp only[stepG.exec];rw[if_neg f]
  |code c=>
   cases c with
   |skip=>exact cZ.stay λ_=>rfl
   |label l=>exact cZ.stay λ_=>rfl
   |ret=>exact cZ.stay λ_=>rfl
   |seq c d=>exact cZ.stay λ_=>rfl
   |block id c=>exact cZ.stay λ_=>rfl
   |loop c=>exact cZ.stay λ_=>rfl
   |cond c x y=>
    cases q:Frame.eval ⟨fn,tmps,.code (.cond c x y)::k,[],.run,.normal,none⟩ c with
    |bool t=>exact cZ.stay (g:=df ⟨fn,tmps,.code (if t then x else y)::k,[],.run,.normal,none⟩ (ZJ++cs)) λw=>by simp only[stepG.exec,q]
    |_=>exact cZ.lost (o:=.stuck "cond: bool expected" (Frame.pos P ⟨fn,tmps,.code (.cond c x y)::k,[],.run,.normal,none⟩)) λw=>by simp only[stepG.exec,q]
   |exit id=>
    cases he:exitTo id k with
    |some k'=>exact cZ.stay (g:=df ⟨fn,tmps,k',[],.run,.normal,none⟩ (ZJ++cs)) λw=>by simp only[stepG.exec,he];rfl
    |none=>exact cZ.lost (o:=.stuck "exit, goto: no such block or label" (Frame.pos P ⟨fn,tmps,.code (.exit id)::k,[],.run,.normal,none⟩)) λw=>by simp only[stepG.exec,he];rfl
   |region id ops draw=>
    cases draw with
    |false=>exact cZ.stay λ_=>rfl
    |true=>
     refine .inl ⟨_,_,_,rfl,Nat.le_succ _,rfl,λI N=>?_⟩;have e:(ay w I).tape (ay w I).drawn (.order fn id)=w.tape w.drawn (.order fn id):=N w.drawn _ (ZL _) (Z4 _)
     have U:∀w:World,stepG.exec P m true ⟨fn,tmps,.code (.region id ops true)::k,[],.run,.normal,none⟩ (ZJ++cs) none w=
      .go (df ⟨fn,tmps,.inRegion ops (Region.schedule (P.follows .mixedOrders) ops (w.tape w.drawn (.order fn id)))::k,[],.run,.normal,none⟩ (ZJ++cs)) {w with drawn:=w.drawn+1} #[]:=λ_=>rfl
     rw[U,e];rfl
   |refuse s=>exact cZ.lost λ_=>rfl
   |_=>cases hx
  |_=>cases hx
def xe (n:dM P)(hp:aH C P Q)(k:Twin P Q)(o:AB C st K){w u}{cs ZJ bs}{m}{a b}(hl:Live C P p a ZJ b bs)(g:a.mode=.returning->ZJ≠[])(hw:WR P.globals.size K p w u)(l:TR w u):
 cZ (stepG P m (df a (ZJ++cs))) w:=by
 rcases hl.mode with hm|hm
 .have e:stepG P m (df a (ZJ++cs))=stepG.exec P m true a (ZJ++cs) none:=by
   funext w
   simp only[stepG,hm]
  rw[e];exact IQ n hp k o hl hm hw l
 .obtain⟨fn,f1⟩:=hl.fr.known
  have e:stepG P m (df a (ZJ++cs))=λw=>
        GStep.after (seen P a.fn ((results fn a.tmps).runT P w #[]).2) (match((results fn a.tmps).runT P w #[]).1 with
         |.ok v w=>doReturn P m a (ZJ++cs) none v w
         |.halt (.stuck s) w=>.ended (.stuck s (a.pos P)) w
         |.halt _ w=>.ended (.stuck "return: the result variables cannot be read" (a.pos P)) w):=by
   funext w
   simp only[stepG,unwind,hm,hl.fr.da,f1];rcases(results fn a.tmps).runT P w #[]with⟨r,es⟩
   cases r with
   |ok v w=>rfl
   |halt h w=>cases h<;>rfl
  rw[e];obtain⟨f,d,c⟩:=(af.results (P:=P) (Q:=Q) (K:=K) fn hl.fr.tmps (hp.root _ (hl.deep.1 (g hm)).2.2.1 (hl.deep.1 (g hm)).2.2.2) k w u #[] #[] hw l).1.loc;unfold cZ;simp only;rcases q:(results fn a.tmps).runT P w #[]with⟨r,es⟩
  rw[q]at f d c;cases r with
  |halt h w'=>cases h<;>exact .inr ⟨_,_,_,rfl,f,d,λj i=>by rw[c j i];rfl⟩
  |ok v w'=>
   cases ZJ with
   |nil=>exact absurd rfl (g hm)
   |cons x ZJ=>
    have hd:∀w',doReturn P m a (x::ZJ++cs) none v w'=.go (df (x.finish v) (ZJ++cs)) w' #[]:=λw'=>by
     simp only[List.cons_append,doReturn,hl.fr.ka]
    simp only[hd];exact .inl ⟨_,_,_,rfl,f,d,λj i=>by rw[c j i];simp only[G9,hd];rfl⟩
end
section
variable {P Q:Program}{K:Nat->Prop}{st:Prop}{p:Rel st}{C:iG}
def stop (P:Program):Frame:={fn:=P.funcs.size,tmps:= #[],todo:=[.code (.refuse "")],defers:=[{target:=.nil,args:= #[]}],mode:=.run,kind:=.normal}
def Kz (w):∃o,step P (lone (stop P) [] w)=.ended o w:=⟨_,step_lone_ended rfl⟩
def ui (ch)(w):∃o,step P (lone ((stop P).raise ch) [] w)=.ended o w:=⟨_,step_lone_ended rfl⟩
def jU {ch}:∀(n:Nat) (fr:Frame) (ZJ:List Frame) (w:World),Gt P ch fr ZJ->∀m,runN P n (lone fr (ZJ++[stop P]) w)=.next m->∃c f,m=lone c f w/\c.mode=.panicking ch
 |0,fr,ZJ,w,h,m,hm=>by
  simp only[runN,Stepped.next.injEq]at hm;exact⟨fr,_,hm.symm,h.1⟩
 |n+1,fr,ZJ,w,h,m,hm=>by
  obtain⟨d,hd,hf,has⟩:=h;obtain⟨fn,f1⟩:=hf
  have b:∀x xs,ZJ++[stop P]=x::xs->step P (lone fr (ZJ++[stop P]) w)=.next (lone (x.raise ch) xs w):=λx xs e=>by
   rw[e];refine step_lone_go ?_;simp only[stepG,unwind,d,hd,Frame.catches,f1];rfl
  have a:∀x:Frame,x.mode=.run->(x.raise ch).mode=.panicking ch/\(x.raise ch).defers=x.defers/\(x.raise ch).fn=x.fn:=λx hx=>by
   unfold Frame.raise;rw[hx];exact⟨rfl,rfl,rfl⟩
  simp only[runN]at hm;cases ZJ with
  |nil=>
   rw[b (stop P) [] rfl]at hm;simp only at hm;cases n with
   |zero=>
    simp only[runN,Stepped.next.injEq]at hm;exact⟨_,_,hm.symm,(a _ rfl).1⟩
   |succ n=>
    obtain⟨o,k⟩:=ui (P:=P) ch w;simp only[runN,k]at hm;cases hm
  |cons x ZJ=>
   rw[b x (ZJ++[stop P]) rfl]at hm;simp only at hm;obtain⟨x1,x2,x3⟩:=has x (by simp);obtain⟨j,i,g⟩:=a x x1;exact jU n (x.raise ch) ZJ w ⟨j,by rw[i];exact x2,by rw[g];exact x3,λy hy=>has y (by simp[hy])⟩ m hm
def oW {a}(hm:a.mode=.returning)(hd:a.defers=[])(e:a.kind=.normal)(hf:∃fn,P.funcs[a.fn]? =some fn):∀(n:Nat) (w:World) (fr:Frame) (w':World),∀(cs:List Frame),cs≠[]->runN P (n+1) (lone a [stop P] w)≠.next (lone fr cs w'):=by
 intro n w fr w' cs hcs h;obtain⟨fn,f1⟩:=hf
 have hs:(∃o w1,step P (lone a [stop P] w)=.ended o w1)\/∃w1,step P (lone a [stop P] w)=.next (lone (stop P) [] w1):=by
  cases b:(results fn a.tmps).runT P w #[]with
  |mk r es=>
   cases r with
   |ok v w1=>exact .inr ⟨w1,step_lone_go (by simp only[stepG,unwind,hm,hd,f1,b,doReturn,e];rfl)⟩
   |halt f w1=>
    refine .inl ?_;cases f<;>exact⟨_,w1,step_lone_ended (by simp only[stepG,unwind,hm,hd,f1,b];rfl)⟩
 rcases hs with⟨o,w1,hs⟩|⟨w1,hs⟩
 .simp only[runN,hs]at h
  cases h
 .simp only[runN,hs]at h
  cases n with
  |zero=>
   simp only[runN,Stepped.next.injEq]at h;simp only[lone,Machine.mk.injEq]at h;have c:({frame:=stop P,callers:=[],status:=.running,dying:=none}:Goroutine)={frame:=fr,callers:=cs,status:=.running,dying:=none}:=by simpa using h.2.1
   simp only[Goroutine.mk.injEq]at c;exact hcs c.2.1.symm
  |succ n=>
   obtain⟨o,d⟩:=Kz (P:=P) w1;simp only[runN,d]at h;cases h
def L6 (P:Program)(R:Value->World->Prop)(a:Frame)(ZJ:List Frame)(w:World):Prop:=
 a.mode=.returning/\ZJ=[]/\(a.defers=[]/\a.kind=.normal)/\∃fn T v,P.funcs[a.fn]? =some fn/\(results fn a.tmps).run P (ay w T)=.ok v (ay w T)/\R v (ay w T)
def Node (P:Program)(R:Value->World->Prop)(X:Frame->List Frame->World->Prop)(a:Frame)(ZJ:List Frame)(w:World):Prop:=
 L6 P R a ZJ w\/(¬(a.mode=.returning/\ZJ=[])/\∀T,∃a' as' w' es,stepG P true (df a (ZJ++[stop P])) (ay w T)=.go (df a' (as'++[stop P])) w' es/\(a'.mode=.run\/a'.mode=.returning)/\X a' as' w')
def Tree (P:Program)(R:Value->World->Prop)(a:Frame)(ZJ:List Frame)(w:World):Prop:=
 ∀X:Frame->List Frame->World->Prop,(∀a ZJ w,Node P R X a ZJ w->X a ZJ w)->X a ZJ w
def Tree.of {R}{a}{ZJ}{w}(h:Node P R (Tree P R) a ZJ w):Tree P R a ZJ w:=λX b=>by
 refine b _ _ _ (h.imp id fun⟨g,f⟩=>⟨g,λT=>?_⟩);obtain⟨a',as',w',es,e,d,c⟩:=f T;exact⟨a',as',w',es,e,d,c X b⟩
end
section
variable {P Q:Program}{K:Nat->Prop}{st:Prop}{p:Rel st}{C:iG}
structure qC where
 a:Frame
 ZJ:List Frame
 w:World
def Oy (st:Prop)(C:iG)(P:Program)(K:Nat->Prop)(s:qC):Prop:=∃(q:Rel st) (b:Frame) (bs:List Frame) (u:World),Live C P q s.a s.ZJ b bs/\WR P.globals.size K q s.w u
def Fin (s:qC):Prop:=s.a.mode=.returning/\s.ZJ=[]
def S7 (st:Prop)(C:iG)(P:Program)(K:Nat->Prop)(R:Value->World->Prop)(s:qC):Prop:=Oy st C P K s/\¬Tree P R s.a s.ZJ s.w
def Tf (P:Program)(s:qC)(T:Nat->Question->Nat):GStep:=stepG P true (df s.a (s.ZJ++[stop P])) (ay s.w T)
def Sy (st:Prop)(C:iG)(P:Program)(K:Nat->Prop)(R:Value->World->Prop)(s:qC)(T:Nat->Question->Nat)(s':qC):Prop:=
 s.w.drawn<=s'.w.drawn/\S7 st C P K R s'/\∀b,(∀j q,s.w.drawn<=j->j<s'.w.drawn->b j q=T j q)->∃es,Tf P s b=.go (df s'.a (s'.ZJ++[stop P])) (ay s'.w b) es
def Qr (P:Program)(s:qC)(T:Nat->Question->Nat):Prop:=
 ∀a,(∀j q,s.w.drawn<=j->a j q=T j q)->Kh P (Tf P s a) [stop P]
def iY (w)(T a):ay (ay w T) a=ay w a:=rfl
def WR.follow {w u}(T):TR (ay w T) (ay u λj q=>T (w.drawn+(j-u.drawn)) q):=λi q=>by
 show T (w.drawn+i) q=T (w.drawn+(u.drawn+i-u.drawn)) q
 rw[ada]
def LQ (F:dM P)(hp:aH C P Q)(E:Twin P Q)(J:AB C st K)(z:C.sp=[])(B:∀o,C.mark o=false){R}{s}(h:S7 st C P K R s):Fin s\/∃T,Qr P s T\/∃s',Sy st C P K R s T s':=by
 classical
 obtain⟨⟨q,b,bs,u,hl,hw⟩,O⟩:=h
 by_cases hf:Fin s
 .exact .inl hf
 refine .inr ?_;have H:s.a.mode=.returning->s.ZJ≠[]:=λU S=>hf ⟨U,S⟩
 have A:¬∀T,∃a' as' w' es,stepG P true (df s.a (s.ZJ++[stop P])) (ay s.w T)=.go (df a' (as'++[stop P])) w' es/\(a'.mode=.run\/a'.mode=.returning)/\Tree P R a' as' w':=
  λh=>O (Tree.of (.inr ⟨hf,h⟩))
 obtain⟨T,A⟩:=Classical.not_forall.1 A;refine⟨T,?_⟩;have k:=hw.kv T (λj q=>T (s.w.drawn+(j-u.drawn)) q);have G:=WR.follow (w:=s.w) (u:=u) T;have hA:=pY (m:=true) (m':=true) (cs:=[stop P]) (ds:=[]) F hp E J hl (λ_ ⟨_,_,_,_,o,_,_,_,h⟩=>by rw[B o]at h;cases h) H k G;have I:=xe (m:=true) (cs:=[stop P]) F hp E J hl H k G;rcases hA with hA|⟨M,a',as',V,D,w',u',es,new,i,r,n,v,N,W,_⟩|⟨_,f,_,_,_,_,_,_,_,_,_,_,_,l,_⟩
 .refine .inl λt c=>?_
  rcases I with⟨g,w',es,i,d1,_,r⟩|⟨o,w',es,i,d1,_,r⟩
  .have:=r t λj q x _=>c j q x
   rw[iY]at this;rcases hA with⟨o,w2,d,e⟩|⟨fr,ZJ,w2,d,e,hd⟩
   .cases i.symm.trans e
   .cases i.symm.trans e
    exact .inr ⟨fr,ZJ,_,_,this,hd⟩
  .have:=r t λj q x _=>c j q x
   rw[iY]at this;exact .inl ⟨_,_,_,this⟩
 .refine .inr ⟨⟨a',as',w'⟩,?_⟩
  have p:S7 st C P K R ⟨a',as',w'⟩:=⟨⟨M,V,D,u',n,v⟩,λy=>A ⟨a',as',w',es,i,n.mode,y⟩⟩;rcases I with⟨g,w2,d,e,d1,_,L⟩|⟨o,w2,d,e,d1,_,L⟩
  .cases i.symm.trans e
   exact⟨d1,p,λt c=>⟨es,L t c⟩⟩
  .cases i.symm.trans e
 .rw[z]at l;cases l
def iter (f:qC->qC)(s:qC):Nat->qC
 |0=>s
 |k+1=>f (iter f s k)
def pz (hz:dM P)(hp:aH C P Q)(tw:Twin P Q)(hE:AB C st K)(ζ:C.sp=[])(θ:∀o,C.mark o=false){R}{f}{args}{w}
 (hc:Oy st C P K ⟨Frame.enter P f args .normal,[],w⟩)
 (h:∀T,Calls P f args (ay w T) fun|.returned v,w'=>R v w'|_,_=>False):Tree P R (Frame.enter P f args .normal) [] w:=by
 classical
 apply Classical.byContradiction;intro hT
 have E:∀s:qC,∃x:(Nat->Question->Nat)×qC,S7 st C P K R s->Fin s\/Qr P s x.1\/Sy st C P K R s x.1 x.2:=by
  intro s
  by_cases hb:S7 st C P K R s
  .rcases LQ hz hp tw hE ζ θ hb with l|⟨T,l|⟨s',l⟩⟩
   .exact⟨⟨λ_ _=>0,s⟩,λ_=>.inl l⟩
   .exact⟨⟨T,s⟩,λ_=>.inr (.inl l)⟩
   .exact⟨⟨T,s'⟩,λ_=>.inr (.inr l)⟩
  .exact⟨⟨λ_ _=>0,s⟩,λh=>absurd h hb⟩
 obtain⟨F,hF⟩:=Classical.axiomOfChoice E
 let L:qC:=⟨Frame.enter P f args .normal,[],w⟩
 let c:Nat->qC:=iter (λs=>(F s).2) L
 let N:Nat->Prop:=λk=>Sy st C P K R (c k) (F (c k)).1 (c (k+1))
 have z:∀k,(∀i,i<k->N i)->S7 st C P K R (c k):=by
  intro k B;cases k with
  |zero=>exact⟨hc,hT⟩
  |succ k=>exact(B k (Z4 _)).2.1
 have M:∀k i,i<=k->(∀j,j<k->N j)->(c i).w.drawn<=(c k).w.drawn:=by
  intro k
  induction k with
  |zero=>intro i t _;obtain rfl:i=0:=by omega
         exact ZL _
  |succ k W=>
   intro i t G
   by_cases ι:i=k+1
   .rw[ι];exact ZL _
   .exact ZP (W i (by omega) λj hj=>G j (by omega)) (G k (Z4 _)).1
 let At:Nat->Nat->Prop:=λj k=>(∀i,i<k->N i/\(c (i+1)).w.drawn<=j)/\(N k->j< (c (k+1)).w.drawn)
 have κ:∀j k k',At j k->At j k'->k=k':=by
  intro j k k' l V;rcases Nat.lt_trichotomy k k' with O|heq|O
  .have:=V.1 k O
   have:=l.2 this.1;omega
  .exact heq
  .have:=l.1 k' O
   have:=V.2 this.1;omega
 let p:Nat->Question->Nat:=λj q=>if hx:∃k,At j k then(F (c (Classical.choose hx))).1 j q else 0
 have γ:∀j q k,At j k->p j q=(F (c k)).1 j q:=by
  intro j q k B;have hx:∃k,At j k:=⟨k,B⟩;have e:=κ j _ _ (Classical.choose_spec hx) B;show(if hx:∃k,At j k then(F (c (Classical.choose hx))).1 j q else 0)=_
  rw[dif_pos hx,e]
 have β:∀k j,(∀i,i<k->N i)->(c k).w.drawn<=j->(N k->j< (c (k+1)).w.drawn)->At j k:=by
  intro k j G hj B;exact⟨λi t=>⟨G i t,ZP (M k (i+1) (by omega) G) hj⟩,B⟩
 have H:∀k,(∀i,i<k->N i)->runN P k (lone L.a (L.ZJ++[stop P]) (ay L.w p))=.next (lone (c k).a ((c k).ZJ++[stop P]) (ay (c k).w p)):=by
  intro k
  induction k with
  |zero=>intro _;rfl
  |succ k W=>
   intro G;have B:=G k (Z4 _);obtain⟨es,U⟩:=B.2.2 p λj q x y=>γ j q k (β k j (λi t=>G i (by omega)) x λ_=>y)
   rw[runN_add,W λi t=>G i (by omega)]
   have e2:step P (lone (c k).a ((c k).ZJ++[stop P]) (ay (c k).w p))=.next (lone (c (k+1)).a ((c (k+1)).ZJ++[stop P]) (ay (c (k+1)).w p)):=by
        refine step_lone_go ?_;have J:stepG P true (df (c k).a ((c k).ZJ++[stop P])) (ay (c k).w p)=_:=U;rw[J];rfl
   simp only[runN,e2]
 obtain⟨e,w',fr,hR,D,ο,A⟩:=h p [stop P];cases e with
 |panicked ch=>exact hR
 |outgrown=>exact hR
 |returned v=>
  obtain⟨n,I⟩:∃n,runN P n (lone L.a (L.ZJ++[stop P]) (ay L.w p))=.next (lone fr [stop P] w'):=D;obtain⟨r,α,S,ν,Z,X⟩:=A
  have key:(∀i,i<n->N i)\/∃k,k<n/\(∀i,i<k->N i)/\¬N k:=by
   have:∀m,m<=n->(∀i,i<m->N i)\/∃k,k<n/\(∀i,i<k->N i)/\¬N k:=by
        intro m
        induction m with
        |zero=>intro _;exact .inl λi t=>absurd t (ZV _)
        |succ m W=>
         intro hm;rcases W (by omega)with l|l
         .by_cases δ:N m
          .refine .inl λi t=>?_
           rcases ac7.1 t with t|rfl
           .exact l i t
           .exact δ
          .exact .inr ⟨m,by omega,l,δ⟩
         .exact .inr l
   exact this n (ZL _)
  rcases key with g|⟨k,B,g,Y⟩
  .have U:=H n g
   rw[I]at U
   have e2:fr=(c n).a/\[stop P]=(c n).ZJ++[stop P]/\w'=ay (c n).w p:=by
        simp only[lone,Stepped.next.injEq,Machine.mk.injEq]at U;obtain⟨x1,x2,_⟩:=U;have x3:({frame:=fr,callers:=[stop P],status:=.running,dying:=none}:Goroutine)={frame:=(c n).a,callers:=(c n).ZJ++[stop P],status:=.running,dying:=none}:=by simpa using x2
        simp only[Goroutine.mk.injEq]at x3;exact⟨x3.1,x3.2.1,x1⟩
   obtain⟨rfl,J,rfl⟩:=e2
   have e4:(c n).ZJ=[]:=by
        cases hs:(c n).ZJ with
        |nil=>rfl
        |cons x xs=>
         rw[hs]at J;have:=congrArg List.length J;simp at this
   refine(z n g).2 (Tree.of (.inl ⟨r,e4,⟨α,S⟩,ν,p,v,Z,X,hR⟩))
  .have U:=H k g
   obtain⟨d,rfl⟩:∃d,n=k+(d+1):=⟨n-k-1,by omega⟩;rw[runN_add,U]at I;have hb:=z k g;obtain⟨⟨q,b,bs,u,hl,_⟩,_⟩:=hb;rcases hF (c k) (z k g)with l|l|l
   .have η:=l.1
    rw[l.2]at I;exact oW η hl.fr.da hl.fr.ka hl.fr.known d _ _ _ _ (by simp) I
   .have hx:=l p λj q x=>γ j q k (β k j g x λhh=>absurd hh Y)
    rcases hx with⟨o,w1,es,V⟩|⟨ε,as',w1,es,V,hd⟩
    .have:step P (lone (c k).a ((c k).ZJ++[stop P]) (ay (c k).w p))=.ended o w1:=by
      refine step_lone_ended ?_;have J:stepG P true (df (c k).a ((c k).ZJ++[stop P])) (ay (c k).w p)=_:=V;rw[J];rfl
     simp only[runN,this]at I;cases I
    .have:step P (lone (c k).a ((c k).ZJ++[stop P]) (ay (c k).w p))=.next (lone ε (as'++[stop P]) w1):=by
      refine step_lone_go ?_;have J:stepG P true (df (c k).a ((c k).ZJ++[stop P])) (ay (c k).w p)=_:=V;rw[J];rfl
     simp only[runN,this]at I;obtain⟨ch,_,hd⟩:=hd;obtain⟨μ,ξ,e4,E⟩:=jU d ε as' w1 hd _ I;simp only[lone,Machine.mk.injEq]at e4;have x3:({frame:=fr,callers:=[stop P],status:=.running,dying:=none}:Goroutine)={frame:=μ,callers:=ξ,status:=.running,dying:=none}:=by simpa using e4.2.1
     cases x3;rw[r]at E;cases E
   .exact Y l
end
end
