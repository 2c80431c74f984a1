/- Part 7 of the proof. -/
import Derived.Test.YtfpaamhppamcoaaGreatDoorSp6
set_option linter.all false
namespace Go.Proofs.YtfpaamhppamcoaaGreatDoor
section
open Go
variable {st:Prop}
section
variable {α β γ δ:Type}{P Q:Program}{K:Nat->Prop}{p:Rel st}
theorem WR.kv {G}{w u}(h:WR G K p w u)(T a):WR G K p (ay w T) (ay u a):=⟨h.fit,h.rows,h.kin,h.low,h.big⟩
def bC (P Q:Program)(K:Nat->Prop)(p:Rel st)(s:Sem α)(t:Sem β)(A:Rel st->α->β->Prop):Prop:=
 Twin P Q->∀(w u:World) (es fs:Array Event),WR P.globals.size K p w u->Plainly P s w es/\∃T,∀a w' c,s.runT P (ay w T) es=(.ok a w',c)->
    ∃q b u' new,t.runT Q u fs=(.ok b u',fs++new)/\A q a b/\WR P.globals.size K q w' u'/\dE K p q u u'/\∀e∈new,EvOk K q e
theorem TR.back (w u):TR w (ay u λj q=>w.tape (w.drawn+(j-u.drawn)) q):=λi q=>by
 show w.tape (w.drawn+i) q=w.tape (w.drawn+(u.drawn+i-u.drawn)) q
 rw[Nat.add_sub_cancel_left]
theorem TR.forth (w u):TR (ay w λj q=>u.tape (u.drawn+(j-w.drawn)) q) u:=λi q=>by
 show u.tape (u.drawn+(w.drawn+i-w.drawn)) q=u.tape (u.drawn+i) q
 rw[Nat.add_sub_cancel_left]
theorem dU {s}{f:α->Sem γ}(w)(es):(s>>=f).runT P w es=match s.runT P w es with
 |(.ok a w',b)=>(f a).runT P w' b
 |(.halt h w',b)=>(.halt h w',b):=by
 show(s.bind f).runT P w es=_
 rw[Sem.runT_bind'];rcases s.runT P w es with⟨r,c⟩
 cases r<;>rfl
theorem af.lQ {s}{t}{A:Rel st->α->β->Prop}(h:af P Q K p s t A):bC P Q K p s t A:=λd w u es fs hw=>by
 refine⟨(h d w _ es fs (hw.kv w.tape _) (TR.back w u)).1,(λj q=>u.tape (u.drawn+(j-w.drawn)) q),λa w' c e=>?_⟩;obtain⟨q,b,u',new,l,k,i,_,g,f⟩:=(h d _ u es fs (hw.kv _ u.tape) (TR.forth w u)).2 a w' c e;exact⟨q,b,u',new,l,k,i,g,f⟩
theorem bC.after {A}{B}{s}{t}{f:α->Sem γ}{g:β->Sem δ}
 (h:af P Q K p s t A)(k:∀q a b,Ext p q->A q a b->bC P Q K q (f a) (g b) B):bC P Q K p (s>>=f) (t>>=g) B:=by
 intro z w u es fs hw;have hb:=h z w _ es fs (hw.kv w.tape _) (TR.back w u);refine⟨⟨λR w' v m=>?_,Local.bind hb.1.loc λa w1 i o=>?_⟩,?_⟩
 .rw[dU]at m
  rcases o:s.runT P w es with⟨r,i⟩
  rw[o]at m;cases r with
  |ok a w1=>
   obtain⟨q,b,u1,x,_,hA,l,_,g1,_⟩:=hb.2 a w1 i o;exact(k q a b g1.ext hA z w1 u1 i (fs++x) l).1.mild R w' v m
  |halt G w1=>cases m;exact hb.1.mild _ _ _ o
 .obtain⟨q,b,u1,x,_,hA,l,_,g1,_⟩:=hb.2 a w1 i o
  exact(k q a b g1.ext hA z w1 u1 i (fs++x) l).1.loc
 .have hf:=h z _ u es fs (hw.kv _ u.tape) (TR.forth w u)
  rcases o:s.runT P (ay w λj q=>u.tape (u.drawn+(j-w.drawn)) q) es with⟨r,i⟩
  cases r with
  |halt G w1=>
   refine⟨λj q=>u.tape (u.drawn+(j-w.drawn)) q,λc w' v m=>?_⟩;rw[dU,o]at m;cases m
  |ok a w1=>
   obtain⟨q,b,u1,x,L,hA,l,_,g1,v1⟩:=hf.2 a w1 i o;obtain⟨_,y,G⟩:=k q a b g1.ext hA z w1 u1 i (fs++x) l;have D:=(k q a b g1.ext hA z (ay w1 y) u1 i (fs++x) (l.kv y u1.tape)).1.loc;have hl:=hf.1.loc;unfold Local at hl;rw[o]at hl;obtain⟨Y,X,O⟩:=hl
   let T:Nat->Question->Nat:=λj q=>if j<w1.drawn then u.tape (u.drawn+(j-w.drawn)) q else y j q
   refine⟨T,λc w' v m=>?_⟩
   have W:s.runT P (ay w T) es=(.ok a (ay w1 T),i):=O T λj q _ F=>by
        have E:j<w1.drawn:=F;show(if j<w1.drawn then _ else _)=_
        rw[if_pos E];rfl
   rw[dU,W]at m;have n:(f a).runT P (ay w1 T) i=(.ok c w',v):=m
   have V:(f a).runT P (ay w1 T) i=(rtaped T ((f a).runT P (ay w1 y) i).1,((f a).runT P (ay w1 y) i).2):=D.2.2 T λj q F _=>by
        have:¬j<w1.drawn:=(by have:w1.drawn<=j:=F;omega);show(if j<w1.drawn then _ else _)=y j q
        rw[if_neg this]
   rw[V]at n;rcases I:(f a).runT P (ay w1 y) i with⟨r,U⟩
   rw[I]at n;cases r with
   |halt _ _=>cases n
   |ok Z w2=>
    cases n;obtain⟨M,d,u2,N,J,S,C,g2,v2⟩:=G c w2 U I;refine⟨M,d,u2,x++N,?_,S,C.kv T u2.tape,g1.trans g2,λe he=>?_⟩
    .rw[dU,L]
     simp only;rw[J,Array.append_assoc]
    .rcases Array.mem_append.1 he with H|H
     .exact(v1 e H).mono g2.ext
     .exact v2 e H
theorem bC.map {A}{B}{s}{t}{f:α->γ}{g:β->δ}(h:bC P Q K p s t A)(k:∀q a b,A q a b->B q (f a) (g b)):
 bC P Q K p (s>>=λa=>Pure.pure (f a)) (t>>=λb=>Pure.pure (g b)) B:=by
 intro m w u es fs hw;obtain⟨⟨hm,hl⟩,T,n⟩:=h m w u es fs hw;refine⟨⟨λx w' i d=>?_,Local.bind hl λa w1 l _=>⟨ZL _,rfl,λy _=>rfl⟩⟩,T,λc w' i d=>?_⟩
 .rw[dU]at d
  rcases e:s.runT P w es with⟨r,l⟩
  rw[e]at d;cases r with
  |ok a w1=>cases d
  |halt j w1=>cases d;exact hm _ _ _ e
 .rw[dU]at d
  rcases e:s.runT P (ay w T) es with⟨r,l⟩
  rw[e]at d;cases r with
  |halt j w1=>cases d
  |ok a w1=>
   cases d;obtain⟨q,b,u',new,j,v,o⟩:=n a w' i e;exact⟨q,g b,u',new,by rw[dU,j];rfl,k q a b v,o⟩
theorem bC.given {s}{t}{A:Rel st->α->β->Prop}(h:(∃w u,WR P.globals.size K p w u)->bC P Q K p s t A):bC P Q K p s t A:=
 λa w u es fs hw=>h ⟨w,u,hw⟩ a w u es fs hw
theorem bC.coin {s t}{m m':World->Bool}(hs:∀w es,s.runT P w es=(.ok (m w) w,es))(D:∀w es,t.runT Q w es=(.ok (m' w) w,es))(hm:∀w T,m (ay w T)=m w)
 (hle:∀w u,WR P.globals.size K p w u->m' u=true->m w=true)(q)(E:q.cut 0=0)(f:Nat->γ)(y)(hy:f 0=y)(A)(hA:∀q c,A q (f c) (f c)):
 bC P Q K p (s>>=λx=>if x=true then(choose q>>=λc=>Pure.pure (f c))else Pure.pure y) (t>>=λx=>if x=true then(choose q>>=λc=>Pure.pure (f c))else Pure.pure y) A:=by
 classical
 have k:∀q,A q y y:=λq=>hy▸hA q 0
 intro v w u es fs hw;have o:∀w es,(s>>=λx=>if x=true then(choose q>>=λc=>Pure.pure (f c))else Pure.pure y).runT P w es=(if m w=true then(choose q>>=λc=>Pure.pure (f c))else Pure.pure y).runT P w es:=λw es=>by rw[dU,hs]
 have B:∀w es,(t>>=λx=>if x=true then(choose q>>=λc=>Pure.pure (f c))else Pure.pure y).runT Q w es=(if m' w=true then(choose q>>=λc=>Pure.pure (f c))else Pure.pure y).runT Q w es:=λw es=>by rw[dU,D]
 have key:∀z:Bool,bC P Q K p (if z=true then(choose q>>=λc=>Pure.pure (f c))else Pure.pure y) (if z=true then(choose q>>=λc=>Pure.pure (f c))else Pure.pure y) A:=λz=>by
  cases z with
  |true=>exact(af.bind (af.choose q) λ_ a b _ e=>af.pure (by rw[e];exact hA _ _)).lQ
  |false=>exact(af.pure (k _)).lQ
 have pl:∀w es,Plainly P (s>>=λx=>if x=true then(choose q>>=λc=>Pure.pure (f c))else Pure.pure y) w es:=λw es=>by
  have H:=(key (m w) v w u es fs);refine⟨λI w' i d=>?_,?_⟩
  .rw[o]at d
   cases j:m w with
   |true=>
    rw[j,if_pos rfl,dU,eT]at d
    by_cases g:q.forced=true
    .rw[if_pos g]at d;cases d
    .rw[if_neg g]at d;cases d
   |false=>rw[j]at d;cases d
  .unfold Local
   simp only[o,hm];cases j:m w with
   |true=>
    have:=Local.bind (l8 q w es) (f:=λc=>(Pure.pure (f c):Sem γ)) (P:=P) λa w' i _=>⟨ZL _,rfl,λG _=>rfl⟩
    exact this
   |false=>exact⟨ZL _,rfl,λG _=>rfl⟩
 refine⟨pl w es,?_⟩
 by_cases h:m w=true/\m' u=false
 .refine⟨λ_ _=>0,λa w' i d=>?_⟩
  rw[o,hm,h.1,if_pos rfl,dU,eT]at d;have hc:q.cut ((ay w λ_ _=>0).tape (ay w λ_ _=>0).drawn q)=0:=E;rw[hc]at d;refine⟨p,y,u,#[],by rw[B,h.2,Array.append_empty];rfl,?_,?_,dE.refl _ _ _,λe he=>by simp at he⟩
  .by_cases g:q.forced=true
   .rw[if_pos g]at d;cases d;rw[hy];exact k _
   .rw[if_neg g]at d;cases d;rw[hy];exact k _
  .by_cases g:q.forced=true
   .rw[if_pos g]at d;cases d;exact⟨hw.fit,hw.rows,hw.kin,hw.low,hw.big⟩
   .rw[if_neg g]at d;cases d;exact⟨hw.fit,hw.rows,hw.kin,hw.low,hw.big⟩
 .have r:m w=m' u:=by
   cases n:m w<;>cases l:m' u
   .rfl
   .have:=hle w u hw l;rw[n]at this;cases this
   .exact absurd ⟨n,l⟩ h
   .rfl
  obtain⟨_,T,F⟩:=key (m w) v w u es fs hw;refine⟨T,λa w' i d=>?_⟩;rw[o,hm]at d;obtain⟨C,b,u',new,n,l⟩:=F a w' i d;exact⟨C,b,u',new,by rw[B,<-r];exact n,l⟩
theorem frozen_le {w u}{G}(hw:WR G K p w u){a b}(h:AR p a b)(hf:u.frozen? b=true):w.frozen? a=true:=by
 classical
 obtain⟨xs,ys,e,f,g,d,c,_,k,j⟩|⟨_,_,_,d,c,_⟩|⟨_,_,_,d,c,_⟩:=hw.rows _ _ h.1
 .simp only[World.frozen?,d,c,h.2.1,ZQ,decide_eq_true_eq]at hf⊢
  by_cases i:K b.block
  .obtain⟨k1,_,l,_⟩:=k i
   omega
  .obtain rfl:=j i
   exact hf
 .simp only[World.frozen?,c]at hf;cases hf
 .simp only[World.frozen?,c]at hf;cases hf
theorem shape_same {w u}{G}(hw:WR G K p w u){b c}(h:p b c):w.shape? b=u.shape? c:=by
 obtain⟨xs,ys,e,f,g,d,a,i,_⟩|⟨_,_,_,d,a,_⟩|⟨_,_,_,d,a,_⟩:=hw.rows _ _ h
 .simp only[World.shape?,d,a,i.1]
 .simp only[World.shape?,d,a]
 .simp only[World.shape?,d,a]
def strB (w:World)(a:Addr):Bool:=w.frozen? a||(match w.shape? a.block with|some (_,n)=>w.frozen? {block:=a.block,off:=n}|none=>false)
def noneB (w:World)(a:Addr):Bool:=(w.shape? a.block) matches some (_,0)
def oneB (a b:Addr)(w:World):Bool:=(strB w a&&strB w b)||(strB w a&&noneB w a)||(strB w b&&noneB w b)
theorem runT_stringish (a)(w)(es):(stringish a).runT P w es=(.ok (strB w a) w,es):=by
 unfold stringish strB;rw[dU,iZ];simp only;cases w.frozen? a with
 |true=>rfl
 |false=>
  simp only[Z0,if_false,Bool.false_or];rw[dU];have:(Go.shape a.block).runT P w es=(.ok (w.shape? a.block) w,es):=rfl;rw[this];simp only;cases w.shape? a.block with
  |none=>rfl
  |some x=>rfl
theorem iW (a b)(w)(es):(mayBeOne a b).runT P w es=(.ok (oneB a b w) w,es):=by
 unfold mayBeOne oneB;simp only[dU,runT_stringish];rfl
theorem oneB_le {w u}{G}(hw:WR G K p w u){a b c d}(h:AR p a c)(k:AR p b d)(hf:oneB c d u=true):oneB a b w=true:=by
 have hs:∀{a c:Addr},AR p a c->strB u c=true->strB w a=true:=fun{a c} h hc=>by
  unfold strB at hc⊢;rw[shape_same hw h.1];rw[Bool.or_eq_true]at hc⊢;refine hc.imp (frozen_le hw h) λhc=>?_
  cases hx:u.shape? c.block with
  |none=>rw[hx]at hc;cases hc
  |some x=>
   rw[hx]at hc;exact frozen_le hw (a:=⟨a.block,x.2,none⟩) (b:=⟨c.block,x.2,none⟩) ⟨h.1,rfl,rfl⟩ hc
 have g:∀{a c:Addr},AR p a c->noneB u c=true->noneB w a=true:=fun{a c} h hc=>by
  unfold noneB at hc⊢;rw[shape_same hw h.1];exact hc
 unfold oneB at hf⊢;simp only[Bool.or_eq_true,ZQ]at hf⊢;rcases hf with(⟨f,e⟩|⟨f,e⟩)|⟨f,e⟩
 .exact .inl (.inl ⟨hs h f,hs k e⟩)
 .exact .inl (.inr ⟨hs h f,g h e⟩)
 .exact .inr ⟨hs k f,g k e⟩
theorem af.frozenLe {a b}(h:AR p a b):af P Q K p (Go.frozen a) (Go.frozen b) (λ_ x y=>y=true->x=true):=by
 intro g w u es fs hw f;refine⟨⟨λh w' d c=>(by cases c),⟨ZL _,rfl,λi _=>rfl⟩⟩,λx w' d c=>?_⟩;rw[iZ]at c;cases c;exact⟨p,u.frozen? b,u,#[],by rw[iZ,Array.append_empty],frozen_le hw h,hw,f,dE.refl _ _ _,λe he=>by simp at he⟩
theorem bC.sameAddr {a b c d}(h:AR p a c)(k:AR p b d):bC P Q K p (Go.sameAddr a b) (Go.sameAddr c d) (λ_ x y=>x=y):=by
 refine bC.given fun⟨w,u,hw⟩=>?_
 unfold Go.sameAddr;rw[<-AR.iM hw h k,<-AR.eq_iff hw h k];split
 .exact(af.pure rfl).lQ
 .refine bC.after (af.frozenLe h) λq x y g n=>?_
  refine bC.after (af.frozenLe (k.mono g)) λs x2 l e m=>?_
  simp only
  by_cases hx:(x&&x2)=true
  .rw[if_pos hx];exact(ag.bR (ag.left (ag.halt _))).lQ
  .have hy:¬(y&&l)=true:=λhy=>hx (by
        simp only[ZQ]at hy⊢;exact⟨n hy.1,m hy.2⟩)
   rw[if_neg hx,if_neg hy];refine bC.after (af.noView (h.mono (g.trans e))) λr _ _ f _=>?_
   refine bC.after (af.noView (k.mono ((g.trans e).trans f))) λo _ _ i _=>?_
   have j:=(g.trans e).trans (f.trans i);exact bC.coin (iW a b) (iW c d) (λ_ _=>rfl) (λw u hw=>oneB_le hw (h.mono j) (k.mono j)) _ rfl (λc=>c==1) false rfl (λ_ x y=>x=y) (λ_ _=>rfl)
end
variable {st:Prop}
section
variable {α β γ δ:Type}{P Q:Program}{K:Nat->Prop}{p:Rel st}
theorem bC.oh {x y v u}(n)(t){e}(m:P.underlying t=some (.pointer e))(h:VR p x v)(k:VR p y u):bC P Q K p (Op.equalIn n t x y) (Op.equalIn n t v u) (λ_ a b=>a=b):=by
 cases n with
 |zero=>exact af.lQ af.halt
 |succ n=>
  unfold Op.equalIn;refine bC.after (af.underlying t) λq d d' l j=>?_
  obtain⟨rfl,hd⟩:=j;rw[m]at hd;cases hd;have o:=h.ext l;have k':=k.ext l;cases x with
  |pointer a=>
   obtain⟨c,rfl,g⟩:=o.bV;cases y with
   |pointer b=>
    obtain⟨d,rfl,f⟩:=k'.bV;cases a with
    |none=>
     obtain rfl:=g.aV;cases b with
     |none=>obtain rfl:=f.aV;exact(af.pure rfl).lQ
     |some b=>obtain⟨d,rfl,_⟩:=f.aO;exact(af.pure rfl).lQ
    |some a=>
     obtain⟨c,rfl,g⟩:=g.aO;cases b with
     |none=>obtain rfl:=f.aV;exact(af.pure rfl).lQ
     |some b=>
      obtain⟨d,rfl,f⟩:=f.aO;refine bC.given fun⟨w,u,hw⟩=>?_
      simp only;refine bC.after (af.sizeOf _) λA s s' i j=>?_
      subst j;have r:=AR.eq_iff hw g f;rw[<-r];split
      .exact bC.sameAddr (g.mono i) (f.mono i)
      .split
       .exact(af.pure rfl).lQ
       .refine(af.bind (af.choose _) λz x y _ e=>?_).lQ
        subst e;exact af.pure rfl
   |_=>exact(ag.bR (by cases a<;>exact ag.halt _)).lQ
  |_=>exact(ag.bR (ag.halt _)).lQ
def kC (P:Program):Bool:=(match P.underlying bP with|some (.struct _)=>true|_=>false)&&P.stoodInHeld bP
theorem never_rtype (a:kC P=true)(n)(x y):ag P (Op.equalIn n bP x y):=by
 unfold kC at a;rw[ZQ]at a;obtain⟨b,c⟩:=a;cases n with
 |zero=>exact ag.halt _
 |succ n=>
  unfold Op.equalIn
  have hu:∃fs,P.underlying bP=some (.struct fs):=by
   split at b
   .rename_i fs e;exact⟨fs,e⟩
   .cases b
  obtain⟨fs,hu⟩:=hu;unfold Go.underlying;rw[bind_assoc];refine ag.program ?_;rw[hu];simp only[pure_bind]
  cases x<;>cases y<;>first
   |exact ag.halt _
   |(refine ag.program ?_
     simp only[c,if_true];exact ag.left (ag.halt _))
theorem af.equalRtype (l:kC P=true){b y v u}(n)(t){ms}(j:P.underlying t=some (.interface ms))(h:VR p (.iface bP b) v)(k:VR p y u):af P Q K p (Op.equalIn n t (.iface bP b) y) (Op.equalIn n t v u) (λ_ a b=>a=b):=by
 cases n with
 |zero=>exact af.halt
 |succ n=>
  unfold Op.equalIn;refine af.bind (af.underlying t) λq d d' o m=>?_
  obtain⟨rfl,hd⟩:=m;rw[j]at hd;cases hd;have g:=h.cases;have e:=k.cases;cases v with
  |iface a' x=>
   obtain⟨rfl,_⟩:=g;cases y with
   |nilIface=>cases u<;>first|exact e.elim|exact af.pure rfl
   |iface c d=>
    cases u with
    |iface w d'=>
     obtain⟨rfl,_⟩:=e;simp only
     by_cases f:bP≠c
     .rw[if_pos f,if_pos f];exact af.pure rfl
     .rw[if_neg f]
      refine ag.bR (ag.bindInfo λi r=>?_);split
      .refine ag.bind aY.program λa=>ag.bind aY.program λb=>?_
       split
       .exact ag.left (ag.halt _)
       .refine ag.bind ?_ λs=>ag.runtimePanic _
        unfold typeStr;refine aY.bind (aY.typeInfo _) λi=>?_
        show aY P (if i.str.isEmpty=true then unsupported (Unsupported.noEntry "a type whose name as gc spells it is not known")else Pure.pure i.str)
        split
        .exact aY.halt _
        .exact aY.pure _
      .exact never_rtype l _ _ _
    |_=>exact e.elim
   |_=>exact ag.bR (ag.halt _)
  |_=>exact g.elim
theorem af.om (i:∀c,¬K c)(g:oP P=true)(f:kC P=true){x y v u}(n)(t){ms}(d:P.underlying t=some (.interface ms))(h:VR p x v)(k:VR p y u):af P Q K p (Op.equalIn n t x y) (Op.equalIn n t v u) (λ_ a b=>a=b):=by
 by_cases hx:∃z,x=.iface bP z
 .obtain⟨z,rfl⟩:=hx
  exact af.equalRtype f n t d h k
 .exact af.equalIface i g n t d (λz e=>hx ⟨z,e⟩) h k
theorem bC.om (D:oP P=true)(C:kC P=true){x y v u}(n)(t){ms}(A:P.underlying t=some (.interface ms))(h:VR p x v)(k:VR p y u):bC P Q K p (Op.equalIn n t x y) (Op.equalIn n t v u) (λ_ a b=>a=b):=by
 by_cases hx:∃z,x=.iface bP z
 .obtain⟨z,rfl⟩:=hx
  exact(af.equalRtype C n t A h k).lQ
 cases n with
 |zero=>exact af.lQ af.halt
 |succ n=>
  unfold Op.equalIn;refine bC.after (af.underlying t) λq d d' B w=>?_
  obtain⟨rfl,hd⟩:=w;rw[A]at hd;cases hd;have F:=h.ext B;have k':=k.ext B;have g:=F.cases;have f:=k'.cases;cases x with
  |nilIface=>
   cases v with
   |nilIface=>
    cases y with
    |nilIface=>cases u<;>first|exact f.elim|exact(af.pure rfl).lQ
    |iface a b=>cases u<;>first|exact f.elim|exact(af.pure rfl).lQ
    |_=>exact(ag.bR (ag.halt _)).lQ
   |_=>exact g.elim
  |iface a b=>
   cases v with
   |iface a' I=>
    obtain⟨rfl,g⟩:=g;rcases g with⟨E,hb⟩|⟨rfl,_⟩
    rotate_left
    .exact absurd ⟨_,rfl⟩ hx
    cases y with
    |nilIface=>cases u<;>first|exact f.elim|exact(af.pure rfl).lQ
    |iface c d=>
     cases u with
     |iface H d'=>
      obtain⟨rfl,f⟩:=f;simp only
      by_cases l:a≠c
      .rw[if_pos l,if_pos l];exact(af.pure rfl).lQ
      .rw[if_neg l,if_neg l]
       have o:a=c:=Classical.not_not.1 l;subst o
       have hd:VR q d d':=by
           rcases f with⟨_,hd⟩|⟨rfl,_⟩
           .exact hd
           .exact absurd ⟨_,rfl⟩ hx
       refine bC.after (af.typeInfo a) λG i j m w=>?_
       obtain⟨rfl,_⟩:=w;split
       .refine(ag.bR (ag.bind aY.program λa=>ag.bind aY.program λb=>?_)).lQ
        split
        .exact ag.left (ag.halt _)
        .refine ag.bind ?_ λs=>ag.runtimePanic _
         unfold typeStr;refine aY.bind (aY.typeInfo _) λi=>?_
         show aY P (if i.str.isEmpty=true then unsupported (Unsupported.noEntry "a type whose name as gc spells it is not known")else Pure.pure i.str)
         split
         .exact aY.halt _
         .exact aY.pure _
       .have r:(match P.underlying a with|some .string|some (.pointer _)=>true|_=>false)=true:=ZU.1 D a (by simpa[okIb] using E)
        cases hu:P.underlying a with
        |none=>rw[hu]at r;cases r
        |some d0=>
         rw[hu]at r;cases d0 with
         |string=>exact(af.jA 1 _ _ (by simp[jO,hu]) (hb.ext m) (hd.ext m)).lQ
         |pointer e=>exact bC.oh _ _ hu (hb.ext m) (hd.ext m)
         |_=>cases r
     |_=>exact f.elim
    |_=>exact(ag.bR (ag.halt _)).lQ
   |_=>exact g.elim
  |_=>exact(ag.bR (ag.halt _)).lQ
theorem binEq_by {x y v u}{R:Sem Value->Sem Value->Prop}(j:∀s s',af P Q K p s s' (λq a b=>VR q a b)->R s s')(op)(t)(g:op=.eql\/op=.neq)(h:VR p x v)(i:VR p y u)
 (m:x=.nilFunc->ag P (binOp op t x y))(l:y=.nilFunc->ag P (binOp op t x y))
 (eqv:R (do Pure.pure (.bool (<-Op.equal t x y))) (do Pure.pure (.bool (<-Op.equal t v u))))(k:R (do Pure.pure (.bool (!(<-Op.equal t x y)))) (do Pure.pure (.bool (!(<-Op.equal t v u))))):R (binOp op t x y) (binOp op t v u):=by
 have hx:=h.cases;have c:=i.cases
 have e:∀(k1 f:IntKind) (a b:Int),af P Q K p (binOp op t (.int k1 a) (.int f b)) (binOp op t (.int k1 a) (.int f b)) (λq a b=>VR q a b):=by
  intro k1 f a b
  by_cases i:k1≠f
  .rcases g with rfl|rfl<;>(simp only[binOp,if_pos i];exact af.halt)
  .rcases g with rfl|rfl<;>(simp only[binOp,if_neg i];exact af.intCmp _ _ _)
 have d:∀(a b:ByteArray),af P Q K p (binOp op t (.string a) (.string b)) (binOp op t (.string a) (.string b)) (λq a b=>VR q a b):=by
  intro a b;rcases g with rfl|rfl<;>(simp only[binOp,Op.stringOp];exact af.pure (VR.bool _))
 cases x<;>cases v<;>first
  |exact hx.elim
  |exact j _ _ (ag.bR (m rfl))
  |exact Bool.noConfusion hx
  |(cases y<;>cases u<;>first
       |exact c.elim
       |exact j _ _ (ag.bR (l rfl))
       |exact Bool.noConfusion c
       |(obtain⟨rfl,rfl⟩:=hx;obtain⟨rfl,rfl⟩:=c;exact j _ _ (e _ _ _ _))
       |(obtain rfl:_=_:=hx;obtain rfl:_=_:=c;exact j _ _ (d _ _))
       |(rcases g with rfl|rfl
         .exact eqv
         .exact k))
def refT (P:Program)(t:TypeId):Prop:=(∃e,P.underlying t=some (.pointer e))\/∃ms,P.underlying t=some (.interface ms)
theorem nM {t}(a:refT P t)(n){x y}(h:x=.nilFunc\/y=.nilFunc):ag P (Op.equalIn n t x y):=by
 cases n with
 |zero=>exact ag.halt _
 |succ n=>
  unfold Op.equalIn Go.underlying;rw[bind_assoc];refine ag.program ?_;rcases a with⟨e,a⟩|⟨ms,a⟩
  .rw[a]
   simp only[pure_bind];rcases h with rfl|rfl
   .exact ag.halt _
   .cases x<;>first|exact ag.halt _|(rename_i o;cases o<;>exact ag.halt _)
  .rw[a]
   simp only[pure_bind];rcases h with rfl|rfl
   .exact ag.halt _
   .cases x<;>exact ag.halt _
theorem iq {t}(c:refT P t){op}(d:op=.eql\/op=.neq){x y}(h:x=.nilFunc\/y=.nilFunc):ag P (binOp op t x y):=by
 have b:ag P (do Pure.pure (.bool (<-Op.equal t x y)):Sem Value):=ag.left (nM c _ h);have a:ag P (do Pure.pure (.bool (!(<-Op.equal t x y))):Sem Value):=ag.left (nM c _ h);rcases d with rfl|rfl<;>rcases h with rfl|rfl<;>first|exact b|exact a|(cases x<;>first|exact b|exact a)|(cases y<;>first|exact b|exact a)
theorem af.binRef (g:∀c,¬K c)(j:oP P=true)(i:kC P=true){x y v u}(op)(t)(d:refT P t)(f:op=.eql\/op=.neq)(h:VR p x v)(k:VR p y u):af P Q K p (binOp op t x y) (binOp op t v u) (λq a b=>VR q a b):=by
 have he:af P Q K p (Op.equal t x y) (Op.equal t v u) (λ_ a b=>a=b):=by
  rcases d with⟨e,d⟩|⟨ms,d⟩
  .exact af.oh g _ t d h k
  .exact af.om g j i _ t d h k
 exact binEq_by (R:=λs s'=>af P Q K p s s' (λq a b=>VR q a b)) (λ_ _ h=>h) op t f h k (λe=>iq d f (.inl e)) (λe=>iq d f (.inr e))
  (af.bind he λq a b _ e=>by subst e;exact af.pure (VR.bool _)) (af.bind he λq a b _ e=>by subst e;exact af.pure (VR.bool _))
theorem bC.binRef (g:oP P=true)(f:kC P=true){x y v u}(op)(t)(c:refT P t)(d:op=.eql\/op=.neq)(h:VR p x v)(k:VR p y u):bC P Q K p (binOp op t x y) (binOp op t v u) (λq a b=>VR q a b):=by
 have he:bC P Q K p (Op.equal t x y) (Op.equal t v u) (λ_ a b=>a=b):=by
  rcases c with⟨e,c⟩|⟨ms,c⟩
  .exact bC.oh _ t c h k
  .exact bC.om g f _ t c h k
 exact binEq_by (R:=λs s'=>bC P Q K p s s' (λq a b=>VR q a b)) (λ_ _ h=>h.lQ) op t d h k (λe=>iq c d (.inl e)) (λe=>iq c d (.inr e))
  (bC.map he λq a b e=>by subst e;exact VR.bool _) (bC.map he λq a b e=>by subst e;exact VR.bool _)
theorem af.eqGuardAgg (n){t}(c:refT P t)(xs ys vs us):af P Q K p (Op.eqGuardIn n t (.agg xs) (.agg ys)) (Op.eqGuardIn n t (.agg vs) (.agg us)) (λ_ a b=>a=b):=by
 cases n with
 |zero=>exact af.halt
 |succ n=>
  unfold Op.eqGuardIn;refine af.bind (af.underlying t) λq d d' f e=>?_
  obtain⟨rfl,hd⟩:=e;rcases c with⟨e,c⟩|⟨ms,c⟩<;>(rw[c]at hd;cases hd;exact af.pure rfl)
theorem af.eqGuardRef {x y v u}(op)(t)(a b)(l:refT P t)(h:VR p x v)(k:VR p y u):af P Q K p (Go.eqGuard op t a b x y) (Go.eqGuard op t a b v u) (λ_ _ _=>True):=by
 have hx:=h.cases;have hy:=k.cases;unfold Go.eqGuard
 have f:∀{q:Rel st} (c:Bool),af P Q K q
  (if c then(Pure.pure ():Sem Unit)else do
        if<-Op.eqGuardIn Op.maxDepth t .nilIface .nilIface then unsupported (.noEntry "binop/eql: two nil values of an interface type with methods, neither of them the literal nil"))
  (if c then(Pure.pure ():Sem Unit)else do
        if<-Op.eqGuardIn Op.maxDepth t .nilIface .nilIface then unsupported (.noEntry "binop/eql: two nil values of an interface type with methods, neither of them the literal nil")) (λ_ _ _=>True):=by
  intro q c;cases c with
  |true=>exact af.pure trivial
  |false=>
   refine af.bind (af.eqGuardNil _ t) λj c d _ e=>?_
   subst e;cases c with
   |true=>exact af.halt
   |false=>exact af.pure trivial
 have g:∀{q:Rel st} (xs ys vs us:Array Value),af P Q K q
  (do if !(<-Go.program).eqGuardType (<-Go.program).depth t then return
      if<-Op.eqGuardIn Op.maxDepth t (.agg xs) (.agg ys)then unsupported (.noEntry "binop/eql: two nil values of an interface type with methods, in a part of a struct or an array"))
  (do if !(<-Go.program).eqGuardType (<-Go.program).depth t then return
      if<-Op.eqGuardIn Op.maxDepth t (.agg vs) (.agg us)then unsupported (.noEntry "binop/eql: two nil values of an interface type with methods, in a part of a struct or an array")) (λ_ _ _=>True):=by
  intro q xs ys vs us;refine af.twin λi=>af.bind af.program λq s s' _ e=>?_
  rw[e.1,e.2];refine af.bind af.program λq s s' _ e=>?_
  rw[e.1,e.2,i.eqGuardType];cases P.eqGuardType P.depth t with
  |false=>exact af.pure trivial
  |true=>
   refine af.bind (af.eqGuardAgg _ l xs ys vs us) λj c d _ e=>?_
   subst e;cases c with
   |true=>exact af.halt
   |false=>exact af.pure trivial
 cases op<;>first
  |exact af.pure trivial
  |(cases x<;>cases v<;>first
       |exact hx.elim
       |exact Bool.noConfusion hx
       |(cases y<;>cases u<;>first
        |exact hy.elim
        |exact Bool.noConfusion hy
        |exact af.pure trivial
        |exact f _
        |exact g _ _ _ _))
end
variable {st:Prop}
section
variable {fns:List Nat}{α β γ δ:Type}{P Q:Program}{K:Nat->Prop}{p:Rel st}
theorem bC.overlaps (ps rs){x v}(h:aF (VR p) x v):bC P Q K p (Extern.SlicesOverlaps.overlaps ps rs x) (Extern.SlicesOverlaps.overlaps ps rs v) (λq a b=>VR q a b):=by
 obtain⟨M⟩:=x;obtain⟨N⟩:=v;have E:M.length=N.length:=h.1
 match M,N,E with
 |[],[],_=>exact af.lQ (ag.bR (ag.halt _))
 |[x],[v],_=>exact af.lQ (ag.bR (by cases x<;>exact ag.halt _))
 |x::y::z::r,v::u::s::t,_=>exact af.lQ (ag.bR (by cases x<;>cases y<;>exact ag.halt _))
 |[x,y],[v,u],_=>
  have hx:VR p x v:=h.2 0 x v rfl rfl;have hy:VR p y u:=h.2 1 y u rfl rfl;cases x with
  |slice a la ca=>
   obtain⟨a',rfl,O⟩:=hx.bD;cases y with
   |slice b D cb=>
    obtain⟨A,rfl,hb⟩:=hy.bD;unfold Extern.SlicesOverlaps.overlaps;cases ps[0]? with
    |none=>exact af.lQ (ag.bR (ag.halt _))
    |some t=>
    refine bC.after (af.underlying t) λq d d' k e=>?_
    obtain⟨rfl,_⟩:=e;cases d with
    |slice elem=>
     refine bC.after (af.sizeOf elem) λU n n' f e=>?_
     subst e;cases a with
     |none=>obtain rfl:=O.aV;exact af.lQ (af.pure (VR.bool _))
     |some a=>
      obtain⟨a',rfl,I⟩:=O.aO;cases b with
      |none=>obtain rfl:=hb.aV;exact af.lQ (af.pure (VR.bool _))
      |some b=>
       obtain⟨A,rfl,H⟩:=hb.aO;show bC P Q K U (if la=0\/D=0\/n=0 then _ else _) (if la=0\/D=0\/n=0 then _ else _) _
       by_cases l:la=0\/D=0\/n=0
       .rw[if_pos l,if_pos l];exact af.lQ (af.pure (VR.bool _))
       .rw[if_neg l,if_neg l]
        have C:AR p a a':=I.resolve_right λh=>l (.inl h.1.1)
        have B:AR p b A:=H.resolve_right λh=>l (.inr (.inl h.1.1))
        refine bC.given fun⟨w,u,hw⟩=>?_
        have k1:=AR.iM hw (C.mono (k.trans f)) (B.mono (k.trans f))
        have k2:(a !=b)=(a' !=A):=by
         have:=AR.eq_iff hw (C.mono (k.trans f)) (B.mono (k.trans f));simp only[bne,this]
        have V:(a.block !=b.block)=(a'.block !=A.block):=(by simp only[bne,k1]);rw[<-V,<-k1,<-C.2.1,<-B.2.1];have g1:=C.mono (k.trans f);have g2:=B.mono (k.trans f);refine bC.after (af.frozenLe g1) λq2 x T g X=>?_
        refine bC.after (af.frozenLe (g2.mono g)) λq3 y S j W=>?_
        by_cases L:(a.block !=b.block)=true
        .have G:(a.block==b.block)=false:=by simpa[bne] using L
         simp only[L,G,Bool.true_and,Bool.false_and,if_true]
         by_cases i:(x&&y)=true
         .rw[if_pos i];exact af.lQ (ag.bR (ag.halt _))
         .have m:¬(T&&S)=true:=λhy=>i (by
                simp only[ZQ]at hy⊢;exact⟨X hy.1,W hy.2⟩)
          rw[if_neg i,if_neg m];refine bC.after (af.noView (g1.mono (g.trans j))) λZ _ _ o _=>?_
          refine bC.after (af.noView (g2.mono ((g.trans j).trans o))) λY _ _ F _=>?_
          have R:=(g.trans j).trans (o.trans F);exact bC.coin (iW a b) (iW a' A) (λ_ _=>rfl) (λw u hw=>oneB_le hw (g1.mono R) (g2.mono R)) _ rfl (λc=>Value.bool (c==1)) (Value.bool false) rfl (λq a b=>VR q a b) (λ_ _=>VR.bool _)
        .have J:(a.block !=b.block)=false:=by simpa using L
         simp only[J,Bool.false_and,Z0,if_false];exact af.lQ (af.pure (VR.bool _))
    |_=>exact af.lQ (ag.bR (ag.halt _))
   |_=>exact af.lQ (ag.bR (ag.halt _))
  |_=>exact af.lQ (ag.bR (ag.halt _))
end
end
