/- Part 24 of the proof. -/
import Derived.Test.YtfpaamhppamcoaaGreatDoorSp16
set_option linter.all false
namespace Go.Proofs.YtfpaamhppamcoaaGreatDoor
section
open Go
section
variable {P Q:Program}{K:Nat->Prop}{st:Prop}{p:Rel st}{C:iG}
def RJ (R:Value->World->Prop)(A:List PanicEntry->World->Prop):Ending->World->Prop
 |.returned v,w=>R v w
 |.panicked ch,w=>A ch w
 |.outgrown,_=>False
theorem left_run {fr}{w'}{e}(hl:fr.leaving P w' e)(he:e≠.outgrown):∀(n:Nat) (a x:Frame) (cs:List Frame) (w2:World),runN P (n+1) (lone fr [stop P] w')≠.next (lone a (x::cs) w2):=by
 intro n a x cs w2 h
 have hs:∃c,step P (lone fr [stop P] w')=.next (lone c [] w')/\∃o,step P (lone c [] w')=.ended o w':=by
  cases e with
  |returned v=>exact⟨_,step_leave_returned hl,_,step_lone_ended rfl⟩
  |panicked ch=>exact⟨_,step_leave_panicked hl,stop_raised ch w'⟩
  |outgrown=>exact absurd rfl he
 obtain⟨c,d,o,b⟩:=hs;simp only[runN,d]at h;cases n with
 |zero=>
  simp only[runN,Stepped.next.injEq]at h;simp[lone]at h
 |succ n=>
  simp only[runN,b]at h;cases h
theorem alarm_run {R}{A}{J}{f}{x}{w1 w'}{ZJ}{fr}{e}{d}
 (m:Calls P f x w1 λe w'=>∃ch,e=.panicked ch/\(A ch w'->J))(has:ZJ≠[])(k:∀y∈ZJ,y.mode=.run/\y.defers=[]/\∃fn,P.funcs[y.fn]? =some fn)
 (l:runN P d (lone (Frame.enter P f x .normal) (ZJ++[stop P]) w1)=.next (lone fr [stop P] w'))(hl:fr.leaving P w' e)(hR:RJ R A e w'):J:=by
 obtain⟨w,w2,g,⟨ch,rfl,himp⟩,hc,_,a⟩:=m (ZJ++[stop P]);obtain⟨b,o⟩:∃n,runN P n (lone (Frame.enter P f x .normal) (ZJ++[stop P]) w1)=.next (lone g (ZJ++[stop P]) w2):=hc;have c:e≠.outgrown:=λh=>by rw[h]at hR;exact hR
 by_cases hd:b<=d
 .obtain⟨d',rfl⟩:∃d',d=b+d':=⟨d-b,by omega⟩
  rw[runN_add,o]at l;obtain⟨p,q,r,i⟩:=jU d' g ZJ w2 ⟨a.1,a.2.1,a.2.2,k⟩ _ l;simp only[lone,Machine.mk.injEq]at r;obtain⟨rfl,t,_⟩:=r;have s:({frame:=fr,callers:=[stop P],status:=.running,dying:=none}:Goroutine)={frame:=p,callers:=q,status:=.running,dying:=none}:=by simpa using t
  cases s;cases e with
  |returned v=>rw[hl.1]at i;cases i
  |outgrown=>exact absurd rfl c
  |panicked u=>
   rw[hl.1]at i;cases i;exact himp hR
 .exfalso
  obtain⟨j,rfl⟩:∃j,b=d+(j+1):=⟨b-d-1,by omega⟩;rw[runN_add,l]at o;cases ZJ with
  |nil=>exact has rfl
  |cons y ys=>exact left_run hl c j _ _ _ _ o
def NodeJ (P:Program)(C:iG)(R:Value->World->Prop)(J:FuncId->Array Value->World->Prop)(X:Frame->List Frame->World->Prop)(a:Frame)(ZJ:List Frame)(w:World):Prop:=
 Leaf P R a ZJ w\/(¬(a.mode=.returning/\ZJ=[])/\∀T,(∃a' as' w' es,stepG P true (df a (ZJ++[stop P])) (ay w T)=.go (df a' (as'++[stop P])) w' es/\(a'.mode=.run\/a'.mode=.returning)/\X a' as' w')\/
    ∃f x as' w' es,f∈C.sp/\stepG P true (df a (ZJ++[stop P])) (ay w T)=.go (df (Frame.enter P f x .normal) (as'++[stop P])) w' es/\J f x w'/\as'≠[]/\∀y∈as',y.mode=.run/\y.defers=[]/\∃fn,P.funcs[y.fn]? =some fn)
def bI (P:Program)(C:iG)(R:Value->World->Prop)(J:FuncId->Array Value->World->Prop)(a:Frame)(ZJ:List Frame)(w:World):Prop:=
 ∀X:Frame->List Frame->World->Prop,(∀a ZJ w,NodeJ P C R J X a ZJ w->X a ZJ w)->X a ZJ w
theorem NodeJ.mono {R}{J}{X Y}(b:∀a ZJ w,X a ZJ w->Y a ZJ w){a}{ZJ}{w}(h:NodeJ P C R J X a ZJ w):NodeJ P C R J Y a ZJ w:=
 h.imp id fun⟨d,c⟩=>⟨d,λT=>(c T).imp (fun⟨a',as',w',es,g,f,e⟩=>⟨a',as',w',es,g,f,b _ _ _ e⟩) id⟩
theorem bI.of {R}{J}{a}{ZJ}{w}(h:NodeJ P C R J (bI P C R J) a ZJ w):bI P C R J a ZJ w:=λX b=>
 b _ _ _ (h.mono λ_ _ _ h=>h X b)
theorem bI.step {R}{J}{a}{ZJ}{w}(h:bI P C R J a ZJ w):NodeJ P C R J (bI P C R J) a ZJ w:=
 h (λa ZJ w=>NodeJ P C R J (bI P C R J) a ZJ w) λ_ _ _ b=>b.mono λ_ _ _ h=>bI.of h
def BadJ (st:Prop)(C:iG)(P:Program)(K:Nat->Prop)(R:Value->World->Prop)(J:FuncId->Array Value->World->Prop)(s:StG):Prop:=Comp st C P K s/\¬bI P C R J s.a s.ZJ s.w
def NRelJ (st:Prop)(C:iG)(P:Program)(K:Nat->Prop)(R:Value->World->Prop)(J:FuncId->Array Value->World->Prop)(s:StG)(T:Nat->Question->Nat)(s':StG):Prop:=
 s.w.drawn<=s'.w.drawn/\BadJ st C P K R J s'/\∀b,(∀j q,s.w.drawn<=j->j<s'.w.drawn->b j q=T j q)->∃es,stp P s b=.go (df s'.a (s'.ZJ++[stop P])) (ay s'.w b) es
def ARel (C:iG)(P:Program)(J:FuncId->Array Value->World->Prop)(s:StG)(T:Nat->Question->Nat):Prop:=
 ∀a,(∀j q,s.w.drawn<=j->a j q=T j q)->∃f x as' w' es,f∈C.sp/\stp P s a=.go (df (Frame.enter P f x .normal) (as'++[stop P])) w' es/\¬J f x w'/\as'≠[]/\∀y∈as',y.mode=.run/\y.defers=[]/\∃fn,P.funcs[y.fn]? =some fn
theorem badJ_cases (M:dM P)(hp:aH C P Q)(I:Twin P Q)(U:Easy C st K)(F:∀o,C.mark o=false){R}{J}(hJ:∀f x w T,J f x (ay w T)->J f x w){s}(h:BadJ st C P K R J s):
 Fin s\/∃T,BRel P s T\/ARel C P J s T\/∃s',NRelJ st C P K R J s T s':=by
 classical
 obtain⟨⟨q,b,bs,u,hl,hw⟩,hT⟩:=h
 by_cases hf:Fin s
 .exact .inl hf
 refine .inr ?_;have O:s.a.mode=.returning->s.ZJ≠[]:=λh1 h2=>hf ⟨h1,h2⟩
 obtain⟨T,S⟩:=Classical.not_forall.1 λh=>hT (bI.of (.inr ⟨hf,h⟩))
 refine⟨T,?_⟩;have l:=hw.kv T (λj q=>T (s.w.drawn+(j-u.drawn)) q);have N:=WR.follow (w:=s.w) (u:=u) T;have hA:=step_alike (m:=true) (m':=true) (cs:=[stop P]) (ds:=[]) M hp I U hl (λ_ ⟨_,_,_,_,o,_,_,_,h⟩=>by rw[F o]at h;cases h) O l N;have H:=step_local (m:=true) (cs:=[stop P]) M hp I U hl O l N;rcases hA with hA|⟨L,a',as',W,A,w',u',es,new,i,z,p,B,Y,hg,_⟩|⟨L,f,x,y,a',as',W,A,w',u',es,new,Z,n,i,z,X,r,_⟩
 .refine .inl λk c=>?_
  rcases H with⟨g,w',es,i,d1,_,z⟩|⟨o,w',es,i,d1,_,z⟩
  .have:=z k λj q x _=>c j q x
   rw[iY]at this;rcases hA with⟨o,w2,d,e⟩|⟨fr,ZJ,w2,d,e,hd⟩
   .cases i.symm.trans e
   .cases i.symm.trans e
    exact .inr ⟨fr,ZJ,_,_,this,hd⟩
  .have:=z k λj q x _=>c j q x
   rw[iY]at this;exact .inl ⟨_,_,_,this⟩
 .refine .inr (.inr ⟨⟨a',as',w'⟩,?_⟩)
  have t:BadJ st C P K R J ⟨a',as',w'⟩:=⟨⟨L,W,A,u',p,B⟩,λD=>S (.inl ⟨a',as',w',es,i,p.mode,D⟩)⟩;rcases H with⟨g,w2,d,e,d1,_,v⟩|⟨o,w2,d,e,d1,_,v⟩
  .cases i.symm.trans e
   exact⟨d1,t,λk c=>⟨es,v k c⟩⟩
  .cases i.symm.trans e
 .refine .inr (.inl λk c=>?_)
  have E:¬J f x w':=λG=>S (.inr ⟨f,x,a'::as',w',es,n,by simpa using i,G,by simp,r.left⟩)
  rcases H with⟨g,w2,d,e,d1,_,v⟩|⟨o,w2,d,e,d1,_,v⟩
  .cases i.symm.trans e
   have V:=v k λj q x _=>c j q x
   rw[iY]at V;refine⟨f,x,a'::as',_,es,n,V,λG=>E (hJ _ _ _ _ G),by simp,r.left⟩
  .cases i.symm.trans e
theorem treeJ_of_calls (hz:dM P)(hp:aH C P Q)(tw:Twin P Q)(hE:Easy C st K)(ο:∀o,C.mark o=false){R}{A}{J}(hJ:∀f x w T,J f x (ay w T)->J f x w)
 (hA:∀ch w,A ch w->∃e∈ch,¬noPtr e.v)(σ:∀f x w,f∈C.sp->Calls P f x w λe w'=>∃ch,e=.panicked ch/\(A ch w'->J f x w)){f}{args}{w}
 (hc:Comp st C P K ⟨Frame.enter P f args .normal,[],w⟩)(h:∀T,Calls P f args (ay w T) (RJ R A)):bI P C R J (Frame.enter P f args .normal) [] w:=by
 classical
 apply Classical.byContradiction;intro hT
 have z:∀s:StG,∃x:(Nat->Question->Nat)×StG,BadJ st C P K R J s->Fin s\/BRel P s x.1\/ARel C P J s x.1\/NRelJ st C P K R J s x.1 x.2:=by
  intro s
  by_cases hb:BadJ st C P K R J s
  .rcases badJ_cases hz hp tw hE ο hJ hb with l|⟨T,l|l|⟨s',l⟩⟩
   .exact⟨⟨λ_ _=>0,s⟩,λ_=>.inl l⟩
   .exact⟨⟨T,s⟩,λ_=>.inr (.inl l)⟩
   .exact⟨⟨T,s⟩,λ_=>.inr (.inr (.inl l))⟩
   .exact⟨⟨T,s'⟩,λ_=>.inr (.inr (.inr l))⟩
  .exact⟨⟨λ_ _=>0,s⟩,λh=>absurd h hb⟩
 obtain⟨F,hF⟩:=Classical.axiomOfChoice z
 let S:StG:=⟨Frame.enter P f args .normal,[],w⟩
 let c:Nat->StG:=iter (λs=>(F s).2) S
 let N:Nat->Prop:=λk=>NRelJ st C P K R J (c k) (F (c k)).1 (c (k+1))
 have G:∀k,(∀i,i<k->N i)->BadJ st C P K R J (c k):=by
  intro k I;cases k with
  |zero=>exact⟨hc,hT⟩
  |succ k=>exact(I k (Z4 _)).2.1
 have W:∀k i,i<=k->(∀j,j<k->N j)->(c i).w.drawn<=(c k).w.drawn:=by
  intro k
  induction k with
  |zero=>intro i D _;obtain rfl:i=0:=by omega
         exact ZL _
  |succ k ih=>
   intro i D L
   by_cases ρ:i=k+1
   .rw[ρ];exact ZL _
   .exact ZP (ih i (by omega) λj hj=>L j (by omega)) (L k (Z4 _)).1
 let At:Nat->Nat->Prop:=λj k=>(∀i,i<k->N i/\(c (i+1)).w.drawn<=j)/\(N k->j< (c (k+1)).w.drawn)
 have τ:∀j k k',At j k->At j k'->k=k':=by
  intro j k k' l H;rcases Nat.lt_trichotomy k k' with Y|heq|Y
  .have:=H.1 k Y
   have:=l.2 this.1;omega
  .exact heq
  .have:=l.1 k' Y
   have:=H.2 this.1;omega
 let r:Nat->Question->Nat:=λj q=>if hx:∃k,At j k then(F (c (Classical.choose hx))).1 j q else 0
 have ζ:∀j q k,At j k->r j q=(F (c k)).1 j q:=by
  intro j q k I;have hx:∃k,At j k:=⟨k,I⟩;have e:=τ j _ _ (Classical.choose_spec hx) I;show(if hx:∃k,At j k then(F (c (Classical.choose hx))).1 j q else 0)=_
  rw[dif_pos hx,e]
 have ε:∀k j,(∀i,i<k->N i)->(c k).w.drawn<=j->(N k->j< (c (k+1)).w.drawn)->At j k:=by
  intro k j L hj I;exact⟨λi D=>⟨L i D,ZP (W k (i+1) (by omega) L) hj⟩,I⟩
 have M:∀k,(∀i,i<k->N i)->runN P k (lone S.a (S.ZJ++[stop P]) (ay S.w r))=.next (lone (c k).a ((c k).ZJ++[stop P]) (ay (c k).w r)):=by
  intro k
  induction k with
  |zero=>intro _;rfl
  |succ k ih=>
   intro L;have I:=L k (Z4 _);obtain⟨es,e1⟩:=I.2.2 r λj q x y=>ζ j q k (ε k j (λi D=>L i (by omega)) x λ_=>y)
   rw[runN_add,ih λi D=>L i (by omega)]
   have e2:step P (lone (c k).a ((c k).ZJ++[stop P]) (ay (c k).w r))=.next (lone (c (k+1)).a ((c (k+1)).ZJ++[stop P]) (ay (c (k+1)).w r)):=by
        refine step_lone_go ?_;have O:stepG P true (df (c k).a ((c k).ZJ++[stop P])) (ay (c k).w r)=_:=e1;rw[O];rfl
   simp only[runN,e2]
 obtain⟨e,w',fr,hR,t,ψ,g⟩:=h r [stop P];have U:e≠.outgrown:=λh=>by rw[h]at hR;exact hR
 obtain⟨n,V⟩:∃n,runN P n (lone S.a (S.ZJ++[stop P]) (ay S.w r))=.next (lone fr [stop P] w'):=by
  cases e with
  |returned v=>exact t
  |panicked ch=>exact t
  |outgrown=>exact absurd rfl U
 have key:(∀i,i<n->N i)\/∃k,k<n/\(∀i,i<k->N i)/\¬N k:=by
  have:∀m,m<=n->(∀i,i<m->N i)\/∃k,k<n/\(∀i,i<k->N i)/\¬N k:=by
   intro m
   induction m with
   |zero=>intro _;exact .inl λi D=>absurd D (ZV _)
   |succ m ih=>
    intro hm;rcases ih (by omega)with l|l
    .by_cases η:N m
     .refine .inl λi D=>?_
      rcases Nat.lt_succ_iff_lt_or_eq.1 D with D|rfl
      .exact l i D
      .exact η
     .exact .inr ⟨m,by omega,l,η⟩
    .exact .inr l
  exact this n (ZL _)
 rcases key with p|⟨k,I,p,β⟩
 .have e1:=M n p
  rw[V]at e1
  have e2:fr=(c n).a/\[stop P]=(c n).ZJ++[stop P]/\w'=ay (c n).w r:=by
   simp only[lone,Stepped.next.injEq,Machine.mk.injEq]at e1;obtain⟨x1,x2,_⟩:=e1;have x3:({frame:=fr,callers:=[stop P],status:=.running,dying:=none}:Goroutine)={frame:=(c n).a,callers:=(c n).ZJ++[stop P],status:=.running,dying:=none}:=by simpa using x2
   simp only[Goroutine.mk.injEq]at x3;exact⟨x3.1,x3.2.1,x1⟩
  obtain⟨rfl,O,rfl⟩:=e2
  have e4:(c n).ZJ=[]:=by
   cases hs:(c n).ZJ with
   |nil=>rfl
   |cons x xs=>
    rw[hs]at O;have:=congrArg List.length O;simp at this
  obtain⟨⟨q,b,bs,u,hl,_⟩,κ⟩:=G n p;cases e with
  |outgrown=>exact U rfl
  |panicked ch=>
   have:=g.1;rcases hl.mode with l|l<;> · rw[l]at this;cases this
  |returned v=>
   obtain⟨X,δ,Z,φ,γ,α⟩:=g;exact κ (bI.of (.inl ⟨X,e4,⟨δ,Z⟩,φ,r,v,γ,α,hR⟩))
 .have e1:=M k p
  obtain⟨d,rfl⟩:∃d,n=k+(d+1):=⟨n-k-1,by omega⟩;rw[runN_add,e1]at V;obtain⟨⟨q,b,bs,u,hl,_⟩,_⟩:=G k p;have E:=λj q x=>ζ j q k (ε k j p x λhh=>absurd hh β)
  have hgo:∀{B:Frame} {as':List Frame} {w1:World} {es:Array Event},stp P (c k) r=.go (df B (as'++[stop P])) w1 es->runN P d (lone B (as'++[stop P]) w1)=.next (lone fr [stop P] w'):=fun{B as' w1 es} H=>by
   have:step P (lone (c k).a ((c k).ZJ++[stop P]) (ay (c k).w r))=.next (lone B (as'++[stop P]) w1):=by
        refine step_lone_go ?_;have O:stepG P true (df (c k).a ((c k).ZJ++[stop P])) (ay (c k).w r)=_:=H;rw[O];rfl
   simpa only[runN,this] using V
  rcases hF (c k) (G k p)with l|l|l|l
  .have ξ:=l.1
   rw[l.2]at V;exact oW ξ hl.fr.da hl.fr.ka hl.fr.known d _ _ _ _ (by simp) V
  .have hx:=l r E
   rcases hx with⟨o,w1,es,H⟩|⟨B,as',w1,es,H,ω,μ,hd⟩
   .have:step P (lone (c k).a ((c k).ZJ++[stop P]) (ay (c k).w r))=.ended o w1:=by
     refine step_lone_ended ?_;have O:stepG P true (df (c k).a ((c k).ZJ++[stop P])) (ay (c k).w r)=_:=H;rw[O];rfl
    simp only[runN,this]at V;cases V
   .obtain⟨υ,χ,e4,z⟩:=jU d B as' w1 hd _ (hgo H)
    simp only[lone,Machine.mk.injEq]at e4;have x3:({frame:=fr,callers:=[stop P],status:=.running,dying:=none}:Goroutine)={frame:=υ,callers:=χ,status:=.running,dying:=none}:=by simpa using e4.2.1
    cases x3;cases e with
    |outgrown=>exact U rfl
    |returned v=>rw[g.1]at z;cases z
    |panicked ch=>
     rw[g.1]at z;cases z;obtain⟨en,h3,h4⟩:=hA _ _ hR;exact h4 (μ en h3)
  .obtain⟨f',x,as',w1,es,θ,H,ν,has,ι⟩:=l r E
   exact ν (alarm_run (σ f' x w1 θ) has ι (hgo H) g hR)
  .exact β l
end
end
section
open Go Go.Conc Go.ConcN
section
variable {st:Prop}{P Q:Program}{K:Nat->Prop}{C C0:iG}{R:Value->World->Prop}{J:FuncId->Array Value->World->Prop}
def Down (P:Program)(C0:iG):Nat->StG->StG->Prop
 |0,s,s'=>s=s'
 |n+1,s,s'=>¬(s.a.mode=.returning/\s.ZJ=[])/\∃T s1 es,stepG P true (df s.a (s.ZJ++[stop P])) (ay s.w T)=.go (df s1.a (s1.ZJ++[stop P])) s1.w es/\(∀f x,f∈C0.sp->s1.a≠Frame.enter P f x .normal)/\Down P C0 n s1 s'
def Runs (C:iG)(P Q:Program)(K:Nat->Prop)(Iv:Rel st->World->Prop)(s:StG)(m:Machine)(t:Trace):Prop:=
 ∃(p:Rel st) (b:Frame) (bs:List Frame) (gs:Array Goroutine) (u:World) (sl:Option (Nat×Nat)) (q:Nat->Nat) (S:Nat->Prop),m=crowd gs u sl/\gs[0]? =some (df b bs)/\Live C P p s.a s.ZJ b bs/\WR P.globals.size K p s.w u/\ni Q S gs u.heap.size t q/\(∀b c,p b c->¬S c)/\Iv p u
def Ends (Q:Program)(Post:Value->World->Prop)(m:Machine)(t:Trace):Prop:=
 ∃N last o w' a,runNT Q (N+1) m t=(.ended o w',a)/\runN Q N m=.next last/\step Q last=.ended o w'/\Conc.Good Q Post last o w' a
theorem Ends.run {Post}{m m'}{t a}{n}(h:Ends Q Post m' a)(b:runNT Q n m t=(.next m',a)):Ends Q Post m t:=by
 obtain⟨N,last,o,w',t2,f,e,d,c⟩:=h;refine⟨n+N,last,o,w',t2,?_,?_,d,c⟩
 .rw[Nat.add_assoc,runNT_add,b];exact f
 .rw[runN_add,<-runNT_fst Q n m t,b];exact e
theorem evP_of {S}{q:Rel st}{w' u'}{G}(hw:WR G K q w' u')(g:∀b c,q b c->¬S c){e}(he:EvOk K q e):EvP S u'.heap.size e:=by
 rcases he with⟨c,b,hl,hp,hs,_⟩|⟨m,hm,rfl⟩
 .have hc:=(hw.lt hp).2
  obtain⟨loc,wr,h⟩:=e;simp only at hs hl;subst hs;rcases hl with rfl|⟨a,rfl,rfl⟩
  .refine⟨λx hx=>?_,by simp,by simp,?_⟩
   .rintro⟨a,d,f⟩
    simp only[MemAct.ofEvent,MemAct.touch?,Option.some.injEq]at hx;subst hx;cases d
   .simp only[MemAct.ofEvent,MemAct.low];exact hc
  .refine⟨λx hx=>?_,by simp,by simp,?_⟩
   .rintro⟨a',d,f⟩
    simp only[MemAct.ofEvent,MemAct.touch?,Option.some.injEq]at hx;subst hx;cases d;exact g _ _ hp f
   .simp only[MemAct.ofEvent,MemAct.low];exact hc
 .cases m<;>first
   |exact hm.elim
   |(refine⟨λx hx=>?_,by simp,by simp,?_⟩
     .simp[MemAct.ofEvent,MemAct.touch?]at hx
     .simp[MemAct.ofEvent,MemAct.low])
theorem WR.at {G}{q:Rel st}{w u}(h:WR G K q w u)(d):WR G K q w (u.at d):=⟨h.fit,h.rows,h.kin,h.low,h.big⟩
theorem driver {Iv:Rel st->World->Prop}(ζ:∀p u d,Iv p u->Iv p (u.at d))(τ:∀p q u u',Iv p u->dE K p q u u'->Iv q u')(hz:dM P)(hp:aH C P Q)(tw:Twin P Q)(χ:C.sd=false\/¬st)(Ψ:∀o,C.mark o=false)(ο:∀f,f∈C.sp->f∉C0.sp)(ξ:∀f x,(Frame.enter P f x .normal).fn=f)(hem:∀f x,(Frame.enter P f x .normal).mode=.run)
 (Ξ:∀f x,f∈C0.sp->¬aU C P (Frame.enter P f x .normal).fn (Frame.enter P f x .normal).todo)(hat:C.jh=true)(hdd:C.dd=[])(Ω:C.kd=.normal)(ψ:∀i,C.pv i=false)(Δ:Q.inits.idxOf? C.root=none)
 (X:∀fn,P.funcs[C.root]? =some fn->∃I,Q.funcs[C.root]? =some I/\I.results=fn.results){Post}(α:∀p v v' w T u,R v (ay w T)->VR p v v'->WR P.globals.size K p (ay w T) u->Iv p u->Post v' u)(Z:∀fn,P.funcs[C.root]? =some fn->∃k,fn.results= #[.tmp k])
 (η:∀f x y a ZJ b bs w u gs sl t q S p,f∈C.sp->bI P C0 R J (Frame.enter P f x .normal) (a::ZJ) w->(aF (VR p) x y/\Argd f x.size)->CR C P p (a::ZJ) (b::bs)->WR P.globals.size K p w u->ni Q S gs u.heap.size t q->
  gs[0]? =some (df (Frame.enter Q f y .normal) (b::bs))->(∀b c,p b c->¬S c)->Iv p u->∃N m' t' n s',runNT Q N (crowd gs u sl) t=(.next m',t')/\Down P C0 n ⟨Frame.enter P f x .normal,a::ZJ,w⟩ s'/\Runs C P Q K Iv s' m' t')
 {a}{ZJ}{w}(ht:bI P C0 R J a ZJ w):∀m t,Runs C P Q K Iv ⟨a,ZJ,w⟩ m t->Ends Q Post m t:=by
 classical
 let Y:StG->Prop:=λs=>∀n s',Down P C0 n s s'->bI P C0 R J s'.a s'.ZJ s'.w/\∀m t,Runs C P Q K Iv s' m t->Ends Q Post m t
 suffices h:Y ⟨a,ZJ,w⟩from(h 0 _ rfl).2
 refine ht (λa ZJ w=>Y ⟨a,ZJ,w⟩) ?_;intro a ZJ w O;have hT:=bI.of (O.mono λa ZJ w h=>(h 0 ⟨a,ZJ,w⟩ rfl).1);intro n s' hd;cases n with
 |succ n=>
  obtain⟨Γ,T,s1,es,B,ω,hd⟩:=hd;rcases O with⟨h1,h2,_⟩|⟨_,O⟩
  .exact absurd ⟨h1,h2⟩ Γ
  .rcases O T with⟨a',as',w',es',l,_,L⟩|⟨f,x,as',w',es',hf,l,_,_⟩
   .rw[B]at l
    simp only[GStep.go.injEq,Goroutine.mk.injEq]at l;obtain⟨⟨e3,A,_⟩,e5,_⟩:=l;have e6:=List.append_cancel_right A;obtain⟨a1,as1,w1⟩:=s1;subst e3 e5 e6;exact L n s' hd
   .rw[B]at l
    simp at l;exact absurd l.1.1 (ω f x hf)
 |zero=>
  cases hd;refine⟨hT,?_⟩;rintro m t ⟨p,b,bs,gs,u,sl,q,S,rfl,h0,hl,hw,hF,hS,ε⟩;rcases O with⟨h1,h2,_,fn,T,v,f1,f2,f3⟩|⟨Θ,O⟩
  .
   subst h2;cases bs with
   |cons x xs=>exact hl.cs.elim
   |nil=>
   obtain⟨hbd,hbk,hbr⟩:=hl.deep.2 rfl;have σ:=hbr hat;have Φ:=hl.fr.mode.trans h1;have kb:=hbk.trans Ω;have ρ:=hl.fr.fn.trans σ;rw[σ]at f1;obtain⟨I,g1,g2⟩:=X fn f1;have κ:results I b.tmps=results fn b.tmps:=(by unfold results;rw[g2]);obtain⟨k,hk⟩:=Z fn f1
   have hval:∀(P:Program) (x:Array Value) (w:World),(results fn x).runT P w #[]=(.ok (x.getD k undef) w,#[]):=λP x w=>by
        rw[Sem.runT_eq,results_tmp hk,events_results_tmp hk]
   have hv:v=a.tmps.getD k undef:=by
        rw[<-Sem.runT_fst _ _ _ #[],hval]at f2;cases f2;rfl
   refine end0 (B':=u.heap.size) hF h0 rfl λd=>⟨b.tmps.getD k undef,u.at d,seen Q b.fn #[],?_,λe he=>?_,ZL _,α p v _ w T (u.at d) f3 (by rw[hv];exact(hl.fr.tmps.get k).resolve_left λh=>by rw[ψ k]at h;cases h.2) ((hw.at d).kv T (u.at d).tape) (ζ _ _ _ ε)⟩
   .have ν:Q.inits.idxOf? b.fn=none:=by rw[ρ];exact Δ
    have g1':Q.funcs[b.fn]? =some I:=(by rw[ρ];exact g1);simp only[stepG,unwind,Φ,hbd,hdd,g1',κ,hval,doReturn,kb,ν,GStep.after];simp
   .exact absurd (jF e he) (by simp)
  .
   have hr:=λh1 h2=>Θ ⟨h1,h2⟩
   obtain⟨N,υ,a',u',ι,t',q',B',r1,r2,r3,⟨hB,r4⟩,r5⟩:=own0 (sl:=sl) (Stop:=λa' u' B'=>B'=u'.heap.size/\
    ((∃s1:StG,Y s1/\∃j b' F,a'=df b' F/\Live C P j s1.a s1.ZJ b' F/\WR P.globals.size K j s1.w u'/\(∀b c,j b c->¬S c)/\Iv j u')\/
      ∃f x y a2 D w2 b2 E j,f∈C.sp/\Y ⟨Frame.enter P f x .normal,a2::D,w2⟩/\a'=df (Frame.enter Q f y .normal) (b2::E)/\(aF (VR j) x y/\Argd f x.size)/\CR C P j (a2::D) (b2::E)/\WR P.globals.size K j w2 u'/\(∀b c,j b c->¬S c)/\Iv j u')) hF h0 rfl λd=>by
        have g:∀{j:Rel st} {u':World},dE K p j (u.at d) u'->∀b c,j b c->¬S c:=fun{j u'} G b c hb hs=>by
         by_cases μ:p b c
         .exact hS b c μ hs
         .have:=G.fresh b c hb μ
          have:=hF.sh c hs;have e:(u.at d).heap.size=u.heap.size:=rfl;omega
        obtain⟨T',hA⟩:=step_alikeE (m:=true) (m':=true) (cs:=[stop P]) (ds:=[]) hz hp tw χ hl (λ_ ⟨_,_,_,_,o,_,_,_,h⟩=>by rw[Ψ o]at h;cases h) hr (hw.at d);rcases hA with hA|⟨j,a2,D,b',F,w2,u',es2,new,l,e3,U,r,φ,G,he⟩|⟨j,f,x,y,a2,D,b2,E,w2,u',es2,new,hf1,M,l,e3,W,γ,r,φ,G,he⟩
        .exfalso
         rcases O T' with⟨a',as',w',es,B,z,_⟩|⟨f,x,as',w',es,hf,B,_⟩
         .rcases hA with⟨o,w3,θ,A⟩|⟨fr,as3,w3,θ,A,ch,_,V,_⟩
          .rw[B]at A;cases A
          .rw[B]at A
           simp at A;rw[A.1.1,V]at z;rcases z with h|h<;>cases h
         .rcases hA with⟨o,w3,θ,A⟩|⟨fr,as3,w3,θ,A,ch,_,V,_⟩
          .rw[B]at A;cases A
          .rw[B]at A
           simp at A;rw[<-A.1.1,hem]at V;cases V
        .rw[List.append_nil]at e3
         refine⟨_,u',new,u'.heap.size,e3,G.size,λe β=>evP_of r (g G) (he e β),rfl,.inl ?_⟩;rcases O T' with⟨a',as',w',es,B,z,L⟩|⟨f,x,as',w',es,hf,B,_⟩
         .rw[B]at l
          simp only[GStep.go.injEq,Goroutine.mk.injEq]at l;obtain⟨⟨A,e5,_⟩,e6,_⟩:=l;have e7:=List.append_cancel_right e5;subst A e6 e7;exact⟨⟨_,_,_⟩,L,j,b',F,by simp,U,r,g G,τ _ _ _ _ (ζ _ _ d ε) G⟩
         .exfalso
          rw[B]at l;simp at l;have:=U.fr.plain;rw[<-l.1.1]at this;exact Ξ f x hf this
        .rw[List.append_nil]at e3
         refine⟨_,u',new,u'.heap.size,e3,G.size,λe β=>evP_of r (g G) (he e β),rfl,.inr ?_⟩;rcases O T' with⟨a',as',w',es,B,z,L⟩|⟨f',x',as',w',es,hf,B,_⟩
         .rw[B]at l
          simp only[GStep.go.injEq,Goroutine.mk.injEq]at l;obtain⟨⟨A,e5,_⟩,e6,_⟩:=l;have e7:=List.append_cancel_right e5;subst A e6 e7;exact⟨f,x,y,a2,D,_,b2,E,j,M,L,by simp,W,γ,r,g G,τ _ _ _ _ (ζ _ _ d ε) G⟩
         .exfalso
          rw[B]at l;simp at l;have:=congrArg Frame.fn l.1.1;rw[ξ,ξ]at this;rw[this]at hf;exact ο f M hf
   subst hB;rcases r4 with⟨s1,L,j,b',F,rfl,U,r,δ,H⟩|⟨f,x,y,a2,D,w2,b2,E,j,M,L,rfl,W,γ,r,δ,H⟩
   .exact((L 0 s1 rfl).2 _ _ ⟨j,b',F,υ,u',ι,q',S,rfl,r3,U,r,r5,δ,H⟩).run r1
   .obtain⟨N2,m2,t2,n2,s2,r6,r7,r8⟩:=η f x y a2 D b2 E w2 u' υ ι t' q' S j M (L 0 _ rfl).1 W γ r r5 r3 δ H
    exact(((L n2 s2 r7).2 _ _ r8).run r6).run r1
end
end
section
open Go
section
variable {P:Program}{C0:iG}{R:Value->World->Prop}{J:FuncId->Array Value->World->Prop}
theorem treeJ_go2 {a a'}{ZJ as'}{w w'}{es}(T)(h:bI P C0 R J a ZJ w)(hm:a.mode=.run)(g:∀f x,f∈C0.sp->a'≠Frame.enter P f x .normal)
 (hs:stepG P true (df a (ZJ++[stop P])) (ay w T)=.go (df a' (as'++[stop P])) w' es):bI P C0 R J a' as' w'/\(a'.mode=.run\/a'.mode=.returning):=by
 rcases h.step with c|⟨_,c⟩
 .rw[c.1]at hm;cases hm
 .rcases c T with⟨a2,e,w2,d,b,em,j⟩|⟨f,x,e,w2,d,hf,b,_⟩
  .rw[hs]at b
   simp only[GStep.go.injEq,Goroutine.mk.injEq]at b;obtain⟨⟨rfl,i,_⟩,rfl,_⟩:=b;rw[List.append_cancel_right i];exact⟨j,em⟩
  .rw[hs]at b
   simp only[GStep.go.injEq,Goroutine.mk.injEq]at b;exact absurd b.1.1 (g f x hf)
theorem treeJ_go {a a'}{ZJ as'}{w w'}{es}(T)(h:bI P C0 R J a ZJ w)(hm:a.mode=.run)(b:∀f x,f∈C0.sp->a'≠Frame.enter P f x .normal)
 (hs:stepG P true (df a (ZJ++[stop P])) (ay w T)=.go (df a' (as'++[stop P])) w' es):bI P C0 R J a' as' w':=(treeJ_go2 T h hm b hs).1
def oG (P:Program)(f:FuncId)(x:Array Value)(w:World):Prop:=
 ∃(k:Nat) (st:Nat->Frame) (wd:Nat->World),st 0=Frame.enter P f x .normal/\wd 0=w/\(∀d,d<k->(st d).mode=.run/\(∀f x,st (d+1)≠Frame.enter P f x .normal)/\∀main cs T,∃es,stepG P main (df (st d) cs) (ay (wd d) T)=.go (df (st (d+1)) cs) (ay (wd (d+1)) T) es)/\
  ∃ch,(st k).mode=.panicking ch/\(st k).defers=[]/\∃fn,P.funcs[(st k).fn]? =some fn
theorem oG.lZ {f}{x}{w}(h:oG P f x w)(ZJ):¬bI P C0 R J (Frame.enter P f x .normal) ZJ w:=by
 intro j;obtain⟨k,st,wd,g,a,b,ch,c,_⟩:=h
 have key:∀d,d<=k->bI P C0 R J (st d) ZJ (ay (wd d) w.tape)/\(1<=d->(st d).mode=.run\/(st d).mode=.returning):=by
  intro d
  induction d with
  |zero=>intro _;rw[g,a];exact⟨j,λh=>by omega⟩
  |succ d i=>
   intro hd;obtain⟨m1,m2,m3⟩:=b d (by omega);obtain⟨es,e⟩:=m3 true (ZJ++[stop P]) w.tape;have:=treeJ_go2 w.tape (i (by omega)).1 m1 (λf x _=>m2 f x) e;exact⟨this.1,λ_=>this.2⟩
 cases k with
 |zero=>rw[g]at c;cases c
 |succ k=>rcases(key (k+1) (ZL _)).2 (by omega)with h|h<;> · rw[c]at h;cases h
theorem oG.lost {f}{x}{w}(h:oG P f x w)(ZJ)(l:∀y∈ZJ,y.mode=.run/\y.defers=[]/\∃fn,P.funcs[y.fn]? =some fn){cs}{w'}{n}{fr}
 (i:runN P n (lone (Frame.enter P f x .normal) (ZJ++[stop P]) w)=.next (lone fr cs w')):fr.mode≠.returning:=by
 obtain⟨k,st,wd,A,j,c,ch,z,t,s⟩:=h
 have run:∀d,d<=k->runN P d (lone (Frame.enter P f x .normal) (ZJ++[stop P]) w)=.next (lone (st d) (ZJ++[stop P]) (ay (wd d) w.tape)):=by
  intro d
  induction d with
  |zero=>intro _;rw[A,j];rfl
  |succ d q=>
   intro hd;obtain⟨es,e⟩:=(c d (by omega)).2.2 true (ZJ++[stop P]) w.tape
   have o:step P (lone (st d) (ZJ++[stop P]) (ay (wd d) w.tape))=.next (lone (st (d+1)) (ZJ++[stop P]) (ay (wd (d+1)) w.tape)):=step_lone_go (by
        have D:stepG P true (df (st d) (ZJ++[stop P])) (ay (wd d) w.tape)=_:=e;rw[D];rfl)
   rw[runN_add,q (by omega)];simp only[runN,o]
 have same:∀{a b:Frame} {cs ds:List Frame} {u v:World},Stepped.next (lone a cs u)=Stepped.next (lone b ds v)->a=b:=fun{a b cs ds u v} e=>by
  simp only[Stepped.next.injEq]at e;simp only[lone,Machine.mk.injEq]at e;have p:({frame:=a,callers:=cs,status:=.running,dying:=none}:Goroutine)={frame:=b,callers:=ds,status:=.running,dying:=none}:=by simpa using e.2.1
  simp only[Goroutine.mk.injEq]at p;exact p.1
 intro g
 by_cases r:n<k
 .rw[run n (by omega)]at i
  have:=same i;rw[<-this,(c n r).1]at g;cases g
 .obtain⟨d,rfl⟩:∃d,n=k+d:=⟨n-k,by omega⟩
  rw[runN_add,run k (ZL _)]at i;obtain⟨m,E,C,o⟩:=jU d (st k) ZJ (ay (wd k) w.tape) ⟨z,t,s,l⟩ _ i
  have B:fr=m:=by
   have:=congrArg Stepped.next C;exact same this
  rw[B,o]at g;cases g
theorem treeJ_alarm {a}{ZJ as'}{f}{x}{w w'}{es}(T)(h:bI P C0 R J a ZJ w)(hm:a.mode=.run)(hx:∀ZJ w,¬bI P C0 R J (Frame.enter P f x .normal) ZJ w)
 (k:∀f' c,Frame.enter P f' c .normal=Frame.enter P f x .normal->J f' c w'->J f x w')
 (hs:stepG P true (df a (ZJ++[stop P])) (ay w T)=.go (df (Frame.enter P f x .normal) (as'++[stop P])) w' es):J f x w':=by
 rcases h.step with d|⟨_,d⟩
 .rw[d.1]at hm;cases hm
 .rcases d T with⟨a2,i,w2,e,b,_,g⟩|⟨f',c,i,w2,e,hf,b,g,_⟩
  .rw[hs]at b
   simp only[GStep.go.injEq,Goroutine.mk.injEq]at b;obtain⟨⟨rfl,j,_⟩,rfl,_⟩:=b;exact absurd g (hx _ _)
  .rw[hs]at b
   simp only[GStep.go.injEq,Goroutine.mk.injEq]at b;obtain⟨⟨j,_,_⟩,rfl,_⟩:=b;exact k f' c j.symm g
theorem down_run (i:∀f x ZJ w,f∈C0.sp->¬bI P C0 R J (Frame.enter P f x .normal) ZJ w)
 (h:∀f x ZJ cs w n fr w',f∈C0.sp->(∀y∈ZJ,y.mode=.run/\y.defers=[]/\∃fn,P.funcs[y.fn]? =some fn)->runN P n (lone (Frame.enter P f x .normal) (ZJ++[stop P]) w)=.next (lone fr cs w')->fr.mode≠.returning)
 {fr}{pre}{w'}(D:pre≠[])(p:fr.mode=.returning):
 ∀(n:Nat) (s:StG) (T:Nat->Question->Nat),bI P C0 R J s.a s.ZJ s.w->runN P (n+1) (lone s.a (s.ZJ++[stop P]) (ay s.w T))=.next (lone fr (pre++[stop P]) w')->Down P C0 (n+1) s ⟨fr,pre,w'⟩/\bI P C0 R J fr pre w':=by
 intro n
 induction n with
 |zero=>
  intro s T A c;rcases A.step with⟨z,u,⟨t,r⟩,fn,H,v,q,_⟩|⟨k,C⟩
  .exfalso
   rw[u]at c;exact oW z t r ⟨fn,q⟩ 0 _ _ _ _ (by simp) c
  .rcases C T with⟨a2,b,w2,d,g,_,l⟩|⟨f,x,b,w2,d,hf,g,_,_,j⟩
   .have m:step P (lone s.a (s.ZJ++[stop P]) (ay s.w T))=.next (lone a2 (b++[stop P]) w2):=step_lone_go (by
     have e:stepG P true (df s.a (s.ZJ++[stop P])) (ay s.w T)=_:=g;rw[e];rfl)
    simp only[runN,m,Stepped.next.injEq]at c;simp only[lone,Machine.mk.injEq]at c;obtain⟨rfl,F,_⟩:=c;have o:({frame:=a2,callers:=b++[stop P],status:=.running,dying:=none}:Goroutine)={frame:=fr,callers:=pre++[stop P],status:=.running,dying:=none}:=by simpa using F
    simp only[Goroutine.mk.injEq]at o;obtain⟨rfl,G,_⟩:=o;obtain rfl:=List.append_cancel_right G;refine⟨⟨k,T,⟨a2,b,w2⟩,d,g,λf x hf he=>?_,rfl⟩,l⟩;simp only at he;rw[he]at l;exact i f x _ _ hf l
   .exfalso
    have m:step P (lone s.a (s.ZJ++[stop P]) (ay s.w T))=.next (lone (Frame.enter P f x .normal) (b++[stop P]) w2):=step_lone_go (by
     have e:stepG P true (df s.a (s.ZJ++[stop P])) (ay s.w T)=_:=g;rw[e];rfl)
    simp only[runN,m]at c;exact h f x b _ w2 0 fr w' hf j c p
 |succ n E=>
  intro s T A c;rcases A.step with⟨z,u,⟨t,r⟩,fn,H,v,q,_⟩|⟨k,C⟩
  .exfalso
   rw[u]at c;exact oW z t r ⟨fn,q⟩ (n+1) _ _ _ _ (by simp) c
  .rcases C T with⟨a2,b,w2,d,g,_,l⟩|⟨f,x,b,w2,d,hf,g,_,_,j⟩
   .have m:step P (lone s.a (s.ZJ++[stop P]) (ay s.w T))=.next (lone a2 (b++[stop P]) w2):=step_lone_go (by
     have e:stepG P true (df s.a (s.ZJ++[stop P])) (ay s.w T)=_:=g;rw[e];rfl)
    have B:runN P (n+1) (lone a2 (b++[stop P]) w2)=.next (lone fr (pre++[stop P]) w'):=by
     rw[show n+1+1=1+(n+1) by omega,runN_add]at c;simpa only[runN,m] using c
    obtain⟨d1,d2⟩:=E ⟨a2,b,w2⟩ w2.tape l B;refine⟨⟨k,T,⟨a2,b,w2⟩,d,g,λf x hf he=>?_,d1⟩,d2⟩;simp only at he;rw[he]at l;exact i f x _ _ hf l
   .exfalso
    have m:step P (lone s.a (s.ZJ++[stop P]) (ay s.w T))=.next (lone (Frame.enter P f x .normal) (b++[stop P]) w2):=step_lone_go (by
     have e:stepG P true (df s.a (s.ZJ++[stop P])) (ay s.w T)=_:=g;rw[e];rfl)
    rw[show n+1+1=1+(n+1) by omega,runN_add]at c;simp only[runN,m]at c;exact h f x b _ w2 (n+1) fr w' hf j c p
theorem down_add:∀(n m:Nat) (s s1 s2:StG),Down P C0 n s s1->Down P C0 m s1 s2->Down P C0 (n+m) s s2
 |0,m,s,s1,s2,h,k=>by cases h;rw[Z8];exact k
 |n+1,m,s,s1,s2,⟨e,T,a,es,d,c,b⟩,k=>by
  rw[show n+1+m=(n+m)+1 by omega];exact⟨e,T,a,es,d,c,down_add n m a s1 s2 b k⟩
theorem down_calls (l:∀f x ZJ w,f∈C0.sp->¬bI P C0 R J (Frame.enter P f x .normal) ZJ w)
 (k:∀f x ZJ cs w n fr w',f∈C0.sp->(∀y∈ZJ,y.mode=.run/\y.defers=[]/\∃fn,P.funcs[y.fn]? =some fn)->runN P n (lone (Frame.enter P f x .normal) (ZJ++[stop P]) w)=.next (lone fr cs w')->fr.mode≠.returning)
 {f}{args}{w}{a}{ZJ}{T}{Post:Value->World->Prop}(q:bI P C0 R J (Frame.enter P f args .normal) (a::ZJ) w)
 (hm:(Frame.enter P f args .normal).mode=.run)(j:∀v f x,f∈C0.sp->a.finish v≠Frame.enter P f x .normal)
 (hc:Calls P f args (ay w T) fun|.returned v,w'=>Post v w'|_,_=>False):
 ∃n v w',Post v w'/\Down P C0 n ⟨Frame.enter P f args .normal,a::ZJ,w⟩ ⟨a.finish v,ZJ,w'⟩:=by
 obtain⟨e,w',fr,hR,d,u,b⟩:=hc ((a::ZJ)++[stop P]);cases e with
 |panicked ch=>exact hR.elim
 |outgrown=>exact hR.elim
 |returned v=>
  obtain⟨n,m⟩:∃n,runN P n (lone (Frame.enter P f args .normal) ((a::ZJ)++[stop P]) (ay w T))=.next (lone fr ((a::ZJ)++[stop P]) w'):=d;cases n with
  |zero=>
   exfalso;simp only[runN,Stepped.next.injEq]at m;simp only[lone,Machine.mk.injEq]at m;have p:({frame:=Frame.enter P f args .normal,callers:=(a::ZJ)++[stop P],status:=.running,dying:=none}:Goroutine)={frame:=fr,callers:=(a::ZJ)++[stop P],status:=.running,dying:=none}:=by simpa using m.2.1
   simp only[Goroutine.mk.injEq]at p;have:=b.1;rw[<-p.1,hm]at this;cases this
  |succ n=>
   obtain⟨d1,d2⟩:=down_run l k (by simp) b.1 n ⟨Frame.enter P f args .normal,a::ZJ,w⟩ T q m;have hs:=step_leave_returned (c:=a) (cs:=ZJ++[stop P]) b
   have g:∃es,stepG P true (df fr ((a::ZJ)++[stop P])) (ay w' w'.tape)=.go (df (a.finish v) (ZJ++[stop P])) w' es:=by
        obtain⟨o,hd,t,fn,hf,s⟩:=b;rcases i:(results fn fr.tmps).runT P w' #[]with⟨r,es⟩
        have:r=.ok v w':=(by rw[<-s,<-Sem.runT_fst P _ w' #[],i]);subst this;refine⟨seen P fr.fn es++ #[],?_⟩;show stepG P true (df fr (a::ZJ++[stop P])) w'=_
        simp only[stepG,unwind,o,hd,hf,i,doReturn,t,GStep.after,List.cons_append]
   obtain⟨es,g⟩:=g
   have d3:Down P C0 1 ⟨fr,a::ZJ,w'⟩ ⟨a.finish v,ZJ,w'⟩:=by
        refine⟨λh=>?_,w'.tape,⟨a.finish v,ZJ,w'⟩,es,g,λf x hf=>j v f x hf,rfl⟩;exact absurd h.2 (by simp)
   exact⟨n+1+1,v,w',hR,down_add (n+1) 1 _ _ _ d1 d3⟩
end
end
