/- Part 10 of the proof. -/
import Derived.Test.YtfpaamhppamcoaaGreatDoorSp9
import Derived.Calls
import Derived.Test.YtfpaamhppamcoaaGreatDoorChecked
import Derived.WalkKit
set_option linter.all false
namespace Go.Proofs.YtfpaamhppamcoaaGreatDoor
section
open Go
section
variable {P Q:Program}{K:Nat->Prop}{st:Prop}{p:Rel st}{C:iG}
def stop (P:Program):Frame:={fn:=P.funcs.size,tmps:= #[],todo:=[.code (.refuse "")],defers:=[{target:=.nil,args:= #[]}],mode:=.run,kind:=.normal}
theorem stop_ends (w):∃o,step P (lone (stop P) [] w)=.ended o w:=⟨_,step_lone_ended rfl⟩
theorem stop_raised (ch)(w):∃o,step P (lone ((stop P).raise ch) [] w)=.ended o w:=⟨_,step_lone_ended rfl⟩
theorem jU {ch}:∀(n:Nat) (fr:Frame) (ZJ:List Frame) (w:World),DoomedBy P ch fr ZJ->∀m,runN P n (lone fr (ZJ++[stop P]) w)=.next m->∃c f,m=lone c f w/\c.mode=.panicking ch
 |0,fr,ZJ,w,h,m,hm=>by
  simp only[runN,Stepped.next.injEq]at hm;exact⟨fr,_,hm.symm,h.1⟩
 |n+1,fr,ZJ,w,h,m,hm=>by
  obtain⟨d,hd,hf,has⟩:=h;obtain⟨fn,f1⟩:=hf
  have b:∀x xs,ZJ++[stop P]=x::xs->step P (lone fr (ZJ++[stop P]) w)=.next (lone (x.raise ch) xs w):=λx xs e=>by
   rw[e];refine step_lone_go ?_;simp only[stepG,unwind,d,hd,Frame.catches,f1];rfl
  have a:∀x:Frame,x.mode=.run->(x.raise ch).mode=.panicking ch/\(x.raise ch).defers=x.defers/\(x.raise ch).fn=x.fn:=λx hx=>by
   unfold Frame.raise;rw[hx];exact⟨rfl,rfl,rfl⟩
  simp only[runN]at hm;cases ZJ with
  |nil=>
   rw[b (stop P) [] rfl]at hm;simp only at hm;cases n with
   |zero=>
    simp only[runN,Stepped.next.injEq]at hm;exact⟨_,_,hm.symm,(a _ rfl).1⟩
   |succ n=>
    obtain⟨o,k⟩:=stop_raised (P:=P) ch w;simp only[runN,k]at hm;cases hm
  |cons x ZJ=>
   rw[b x (ZJ++[stop P]) rfl]at hm;simp only at hm;obtain⟨x1,x2,x3⟩:=has x (by simp);obtain⟨j,i,g⟩:=a x x1;exact jU n (x.raise ch) ZJ w ⟨j,by rw[i];exact x2,by rw[g];exact x3,λy hy=>has y (by simp[hy])⟩ m hm
theorem oW {a}(hm:a.mode=.returning)(hd:a.defers=[])(e:a.kind=.normal)(hf:∃fn,P.funcs[a.fn]? =some fn):∀(n:Nat) (w:World) (fr:Frame) (w':World),∀(cs:List Frame),cs≠[]->runN P (n+1) (lone a [stop P] w)≠.next (lone fr cs w'):=by
 intro n w fr w' cs hcs h;obtain⟨fn,f1⟩:=hf
 have hs:(∃o w1,step P (lone a [stop P] w)=.ended o w1)\/∃w1,step P (lone a [stop P] w)=.next (lone (stop P) [] w1):=by
  cases b:(results fn a.tmps).runT P w #[]with
  |mk r es=>
   cases r with
   |ok v w1=>exact .inr ⟨w1,step_lone_go (by simp only[stepG,unwind,hm,hd,f1,b,doReturn,e];rfl)⟩
   |halt f w1=>
    refine .inl ?_;cases f<;>exact⟨_,w1,step_lone_ended (by simp only[stepG,unwind,hm,hd,f1,b];rfl)⟩
 rcases hs with⟨o,w1,hs⟩|⟨w1,hs⟩
 .simp only[runN,hs]at h
  cases h
 .simp only[runN,hs]at h
  cases n with
  |zero=>
   simp only[runN,Stepped.next.injEq]at h;simp only[lone,Machine.mk.injEq]at h;have c:({frame:=stop P,callers:=[],status:=.running,dying:=none}:Goroutine)={frame:=fr,callers:=cs,status:=.running,dying:=none}:=by simpa using h.2.1
   simp only[Goroutine.mk.injEq]at c;exact hcs c.2.1.symm
  |succ n=>
   obtain⟨o,d⟩:=stop_ends (P:=P) w1;simp only[runN,d]at h;cases h
def Leaf (P:Program)(R:Value->World->Prop)(a:Frame)(ZJ:List Frame)(w:World):Prop:=
 a.mode=.returning/\ZJ=[]/\(a.defers=[]/\a.kind=.normal)/\∃fn T v,P.funcs[a.fn]? =some fn/\(results fn a.tmps).run P (ay w T)=.ok v (ay w T)/\R v (ay w T)
def Node (P:Program)(R:Value->World->Prop)(X:Frame->List Frame->World->Prop)(a:Frame)(ZJ:List Frame)(w:World):Prop:=
 Leaf P R a ZJ w\/(¬(a.mode=.returning/\ZJ=[])/\∀T,∃a' as' w' es,stepG P true (df a (ZJ++[stop P])) (ay w T)=.go (df a' (as'++[stop P])) w' es/\(a'.mode=.run\/a'.mode=.returning)/\X a' as' w')
def Tree (P:Program)(R:Value->World->Prop)(a:Frame)(ZJ:List Frame)(w:World):Prop:=
 ∀X:Frame->List Frame->World->Prop,(∀a ZJ w,Node P R X a ZJ w->X a ZJ w)->X a ZJ w
theorem Tree.of {R}{a}{ZJ}{w}(h:Node P R (Tree P R) a ZJ w):Tree P R a ZJ w:=λX b=>by
 refine b _ _ _ (h.imp id fun⟨g,f⟩=>⟨g,λT=>?_⟩);obtain⟨a',as',w',es,e,d,c⟩:=f T;exact⟨a',as',w',es,e,d,c X b⟩
end
section
variable {P Q:Program}{K:Nat->Prop}{st:Prop}{p:Rel st}{C:iG}
structure StG where
 a:Frame
 ZJ:List Frame
 w:World
def Comp (st:Prop)(C:iG)(P:Program)(K:Nat->Prop)(s:StG):Prop:=∃(q:Rel st) (b:Frame) (bs:List Frame) (u:World),Live C P q s.a s.ZJ b bs/\WR P.globals.size K q s.w u
def Fin (s:StG):Prop:=s.a.mode=.returning/\s.ZJ=[]
def Bad (st:Prop)(C:iG)(P:Program)(K:Nat->Prop)(R:Value->World->Prop)(s:StG):Prop:=Comp st C P K s/\¬Tree P R s.a s.ZJ s.w
def stp (P:Program)(s:StG)(T:Nat->Question->Nat):GStep:=stepG P true (df s.a (s.ZJ++[stop P])) (ay s.w T)
def NRel (st:Prop)(C:iG)(P:Program)(K:Nat->Prop)(R:Value->World->Prop)(s:StG)(T:Nat->Question->Nat)(s':StG):Prop:=
 s.w.drawn<=s'.w.drawn/\Bad st C P K R s'/\∀b,(∀j q,s.w.drawn<=j->j<s'.w.drawn->b j q=T j q)->∃es,stp P s b=.go (df s'.a (s'.ZJ++[stop P])) (ay s'.w b) es
def BRel (P:Program)(s:StG)(T:Nat->Question->Nat):Prop:=
 ∀a,(∀j q,s.w.drawn<=j->a j q=T j q)->BadStep P (stp P s a) [stop P]
theorem iY (w)(T a):ay (ay w T) a=ay w a:=rfl
theorem WR.follow {w u}(T):TR (ay w T) (ay u λj q=>T (w.drawn+(j-u.drawn)) q):=λi q=>by
 show T (w.drawn+i) q=T (w.drawn+(u.drawn+i-u.drawn)) q
 rw[Nat.add_sub_cancel_left]
theorem bad_cases (F:dM P)(hp:aH C P Q)(E:Twin P Q)(J:Easy C st K)(z:C.sp=[])(B:∀o,C.mark o=false){R}{s}(h:Bad st C P K R s):Fin s\/∃T,BRel P s T\/∃s',NRel st C P K R s T s':=by
 classical
 obtain⟨⟨q,b,bs,u,hl,hw⟩,O⟩:=h
 by_cases hf:Fin s
 .exact .inl hf
 refine .inr ?_;have H:s.a.mode=.returning->s.ZJ≠[]:=λU S=>hf ⟨U,S⟩
 have A:¬∀T,∃a' as' w' es,stepG P true (df s.a (s.ZJ++[stop P])) (ay s.w T)=.go (df a' (as'++[stop P])) w' es/\(a'.mode=.run\/a'.mode=.returning)/\Tree P R a' as' w':=
  λh=>O (Tree.of (.inr ⟨hf,h⟩))
 obtain⟨T,A⟩:=Classical.not_forall.1 A;refine⟨T,?_⟩;have k:=hw.kv T (λj q=>T (s.w.drawn+(j-u.drawn)) q);have G:=WR.follow (w:=s.w) (u:=u) T;have hA:=step_alike (m:=true) (m':=true) (cs:=[stop P]) (ds:=[]) F hp E J hl (λ_ ⟨_,_,_,_,o,_,_,_,h⟩=>by rw[B o]at h;cases h) H k G;have I:=step_local (m:=true) (cs:=[stop P]) F hp E J hl H k G;rcases hA with hA|⟨M,a',as',V,D,w',u',es,new,i,r,n,v,N,W,_⟩|⟨_,f,_,_,_,_,_,_,_,_,_,_,_,l,_⟩
 .refine .inl λt c=>?_
  rcases I with⟨g,w',es,i,d1,_,r⟩|⟨o,w',es,i,d1,_,r⟩
  .have:=r t λj q x _=>c j q x
   rw[iY]at this;rcases hA with⟨o,w2,d,e⟩|⟨fr,ZJ,w2,d,e,hd⟩
   .cases i.symm.trans e
   .cases i.symm.trans e
    exact .inr ⟨fr,ZJ,_,_,this,hd⟩
  .have:=r t λj q x _=>c j q x
   rw[iY]at this;exact .inl ⟨_,_,_,this⟩
 .refine .inr ⟨⟨a',as',w'⟩,?_⟩
  have p:Bad st C P K R ⟨a',as',w'⟩:=⟨⟨M,V,D,u',n,v⟩,λy=>A ⟨a',as',w',es,i,n.mode,y⟩⟩;rcases I with⟨g,w2,d,e,d1,_,L⟩|⟨o,w2,d,e,d1,_,L⟩
  .cases i.symm.trans e
   exact⟨d1,p,λt c=>⟨es,L t c⟩⟩
  .cases i.symm.trans e
 .rw[z]at l;cases l
def iter (f:StG->StG)(s:StG):Nat->StG
 |0=>s
 |k+1=>f (iter f s k)
theorem pz (hz:dM P)(hp:aH C P Q)(tw:Twin P Q)(hE:Easy C st K)(ζ:C.sp=[])(θ:∀o,C.mark o=false){R}{f}{args}{w}
 (hc:Comp st C P K ⟨Frame.enter P f args .normal,[],w⟩)
 (h:∀T,Calls P f args (ay w T) fun|.returned v,w'=>R v w'|_,_=>False):Tree P R (Frame.enter P f args .normal) [] w:=by
 classical
 apply Classical.byContradiction;intro hT
 have E:∀s:StG,∃x:(Nat->Question->Nat)×StG,Bad st C P K R s->Fin s\/BRel P s x.1\/NRel st C P K R s x.1 x.2:=by
  intro s
  by_cases hb:Bad st C P K R s
  .rcases bad_cases hz hp tw hE ζ θ hb with l|⟨T,l|⟨s',l⟩⟩
   .exact⟨⟨λ_ _=>0,s⟩,λ_=>.inl l⟩
   .exact⟨⟨T,s⟩,λ_=>.inr (.inl l)⟩
   .exact⟨⟨T,s'⟩,λ_=>.inr (.inr l)⟩
  .exact⟨⟨λ_ _=>0,s⟩,λh=>absurd h hb⟩
 obtain⟨F,hF⟩:=Classical.axiomOfChoice E
 let L:StG:=⟨Frame.enter P f args .normal,[],w⟩
 let c:Nat->StG:=iter (λs=>(F s).2) L
 let N:Nat->Prop:=λk=>NRel st C P K R (c k) (F (c k)).1 (c (k+1))
 have z:∀k,(∀i,i<k->N i)->Bad st C P K R (c k):=by
  intro k B;cases k with
  |zero=>exact⟨hc,hT⟩
  |succ k=>exact(B k (Z4 _)).2.1
 have M:∀k i,i<=k->(∀j,j<k->N j)->(c i).w.drawn<=(c k).w.drawn:=by
  intro k
  induction k with
  |zero=>intro i t _;obtain rfl:i=0:=by omega
         exact ZL _
  |succ k W=>
   intro i t G
   by_cases ι:i=k+1
   .rw[ι];exact ZL _
   .exact ZP (W i (by omega) λj hj=>G j (by omega)) (G k (Z4 _)).1
 let At:Nat->Nat->Prop:=λj k=>(∀i,i<k->N i/\(c (i+1)).w.drawn<=j)/\(N k->j< (c (k+1)).w.drawn)
 have κ:∀j k k',At j k->At j k'->k=k':=by
  intro j k k' l V;rcases Nat.lt_trichotomy k k' with O|heq|O
  .have:=V.1 k O
   have:=l.2 this.1;omega
  .exact heq
  .have:=l.1 k' O
   have:=V.2 this.1;omega
 let p:Nat->Question->Nat:=λj q=>if hx:∃k,At j k then(F (c (Classical.choose hx))).1 j q else 0
 have γ:∀j q k,At j k->p j q=(F (c k)).1 j q:=by
  intro j q k B;have hx:∃k,At j k:=⟨k,B⟩;have e:=κ j _ _ (Classical.choose_spec hx) B;show(if hx:∃k,At j k then(F (c (Classical.choose hx))).1 j q else 0)=_
  rw[dif_pos hx,e]
 have β:∀k j,(∀i,i<k->N i)->(c k).w.drawn<=j->(N k->j< (c (k+1)).w.drawn)->At j k:=by
  intro k j G hj B;exact⟨λi t=>⟨G i t,ZP (M k (i+1) (by omega) G) hj⟩,B⟩
 have H:∀k,(∀i,i<k->N i)->runN P k (lone L.a (L.ZJ++[stop P]) (ay L.w p))=.next (lone (c k).a ((c k).ZJ++[stop P]) (ay (c k).w p)):=by
  intro k
  induction k with
  |zero=>intro _;rfl
  |succ k W=>
   intro G;have B:=G k (Z4 _);obtain⟨es,U⟩:=B.2.2 p λj q x y=>γ j q k (β k j (λi t=>G i (by omega)) x λ_=>y)
   rw[runN_add,W λi t=>G i (by omega)]
   have e2:step P (lone (c k).a ((c k).ZJ++[stop P]) (ay (c k).w p))=.next (lone (c (k+1)).a ((c (k+1)).ZJ++[stop P]) (ay (c (k+1)).w p)):=by
        refine step_lone_go ?_;have J:stepG P true (df (c k).a ((c k).ZJ++[stop P])) (ay (c k).w p)=_:=U;rw[J];rfl
   simp only[runN,e2]
 obtain⟨e,w',fr,hR,D,ο,A⟩:=h p [stop P];cases e with
 |panicked ch=>exact hR
 |outgrown=>exact hR
 |returned v=>
  obtain⟨n,I⟩:∃n,runN P n (lone L.a (L.ZJ++[stop P]) (ay L.w p))=.next (lone fr [stop P] w'):=D;obtain⟨r,α,S,ν,Z,X⟩:=A
  have key:(∀i,i<n->N i)\/∃k,k<n/\(∀i,i<k->N i)/\¬N k:=by
   have:∀m,m<=n->(∀i,i<m->N i)\/∃k,k<n/\(∀i,i<k->N i)/\¬N k:=by
        intro m
        induction m with
        |zero=>intro _;exact .inl λi t=>absurd t (ZV _)
        |succ m W=>
         intro hm;rcases W (by omega)with l|l
         .by_cases δ:N m
          .refine .inl λi t=>?_
           rcases Nat.lt_succ_iff_lt_or_eq.1 t with t|rfl
           .exact l i t
           .exact δ
          .exact .inr ⟨m,by omega,l,δ⟩
         .exact .inr l
   exact this n (ZL _)
  rcases key with g|⟨k,B,g,Y⟩
  .have U:=H n g
   rw[I]at U
   have e2:fr=(c n).a/\[stop P]=(c n).ZJ++[stop P]/\w'=ay (c n).w p:=by
        simp only[lone,Stepped.next.injEq,Machine.mk.injEq]at U;obtain⟨x1,x2,_⟩:=U;have x3:({frame:=fr,callers:=[stop P],status:=.running,dying:=none}:Goroutine)={frame:=(c n).a,callers:=(c n).ZJ++[stop P],status:=.running,dying:=none}:=by simpa using x2
        simp only[Goroutine.mk.injEq]at x3;exact⟨x3.1,x3.2.1,x1⟩
   obtain⟨rfl,J,rfl⟩:=e2
   have e4:(c n).ZJ=[]:=by
        cases hs:(c n).ZJ with
        |nil=>rfl
        |cons x xs=>
         rw[hs]at J;have:=congrArg List.length J;simp at this
   refine(z n g).2 (Tree.of (.inl ⟨r,e4,⟨α,S⟩,ν,p,v,Z,X,hR⟩))
  .have U:=H k g
   obtain⟨d,rfl⟩:∃d,n=k+(d+1):=⟨n-k-1,by omega⟩;rw[runN_add,U]at I;have hb:=z k g;obtain⟨⟨q,b,bs,u,hl,_⟩,_⟩:=hb;rcases hF (c k) (z k g)with l|l|l
   .have η:=l.1
    rw[l.2]at I;exact oW η hl.fr.da hl.fr.ka hl.fr.known d _ _ _ _ (by simp) I
   .have hx:=l p λj q x=>γ j q k (β k j g x λhh=>absurd hh Y)
    rcases hx with⟨o,w1,es,V⟩|⟨ε,as',w1,es,V,hd⟩
    .have:step P (lone (c k).a ((c k).ZJ++[stop P]) (ay (c k).w p))=.ended o w1:=by
      refine step_lone_ended ?_;have J:stepG P true (df (c k).a ((c k).ZJ++[stop P])) (ay (c k).w p)=_:=V;rw[J];rfl
     simp only[runN,this]at I;cases I
    .have:step P (lone (c k).a ((c k).ZJ++[stop P]) (ay (c k).w p))=.next (lone ε (as'++[stop P]) w1):=by
      refine step_lone_go ?_;have J:stepG P true (df (c k).a ((c k).ZJ++[stop P])) (ay (c k).w p)=_:=V;rw[J];rfl
     simp only[runN,this]at I;obtain⟨ch,_,hd⟩:=hd;obtain⟨μ,ξ,e4,E⟩:=jU d ε as' w1 hd _ I;simp only[lone,Machine.mk.injEq]at e4;have x3:({frame:=fr,callers:=[stop P],status:=.running,dying:=none}:Goroutine)={frame:=μ,callers:=ξ,status:=.running,dying:=none}:=by simpa using e4.2.1
     cases x3;rw[r]at E;cases E
   .exact Y l
end
section
variable {P Q:Program}{K:Nat->Prop}{st:Prop}{p:Rel st}{C:iG}
structure bF (K M:Nat->Prop)(u az:World):Prop where
 tape:az.tape=u.tape
 os:az.os=u.os
 output:az.output=u.output
 size:u.heap.size<=az.heap.size
 keep:∀c,(M c\/K c)->c<u.heap.size->az.heap[c]? =u.heap[c]?
theorem bF.refl (K M)(u):bF K M u u:=⟨rfl,rfl,rfl,ZL _,λ_ _ _=>rfl⟩
theorem bF.trans {K M}{u v w}(h:bF K M u v)(k:bF K M v w):bF K M u w:=
 ⟨k.tape.trans h.tape,k.os.trans h.os,k.output.trans h.output,ZP h.size k.size,λc hc hl=>(k.keep c hc (ZO hl h.size)).trans (h.keep c hc hl)⟩
theorem bF.mono {K M N}{u v}(h:bF K N u v)(hm:∀c,M c->N c):bF K M u v:=⟨h.tape,h.os,h.output,h.size,λc hc=>h.keep c (hc.imp (hm c) id)⟩
theorem bF.monoK {K a M}{u v}(h:bF a M u v)(b:∀c,K c->a c):bF K M u v:=⟨h.tape,h.os,h.output,h.size,λc hc=>h.keep c (hc.imp id (b c))⟩
def Grow (M:Nat->Prop)(u u':World):Nat->Prop:=λc=>M c\/(u.heap.size<=c/\c<u'.heap.size)
def EvM (K M:Nat->Prop)(e:Event):Prop:=
 (∃c,(e.loc=.obj c\/∃a,e.loc=.cell a/\a.block=c)/\e.sync=false/\(M c\/(K c/\e.write=false)))\/∃m,QMark m/\e=⟨.mark m,false,true⟩
structure Does (K M:Nat->Prop)(u u':World)(es:Array Event):Prop where
 tape:u'.tape=u.tape
 os:u'.os=u.os
 output:u'.output=u.output
 size:u.heap.size<=u'.heap.size
 keep:∀c,c<u.heap.size->¬M c->u'.heap[c]? =u.heap[c]?
 evs:∀e∈es,EvM K (Grow M u u') e
theorem Does.monoK {K a M}{u u'}{es}(h:Does K M u u' es)(b:∀c,K c->a c):Does a M u u' es:=
 ⟨h.tape,h.os,h.output,h.size,h.keep,λe he=>(h.evs e he).imp (fun⟨c,g,f,d⟩=>⟨c,g,f,d.imp id λx=>⟨b c x.1,x.2⟩⟩) id⟩
def aC (P:Program)(main:Bool)(K:Nat->Prop)(S:Goroutine->World->(Nat->Prop)->Prop)(g:Goroutine)(u:World)(M:Nat->Prop):Prop:=
 ∀X:Goroutine->World->(Nat->Prop)->Prop,
  (∀g u M,((∀az,bF K M u az->S g az M)\/(g.status=.running/\∀az,bF K M u az->∃g' u' es,stepG P main g az=.go g' u' es/\Does K M az u' es/\X g' u' (Grow M az u')))->X g u M)->X g u M
section
variable {main:Bool}{S:Goroutine->World->(Nat->Prop)->Prop}{g:Goroutine}{u:World}{M:Nat->Prop}
theorem aC.stop (h:∀az,bF K M u az->S g az M):aC P main K S g u M:=λX a=>a _ _ _ (.inl h)
theorem aC.step (hs:g.status=.running)(h:∀az,bF K M u az->∃g' u' es,stepG P main g az=.go g' u' es/\Does K M az u' es/\aC P main K S g' u' (Grow M az u')):aC P main K S g u M:=λX e=>
 e _ _ _ (.inr ⟨hs,λaz d=>let ⟨g',u',es,a,b,c⟩:=h az d;⟨g',u',es,a,b,c X e⟩⟩)
theorem aC.cases (h:aC P main K S g u M):(∀az,bF K M u az->S g az M)\/(g.status=.running/\∀az,bF K M u az->∃g' u' es,stepG P main g az=.go g' u' es/\Does K M az u' es/\aC P main K S g' u' (Grow M az u')):=by
 refine h (λg u M=>(∀az,bF K M u az->S g az M)\/(g.status=.running/\∀az,bF K M u az->∃g' u' es,stepG P main g az=.go g' u' es/\Does K M az u' es/\aC P main K S g' u' (Grow M az u'))) ?_;intro g u M e;refine e.imp id fun⟨hs,e⟩=>⟨hs,λaz d=>?_⟩
 obtain⟨g',u',es,a,b,c⟩:=e az d;exact⟨g',u',es,a,b,c.elim aC.stop fun⟨x,y⟩=>aC.step x y⟩
theorem aC.rely {u'}(h:aC P main K S g u M)(b:bF K M u u'):aC P main K S g u' M:=by
 rcases h.cases with h|⟨hs,h⟩
 .exact aC.stop λaz a=>h az (b.trans a)
 .exact aC.step hs λaz a=>h az (b.trans a)
end
theorem WR.rely {G}{w u az}{M}(h:WR G K p w u)(r:∀b c,p b c->¬K c->M c)(o:bF K M u az):WR G K p w az:=by
 classical
 refine⟨h.fit,λb c d=>?_,h.kin,h.low,⟨h.big.1,ZP h.big.2 o.size⟩⟩;have m:=(h.lt d).2
 have n:az.heap[c]? =u.heap[c]?:=o.keep c (by
  by_cases q:K c
  .exact .inr q
  .exact .inl (r b c d q)) m
 obtain⟨xs,ys,e,f,g,k,j,i⟩|⟨a,a',l,k,j,i⟩|⟨a,a',l,k,j,i⟩:=h.rows b c d
 .exact .inl ⟨xs,ys,e,f,g,k,n.trans j,i⟩
 .exact .inr (.inl ⟨a,a',l,k,n.trans j,i⟩)
 .exact .inr (.inr ⟨a,a',l,k,n.trans j,i⟩)
theorem does_of {q}{M}{w' u u'}{es}(i:∀b c,p b c->¬K c->M c)(hw:WR P.globals.size K q w' u')(d:dE K p q u u')(he:∀e∈es,EvOk K q e):
 Does K M u u' es/\∀b c,q b c->¬K c->Grow M u u' c:=by
 classical
 have h:∀b c,q b c->¬K c->Grow M u u' c:=λb c f a=>by
  by_cases hp:p b c
  .exact .inl (i b c hp a)
  .exact .inr ⟨d.fresh b c f hp,(hw.lt f).2⟩
 refine⟨⟨d.tape,d.os,d.output,d.size,λc hc hm=>d.keep c hc λb hb=>?_,λe hm=>?_⟩,h⟩
 .apply Classical.byContradiction
  intro a;exact hm (i b c hb a)
 .rcases he e hm with⟨c,b,g,l,k,j⟩|g
  .refine .inl ⟨c,g,k,?_⟩
   by_cases a:K c
   .refine .inr ⟨a,?_⟩
    cases hx:e.write with
    |false=>rfl
    |true=>exact absurd a (j hx)
   .exact .inl (h b c l a)
  .exact .inr g
theorem Tree.step {R}{a}{ZJ}{w}(h:Tree P R a ZJ w):Node P R (Tree P R) a ZJ w:=by
 refine h (λa ZJ w=>Node P R (Tree P R) a ZJ w) λa ZJ w b=>b.imp id fun⟨d,c⟩=>⟨d,λT=>?_⟩
 obtain⟨a',as',w',es,g,f,e⟩:=c T;exact⟨a',as',w',es,g,f,Tree.of e⟩
theorem owned_of_tree {n}(t:∀c,K c->n c)(hz:dM P)(hp:aH C P Q)(tw:Twin P Q)(β:Easy C st K)(N:C.sp=[]){R}{main}{S}{cs}{p₀}{M₀:Nat->Prop}{Iv:World->(Nat->Prop)->Prop}(Z:∀u az M,Iv u M->bF n M u az->Iv az M)(α:∀u u' M es,Iv u M->Does n M u u' es->Iv u' (Grow M u u'))
 (B:∀(p:Rel st) (a b:Frame) (w u:World) (M:Nat->Prop),Live C P p a [] b []->WR P.globals.size K p w u->(∀b c,p b c->¬K c->M c)->Ext p₀ p->(∀x,M₀ x->M x)->Iv u M->Leaf P R a [] w->aC Q main n S (df b cs) u M)
 (V:∀(p:Rel st) (a b:Frame) (ZJ bs:List Frame) (w u:World) (M:Nat->Prop),a.mode=.run->oH C a->Tree P R a ZJ w->
  (∀T,∃a' as' w' es,stepG P true (df a (ZJ++[stop P])) (ay w T)=.go (df a' (as'++[stop P])) w' es/\(a'.mode=.run\/a'.mode=.returning)/\Tree P R a' as' w'/\
        ∀(p:Rel st) (b:Frame) (bs:List Frame) (u:World) (M:Nat->Prop),Live C P p a' as' b bs->WR P.globals.size K p w' u->(∀b c,p b c->¬K c->M c)->Ext p₀ p->(∀x,M₀ x->M x)->Iv u M->aC Q main n S (df b (bs++cs)) u M)->Live C P p a ZJ b bs->WR P.globals.size K p w u->(∀b c,p b c->¬K c->M c)->Ext p₀ p->(∀x,M₀ x->M x)->Iv u M->aC Q main n S (df b (bs++cs)) u M)
 {a}{ZJ}{w}(ht:Tree P R a ZJ w):
 ∀(p:Rel st) (b:Frame) (bs:List Frame) (u:World) (M:Nat->Prop),Live C P p a ZJ b bs->WR P.globals.size K p w u->(∀b c,p b c->¬K c->M c)->Ext p₀ p->(∀x,M₀ x->M x)->Iv u M->
  aC Q main n S (df b (bs++cs)) u M:=by
 classical
 refine ht (λa ZJ w=>Tree P R a ZJ w/\∀(p:Rel st) (b:Frame) (bs:List Frame) (u:World) (M:Nat->Prop),Live C P p a ZJ b bs->WR P.globals.size K p w u->(∀b c,p b c->¬K c->M c)->Ext p₀ p->(∀x,M₀ x->M x)->Iv u M->
  aC Q main n S (df b (bs++cs)) u M) ?_|>.2
 intro a ZJ w r;have g:Tree P R a ZJ w:=Tree.of (r.imp id fun⟨l,D⟩=>⟨l,λT=>let ⟨a',as',w',es,F,E,e3⟩:=D T;⟨a',as',w',es,F,E,e3.1⟩⟩);refine⟨g,λp b bs u M hl hw G hE s hI=>?_⟩
 by_cases d:a.mode=.run/\oH C a
 .rcases r with⟨l,_⟩|⟨_,U⟩
  .rw[d.1]at l;cases l
  exact V p a b ZJ bs w u M d.1 d.2 g U hl hw G hE s hI
 rcases r with A|⟨O,U⟩
 .obtain rfl:=A.2.1
  cases bs with
  |cons x xs=>exact hl.cs.elim
  |nil=>exact B p a b w u M hl hw G hE s hI A
 refine aC.step rfl λaz k=>?_
 have J:=hw.rely G (k.monoK t);have hr:a.mode=.returning->ZJ≠[]:=λl D=>O ⟨l,D⟩
 let H:Nat->Question->Nat:=λj q=>az.tape (az.drawn+(j-w.drawn)) q
 have L:TR (ay w H) az:=λi q=>by
  show az.tape (az.drawn+(w.drawn+i-w.drawn)) q=_
  rw[Nat.add_sub_cancel_left]
 have I:WR P.globals.size K p (ay w H) az:=J.kv H az.tape;obtain⟨a',as',w',es,F,e,hX⟩:=U H;rcases step_alike (m:=true) (m':=main) (cs:=[stop P]) (ds:=cs) hz hp tw β hl (λl D=>d ⟨l,D⟩) hr I L with hA|⟨q',a2,ε,b',δ,w2,u',η,new,E,e3,W,y,ζ,hg,he⟩|⟨_,f,_,_,_,_,_,_,_,_,_,_,_,z,_⟩
 .rcases hA with⟨o,w3,γ,v⟩|⟨fr,θ,w3,γ,v,ch,_,X,_⟩
  .rw[F]at v;cases v
  .rw[F]at v
   simp only[GStep.go.injEq,Goroutine.mk.injEq]at v;rw[v.1.1,X]at e;rcases e with h|h<;>cases h
 .rw[F]at E
  simp only[GStep.go.injEq,Goroutine.mk.injEq]at E;obtain⟨⟨rfl,e5,_⟩,rfl,rfl⟩:=E;obtain rfl:as'=ε:=List.append_cancel_right e5;obtain⟨hd,Y⟩:=does_of G y hg he;exact⟨_,u',new,e3,hd.monoK t,hX.2 q' b' δ u' _ W y Y (hE.trans hg.ext) (λx hx=>.inl (s x hx)) (α _ _ _ _ (Z _ _ _ hI k) (hd.monoK t))⟩
 .rw[N]at z;cases z
end
section
variable (T:Tables)(f g:Array Func)
theorem bz (t):(Program.mk T g).underlying t=(Program.mk T f).underlying t:=rfl
theorem lU:(Program.mk T g).depth=(Program.mk T f).depth:=rfl
theorem jf:∀(d:Nat) (t:TypeId) (o:Nat),byteOfCell (Program.mk T g) d t o=byteOfCell (Program.mk T f) d t o
 |0,_,_=>rfl
 |d+1,t,o=>by
  unfold byteOfCell;rw[bz T f g];simp only[jf d];rfl
theorem mP:∀(d:Nat) (t:TypeId) (o:Nat),cellOfByte (Program.mk T g) d t o=cellOfByte (Program.mk T f) d t o
 |0,_,_=>rfl
 |d+1,t,o=>by
  unfold cellOfByte;rw[bz T f g];simp only[mP d];rfl
theorem same_cellAtBytes (d):cellAtBytes (Program.mk T g) d=cellAtBytes (Program.mk T f) d:=by
 funext e c o b
 unfold cellAtBytes;simp only[jf T f g,mP T f g];rfl
theorem iL:∀(d:Nat) (t:TypeId),(Program.mk T g).eqGuardType d t=(Program.mk T f).eqGuardType d t
 |0,_=>rfl
 |d+1,t=>by
  unfold Program.eqGuardType;rw[bz T f g];simp only[iL d]
theorem same_alike:∀(d:Nat) (t u:TypeId),(Program.mk T g).alikeButTags d t u=(Program.mk T f).alikeButTags d t u
 |0,_,_=>rfl
 |d+1,t,u=>by
  unfold Program.alikeButTags;simp only[same_alike d]
theorem same_stoodInAs (t):(Program.mk T g).stoodInAs t=(Program.mk T f).stoodInAs t:=by
 unfold Program.stoodInAs;rw[bz T f g,lU T f g];simp only[same_alike T f g];rfl
theorem eP (t):(Program.mk T g).stoodInHeld t=(Program.mk T f).stoodInHeld t:=by
 unfold Program.stoodInHeld;rw[same_stoodInAs T f g]
theorem nC:∀(d:Nat) (t:TypeId) (o:Nat),plainCell (Program.mk T g) d t o=plainCell (Program.mk T f) d t o
 |0,_,_=>rfl
 |d+1,t,o=>by
  unfold plainCell;rw[bz T f g];simp only[nC d];rfl
theorem same_tight:∀(d:Nat) (t:TypeId),tight (Program.mk T g) d t=tight (Program.mk T f) d t
 |0,_=>rfl
 |d+1,t=>by
  unfold tight;rw[bz T f g];simp only[same_tight d];rfl
theorem lq:∀(d:Nat) (t:TypeId) (b:Nat),cellHolding (Program.mk T g) d t b=cellHolding (Program.mk T f) d t b
 |0,_,_=>rfl
 |d+1,t,b=>by
  unfold cellHolding;rw[bz T f g];simp only[lq d];rfl
theorem nA (c)(e):∀(n x s:Nat),seenCells (Program.mk T g) c e n x s=seenCells (Program.mk T f) c e n x s
 |0,_,_=>rfl
 |n+1,x,s=>by
  unfold seenCells;rw[lU T f g];simp only[nA c e n,lq T f g];rfl
theorem kz:∀(d:Nat) (t:TypeId),(Program.mk T g).holdsStoodIn d t=(Program.mk T f).holdsStoodIn d t
 |0,_=>rfl
 |d+1,t=>by
  unfold Program.holdsStoodIn;rw[bz T f g];simp only[kz d,eP T f g]
theorem mO:∀(d:Nat) (t u:TypeId),sameLayout (Program.mk T g) d t u=sameLayout (Program.mk T f) d t u
 |0,_,_=>rfl
 |d+1,t,u=>by
  unfold sameLayout;rw[bz T f g,bz T f g];simp only[mO d,eP T f g];rfl
theorem same_rowAt (h):∀(d:Nat) (e:TypeId) (c o n:Nat),rowAt (Program.mk T g) h d e c o n=rowAt (Program.mk T f) h d e c o n
 |0,_,_,_,_=>rfl
 |d+1,e,c,o,n=>by
  unfold rowAt;rw[bz T f g];simp only[same_rowAt h d,eP T f g];rfl
theorem same_liesAt:∀(d:Nat) (e:TypeId) (c o:Nat) (u:TypeId) (n:Nat),liesAt (Program.mk T g) d e c o u n=liesAt (Program.mk T f) d e c o u n
 |0,_,_,_,_,_=>rfl
 |d+1,e,c,o,u,n=>by
  unfold liesAt;rw[bz T f g,lU T f g];simp only[same_liesAt d,mO T f g,same_rowAt T f g]
theorem jD (hf:j4 (Program.mk T f))(hc:iT.contains T.rt.panicNilError=false):Twin (Program.mk T f) (Program.mk T g) where
 plainCell:=by funext t o;exact nC T f g _ t o
 seenCells:=by funext c e n x s;exact nA T f g c e n x s
 tight:=by funext t;exact same_tight T f g _ t
 liesAt:=by funext e c o u n;exact same_liesAt T f g _ e c o u n
 holdsStoodIn:=by funext t;exact kz T f g _ t
 noFloats:=hf
 calm:=hc
 underlying _:=rfl
 info _:=rfl
 globals:=rfl
 cellsOf:=rfl
 bytesOf:=rfl
 byteOfCell:=by funext t o;exact jf T f g _ t o
 cellAtBytes:=same_cellAtBytes T f g _
 stoodInHeld:=by funext t;exact eP T f g t
 eqGuardType:=by funext t;exact iL T f g _ t
 mixed:=rfl
end
def bg (dst:Option Nat)(op:Op):Oper:={dst:=dst,op:=op,type:=0,pos:= "",after:= #[],guard:=none}
def bX (g:Nat)(args:Array Operand):Op:=.call {callee:=.value (.func g),args:=args,argTypes:= #[]}
def shut (f:Func):Func:={f with body:=some (.exit 0)}
def flag (n:Int):Op:=.move (.const (.int .i64 (160160160160000+n)))
def hands (l:List Oper):List Oper:=
 match l with
 |[a,b,c,d,e,f,g,h]=>[{a with op:=flag 0},b,c,d,e,f,{g with op:=flag 6},{h with op:=flag 7}]
 |l=>l
def workerBody (c:Code):Code:=
 match c with
 |.seq _ (.seq b (.seq a (.region n ops d)))=>.seq b (.seq a (.region n (hands ops.toList).toArray d))
 |c=>c
def fD (f:Func):Func:={f with body:=f.body.map workerBody,results:= #[.tmp 24,.tmp 20,.tmp 25]}
def coin (n t:Nat):Code:=.region n #[bg (some t) (.move (.const (.bool true))),bg (some t) (.move (.const (.bool false)))] true
def judgeBody (al:Nat)(c:Code):Code:=
 match c with
 |.seq r0 (.seq i (.seq h (.seq (.seq g (.block i0 (.loop (.seq f (.seq k (.seq (.block j (.seq e (.seq (.seq d c2) (.seq _ _)))) b)))))) (.seq _ (.seq a .ret)))))=>
  .seq (coin 90 22) (.seq (.cond (.tmp 22) (.region 91 #[bg none (bX al #[.tmp 0])] false) .skip)
   (.seq (coin 92 23) (.seq (.cond (.tmp 23) (.region 93 #[bg none (bX (al+1) #[.tmp 1])] false) .skip)
    (.seq r0 (.seq i (.seq h (.seq (.seq g (.block i0 (.loop (.seq f (.seq k (.seq (.block j (.seq e (.seq (.seq d c2)
        (.region 94 #[bg (some 24) (bX 69 #[.tmp 6,.tmp 2,.tmp 7,.tmp 8,.tmp 5]),bg (some 25) (.extract (.tmp 24) 0),bg (some 26) (.extract (.tmp 24) 1),bg (some 27) (.indexAddr 87 (.tmp 9) (.tmp 26)),bg none (.store 91 (.tmp 27) (.tmp 25))] false)))) b))))))
        (.seq a .ret))))))))
 |c=>c
def eD (al:Nat)(f:Func):Func:={f with body:=f.body.map (judgeBody al),ntmps:=28}
def iH (t:TypeId)(name:String):Func:=
 {name:=name,origin:= "",params:= #[t],resultTypes:= #[],nfree:=0,ntmps:=2,results:= #[],norace:=false,
  body:=some (.region 0 #[bg (some 1) (.makeInterface t (.tmp 0)),bg none (.panic (.tmp 1))] false),tmpNames:= #[]}
def gK (t:TypeId)(name:String):Func:=
 {name:=name,origin:= "",params:= #[t],resultTypes:= #[],nfree:=0,ntmps:=3,results:= #[],norace:=false,
  body:=some (.region 0 #[bg (some 1) (.box t (.tmp 0)),bg (some 2) (.makeInterface t (.tmp 1)),bg none (.panic (.tmp 2))] false),tmpNames:= #[]}
def textS (al:Nat)(f:Func):Func:=
 {f with body:=some (.seq (coin 90 1) (.seq (.cond (.tmp 1) (.region 91 #[bg none (bX al #[.tmp 0])] false) .skip) (.seq (.region 92 #[bg (some 2) (.move (.const .nilFunc))] false) .ret))),ntmps:=3,results:= #[.tmp 2]}
def swap (ae:List Nat)(al n:Nat)(f:Func):Func:=if n=42 then eD al f else if n=69 then fD f else if n=88 then textS (al+2) f else if ae.contains n then shut f else f
def patch (ae:List Nat)(P:Program):Program:=
 {P with funcs:=(((P.funcs.mapIdx (swap ae P.funcs.size)).push (iH 31 "alarm")).push (gK 37 "alarm2")).push (iH 47 "alarm3")}
section
variable (L:List Nat)(P:Program)
theorem patch_tables:(patch L P).toTables=P.toTables:=rfl
theorem iO {n}{f}(h:P.funcs[n]? =some f):(patch L P).funcs[n]? =some (swap L P.funcs.size n f):=by
 have a:n<P.funcs.size:=(ZK.1 h).1;show((((P.funcs.mapIdx (swap L P.funcs.size)).push _).push _).push _)[n]? =_
 rw[Array.getElem?_push,if_neg (by simp;omega),Array.getElem?_push,if_neg (by simp;omega),Array.getElem?_push,if_neg (by simp;omega),Array.getElem?_mapIdx,h];rfl
theorem patch_alarm:(patch L P).funcs[P.funcs.size]? =some (iH 31 "alarm"):=by
 show((((P.funcs.mapIdx (swap L P.funcs.size)).push _).push _).push _)[P.funcs.size]? =_
 rw[Array.getElem?_push,if_neg (by simp only[Array.size_push,Array.size_mapIdx];omega),Array.getElem?_push,if_neg (by simp only[Array.size_push,Array.size_mapIdx];omega),Array.getElem?_push,if_pos (by simp)]
theorem patch_alarm2:(patch L P).funcs[P.funcs.size+1]? =some (gK 37 "alarm2"):=by
 show((((P.funcs.mapIdx (swap L P.funcs.size)).push _).push _).push _)[P.funcs.size+1]? =_
 rw[Array.getElem?_push,if_neg (by simp only[Array.size_push,Array.size_mapIdx];omega),Array.getElem?_push,if_pos (by simp)]
theorem patch_alarm3:(patch L P).funcs[P.funcs.size+2]? =some (iH 47 "alarm3"):=by
 show((((P.funcs.mapIdx (swap L P.funcs.size)).push _).push _).push _)[P.funcs.size+2]? =_
 rw[Array.getElem?_push,if_pos (by simp)]
theorem patch_twin (hf:j4 P)(hc:iT.contains P.rt.panicNilError=false):Twin (patch L P) P:=jD P.toTables _ P.funcs hf hc
theorem patch_twin' (hf:j4 P)(hc:iT.contains P.rt.panicNilError=false):Twin (patch L P) (patch L P):=jD P.toTables _ _ hf hc
theorem pf {L}{P}{n}{f}(h:P.funcs[n]? =some f)(hs:(n==42||n==69||n==88||L.contains n)=false):(patch L P).funcs[n]? =some f:=by
 rw[iO L P h];unfold swap;simp only[Bool.or_eq_false_iff,beq_eq_false_iff_ne]at hs;rw[if_neg hs.1.1.1,if_neg hs.1.1.2,if_neg hs.1.2,hs.2];rfl
theorem swap_name (L)(al n)(f):(swap L al n f).name=f.name:=by
 unfold swap;split
 .rfl
 .split
  .rfl
  .split
   .rfl
   .split<;>rfl
theorem swap_body {L}{al n}{f}(h:f.body.isNone=false):(swap L al n f).body.isNone=false:=by
 unfold swap;split
 .simpa[eD] using h
 .split
  .simpa[fD] using h
  .split
   .rfl
   .split
    .rfl
    .exact h
theorem patch_enter {L}{P}{n}{f}(h:P.funcs[n]? =some f)(a:(f.name== "runtime.NumGoroutine")=false)(hb:f.body.isNone=false)(args)(w):
 Sem.run (patch L P) (callFunc n args) w=.ok (.enter n args) w:=by
 have c:=swap_name L P.funcs.size n f;have b:=swap_body (L:=L) (al:=P.funcs.size) (n:=n) hb;simp only[callFunc,Sem.run_bind,run_program,Result.andThen_ok,iO L P h,c,a,b,Z0,if_false];simp
@[go_sem] theorem ax (t):(patch L P).underlying t=P.underlying t:=rfl
@[go_sem] theorem patch_info (t):(patch L P).info? t=P.info? t:=rfl
@[go_sem] theorem patch_types:(patch L P).types=P.types:=rfl
@[go_sem ↓] theorem patch_typeAt (t:Nat):(patch L P).types[t]? =P.types[t]?:=rfl
@[go_sem] theorem patch_globals:(patch L P).globals=P.globals:=rfl
@[go_sem] theorem patch_depth:(patch L P).depth=P.depth:=rfl
@[go_sem] theorem patch_eqGuardType (d t):(patch L P).eqGuardType d t=P.eqGuardType d t:=iL P.toTables P.funcs _ d t
@[go_sem] theorem patch_stoodInHeld (t):(patch L P).stoodInHeld t=P.stoodInHeld t:=eP P.toTables P.funcs _ t
@[go_sem] theorem o6 (t)(w):Sem.run (patch L P) (underlying t) w=Sem.run P (underlying t) w:=by
 simp only[underlying,Sem.run_bind,run_program,Result.andThen_ok,ax];cases P.underlying t<;>simp[stuck]
@[go_sem] theorem nG (t)(w):Sem.run (patch L P) (typeInfo t) w=Sem.run P (typeInfo t) w:=by
 simp only[typeInfo,Sem.run_bind,run_program,Result.andThen_ok,patch_info];cases P.info? t<;>simp[stuck]
@[go_sem] theorem aM (t)(w):Sem.run (patch L P) (Go.sizeOf t) w=Sem.run P (Go.sizeOf t) w:=by
 simp only[Go.sizeOf,Sem.run_bind,nG];cases Sem.run P (typeInfo t) w<;>simp
@[go_sem] theorem aI (t)(w):Sem.run (patch L P) (zeroValue t) w=Sem.run P (zeroValue t) w:=by
 simp only[zeroValue,Sem.run_bind,nG];cases Sem.run P (typeInfo t) w with
 |halt h w=>simp
 |ok i w=>simp only[Result.andThen];cases i.zero<;>simp[unsupported]
@[go_sem] theorem aP (t)(w):Sem.run (patch L P) (isAgg t) w=Sem.run P (isAgg t) w:=by
 simp only[isAgg,Sem.run_bind,o6];cases Sem.run P (underlying t) w with
 |halt h w=>simp
 |ok i w=>simp only[Result.andThen];cases i<;>simp
end
end
