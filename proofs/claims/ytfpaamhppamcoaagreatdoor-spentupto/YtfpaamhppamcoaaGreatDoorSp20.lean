/- Part 20 of the proof. -/
import Derived.Test.YtfpaamhppamcoaaGreatDoorSp19
set_option linter.all false
set_option maxHeartbeats 60000000
namespace Go.Proofs.YtfpaamhppamcoaaGreatDoor
section
open Go Go.Conc Go.ConcN
open Go.ConcR (KK wgBlock WgAt stA smA rd wr mk Payload DC0 Bk g_of_ofEvents again_blocked bk_of_mute ofEvent_loc_mark ofEvent_mk)
def BkS (Wg:Nat)(e:Event):Prop:=Bk Wg e\/e=mk (.read (smA Wg))\/e=mk (.write (smA Wg))
theorem bkS_low {Wg B}(h:Wg<B){e}(he:BkS Wg e):(MemAct.ofEvent e).low B:=by
 rcases he with he|rfl|rfl
 .exact bk_low h he
 .exact h
 .exact h
theorem bkS_touch {S:Nat->Prop}{Wg}{e}(he:BkS Wg e){x}(hx:(MemAct.ofEvent e).touch? =some x):ShB (λc=>S c\/c=Wg) x.loc/\x.kind≠.plain:=by
 rcases he with he|rfl|rfl
 .exact⟨(bk_touch (S:=S) he hx).1,(bk_touch (S:=S) he hx).2.1⟩
 .simp only[mk,MemAct.ofEvent,MemAct.touch?,Option.some.injEq]at hx
  subst hx;exact⟨⟨_,rfl,.inr rfl⟩,by simp⟩
 .simp only[mk,MemAct.ofEvent,MemAct.touch?,Option.some.injEq]at hx
  subst hx;exact⟨⟨_,rfl,.inr rfl⟩,by simp⟩
theorem bkS_norel {Wg}{e}(he:BkS Wg e):e.loc≠.mark (.release (stA Wg)):=by
 rcases he with he|rfl|rfl
 .exact norel_of_Bk (es:= #[e]) (λx hx=>by rw[Array.mem_singleton.1 hx];exact he) e (by simp)
 .simp[mk]
 .simp[mk]
section
variable [Payload]
variable {Q:Program}{ty:TypeId}{S:Nat->Prop}{Wg V nV base nW:Nat}{K:Nat->Prop}{off:Nat->Nat}{vals:Nat->List Value}{zero:Nat->Value}{aL u u':World}{j:Nat}{M:Nat->Nat->Prop}{M₀:Nat->Prop}{t:Trace}
 {gs:Array Goroutine}{D:Nat->WD}{lv:Nat->Bool}{q:Nat->Nat}{d0:Nat}{gE:Goroutine->Prop}{An:Goroutine->World->Prop}{tag:CTag}{f0:Nat}{a:Goroutine}{st sm st' sm':Int}{sl:Option (Nat×Nat)}
theorem dZ (G:pg nV nW off vals)(y:gs[0]? =some a)(h:PI Q ty S Wg V nV base nW K off vals zero aL j gs u t D lv M M₀ q d0)(n:j<=nW)(m:WgLive ty Wg u)
 {g'}{es}{tag'}{f'}(hgo:stepG Q true a u=.go g' u' es)(b:Aside Wg u u')(f:∀e∈es,BkS Wg e)
 (l:CS Q ty Wg V nV K gE An nW off vals tag' j f' (deafBehind d0 es) g' u' M₀)(i:WgAt ty Wg u' st' sm')(d:ConcN.Mode j D tag' st' sm')
 (k:(lvl tag'=lvl tag/\(∀r,fF tag r=false)/\(∀r,fF tag' r=false)/\(phi nW (Vc j D) tag'<phi nW (Vc j D) tag\/(phi nW (Vc j D) tag'=phi nW (Vc j D) tag/\f'<f0)))\/
  (∃r,r<=nW/\tag=.sp r 6/\lvl tag'=r/\∀r,fF tag' r=false)):
 ∃m₁ ops v,runT Q (crowd gs u sl) 0=(.next m₁,ops)/\
  VR2 Q ty Wg V nV nW K off vals An v (cv nW base aL tag j lv M M₀ gs u,(phi nW (Vc j D) tag+Ssum j D,f0+2*Fsum j D+2*sumTo (base+1) q))/\
  ng Q ty S Wg V nV base nW K off vals zero aL gE An v m₁ (t++ops):=by
 have g:=h.lie;have p:Wg<u.heap.size:=ZO g.wg g.size
 exact sStep G y h n hgo (W:=λc=>c=Wg) ⟨b.tape,b.os,b.output,Nat.le_of_eq b.size.symm,λc _ hc=>b.block c hc⟩ (λc hc=>(g.kin c hc).2.2.1) (λw o c hc e=>by have:=(g.low w o c hc).2;have:=g.wg;omega) (λc _ _ s=>s) (λc hc=>.inl hc)
  (λe he x hx=>.inl (bkS_touch (f e he) hx)) (λe he=>bkS_norel (f e he)) (λe he=>bkS_low (by rw[b.size];exact p) (f e he)) g.vw l m i d (k.imp id fun⟨r,A,s,z⟩=>⟨r,A,s,.inr z⟩)
theorem sFork (G:pg nV nW off vals)(W:gs[0]? =some a){r}(Y:r<nW)(h:PI Q ty S Wg V nV base nW K off vals zero aL (nW-(r+1)) gs u t D lv M M₀ q 0)(A:WgAt ty Wg u st sm)(c:ConcN.Mode (nW-(r+1)) D (.sp (r+1) 1) st sm)
 {g' child}(B:stepG Q true a u=.spawn g' child u #[])(o:aC Q false K (kg Q ty Wg V nV (off (nW-(r+1))) (vals (nW-(r+1)))) child u M₀)(m:Sr Q ty Wg V nV K An nW off vals r g' u (λ_=>False)):
 ∃m₁ ops O,runT Q (crowd gs u sl) 0=(.next m₁,ops)/\
  VR2 Q ty Wg V nV nW K off vals An O (cv nW base aL (.sp (r+1) 1) (nW-(r+1)) lv M M₀ gs u,(phi nW (Vc (nW-(r+1)) D) (.sp (r+1) 1)+Ssum (nW-(r+1)) D,f0+2*Fsum (nW-(r+1)) D+2*sumTo (base+1) q))/\
  ng Q ty S Wg V nV base nW K off vals zero aL gE An O m₁ (t++ops):=by
 have p:=h.size;obtain⟨j,T⟩:∃j,j=nW-(r+1):=⟨_,rfl⟩;rw[<-T]at h c o p⊢;have l:=runT_crowd_spawn (P:=Q) (sl:=sl) (i:=0) W (by simpa using B);have f:j<nW:=by omega
 have H:=h.fork (a':=g') G f (x:={g:=0,fn:=a.frame.fn,pos:=a.frame.place,act:=.go (base+j+1)}) (y:={g:=base+j+1,fn:=child.frame.fn,pos:=a.frame.place,act:=.start}) ⟨rfl,rfl⟩ ⟨rfl,rfl⟩ o
 have z:((MemOp.ofEvents 0 a.frame.fn a.frame.place #[]).push {g:=0,fn:=a.frame.fn,pos:=a.frame.place,act:=.go gs.size}|>.push {g:=gs.size,fn:=child.frame.fn,pos:=a.frame.place,act:=.start})=
  #[{g:=0,fn:=a.frame.fn,pos:=a.frame.place,act:=.go (base+j+1)},{g:=base+j+1,fn:=child.frame.fn,pos:=a.frame.place,act:=.start}]:=by
  rw[p,show base+1+j=base+j+1 by omega,ofEvents_eq];simp
 rw[z]at l;obtain⟨R,rfl,rfl,_⟩:=c.open_inv trivial
 have X:Vc (j+1) (upd D j ⟨7,0,0⟩)=Vc j D+1:=by
  simp only[Vc,sumTo,upd_same];rw[sumTo_upd_out D _ cnt (ZL _)];rfl
 have C:OpenSt (j+1) (upd D j ⟨7,0,0⟩):=λi U=>by
  by_cases e:i=j
  .subst e;rw[upd_same];simp
  .rw[upd_ne D _ e];exact R i (by omega)
 have I:((Vc j D+pend (.sp (r+1) 1):Nat):Int)*KK=((Vc (j+1) (upd D j ⟨7,0,0⟩)+pend (.sp r 6):Nat):Int)*KK:=by rw[X];simp[pend]
 have w:((gs.setIfInBounds 0 g').push child)[0]? =some g':=by
  rw[Array.getElem?_push,if_neg (by simp;omega),Array.getElem?_setIfInBounds_self_of_lt (by omega)]
 have s:∀i,0<i->i<gs.size->((gs.setIfInBounds 0 g').push child)[i]? =gs[i]?:=λi h0 U=>by
  rw[Array.getElem?_push,if_neg (by simp;omega),Array.getElem?_setIfInBounds_ne (by omega)]
 have v:((gs.setIfInBounds 0 g').push child)[base+1+j]? =some child:=by rw[Array.getElem?_push,if_pos (by simp;omega)]
 refine⟨_,_,(cv nW base aL (.sp r 6) (j+1) (upd lv j true) (upd M j M₀) (λ_=>False) ((gs.setIfInBounds 0 g').push child) u,(phi nW (Vc (j+1) (upd D j ⟨7,0,0⟩)) (.sp r 6)+Ssum (j+1) (upd D j ⟨7,0,0⟩),0+2*Fsum (j+1) (upd D j ⟨7,0,0⟩)+2*sumTo (base+1) q)),l,?_,
  _,u,sl,j+1,upd D j ⟨7,0,0⟩,upd lv j true,upd M j M₀,λ_=>False,q,.sp r 6,0,0,g',_,_,rfl,w,⟨by omega,by omega,rfl,rfl,m⟩,H,A,?_,by omega,rfl⟩
 .have hc:CR2 Q ty Wg V nV nW K off vals An (cv nW base aL (.sp r 6) (j+1) (upd lv j true) (upd M j M₀) (λ_=>False) ((gs.setIfInBounds 0 g').push child) u j) (cv nW base aL (.sp (r+1) 1) j lv M M₀ gs u j):=by
   unfold cv;rw[if_pos f,if_neg (by omega),upd_same,if_pos rfl,if_pos f,if_pos (ZL _),upd_same,v];refine⟨rfl,.inl ⟨rfl,rfl,?_⟩⟩;show aC Q (dI nW j) K (cB Q ty Wg V nV nW K off vals An j) child u M₀
   have L:dI nW j=false:=decide_eq_false (by omega);have J:cB Q ty Wg V nV nW K off vals An j=kg Q ty Wg V nV (off j) (vals j):=(by unfold cB;rw[if_pos f]);rw[L,J];exact o
  have F:CR2 Q ty Wg V nV nW K off vals An (cv nW base aL (.sp r 6) (j+1) (upd lv j true) (upd M j M₀) (λ_=>False) ((gs.setIfInBounds 0 g').push child) u (nW+r)) (cv nW base aL (.sp (r+1) 1) j lv M M₀ gs u (nW+r)):=by
   unfold cv;have N:¬nW+r<nW:=(by omega);rw[if_neg N,if_neg N,Nat.add_sub_cancel_left,if_neg (show ¬r<lvl (.sp r 6)from Nat.lt_irrefl r),if_pos (show fF (.sp r 6) r=true by simp[fF]),if_pos (show r<lvl (.sp (r+1) 1)from Z4 r),w];refine⟨rfl,.inl ⟨rfl,rfl,?_⟩⟩;show aC Q (dI nW (nW+r)) K (cB Q ty Wg V nV nW K off vals An (nW+r)) g' u (λ_=>False)
   have L:dI nW (nW+r)=true:=decide_eq_true (by omega);have J:cB Q ty Wg V nV nW K off vals An (nW+r)=SrS Q ty Wg V nV K An nW off vals r:=(by unfold cB;rw[if_neg N,Nat.add_sub_cancel_left]);rw[L,J];cases r with
   |zero=>exact m
   |succ r=>exact m
  refine⟨λk Z=>?_,.inl ⟨j,by omega,hc⟩⟩
  by_cases n:k=j
  .subst n;exact .inr hc
  by_cases E:k=nW+r
  .subst E;exact .inr F
  refine .inl (.inl ?_);show cv _ _ _ _ _ _ _ _ _ _ k=cv _ _ _ _ _ _ _ _ _ _ k
  unfold cv
  by_cases d:k<nW
  .rw[if_pos d,if_pos d]
   by_cases b:j<=k
   .rw[if_pos (show j+1<=k by omega),if_pos b]
   .rw[if_neg (show ¬j+1<=k by omega),if_neg b,upd_ne lv _ n,upd_ne M _ n,s _ (by omega) (by omega)]
  .rw[if_neg d,if_neg d]
   by_cases b:k-nW<r
   .rw[if_pos (show k-nW<lvl (.sp r 6)from b),if_pos (show k-nW<lvl (.sp (r+1) 1)from Nat.lt_succ_of_lt b)]
   .rw[if_neg (show ¬k-nW<lvl (.sp r 6)from b),if_neg (show ¬k-nW<lvl (.sp (r+1) 1) by show ¬k-nW<r+1;omega),if_neg (show ¬fF (.sp r 6) (k-nW)=true by simp[fF];omega),if_neg (show ¬fF (.sp (r+1) 1) (k-nW)=true by simp[fF])]
 .rw[I]
  exact .opn trivial C (by simp)
def PGoal (Q:Program)(ty:TypeId)(S:Nat->Prop)(Wg V nV nW:Nat)(off:Nat->Nat)(vals:Nat->List Value)(zero:Nat->Value)(aL:World)(gE:Goroutine->Prop)(m:Machine)(t:Trace):Prop:=
 ∃gs u sl q cs,m=crowd gs u sl/\(∃a,gs[0]? =some a/\gE a)/\WgLive ty Wg u/\ni Q (λc=>S c\/c=Wg) gs u.heap.size t q/\u.tape=aL.tape/\u.os=aL.os/\u.output=aL.output/\aL.heap.size<=u.heap.size/\(∀c,c<aL.heap.size->c≠V->c≠Wg->u.heap[c]? =aL.heap[c]?)/\
  u.heap[V]? =some (.cells cs Payload.ety)/\cs.size=nV/\(∀i,i<nW->∀o,o< (vals i).length->cs[off i+o]? =(vals i)[o]?)/\∀x,x<nV->(∀i,i<nW->¬(off i<=x/\x<off i+(vals i).length))->cs[x]? =some (zero x)
theorem starterMoves (G:pg nV nW off vals)(hAn:∀g w,WgLive ty Wg w->An g w->∃m,Goes Q true (RL ty Wg) DC0 (TW1 Q ty Wg gE An) m g w)(A:gs[0]? =some a)(hcs:CS Q ty Wg V nV K gE An nW off vals tag j f0 d0 a u M₀)
 (h:PI Q ty S Wg V nV base nW K off vals zero aL j gs u t D lv M M₀ q d0)(o:j<=nW)(n:WgAt ty Wg u st sm)(b:ConcN.Mode j D tag st sm)(ο:a.status=.running):
 (∃m₁ ops,runT Q (crowd gs u sl) 0=(.next m₁,ops)/\PGoal Q ty S Wg V nV nW off vals zero aL gE m₁ (t++ops))\/
 ∃m₁ ops U,runT Q (crowd gs u sl) 0=(.next m₁,ops)/\
  VR2 Q ty Wg V nV nW K off vals An U (cv nW base aL tag j lv M M₀ gs u,(phi nW (Vc j D) tag+Ssum j D,f0+2*Fsum j D+2*sumTo (base+1) q))/\
  ng Q ty S Wg V nV base nW K off vals zero aL gE An U m₁ (t++ops):=by
 have d:WgLive ty Wg u:=⟨_,_,n⟩;have H:=h.lie;have hVj:=Vc_le j D;have hfew:=G.few;have bk1:∀{e:Event},BkS Wg e->∀x∈(#[e]:Array Event),BkS Wg x:=λhe x hx=>by rw[Array.mem_singleton.1 hx];exact he
 have ω:BkS Wg (mk .disable):=.inl (.inl rfl);have μ:BkS Wg (mk .enable):=.inl (.inr (.inl rfl));have β:BkS Wg (rd (stA Wg)):=.inl (.inr (.inr ⟨_,_,rfl,rfl⟩));have γ:∀x∈(#[rd (stA Wg),wr (stA Wg)]:Array Event),BkS Wg x:=λx hx=>.inl (bk_rw x hx)
 have nl:∀tg:CTag,(∀r,tg≠.sp r 6)->∀r,fF tg r=false:=λtg Θ r=>by
  cases tg<;>try rfl
  rename_i r' s;unfold fF;split
  .exact absurd (by simp_all) (Θ r')
  .rfl
 have ξ:∀{r m:Nat} {g' child:Goroutine},r<nW->j=nW-(r+1)->d0=0->child.status=.running->Goes Q true (RL ty Wg) DC0 (TKdS Q ty Wg g' child) m a u->
  (∀az,bF K M₀ u az->aC Q false K (kg Q ty Wg V nV (off (nW-(r+1))) (vals (nW-(r+1)))) child az M₀/\Sr Q ty Wg V nV K An nW off vals r g' az (λ_=>False))->
  ((tag=.sp (r+1) 5/\f0=m)\/tag=.sp (r+1) 6)->
  ∃m₁ ops U,runT Q (crowd gs u sl) 0=(.next m₁,ops)/\
   VR2 Q ty Wg V nV nW K off vals An U (cv nW base aL tag j lv M M₀ gs u,(phi nW (Vc j D) tag+Ssum j D,f0+2*Fsum j D+2*sumTo (base+1) q))/\
   ng Q ty S Wg V nV base nW K off vals zero aL gE An U m₁ (t++ops):=by
  intro r m g' child I z hd χ F hF y;have R:isOpen tag:=by rcases y with⟨rfl,_⟩|rfl<;>trivial
  have N:pend tag=0:=by rcases y with⟨rfl,_⟩|rfl<;>rfl
  rcases Goes.cases F with f|⟨m',rfl,l⟩
  .obtain⟨_,a',hgo,m₂,B⟩:=f u d
   refine dZ G A h o d hgo (.refl Wg u) (bk1 ω) (tag':=.sp (r+1) 4) (f':=m₂) ⟨I,z,by rw[hd];rfl,g',child,χ,B,hF⟩ n (b.reopen R trivial (by rw[N];rfl) (by simp)) ?_;rcases y with⟨rfl,_⟩|rfl
   .exact .inl ⟨rfl,nl _ (by simp),nl _ (by simp),.inl (by simp only[phi];omega)⟩
   .exact .inr ⟨r+1,by omega,rfl,rfl,nl _ (by simp)⟩
  .obtain⟨a',w',es,hgo,⟨rfl,rfl⟩,p⟩:=l u d
   refine dZ G A h o d hgo (.refl Wg _) (by simp) (tag':=.sp (r+1) 5) (f':=m') ⟨I,z,hd,g',child,χ,p,hF⟩ n (b.reopen R trivial (by rw[N];rfl) (by simp)) ?_;rcases y with⟨rfl,rfl⟩|rfl
   .exact .inl ⟨rfl,nl _ (by simp),nl _ (by simp),.inr ⟨rfl,by omega⟩⟩
   .exact .inr ⟨r+1,by omega,rfl,rfl,nl _ (by simp)⟩
 have ν:∀{m:Nat},j=nW->d0=0->Goes Q true (RL ty Wg) DC0 (TKd Q ty Wg An) m a u->((tag=.kd/\f0=m)\/tag=.sp 0 6)->
  ∃m₁ ops U,runT Q (crowd gs u sl) 0=(.next m₁,ops)/\
   VR2 Q ty Wg V nV nW K off vals An U (cv nW base aL tag j lv M M₀ gs u,(phi nW (Vc j D) tag+Ssum j D,f0+2*Fsum j D+2*sumTo (base+1) q))/\
   ng Q ty S Wg V nV base nW K off vals zero aL gE An U m₁ (t++ops):=by
  intro m z hd F y;have R:isOpen tag:=by rcases y with⟨rfl,_⟩|rfl<;>trivial
  have N:pend tag=0:=by rcases y with⟨rfl,_⟩|rfl<;>rfl
  rcases Goes.cases F with f|⟨m',rfl,l⟩
  .obtain⟨_,a',hgo,m₂,B⟩:=f u d
   refine dZ G A h o d hgo (.refl Wg u) (bk1 ω) (tag':=.anch) (f':=m₂) ⟨z,by rw[hd];rfl,B⟩ n (b.reopen R trivial (by rw[N];rfl) (by simp)) ?_;rcases y with⟨rfl,_⟩|rfl
   .exact .inl ⟨rfl,nl _ (by simp),nl _ (by simp),.inl (by simp only[phi];omega)⟩
   .exact .inr ⟨0,by omega,rfl,rfl,nl _ (by simp)⟩
  .obtain⟨a',w',es,hgo,⟨rfl,rfl⟩,p⟩:=l u d
   refine dZ G A h o d hgo (.refl Wg _) (by simp) (tag':=.kd) (f':=m') ⟨z,hd,p⟩ n (b.reopen R trivial (by rw[N];rfl) (by simp)) ?_;rcases y with⟨rfl,rfl⟩|rfl
   .exact .inl ⟨rfl,nl _ (by simp),nl _ (by simp),.inr ⟨rfl,by omega⟩⟩
   .exact .inr ⟨0,by omega,rfl,rfl,nl _ (by simp)⟩
 have load:∀{m:Nat},j=nW->d0=1->Goes Q true (RL ty Wg) DC0 (TW1 Q ty Wg gE An) m a u->((tag=.w1/\f0=m)\/tag=.anch)->
  ∃m₁ ops U,runT Q (crowd gs u sl) 0=(.next m₁,ops)/\
   VR2 Q ty Wg V nV nW K off vals An U (cv nW base aL tag j lv M M₀ gs u,(phi nW (Vc j D) tag+Ssum j D,f0+2*Fsum j D+2*sumTo (base+1) q))/\
   ng Q ty S Wg V nV base nW K off vals zero aL gE An U m₁ (t++ops):=by
  intro m z hd F y;have R:isOpen tag:=by rcases y with⟨rfl,_⟩|rfl<;>trivial
  have N:pend tag=0:=by rcases y with⟨rfl,_⟩|rfl<;>rfl
  have θ:lvl tag=0:=by rcases y with⟨rfl,_⟩|rfl<;>rfl
  have ζ:∀r,fF tag r=false:=by rcases y with⟨rfl,_⟩|rfl<;>exact nl _ (by simp)
  have ρ:8*Vc j D+5<=phi nW (Vc j D) tag:=by rcases y with⟨rfl,_⟩|rfl<;>simp only[phi]<;>omega
  rcases Goes.cases F with f|⟨m',rfl,l⟩
  .obtain⟨_,J⟩:=f u d
   obtain⟨ho,rfl,rfl,_⟩:=b.open_inv R;obtain⟨a',hgo,h0,hne⟩:=J (Vc j D) (by omega) (by simpa[N] using n)
   by_cases hv:Vc j D=0
   .obtain⟨m₂,B⟩:=h0 hv
    refine dZ G A h o d hgo (.refl Wg u) (bk1 β) (tag':=.ke) (f':=m₂) ⟨z,by rw[hd];rfl,B⟩ n ?_ (.inl ⟨θ.symm,ζ,nl _ (by simp),.inl (by simp only[phi]at ρ⊢;omega)⟩);have e:((Vc j D+pend tag:Nat):Int)*KK=0:=(by rw[hv,N];simp);rw[e];exact .fin trivial (allQuit_of ho hv)
   .obtain⟨m₂,B⟩:=hne hv
    exact dZ G A h o d hgo (.refl Wg u) (bk1 β) (tag':=.w2 (Vc j D)) (f':=m₂) ⟨z,by rw[hd];rfl,B⟩ n (b.reopen R trivial (by rw[N];rfl) (λvs e=>by cases e;omega)) (.inl ⟨θ.symm,ζ,nl _ (by simp),.inl (by simp only[phi]at ρ⊢;omega)⟩)
  .obtain⟨a',w',es,hgo,⟨rfl,rfl⟩,p⟩:=l u d
   refine dZ G A h o d hgo (.refl Wg _) (by simp) (tag':=.w1) (f':=m') ⟨z,hd,p⟩ n (b.reopen R trivial (by rw[N];rfl) (by simp)) (.inl ⟨θ.symm,ζ,nl _ (by simp),?_⟩);rcases y with⟨rfl,rfl⟩|rfl
   .exact .inr ⟨rfl,by omega⟩
   .exact .inl (by simp only[phi];omega)
 cases tag with
 |sp r s=>
  match r,s,hcs with
  |r,6,hcs=>
   obtain⟨I,z,hf,hd,hs⟩:r<=nW/\j=nW-r/\f0=0/\d0=0/\Sr Q ty Wg V nV K An nW off vals r a u M₀:=by cases r<;>exact hcs
   have hs':aC Q true K (SrS Q ty Wg V nV K An nW off vals r) a u M₀:=by cases r<;>exact hs
   refine .inr ?_
   by_cases ε:∀az,bF K M₀ u az->SrS Q ty Wg V nV K An nW off vals r a az M₀
   .have hx:=ε u (bF.refl _ _ _)
    cases r with
    |zero=>
     obtain⟨m,hm⟩:=hx;exact ν (by omega) hd hm (.inr rfl)
    |succ r=>
     obtain⟨g',child,C,⟨m,hm⟩,O⟩:=hx;exact ξ (by omega) (by omega) hd C hm O (.inr rfl)
   .rcases hs'.cases with hx|⟨_,hx⟩
    .exact absurd hx ε
    obtain⟨g',u',es,hgo,E,ho'⟩:=hx u (bF.refl _ _ _)
    have κ:∀c,Grow M₀ u u' c->c<u'.heap.size:=λc hc=>by
     rcases hc with hc|⟨_,hc⟩
     .exact ZO (H.mY c hc).1 E.size
     .exact hc
    have α:=ZO H.wg H.size
    refine sStep G A h o hgo (W:=M₀) ⟨E.tape,E.os,E.output,E.size,E.keep⟩ (λc hc hm=>by have:=(H.mY c hm).2;have:=(H.kin c hc).1;omega) (λi' hi' c hc hm=>H.dis0 i' hi' c hc hm) (λc hc _ _ hm=>by have:=(H.mY c hm).2;omega)
     (M':=Grow M₀ u u') (λc hc=>hc) (λe he x hx=>.inr ((E.evs e he).touch hx).2.2) (λe he=>((E.evs e he).marks).2.2 _) (λe he=>(E.evs e he).low (λc hc=>ZO (H.kin c hc).1 (ZP H.size E.size)) κ)
     (λhm=>by have:=(H.mY V hm).2;have:=H.v;omega) (tag':=.sp r 6) (f':=0) ?_ d (n.of_block (E.keep Wg α λhm=>by have:=(H.mY Wg hm).2;have:=H.wg;omega)) b (.inr ⟨r,I,rfl,.inl ⟨rfl,rfl,.inr (.inr (.inr ⟨rfl,rfl,?_,u,es,bF.refl _ _ _,?_,rfl⟩))⟩⟩)
    .have e:deafBehind d0 es=0:=by rw[hd];exact deafBehind_idle (λe he=>⟨(E.evs e he).marks.1,(E.evs e he).marks.2.1⟩) 0
     rw[e];have hs2:Sr Q ty Wg V nV K An nW off vals r g' u' (Grow M₀ u u'):=by cases r<;>exact ho'
     cases r<;>exact⟨I,z,rfl,rfl,hs2⟩
    .intro Ω
     refine ε λaz T=>?_
     have:=Ω az T;have e0:¬nW+r<nW:=(by omega);simp only[cB,if_neg e0,Nat.add_sub_cancel_left]at this;exact this
    .have e1:dI nW (nW+r)=true:=decide_eq_true (by omega)
     rw[e1];exact hgo
  |r+1,5,hcs=>
   obtain⟨I,z,hd,g',child,C,hm,O⟩:=hcs;exact .inr (ξ I z hd C hm O (.inl ⟨rfl,rfl⟩))
  |r+1,4,hcs=>
   obtain⟨I,z,hd,g',child,C,F,O⟩:=hcs;refine .inr ?_;rcases Goes.cases F with f|⟨m',rfl,l⟩
   .obtain⟨_,J⟩:=f u d
    obtain⟨ho,rfl,rfl,_⟩:=b.open_inv trivial;obtain⟨a',hgo,m₂,B⟩:=J (Vc j D) (by omega) (by simpa[pend] using n);have Y:Aside Wg u (u.setCell (stA Wg) (.int .u64 (((Vc j D:Nat)+1)*KK))):=aside_setCell u (stA Wg) _;refine dZ G A h o d hgo Y γ (tag':=.sp (r+1) 3) (f':=m₂) ⟨I,z,by rw[hd];rfl,g',child,C,B,λaz T=>O az (bF.trans ?_ T)⟩ (n.setSt _) ?_ (.inl ⟨rfl,nl _ (by simp),nl _ (by simp),.inl (by simp only[phi];omega)⟩)
    .exact⟨Y.tape,Y.os,Y.output,Nat.le_of_eq Y.size.symm,λc hc _=>Y.block c λe=>by
      subst e;rcases hc with hc|hc
      .have:=(H.mY _ hc).2;have:=H.wg;omega
      .exact(H.kin _ hc).2.2.1 rfl⟩
    .have e:(((Vc j D:Nat):Int)+1)*KK=((Vc j D+pend (.sp (r+1) 3):Nat):Int)*KK:=by simp[pend]
     exact .opn trivial ho (by simp)
   .obtain⟨a',w',es,hgo,⟨rfl,rfl⟩,p⟩:=l u d
    exact dZ G A h o d hgo (.refl Wg _) (by simp) (tag':=.sp (r+1) 4) (f':=m') ⟨I,z,hd,g',child,C,p,O⟩ n b (.inl ⟨rfl,nl _ (by simp),nl _ (by simp),.inr ⟨rfl,by omega⟩⟩)
  |r+1,3,hcs=>
   obtain⟨I,z,hd,g',child,C,F,O⟩:=hcs;refine .inr ?_;rcases Goes.cases F with f|⟨m',rfl,l⟩
   .rcases f u d with⟨_,a',hgo,m₂,B⟩|⟨_,a',hgo,m₂,B⟩
    .exact dZ G A h o d hgo (.refl Wg u) (bk1 (.inr (.inl rfl))) (tag':=.sp (r+1) 2) (f':=m₂) ⟨I,z,by rw[hd];rfl,g',child,C,B,O⟩ n (b.reopen trivial trivial rfl (by simp)) (.inl ⟨rfl,nl _ (by simp),nl _ (by simp),.inl (by simp only[phi];omega)⟩)
    .exact dZ G A h o d hgo (.refl Wg u) (bk1 μ) (tag':=.sp (r+1) 1) (f':=m₂) ⟨I,z,by rw[hd];rfl,g',child,C,B,O⟩ n (b.reopen trivial trivial rfl (by simp)) (.inl ⟨rfl,nl _ (by simp),nl _ (by simp),.inl (by simp only[phi];omega)⟩)
   .obtain⟨a',w',es,hgo,⟨rfl,rfl⟩,p⟩:=l u d
    exact dZ G A h o d hgo (.refl Wg _) (by simp) (tag':=.sp (r+1) 3) (f':=m') ⟨I,z,hd,g',child,C,p,O⟩ n b (.inl ⟨rfl,nl _ (by simp),nl _ (by simp),.inr ⟨rfl,by omega⟩⟩)
  |r+1,2,hcs=>
   obtain⟨I,z,hd,g',child,C,F,O⟩:=hcs;refine .inr ?_;rcases Goes.cases F with f|⟨m',rfl,l⟩
   .obtain⟨_,a',hgo,m₂,B⟩:=f u d
    exact dZ G A h o d hgo (.refl Wg u) (bk1 μ) (tag':=.sp (r+1) 1) (f':=m₂) ⟨I,z,by rw[hd];rfl,g',child,C,B,O⟩ n (b.reopen trivial trivial rfl (by simp)) (.inl ⟨rfl,nl _ (by simp),nl _ (by simp),.inl (by simp only[phi];omega)⟩)
   .obtain⟨a',w',es,hgo,⟨rfl,rfl⟩,p⟩:=l u d
    exact dZ G A h o d hgo (.refl Wg _) (by simp) (tag':=.sp (r+1) 2) (f':=m') ⟨I,z,hd,g',child,C,p,O⟩ n b (.inl ⟨rfl,nl _ (by simp),nl _ (by simp),.inr ⟨rfl,by omega⟩⟩)
  |r+1,1,hcs=>
   obtain⟨I,z,hd,g',child,C,F,O⟩:=hcs;refine .inr ?_;rcases Goes.cases F with f|⟨m',rfl,l⟩
   .obtain⟨_,Φ⟩:=f u d
    obtain⟨h4,h5⟩:=O u (bF.refl _ _ _);subst z hd;exact sFork G A I h n b Φ h4 h5
   .obtain⟨a',w',es,hgo,⟨rfl,rfl⟩,p⟩:=l u d
    exact dZ G A h o d hgo (.refl Wg _) (by simp) (tag':=.sp (r+1) 1) (f':=m') ⟨I,z,hd,g',child,C,p,O⟩ n b (.inl ⟨rfl,nl _ (by simp),nl _ (by simp),.inr ⟨rfl,by omega⟩⟩)
  |r+1,0,hcs=>exact hcs.elim
  |r+1,s+7,hcs=>exact hcs.elim
  |0,0,hcs=>exact hcs.elim
  |0,1,hcs=>exact hcs.elim
  |0,2,hcs=>exact hcs.elim
  |0,3,hcs=>exact hcs.elim
  |0,4,hcs=>exact hcs.elim
  |0,5,hcs=>exact hcs.elim
  |0,s+7,hcs=>exact hcs.elim
 |kd=>exact .inr (ν hcs.1 hcs.2.1 hcs.2.2 (.inl ⟨rfl,rfl⟩))
 |anch=>
  obtain⟨z,hd,F⟩:=hcs;refine .inr ?_;rcases Goes.cases F with f|⟨m',rfl,l⟩
  .obtain⟨m₂,B⟩:=hAn a u d (f u d)
   exact load z hd B (.inr rfl)
  .obtain⟨a',w',es,hgo,⟨rfl,rfl⟩,p⟩:=l u d
   exact dZ G A h o d hgo (.refl Wg _) (by simp) (tag':=.anch) (f':=m') ⟨z,hd,p⟩ n b (.inl ⟨rfl,nl _ (by simp),nl _ (by simp),.inr ⟨rfl,by omega⟩⟩)
 |w1=>exact .inr (load hcs.1 hcs.2.1 hcs.2.2 (.inl ⟨rfl,rfl⟩))
 |w2 vs=>
  obtain⟨z,hd,F⟩:=hcs;refine .inr ?_;rcases Goes.cases F with f|⟨m',rfl,l⟩
  .obtain⟨_,J⟩:=f u d
   obtain⟨ho,rfl,rfl,Δ⟩:=b.open_inv trivial;obtain⟨hle,C⟩:=Δ vs rfl;obtain⟨υ,η⟩:=J (Vc j D) (by omega) (by simpa[pend] using n)
   by_cases e:Vc j D=vs
   .obtain⟨a',hgo,m₂,B⟩:=υ e
    exact dZ G A h o d hgo (aside_setCell u (stA Wg) _) γ (tag':=.w3) (f':=m₂+102) ⟨z,by rw[hd];rfl,.inl ⟨m₂,rfl,B⟩⟩ (n.setSt _) (.reg trivial ho (by omega)) (.inl ⟨rfl,nl _ (by simp),nl _ (by simp),.inl (by simp only[phi];omega)⟩)
   .obtain⟨a',hgo,m₂,B⟩:=η e
    exact dZ G A h o d hgo (.refl Wg u) (bk1 β) (tag':=.anch) (f':=m₂) ⟨z,by rw[hd];rfl,B⟩ n (b.reopen trivial trivial rfl (by simp)) (.inl ⟨rfl,nl _ (by simp),nl _ (by simp),.inl (by simp only[phi];omega)⟩)
  .obtain⟨a',w',es,hgo,⟨rfl,rfl⟩,p⟩:=l u d
   exact dZ G A h o d hgo (.refl Wg _) (by simp) (tag':=.w2 vs) (f':=m') ⟨z,hd,p⟩ n b (.inl ⟨rfl,nl _ (by simp),nl _ (by simp),.inr ⟨rfl,by omega⟩⟩)
 |w3=>
  obtain⟨z,hd,hcs⟩:=hcs;refine .inr ?_;rcases hcs with⟨m,hf,F⟩|⟨m,hf,F⟩
  .rcases Goes.cases F with f|⟨m',rfl,l⟩
   .obtain⟨_,a',hgo,B⟩:=f u d
    exact dZ G A h o d hgo (.refl Wg u) (bk1 (.inr (.inr rfl))) (tag':=.w3) (f':=100+1) ⟨z,by rw[hd];rfl,.inr ⟨100,rfl,B⟩⟩ n b (.inl ⟨rfl,nl _ (by simp),nl _ (by simp),.inr ⟨rfl,by omega⟩⟩)
   .obtain⟨a',w',es,hgo,⟨rfl,rfl⟩,p⟩:=l u d
    exact dZ G A h o d hgo (.refl Wg _) (by simp) (tag':=.w3) (f':=m'+102) ⟨z,hd,.inl ⟨m',rfl,p⟩⟩ n b (.inl ⟨rfl,nl _ (by simp),nl _ (by simp),.inr ⟨rfl,by omega⟩⟩)
  .rcases Goes.cases F with f|⟨m',rfl,l⟩
   .obtain⟨_,σ,ψ,δ⟩:=f u d
    have Z:ConcN.Mode j D .blk st sm->∃m₁ ops U,runT Q (crowd gs u sl) 0=(.next m₁,ops)/\
     VR2 Q ty Wg V nV nW K off vals An U (cv nW base aL .w3 j lv M M₀ gs u,(phi nW (Vc j D) .w3+Ssum j D,f0+2*Fsum j D+2*sumTo (base+1) q))/\
     ng Q ty S Wg V nV base nW K off vals zero aL gE An U m₁ (t++ops):=λhm=>by
     have Ψ:sm=0:=by
      cases hm with
      |opn C _ _=>exact C.elim
      |reg _ _ _=>rfl
      |last _ _ _ _ _=>rfl
      |fin C _=>exact C.elim
     subst Ψ;exact dZ G A h o d (ψ ⟨_,n⟩) (.refl Wg _) (by simp) (tag':=.blk) (f':=0) ⟨z,hd,rfl,a,rfl,σ,λw hw=>f w hw⟩ n hm (.inl ⟨rfl,nl _ (by simp),nl _ (by simp),.inr ⟨rfl,by omega⟩⟩)
    cases b with
    |opn C _ _=>exact C.elim
    |reg C h2 O=>exact Z (.reg trivial h2 O)
    |last L C h2 O h4=>exact Z (.last L trivial h2 O h4)
    |sema h2=>
     obtain⟨a',hgo,m₂,B⟩:=δ n;exact dZ G A h o d hgo (aside_setCell u (smA Wg) _) (λx hx=>.inl (bk_sem x hx)) (tag':=.w4) (f':=m₂) ⟨z,by rw[hd];simp[deafBehind,semEvents],B⟩ (n.setSm 0) (.fin trivial h2) (.inl ⟨rfl,nl _ (by simp),nl _ (by simp),.inl (by simp only[phi];omega)⟩)
    |fin C _=>exact C.elim
   .obtain⟨a',w',es,hgo,⟨rfl,rfl⟩,p⟩:=l u d
    exact dZ G A h o d hgo (.refl Wg _) (by simp) (tag':=.w3) (f':=m'+1) ⟨z,hd,.inr ⟨m',rfl,p⟩⟩ n b (.inl ⟨rfl,nl _ (by simp),nl _ (by simp),.inr ⟨rfl,by omega⟩⟩)
 |blk=>
  obtain⟨_,_,_,g,rfl,_⟩:=hcs;simp at ο
 |w4=>
  obtain⟨z,hd,F⟩:=hcs;refine .inr ?_;rcases Goes.cases F with f|⟨m',rfl,l⟩
  .obtain⟨_,hx⟩:=f u d
   obtain⟨hq,rfl,rfl⟩:=b.fin_inv trivial;obtain⟨a',hgo,m₂,B⟩:=hx n;exact dZ G A h o d hgo (.refl Wg u) (bk1 β) (tag':=.ke) (f':=m₂) ⟨z,by rw[hd];rfl,B⟩ n (.fin trivial hq) (.inl ⟨rfl,nl _ (by simp),nl _ (by simp),.inl (by simp only[phi];omega)⟩)
  .obtain⟨a',w',es,hgo,⟨rfl,rfl⟩,p⟩:=l u d
   exact dZ G A h o d hgo (.refl Wg _) (by simp) (tag':=.w4) (f':=m') ⟨z,hd,p⟩ n b (.inl ⟨rfl,nl _ (by simp),nl _ (by simp),.inr ⟨rfl,by omega⟩⟩)
 |ke=>
  obtain⟨z,hd,F⟩:=hcs;refine .inr ?_;rcases Goes.cases F with f|⟨m',rfl,l⟩
  .obtain⟨_,a',hgo,m₂,B⟩:=f u d
   obtain⟨hq,rfl,rfl⟩:=b.fin_inv trivial;exact dZ G A h o d hgo (.refl Wg u) (bk1 μ) (tag':=.acq) (f':=m₂) ⟨z,by rw[hd];rfl,B⟩ n (.fin trivial hq) (.inl ⟨rfl,nl _ (by simp),nl _ (by simp),.inl (by simp only[phi];omega)⟩)
  .obtain⟨a',w',es,hgo,⟨rfl,rfl⟩,p⟩:=l u d
   exact dZ G A h o d hgo (.refl Wg _) (by simp) (tag':=.ke) (f':=m') ⟨z,hd,p⟩ n b (.inl ⟨rfl,nl _ (by simp),nl _ (by simp),.inr ⟨rfl,by omega⟩⟩)
 |acq=>
  obtain⟨z,hd,F⟩:=hcs;rcases Goes.cases F with f|⟨m',rfl,l⟩
  .obtain⟨_,gF,hgF,hgo⟩:=f u d
   obtain⟨hq,rfl,rfl⟩:=b.fin_inv trivial;refine .inl ⟨_,_,runT_crowd_go (P:=Q) (sl:=sl) (i:=0) A (by simpa using hgo),?_⟩;have Ξ:=h.size;have α:=ZO H.wg H.size
   have X:=h.starter G (g:=a) (g':=gF) (fn:=a.frame.fn) (pos:=a.frame.place) (es:= #[mk (.acquire (stA Wg))]) (W:=λ_=>False) (u':=u) ⟨rfl,rfl,rfl,ZL _,λ_ _ _=>rfl⟩ (λ_ _ h=>h) (λ_ _ _ _ h=>h) (λ_ _ _ _ h=>h) (M':=M₀) (λc hc=>.inl hc)
     (λe he x hx=>by rw[Array.mem_singleton.1 he]at hx;cases hx) (λe he=>by rw[Array.mem_singleton.1 he];simp[mk]) (λe he=>by rw[Array.mem_singleton.1 he];exact α) (λh=>h) d d
   have e1:MemOp.ofEvents 0 a.frame.fn a.frame.place #[mk (.acquire (stA Wg))]= #[{g:=0,fn:=a.frame.fn,pos:=a.frame.place,act:=.mark (.acquire (stA Wg))}]:=(by rw[ofEvents_eq];simp[ofEvent_mk]);have hy:(t++ #[({g:=0,fn:=a.frame.fn,pos:=a.frame.place,act:=.mark (.acquire (stA Wg))}:MemOp)])[t.size]? =some {g:=0,fn:=a.frame.fn,pos:=a.frame.place,act:=.mark (.acquire (stA Wg))}:=(by simp)
   have τ:=X.ti.join (q:=t.size) (by rw[e1,act?_of hy]) (by rw[e1];simp[Trace.g?]) (by rw[e1];exact⟨0,by simp[Trace.g?],by rw[deaf_old (ZL _)];exact h.deaf0.trans hd⟩) (λg g1 g2=>by
     obtain⟨i,rfl⟩:∃i,g=base+1+i:=⟨g-base-1,by omega⟩;obtain⟨r,I⟩:=h.rel i (by omega) (by rw[hq i (by omega)];omega);exact⟨r,I.appOther g_of_ofEvents (by omega),lt_of_act? I.act⟩)
   have Γ:∀i,i<j->lv i=false:=λi hi=>by
     obtain⟨g,_,hw⟩:=h.wk i hi;have:=hq i hi;rcases hw with⟨_,h7,_⟩|⟨hl,_⟩|⟨hl,_⟩
     .omega
     .exact hl
     .exact hl
   obtain⟨cs,c1,c2,c3,c4⟩:=h.row
   refine⟨_,u,sl,λk=>if k<=base then q k else(D (k-base-1)).fuel,cs,rfl,⟨gF,get_map_set_same _ _ _ (by omega),hgF⟩,d,⟨?_,by rw[jv];omega,τ.2,?_,X.ti.tk.low,?_,λk g k1 hg=>?_⟩,H.tape,H.os,H.output,H.size,H.keep,c1,c2,λi hi=>c3 i (by omega) (Γ i (by omega)),
     λx hx J=>c4 x hx λi hi _=>J i (by omega)⟩
   .rw[jv,Ξ,show base+1+j-1=base+j by omega]
    exact τ.1
   .rw[X.deaf0,hd];rfl
   .rintro c (hc|rfl)
    .exact ZO (H.sh c hc).1 H.size
    .exact α
   .have hlt:k<gs.size:=by have:=(ZK.1 hg).1;simpa using this
    by_cases ι:k<=base
    .simp only[if_pos ι]
     exact X.old k g k1 ι hg
    .simp only[if_neg ι]
     obtain⟨i,rfl⟩:∃i,k=base+1+i:=⟨k-base-1,by omega⟩;have hi:i<j:=(by omega);obtain⟨g2,φ,hw⟩:=X.wk i hi;rw[hg]at φ;obtain rfl:=Option.some.inj φ;rw[show base+1+i-base-1=i by omega,X.deafW i hi];have C:=hq i hi;rcases hw with⟨_,h7,_⟩|⟨_,h7,_⟩|⟨_,_,hw⟩
     .omega
     .omega
     .exact hw.quits C
  .obtain⟨a',w',es,hgo,⟨rfl,rfl⟩,p⟩:=l u d
   exact .inr (dZ G A h o d hgo (.refl Wg _) (by simp) (tag':=.acq) (f':=m') ⟨z,hd,p⟩ n b (.inl ⟨rfl,nl _ (by simp),nl _ (by simp),.inr ⟨rfl,by omega⟩⟩))
 |ret=>exact hcs.elim
end
end
