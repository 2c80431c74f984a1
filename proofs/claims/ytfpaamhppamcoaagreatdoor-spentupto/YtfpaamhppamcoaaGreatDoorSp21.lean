/- Part 21 of the proof. -/
import Derived.Test.YtfpaamhppamcoaaGreatDoorSp20
import Derived.Conc.WalkWords
import Derived.Conc.DeferLaws
set_option linter.all false
namespace Go.Proofs.YtfpaamhppamcoaaGreatDoor
open Go.Proofs.Tryz
section
open Go Go.Conc Go.ConcN
open Go.ConcR (KK wgBlock WgAt stA smA rd wr mk Payload DC0 Bk g_of_ofEvents again_blocked bk_of_mute ofEvent_loc_mark ofEvent_mk)
theorem run_acc2 {P}{α}{r}(Inv:α->Machine->Trace->Prop)(Goal:Machine->Trace->Prop)
 (h:∀b m t,Inv b m t->(∃m' ops,stepT P m=(.next m',ops)/\Goal m' (t++ops))\/∃m' ops a,stepT P m=(.next m',ops)/\r a b/\Inv a m' (t++ops)):
 ∀b,Acc r b->∀m t,Inv b m t->∃n m' c,runNT P n m t=(.next m',c)/\Goal m' c:=by
 intro b e
 induction e with
 |intro b _ g=>
  intro m t k;rcases h b m t k with⟨m',ops,hs,j⟩|⟨m',ops,a,hs,i,f⟩
  .exact⟨1,m',t++ops,by rw[runNT_succ_next hs];rfl,j⟩
  .obtain⟨n,d,c,o,l⟩:=g a i m' (t++ops) f
   exact⟨n+1,d,c,by rw[runNT_succ_next hs];exact o,l⟩
section
variable [Payload]
variable {Q:Program}{ty:TypeId}{S:Nat->Prop}{Wg V nV base nW:Nat}{K:Nat->Prop}{off:Nat->Nat}{vals:Nat->List Value}{zero:Nat->Value}{aL u:World}{j:Nat}{M:Nat->Nat->Prop}{M₀:Nat->Prop}{t:Trace}
 {gs:Array Goroutine}{D:Nat->WD}{lv:Nat->Bool}{q:Nat->Nat}{d0:Nat}{gE:Goroutine->Prop}{An:Goroutine->World->Prop}{tag:CTag}{f0:Nat}{a:Goroutine}{st sm:Int}{sl:Option (Nat×Nat)}
theorem Wk.awake {o}{vs}{l}{d}{N}{g}(a:WgLive ty Wg u)(h:Wk Q ty Wg V nV K o vs l d N g u)(hs:d.stage≠1):g.status=.running:=by
 rcases h with⟨_,_,_,h⟩|⟨_,_,_,h⟩|⟨_,_,h⟩
 .rcases h.cases with h|h
  .exact(h u (bF.refl _ _ _)).1
  .exact h.1
 .exact Goes.running (λ_ _ x=>x.1) u a h
 .exact h.running_of hs
theorem someone (e:∀g w,An g w->g.status=.running)(m:gs[0]? =some a)(hcs:CS Q ty Wg V nV K gE An nW off vals tag j f0 d0 a u M₀)(h:PI Q ty S Wg V nV base nW K off vals zero aL j gs u t D lv M M₀ q d0)(c:WgLive ty Wg u)(b:ConcN.Mode j D tag st sm):
 ∃(i:Nat) (g:Goroutine),gs[i]? =some g/\g.status=.running:=by
 rcases hcs.status e c with⟨hs,_⟩|⟨_,rfl⟩
 .exact⟨0,a,m,hs⟩
 .have key:∀i,i<j->(D i).stage≠1->∃(i:Nat) (g:Goroutine),gs[i]? =some g/\g.status=.running:=λi d hs=>by
   obtain⟨g,l,hw⟩:=h.wk i d;exact⟨_,g,l,hw.awake c hs⟩
  cases b with
  |opn f _ _=>exact f.elim
  |reg _ _ k=>
   obtain⟨i,d,o⟩:=exists_counted k;exact key i d (by omega)
  |last L _ n k _=>exact key L n (by omega)
  |fin f _=>exact f.elim
theorem all_up (f:∀g w,An g w->g.status=.running)(o:gs[0]? =some a)(hcs:CS Q ty Wg V nV K gE An nW off vals tag j f0 d0 a u M₀)(h:PI Q ty S Wg V nV base nW K off vals zero aL j gs u t D lv M M₀ q d0)(c:WgLive ty Wg u):∀g∈gs,awake g:=by
 intro g n;obtain⟨i,d⟩:=Array.mem_iff_getElem?.1 n;have m:i<gs.size:=(ZK.1 d).1;have l:=h.size;rcases Nat.eq_zero_or_pos i with rfl|b
 .rw[o]at d;cases d
  rcases hcs.status f c with⟨hs,_⟩|⟨hs,_⟩<;>(intro p;rw[hs];simp)
 .by_cases hb:i<=base
  .exact awake_of ((h.old i g b hb d).status.elim .inl λx=>.inr (.inr x))
  .obtain⟨k,rfl⟩:∃k,i=base+1+k:=⟨i-base-1,by omega⟩
   obtain⟨g',e,hw⟩:=h.wk k (by omega);rw[d]at e;cases e;exact awake_of ((hw.running c).elim .inl λx=>.inr (.inr x))
theorem phase_step (G:pg nV nW off vals)(p:∀g w,An g w->g.status=.running)(R:∀g w,WgLive ty Wg w->An g w->∃m,Goes Q true (RL ty Wg) DC0 (TW1 Q ty Wg gE An) m g w):
 ∀x m t,ng Q ty S Wg V nV base nW K off vals zero aL gE An x m t->(∃m' ops,stepT Q m=(.next m',ops)/\PGoal Q ty S Wg V nV nW off vals zero aL gE m' (t++ops))\/
  ∃m' ops c,stepT Q m=(.next m',ops)/\VR2 Q ty Wg V nV nW K off vals An c x/\ng Q ty S Wg V nV base nW K off vals zero aL gE An c m' (t++ops):=by
 rintro x m t ⟨gs,u,sl,j,D,lv,M,M₀,q,tag,f0,d0,a,st,sm,rfl,C,hcs,h,E,b,B,rfl⟩;have o:WgLive ty Wg u:=⟨_,_,E⟩;obtain⟨i,g,d,v,H,l,A⟩:=crowd_pick (P:=Q) (w:=u) (sl:=sl) (all_up p C hcs h o) (someone p C hcs h o b);rw[A];have L:∀N,bF K N u (u.at d):=λN=>⟨rfl,rfl,rfl,ZL _,λ_ _ _=>rfl⟩
 have n:=hcs.rely (L M₀) (show WgLive ty Wg (u.at d)from o);have T:=h.at o d;have f:WgAt ty Wg (u.at d) st sm:=E
 have conv:∀c,VR2 Q ty Wg V nV nW K off vals An c (cv nW base aL tag j lv M M₀ gs (u.at d),(phi nW (Vc j D) tag+Ssum j D,f0+2*Fsum j D+2*sumTo (base+1) q))->
  VR2 Q ty Wg V nV nW K off vals An c (cv nW base aL tag j lv M M₀ gs u,(phi nW (Vc j D) tag+Ssum j D,f0+2*Fsum j D+2*sumTo (base+1) q)):=by
  intro c hx
  have hm:∀k,CMov K (cv nW base aL tag j lv M M₀ gs (u.at d) k) (cv nW base aL tag j lv M M₀ gs u k):=λk=>
   cvMov (λ_ _=>⟨rfl,λ_=>⟨rfl,rfl,L _⟩⟩) λ_=>⟨rfl,rfl,λ_=>⟨rfl,rfl,L _⟩⟩
  have tr:∀{x y z:Cmp},CMov K z y->CMov K y x->CMov K z x:=by
   rintro x y z (rfl|⟨W,a2,a3,a4,a5⟩) s
   .exact s
   .rcases s with rfl|⟨b1,b2,b3,U,b5⟩
    .exact .inr ⟨W,a2,a3,a4,a5⟩
    .exact .inr ⟨W.trans b1,a2.trans b2,a3.trans b3,a4.trans U,b5.trans (by rw[U]at a5;exact a5)⟩
  exact⟨λk O=>(hx.1 k O).imp (λe=>tr e (hm k)) λr=>CMov.down _ _ _ (hm k) r,hx.2.imp (fun⟨k,O,r⟩=>⟨k,O,CMov.down _ _ _ (hm k) r⟩) id⟩
 rcases Nat.eq_zero_or_pos i with rfl|F
 .rw[C]at H;cases H
  rcases starterMoves (sl:=v) G R C n T B f b l with Z|⟨m₁,ops,c,J,s,I⟩
  .exact .inl Z
  .exact .inr ⟨m₁,ops,c,J,conv c s,I⟩
 .by_cases hb:i<=base
  .obtain⟨m₁,ops,c,J,s,I⟩:=lStep (sl:=v) G p C n T B f b F hb H l
   exact .inr ⟨m₁,ops,c,J,conv c s,I⟩
  .obtain⟨k,rfl⟩:∃k,i=base+1+k:=⟨i-base-1,by omega⟩
   have Y:base+1+k<gs.size:=(ZK.1 H).1;have X:=h.size;obtain⟨m₁,ops,c,J,s,I⟩:=workerMoves (sl:=v) G p C n T B f b (i:=k) (by omega) H l;exact .inr ⟨m₁,ops,c,J,conv c s,I⟩
theorem phaseP {B}(G:pg nV nW off vals)(T:∀g w,An g w->g.status=.running)(U:∀g w,WgLive ty Wg w->An g w->∃m,Goes Q true (RL ty Wg) DC0 (TW1 Q ty Wg gE An) m g w)
 (hF:ni Q S gs B t q)(Y:gs[0]? =some a)(X:Sr Q ty Wg V nV K An nW off vals nW a u (λ_=>False))(hB:B<=Wg)(M:Wg<u.heap.size)(hV:V<u.heap.size)(O:V≠Wg)(P:¬S V)
 (hK:∀c,K c->c<u.heap.size/\c≠V/\c≠Wg/\¬S c)(C:WgAt ty Wg u 0 0){cs}(L:u.heap[V]? =some (.cells cs Payload.ety))(J:cs.size=nV)(I:∀x,x<nV->cs[x]? =some (zero x)):
 ∃N m' W,runNT Q N (crowd gs u sl) t=(.next m',W)/\PGoal Q ty S Wg V nV nW off vals zero u gE m' W:=by
 obtain⟨base,f⟩:∃base,gs.size=base+1:=⟨gs.size-1,by have:=hF.pos;omega⟩;have z:=hF.ct;rw[f,Nat.add_sub_cancel]at z
 have fresh:∀i x,touchAt t i=some x->∀ad,x.loc=.cell ad->ad.block<B:=λi x hx ad hl=>by
  obtain⟨op,d,s⟩:=touch_of hx;obtain⟨c,hc,rfl⟩:=touched_low (N:=λc=>c=ad.block) (hF.low op (mem_of_getElem? d)) s ⟨_,.inr ⟨ad,hl,rfl⟩,rfl⟩;exact hc
 have p:∀l,ShB S l->ShB (λc=>S c\/c=Wg) l:=λl ⟨ad,h1,A⟩=>⟨ad,h1,.inl A⟩
 have n:CT (ShB λc=>S c\/c=Wg) (OwnF base V nW off vals (λ_ _=>False)) (RdF base K) t (base+0):=by
  refine CT.fam (CT.shun z p λl hl=>?_) (λk _ kb l hl=>absurd hl.1 (by omega)) (λk _ _ l hl=>hl.elim) (λk _ kb l=>⟨λhl=>absurd hl.1 (by omega),λhl=>hl.elim⟩);obtain⟨ad,rfl,A|A⟩:=hl
  .exact .inl ⟨ad,rfl,A⟩
  .refine .inr λi x hx hl=>?_
   have:=fresh i x hx ad hl;omega
 have R:PI Q ty S Wg V nV base nW K off vals zero u 0 gs u t (λ_=>⟨0,0,0⟩) (λ_=>false) (λ_ _=>False) (λ_=>False) q 0:=by
  refine⟨f,⟨n,⟨λi x hx hs=>.inl (n.free x.loc hs (λk _ kb=>⟨λh=>absurd h.1 (by omega),λh=>absurd h.1 (by omega)⟩) i x hx rfl),λi g H F hc=>.inl (hF.over i g H F hc),λi e=>?_,λop d=>MemAct.low_mono (by omega) (hF.low op d)⟩⟩,
   ⟨rfl,rfl,rfl,ZL _,λ_ _ _ _=>rfl,hV,M,O,hK,λc hc=>⟨by have:=hF.sh c hc;omega,λe=>P (e▸hc),by have:=hF.sh c hc;omega⟩,λi b=>absurd b (ZV _),λc hc=>hc.elim,λi i' b=>absurd b (ZV _),λi b=>absurd b (ZV _),λ_ _ _ h=>h⟩,
   ⟨cs,L,J,λi b=>absurd b (ZV _),λx hx _=>I x hx⟩,λi g Z _ H=>hF.old i g Z H,hF.hears,λi b=>absurd b (ZV _),λi b=>absurd b (ZV _),λi b=>absurd b (ZV _)⟩
  obtain⟨op,d,E⟩:=Option.map_eq_some_iff.1 (show(t[i]?).map (·.act)=_ from e);have v:=hF.low op (mem_of_getElem? d);rw[E]at v;have:Wg<B:=v;omega
 have hm:ConcN.Mode 0 (λ_=>(⟨0,0,0⟩:WD)) (.sp nW 6) 0 0:=by
  have:=ConcN.Mode.opn (j:=0) (D:=λ_=>(⟨0,0,0⟩:WD)) (tag:=.sp nW 6) trivial (λi b=>absurd b (ZV _)) (by simp);simpa[Vc,sumTo,pend] using this
 have hcs:CS Q ty Wg V nV K gE An nW off vals (.sp nW 6) 0 0 0 a u (λ_=>False):=by
  have:nW<=nW/\0=nW-nW/\0=0/\0=0/\Sr Q ty Wg V nV K An nW off vals nW a u (λ_=>False):=⟨ZL _,by omega,rfl,rfl,X⟩;cases nW<;>exact this
 have hI:ng Q ty S Wg V nV base nW K off vals zero u gE An (cv nW base u (.sp nW 6) 0 (λ_=>false) (λ_ _=>False) (λ_=>False) gs u,(phi nW (Vc 0 λ_=>(⟨0,0,0⟩:WD)) (.sp nW 6)+Ssum 0 λ_=>(⟨0,0,0⟩:WD),0+2*Fsum 0 (λ_=>(⟨0,0,0⟩:WD))+2*sumTo (base+1) q)) (crowd gs u sl) t:=
  ⟨gs,u,sl,0,_,_,_,_,q,.sp nW 6,0,0,a,0,0,rfl,Y,hcs,R,C,hm,Nat.zero_le _,rfl⟩
 refine run_acc2 (r:=VR2 Q ty Wg V nV nW K off vals An) (ng Q ty S Wg V nV base nW K off vals zero u gE An) (PGoal Q ty S Wg V nV nW off vals zero u gE) (phase_step G T U) _ (acc_vec (Prod.lex Nat.lt_wfRel Nat.lt_wfRel).wf CMov.down _ _ λk hk=>?_) _ _ hI;show Acc _ (cv nW base u (.sp nW 6) 0 (λ_=>false) (λ_ _=>False) (λ_=>False) gs u k)
 unfold cv
 by_cases o:k<nW
 .rw[if_pos o,if_pos (Nat.zero_le _)]
  exact acc_new _ rfl
 .rw[if_neg o]
  by_cases y:k-nW<nW
  .rw[if_pos (show k-nW<lvl (.sp nW 6)from y)]
   exact acc_new _ rfl
  .obtain rfl:k=nW+nW:=by omega
   rw[if_neg (show ¬nW+nW-nW<lvl (.sp nW 6)from y),Nat.add_sub_cancel_left,if_pos (show fF (.sp nW 6) nW=true by simp[fF]),Y];refine acc_live _ rfl ?_;show aC Q (dI nW (nW+nW)) K (cB Q ty Wg V nV nW K off vals An (nW+nW)) a u (λ_=>False)
   have e1:dI nW (nW+nW)=true:=decide_eq_true (by omega);have e2:cB Q ty Wg V nV nW K off vals An (nW+nW)=SrS Q ty Wg V nV K An nW off vals nW:=(by unfold cB;rw[if_neg o,Nat.add_sub_cancel_left]);rw[e1,e2];cases nW<;>exact X
end
end
section
open Go Go.Conc Go.ConcN
open Go.ConcR (DC0)
section
variable {Q:Program}{main:Bool}{K:Nat->Prop}{S:Goroutine->World->(Nat->Prop)->Prop}{g g':Goroutine}{u:World}{M:Nat->Prop}
theorem Grow.self (M)(u):Grow M u u=M:=by
 funext c
 exact propext ⟨λh=>h.elim id λh=>absurd h.2 (by omega),.inl⟩
theorem Does.none (K M)(u):Does K M u u #[]:=⟨rfl,rfl,rfl,ZL _,λ_ _ _=>rfl,λe he=>by simp at he⟩
theorem Does.sub {u'}{es fs}(h:Does K M u u' es)(hs:∀e∈fs,e∈es):Does K M u u' fs:=⟨h.tape,h.os,h.output,h.size,h.keep,λe he=>h.evs e (hs e he)⟩
theorem aC.ctl (hs:g.status=.running)(h:∀az,stepG Q main g az=.go g' az #[])(k:aC Q main K S g' u M):aC Q main K S g u M:=
 aC.step hs λaz a=>⟨g',az,#[],h az,Does.none _ _ _,by rw[Grow.self];exact k.rely a⟩
section
variable {b:Frame}{a:Act}{k:List Item}{cs:List Frame}{ops:Array Oper}{i:Nat}{rest:List Nat}{o:Oper}
theorem aC.op (d:ops[i]? =some o)(hw:Region.wanted o (yielded ops a.tmps)=true)(f:b.kind≠.early)
 (h:∀az,bF K M u az->∃v u',(execOp a.eval o).run Q az=.ok (.value v) u'/\Does K M az u' ((execOp a.eval o).events Q az #[])/\aC Q main K S (G (b.at (a.put o.dst v) (.inRegion ops rest::k)) cs) u' (Grow M az u')):
 aC Q main K S (G (b.at a (.inRegion ops (i::rest)::k)) cs) u M:=
 aC.step rfl λaz c=>by
  obtain⟨v,u',l,j,g⟩:=h az c;exact⟨_,u',_,stepG_value d hw f l,j.sub λe he=>jF e he,g⟩
theorem aC.opSkip (d:ops[i]? =some o)(hw:Region.wanted o (yielded ops a.tmps)=true)(f:b.kind≠.early)
 (h:∀az,bF K M u az->∃u',(execOp a.eval o).run Q az=.ok .skip u'/\Does K M az u' ((execOp a.eval o).events Q az #[])/\aC Q main K S (G (b.at (a.put o.dst undef) (.inRegion ops rest::k)) cs) u' (Grow M az u')):
 aC Q main K S (G (b.at a (.inRegion ops (i::rest)::k)) cs) u M:=
 aC.step rfl λaz c=>by
  obtain⟨u',l,j,g⟩:=h az c;exact⟨_,u',_,stepG_none d hw f l,j.sub λe he=>jF e he,g⟩
theorem aC.pure (v)(d:ops[i]? =some o)(hw:Region.wanted o (yielded ops a.tmps)=true)(e:b.kind≠.early)
 (h:∀az,(execOp a.eval o).run Q az=.ok (.value v) az)(he:∀az,(execOp a.eval o).events Q az #[]= #[])(hc:aC Q main K S (G (b.at (a.put o.dst v) (.inRegion ops rest::k)) cs) u M):
 aC Q main K S (G (b.at a (.inRegion ops (i::rest)::k)) cs) u M:=
 aC.op d hw e λaz c=>⟨v,az,h az,by rw[he];exact Does.none _ _ _,by rw[Grow.self];exact hc.rely c⟩
end
theorem evP_ofM {S}{B}{N}{e}(he:EvM K N e)(f:∀c,N c\/K c->c<B/\¬S c):EvP S B e:=by
 rcases he with⟨c,hl,hs,hp⟩|⟨m,hm,rfl⟩
 .have hc:=f c (hp.imp id And.left)
  obtain⟨loc,wr,g⟩:=e;simp only at hs hl;subst hs;rcases hl with rfl|⟨a,rfl,rfl⟩
  .refine⟨λx hx=>?_,by simp,by simp,?_⟩
   .rintro⟨a,b,d⟩
    simp only[MemAct.ofEvent,MemAct.touch?,Option.some.injEq]at hx;subst hx;cases b
   .simp only[MemAct.ofEvent,MemAct.low];exact hc.1
  .refine⟨λx hx=>?_,by simp,by simp,?_⟩
   .rintro⟨a',b,d⟩
    simp only[MemAct.ofEvent,MemAct.touch?,Option.some.injEq]at hx;subst hx;cases b;exact hc.2 d
   .simp only[MemAct.ofEvent,MemAct.low];exact hc.1
 .cases m<;>first
   |exact hm.elim
   |(refine⟨λx hx=>?_,by simp,by simp,?_⟩
     .simp[MemAct.ofEvent,MemAct.touch?]at hx
     .simp[MemAct.ofEvent,MemAct.low])
structure Left (M M':Nat->Prop)(u u':World):Prop where
 tape:u'.tape=u.tape
 os:u'.os=u.os
 output:u'.output=u.output
 size:u.heap.size<=u'.heap.size
 keep:∀c,c<u.heap.size->¬M c->u'.heap[c]? =u.heap[c]?
 mine:∀c,M' c->M c\/(u.heap.size<=c/\c<u'.heap.size)
theorem Left.refl (M)(u):Left M M u u:=⟨rfl,rfl,rfl,ZL _,λ_ _ _=>rfl,λ_ h=>.inl h⟩
theorem Left.trans {M M' b}{u u' a}(h:Left M M' u u')(k:Left M' b u' a):Left M b u a:=
 ⟨k.tape.trans h.tape,k.os.trans h.os,k.output.trans h.output,ZP h.size k.size,λc hc hm=>(k.keep c (ZO hc h.size) λd=>(h.mine c d).elim hm λx=>absurd x.1 (by omega)).trans (h.keep c hc hm),
  λc hc=>(k.mine c hc).elim (λx=>(h.mine c x).imp id λy=>⟨y.1,ZO y.2 k.size⟩) λx=>.inr ⟨ZP h.size x.1,x.2⟩⟩
theorem drive0 {j}{St}{g}{u}{M}(h:aC Q true K St g u M):
 ∀(gs:Array Goroutine) (sl:Option (Nat×Nat)) (t:Trace) (q:Nat->Nat),ni Q j gs u.heap.size t q->gs[0]? =some g->(∀c,M c\/K c->c<u.heap.size/\¬j c)->
  ∃(N:Nat) (a:Array Goroutine) (g':Goroutine) (u':World) (b:Option (Nat×Nat)) (k:Trace) (m:Nat->Nat) (M':Nat->Prop),
   runNT Q N (crowd gs u sl) t=(.next (crowd a u' b),k)/\a[0]? =some g'/\St g' u' M'/\ni Q j a u'.heap.size k m/\Left M M' u u':=by
 refine h (λg u M=>∀(gs:Array Goroutine) (sl:Option (Nat×Nat)) (t:Trace) (q:Nat->Nat),ni Q j gs u.heap.size t q->gs[0]? =some g->(∀c,M c\/K c->c<u.heap.size/\¬j c)->
  ∃(N:Nat) (a:Array Goroutine) (g':Goroutine) (u':World) (b:Option (Nat×Nat)) (k:Trace) (m:Nat->Nat) (M':Nat->Prop),
   runNT Q N (crowd gs u sl) t=(.next (crowd a u' b),k)/\a[0]? =some g'/\St g' u' M'/\ni Q j a u'.heap.size k m/\Left M M' u u') ?_
 intro g u M w gs sl t q hF A l;rcases w with s|⟨J,w⟩
 .exact⟨0,gs,g,u,sl,t,q,M,rfl,A,s u (bF.refl _ _ _),hF,Left.refl _ _⟩
 .have v:∀d,bF K M u (u.at d):=λd=>⟨rfl,rfl,rfl,ZL _,λ_ _ _=>rfl⟩
  obtain⟨N,z,g1,u1,r,t1,I,V,G,T,F,⟨U,rfl,hl,L⟩,E⟩:=own0 (sl:=sl) (Stop:=λg' u' B'=>∃M',B'=u'.heap.size/\Left M M' u u'/\∀(gs:Array Goroutine) (sl:Option (Nat×Nat)) (t:Trace) (q:Nat->Nat),ni Q j gs u'.heap.size t q->gs[0]? =some g'->(∀c,M' c\/K c->c<u'.heap.size/\¬j c)->
   ∃(N:Nat) (a:Array Goroutine) (n:Goroutine) (f:World) (b:Option (Nat×Nat)) (k:Trace) (m:Nat->Nat) (o:Nat->Prop),
    runNT Q N (crowd gs u' sl) t=(.next (crowd a f b),k)/\a[0]? =some n/\St n f o/\ni Q j a f.heap.size k m/\Left M' o u' f) hF A J λd=>by
   obtain⟨g',u',es,R,i,P⟩:=w (u.at d) (v d);have hl:Left M (Grow M (u.at d) u') u u':=⟨i.tape,i.os,i.output,i.size,i.keep,λ_ x=>x⟩;refine⟨g',u',es,u'.heap.size,R,i.size,λe he=>evP_ofM (i.evs e he) λc hc=>?_,_,rfl,hl,P⟩;rcases hc with hc|hc
   .rcases hc with hc|hc
    .exact⟨ZO (l c (.inl hc)).1 i.size,(l c (.inl hc)).2⟩
    .refine⟨hc.2,λhs=>?_⟩
     have:=hF.sh c hs;have O:u.heap.size<=c:=hc.1;omega
   .exact⟨ZO (l c (.inr hc)).1 i.size,(l c (.inr hc)).2⟩
  obtain⟨S,y,g2,u2,p,t2,H,M2,s1,s2,D,C,B⟩:=L z r t1 I E F λc hc=>by
   rcases hc with hc|hc
   .rcases hl.mine c hc with hc|hc
    .exact⟨ZO (l c (.inl hc)).1 hl.size,(l c (.inl hc)).2⟩
    .refine⟨hc.2,λhs=>?_⟩
     have:=hF.sh c hs;omega
   .exact⟨ZO (l c (.inr hc)).1 hl.size,(l c (.inr hc)).2⟩
  exact⟨N+S,y,g2,u2,p,t2,H,M2,by rw[runNT_add,G];exact s1,s2,D,C,hl.trans B⟩
theorem goes0 {n}{R}(hR:∀w d,R w (w.at d)){St}:
 ∀(m:Nat) (g:Goroutine) (u:World) (gs:Array Goroutine) (sl:Option (Nat×Nat)) (t:Trace) (q:Nat->Nat),Goes Q true R DC0 St m g u->ni Q n gs u.heap.size t q->gs[0]? =some g->
  ∃(N:Nat) (a:Array Goroutine) (g':Goroutine) (d:Nat) (i:Option (Nat×Nat)) (l:Trace) (z:Nat->Nat),
   runNT Q N (crowd gs u sl) t=(.next (crowd a (u.at d) i),l)/\a[0]? =some g'/\St g' (u.at d)/\ni Q n a u.heap.size l z:=by
 intro m
 induction m with
 |zero=>exact λg u gs sl t q h hF b=>⟨0,gs,g,u.drawn,sl,t,q,rfl,b,h _ (hR u _),hF⟩
 |succ m A=>
  intro g u gs sl t q h hF b;rcases h with h|⟨B,h⟩
  .exact⟨0,gs,g,u.drawn,sl,t,q,rfl,b,h _ (hR u _),hF⟩
  .obtain⟨N,k,g1,u1,f,t1,y,H,v,G,s,⟨d,rfl,rfl,C⟩,r⟩:=own0 (sl:=sl) (Stop:=λg' u' B'=>∃d,u'=u.at d/\B'=u.heap.size/\Goes Q true R DC0 St m g' u') hF b B λd=>by
        obtain⟨g',w',es,E,⟨rfl,rfl⟩,D⟩:=goes_elim (h (u.at d) (hR u d));exact⟨g',_,_,u.heap.size,E,ZL _,λe he=>by simp at he,d,rfl,rfl,D⟩
   obtain⟨F,j,g2,d2,c,t2,x,s1,s2,p,o⟩:=A g1 (u.at d) k f t1 y C r s;exact⟨N+F,j,g2,d2,c,t2,x,by rw[runNT_add,v];exact s1,s2,p,o⟩
end
end
section
open Go Go.Conc
def regOps (c:Code):Array Oper:=match c with
 |.region _ ops _=>ops
 |_=> #[]
def split4 (c:Code):Code×Code×Code×Code:=match c with
 |.seq a (.seq b (.seq c d))=>(a,b,c,d)
 |c=>(c,c,c,c)
def O0 (f:Func):Array Oper:=regOps (split4 (f.body.getD .skip)).1
def O1 (f:Func):Array Oper:=regOps (split4 (f.body.getD .skip)).2.1
def O2 (f:Func):Array Oper:=regOps (split4 (f.body.getD .skip)).2.2.1
def O3 (f:Func):Array Oper:=regOps (split4 (f.body.getD .skip)).2.2.2
def H3 (f:Func):Array Oper:=(hands (O3 f).toList).toArray
abbrev R1 (f:Func):Code:=.region 1 (O1 f) true
abbrev R2 (f:Func):Code:=.region 2 (O2 f) true
abbrev R3 (f:Func):Code:=.region 3 (H3 f) true
abbrev RQ (f:Func):Code:=.region 3 (O3 f) true
theorem worker_body:f69.body=some (.seq (.region 0 (O0 f69) false) (.seq (R1 f69) (.seq (R2 f69) (RQ f69)))):=by kernel_rfl
theorem kr:(fD f69).body=some (.seq (R1 f69) (.seq (R2 f69) (R3 f69))):=by kernel_rfl
def endsOk (l:List Nat):Bool:=match l.reverse with
 |7::6::p=>p.contains 0&& !p.contains 6&& !p.contains 7
 |_=>false
def allEnd (md:Region.Mode)(ops:Array Oper):Nat->Array Bool->List Nat->Bool
 |0,_,acc=>endsOk acc.reverse
 |n+1,listed,acc=>if(Region.ready md ops listed).isEmpty then endsOk acc.reverse else(Region.ready md ops listed).all λi=>allEnd md ops n (listed.setIfInBounds i true) (i::acc)
theorem allEnd_ok {md}{ops}:∀(n t:Nat) (listed:Array Bool) (acc:List Nat),allEnd md ops n listed acc=true->endsOk (Region.linearise.go md ops n t listed acc)=true
 |0,_,_,_,h=>h
 |n+1,t,listed,acc,h=>by
  simp only[Region.linearise.go]
  change endsOk (match(Region.ready md ops listed)[t% (Region.ready md ops listed).length]? with
   |some i=>Region.linearise.go md ops n (t/ (Region.ready md ops listed).length) (listed.setIfInBounds i true) (i::acc)
   |none=>acc.reverse)=true
  unfold allEnd at h;cases d:(Region.ready md ops listed)[t% (Region.ready md ops listed).length]? with
  |none=>
   have a:Region.ready md ops listed=[]:=by
    cases b:Region.ready md ops listed with
    |nil=>rfl
    |cons x xs=>
     rw[b]at d;have e:t% (x::xs).length< (x::xs).length:=Nat.mod_lt _ (by simp);rw[List.getElem?_eq_none_iff]at d;omega
   rw[a]at h;simpa using h
  |some i=>
   have hm:=List.mem_of_getElem? d
   have c:(Region.ready md ops listed).isEmpty=false:=by
    cases b:Region.ready md ops listed with
    |nil=>rw[b]at hm;cases hm
    |cons x xs=>rfl
   rw[c]at h;simp only[Z0,if_false,ZU]at h;exact allEnd_ok n _ _ _ (h i hm)
theorem ends3 (md):allEnd md (H3 f69) 8 (Array.replicate 8 false) []=true:=by
 cases md<;>kernel_rfl
def Last (l:List Nat):Prop:=∃p,l=p++[6,7]/\0∈p/\6∉p/\7∉p
theorem last_of {l}(h:endsOk l=true):Last l:=by
 unfold endsOk at h;split at h
 .rename_i p hp
  have e:l=p.reverse++[6,7]:=by
   have:=congrArg List.reverse hp;simpa using this
  simp only[ZQ,List.contains_eq_mem,decide_eq_true_eq,Bool.not_eq_true',decide_eq_false_iff_not]at h;exact⟨_,e,by simpa using h.1.1,by simpa using h.1.2,by simpa using h.2⟩
 .cases h
theorem size3:(H3 f69).size=8:=by kernel_rfl
theorem schedule3 (m)(t):Last (Region.schedule m (H3 f69) t):=by
 have key:∀md t,Last (Region.linearise md (H3 f69) t):=λmd t=>by
  unfold Region.linearise;rw[size3];exact last_of (allEnd_ok _ _ _ _ (ends3 md))
 unfold Region.schedule;split
 .exact key _ _
 .split<;>exact key _ _
def okW (f:Func)(a y4 sl:Value)(x:List Item)(y:Array Value):Prop:=
 (y.size=26/\y.getD 0 undef=a/\y.getD 4 undef=y4)/\
 (x=[.code (.seq (R1 f) (.seq (R2 f) (R3 f)))]\/x=[.code (R1 f),.code (.seq (R2 f) (R3 f))]\/(∃l,x=[.inRegion (O1 f) l,.code (.seq (R2 f) (R3 f))])\/x=[.code (.seq (R2 f) (R3 f))]\/x=[.code (R2 f),.code (R3 f)]\/(∃l,x=[.inRegion (O2 f) l,.code (R3 f)])\/x=[.code (R3 f)]\/
    ∃l pre,x=[.inRegion (H3 f) l]/\Last (pre++l)/\6∈l/\(0∉l->y.getD 19 undef=sl))
def pvW (i:Nat):Bool:=i==0||i==4||i==19||i==25
theorem okW_clos {c y4 sl}{x d}{y}(h:okW f69 c y4 sl x y)(a:Tr x d):okW f69 c y4 sl d y:=by
 obtain⟨j,h⟩:=h;refine⟨j,?_⟩;rcases h with rfl|rfl|⟨l,rfl⟩|rfl|rfl|⟨l,rfl⟩|rfl|⟨l,pre,rfl,q,g,o⟩
 .exact .inr (.inl a)
 .obtain⟨m,t,rfl⟩:=a;exact .inr (.inr (.inl ⟨_,rfl⟩))
 .cases l with
  |nil=>exact .inr (.inr (.inr (.inl a)))
  |cons i l=>exact a.elim
 .exact .inr (.inr (.inr (.inr (.inl a))))
 .obtain⟨m,t,rfl⟩:=a;exact .inr (.inr (.inr (.inr (.inr (.inl ⟨_,rfl⟩)))))
 .cases l with
  |nil=>exact .inr (.inr (.inr (.inr (.inr (.inr (.inl a))))))
  |cons i l=>exact a.elim
 .obtain⟨m,t,rfl⟩:=a
  obtain⟨p,b,e,n,k⟩:=schedule3 m t;refine .inr (.inr (.inr (.inr (.inr (.inr (.inr ⟨_,[],rfl,⟨p,by simpa using b,e,n,k⟩,?_,λf=>?_⟩))))))
  .rw[b];simp
  .exact absurd (by rw[b];simp[e]) f
 .cases l with
  |nil=>cases g
  |cons i l=>exact a.elim
theorem mark3 {i}(a:i=0\/i=6):∃o,(H3 f69)[i]? =some o/\gI o=true:=by
 rcases a with rfl|rfl
 .exact⟨_,rfl,by kernel_rfl⟩
 .exact⟨_,rfl,by kernel_rfl⟩
theorem okW_pop {m y4 sl}{ops}{i}{rest}{k}{y a}(hm:∀o,ops[i]? =some o->gI o=false)(h:okW f69 m y4 sl (.inRegion ops (i::rest)::k) y)
 (hy:a=y\/∃d v,pvW d=false/\a=y.setIfInBounds d v):okW f69 m y4 sl (.inRegion ops rest::k) a:=by
 have c:∀j,pvW j=true->a.getD j undef=y.getD j undef:=λj r=>by
  rcases hy with rfl|⟨d,v,hd,rfl⟩
  .rfl
  .exact getD_set_ne λe=>by rw[e,r]at hd;cases hd
 obtain⟨f,h⟩:=h
 have p:a.size=y.size:=by
  rcases hy with rfl|⟨d,v,hd,rfl⟩
  .rfl
  .simp
 refine⟨⟨p.trans f.1,(c 0 rfl).trans f.2.1,(c 4 rfl).trans f.2.2⟩,?_⟩;rcases h with h|h|⟨l,h⟩|h|h|⟨l,h⟩|h|⟨l,pre,h,u,t,s⟩
 .cases h
 .cases h
 .simp only[List.cons.injEq,Item.inRegion.injEq]at h
  obtain⟨⟨rfl,rfl⟩,rfl⟩:=h;exact .inr (.inr (.inl ⟨_,rfl⟩))
 .cases h
 .cases h
 .simp only[List.cons.injEq,Item.inRegion.injEq]at h
  obtain⟨⟨rfl,rfl⟩,rfl⟩:=h;exact .inr (.inr (.inr (.inr (.inr (.inl ⟨_,rfl⟩)))))
 .cases h
 .simp only[List.cons.injEq,Item.inRegion.injEq]at h
  obtain⟨⟨rfl,rfl⟩,rfl⟩:=h
  have n:i≠0:=λe=>by
   obtain⟨o,g,b⟩:=mark3 (i:=i) (.inl e);rw[hm o g]at b;cases b
  have n6:i≠6:=λe=>by
   obtain⟨o,g,b⟩:=mark3 (i:=i) (.inr e);rw[hm o g]at b;cases b
  refine .inr (.inr (.inr (.inr (.inr (.inr (.inr ⟨rest,pre++[i],rfl,by simpa using u,?_,λq=>?_⟩))))))
  .exact(ZW.1 t).resolve_left (Ne.symm n6)
  .exact(c 19 rfl).trans (s λhx=>(ZW.1 hx).elim (λe=>n e.symm) q)
def ou (f:Func)(a y4 sl:Value):iG:=
 {fns:=fnsW,sp:=[],mark:=gI,sg:=sgW,root:=69,rt:=25,jh:=true,dd:=[dcall 70 #[a]],kd:=.deferred,pv:=pvW,okF:=okW f a y4 sl,ext:=[167]}
theorem eY (o):(sgW o).dst=o.dst/\(sgW o).after=o.after/\(sgW o).guard=o.guard:=by
 unfold sgW;split<;>exact⟨rfl,rfl,rfl⟩
end
section
open Go
def oO:TypeDesc->Bool
 |.float _|.complex _=>false
 |_=>true
def cr (o:Option TypeInfo):Prop:=∀i,o=some i->oO i.desc=true
theorem cr.bind {α}{o:Option α}{f}(h:∀a,cr (f a)):cr (o.bind f):=λi b=>by
 cases o with
 |none=>cases b
 |some a=>exact h a i b
theorem cr.none:cr none:=λi h=>by cases h
theorem cr.some {i:TypeInfo}(h:oO i.desc=true):cr (some i):=λj a=>by cases a;exact h
theorem reckonStruct_good (info)(fs):cr (Made.reckonStruct info fs):=by
 unfold Made.reckonStruct;simp only[Option.bind_eq_bind];refine cr.bind λr=>?_
 split<;>exact cr.some rfl
theorem reckon_good (info)(d):cr (Made.reckon info d):=by
 unfold Made.reckon;cases d with
 |pointer e=>
  refine cr.bind λi=>?_
  split
  .exact cr.none
  .split
   .exact cr.none
   .exact cr.bind λs=>cr.some rfl
  .exact cr.bind λs=>cr.some rfl
 |slice e=>exact cr.bind λi=>cr.bind λs=>cr.some rfl
 |map k e=>exact cr.bind λi=>cr.bind λs=>cr.bind λi=>cr.bind λs=>cr.some rfl
 |chan dir e=>exact cr.bind λi=>cr.bind λs=>cr.some rfl
 |func ps rs v=>exact cr.bind λs=>cr.some rfl
 |array n e=>exact cr.bind λi=>cr.bind λs=>cr.some rfl
 |struct fs=>exact reckonStruct_good info fs
 |_=>exact cr.none
theorem infoAt_good {T}(h:T.types.all (λi=>oO i.desc)=true):∀(n:Nat) (t:TypeId),cr (Made.infoAt T n t)
 |0,_=>cr.none
 |n+1,t=>by
  unfold Made.infoAt;split
  .exact λi a=>Array.all_eq_true'.1 h i (Array.mem_of_getElem? a)
  .exact cr.bind λd=>reckon_good _ d
theorem noFloats_of {P}(h:P.types.all (λi=>oO i.desc)=true):j4 P:=by
 have key:∀t i,P.info? t=some i->oO i.desc=true:=λt i a=>by
  unfold Tables.info? at a;split at a
  .exact Array.all_eq_true'.1 h i (Array.mem_of_getElem? a)
  .exact infoAt_good h _ _ i a
 have all:∀t d,P.underlying t=some d->oO d=true:=λt d hd=>by
  unfold Program.underlying at hd;cases a:P.info? t with
  |none=>rw[a]at hd;cases hd
  |some i=>
   rw[a]at hd;have b:=key t i a;obtain⟨desc,_⟩:=i;cases desc with
   |named nm u=>
    replace hd:(P.info? u).map (·.desc)=some d:=hd;cases hu:P.info? u with
    |none=>rw[hu]at hd;cases hd
    |some j=>rw[hu]at hd;cases hd;exact key _ _ hu
   |_=>cases hd;exact b
 exact λt=>⟨λk e=>(by have:=all _ _ e;cases this),λk e=>(by have:=all _ _ e;cases this)⟩
theorem lH:j4 prog:=noFloats_of (by kernel_rfl)
theorem calmA:iT.contains (prog).rt.panicNilError=false:=by kernel_rfl
variable {st:Prop}
section
variable {fns:List Nat}{α β γ δ:Type}{P Q:Program}{K:Nat->Prop}{p:Rel st}
theorem af.extSame {x v}(h:aF (VR p) x v):af P Q K p (Extern.AbiNoEscape.same x) (Extern.AbiNoEscape.same v) (λq a b=>VR q a b):=by
 obtain⟨d⟩:=x;obtain⟨e⟩:=v;have c:d.length=e.length:=h.1
 match d,e,c with
 |[],[],_=>exact ag.bR (ag.halt _)
 |[x],[v],_=>exact af.pure (h.2 0 x v rfl rfl)
 |x::y::r,v::u::s,_=>exact ag.bR (ag.halt _)
theorem af.extLoadBytes:∀(n:Nat) {p:Rel st} {a b:Addr} (acc:ByteArray),AR p a b->af P Q K p (Extern.Bytes.loadBytes a n acc) (Extern.Bytes.loadBytes b n acc) (λ_ x y=>x=y)
 |0,_,_,_,acc,_=>by unfold Extern.Bytes.loadBytes;exact af.pure rfl
 |n+1,p,a,b,acc,h=>by
  unfold Extern.Bytes.loadBytes;refine af.bind (af.load h) λq v x e c=>?_
  have d:=c.cases;cases v with
  |int k m=>
   obtain rfl:=c.bT;cases k with
   |u8=>exact af.extLoadBytes n _ ((h.mono e).add 1)
   |_=>exact af.halt
  |_=>exact ag.bR (ag.halt _)
theorem af.bytesOf {x v}(h:VR p x v):af P Q K p (Extern.Bytes.bytesOf x) (Extern.Bytes.bytesOf v) (λ_ a b=>a=b):=by
 cases x with
 |string s=>obtain rfl:=h.bO;exact af.pure rfl
 |slice a l c=>
  obtain⟨a',rfl,e⟩:=h.bD;cases a with
  |none=>obtain rfl:=e.aV;exact af.pure rfl
  |some a=>
   obtain⟨a',rfl,d⟩:=e.aO;rcases d with d|⟨⟨rfl,_⟩,_⟩
   .exact af.extLoadBytes l _ d
   .exact af.pure rfl
 |_=>exact ag.bR (ag.halt _)
theorem af.jR {x v}(h:aF (VR p) x v):af P Q K p (Extern.BytealgCompare.compare x) (Extern.BytealgCompare.compare v) (λq a b=>VR q a b):=by
 obtain⟨g⟩:=x;obtain⟨i⟩:=v;have f:g.length=i.length:=h.1
 match g,i,f with
 |[],[],_=>exact ag.bR (ag.halt _)
 |[x],[v],_=>exact ag.bR (ag.halt _)
 |x::y::z::r,v::u::s::t,_=>exact ag.bR (ag.halt _)
 |[x,y],[v,u],_=>
  refine af.bind (af.bytesOf (h.2 0 x v rfl rfl)) λq a b j e=>?_
  subst e;refine af.bind (af.bytesOf ((h.2 1 y u rfl rfl).ext j)) λk c d _ e=>?_
  subst e;exact af.pure (VR.int _ _)
theorem af.kT (ps rs){x v}(h:aF (VR p) x v):af P Q K p (Extern.BytealgMakeNoZero.makeNoZero ps rs x) (Extern.BytealgMakeNoZero.makeNoZero ps rs v) (λq a b=>VR q a b):=by
 obtain⟨j⟩:=x;obtain⟨l⟩:=v;have g:j.length=l.length:=h.1
 have f:∀(n t:Nat) (acc:Array Value) (q:Rel st),aF (VR q) acc acc->aF (VR q) (Extern.BytealgMakeNoZero.digits n t acc) (Extern.BytealgMakeNoZero.digits n t acc):=by
  intro n
  induction n with
  |zero=>intro t acc q i;exact i
  |succ n o=>intro t acc q i;exact o _ _ q (i.push (VR.int _ _))
 match j,l,g with
 |[],[],_=>exact ag.bR (ag.halt _)
 |x::y::r,v::u::s,_=>exact ag.bR (by cases x<;>first|exact ag.halt _|(rename_i k _;cases k<;>exact ag.halt _))
 |[x],[v],_=>
  have hx:VR p x v:=h.2 0 x v rfl rfl;cases x with
  |int k n=>
   obtain rfl:=hx.bT;cases k with
   |i64=>
    unfold Extern.BytealgMakeNoZero.makeNoZero;cases rs[0]? with
    |none=>exact ag.bR (ag.halt _)
    |some t=>
     refine af.bind (af.underlying t) λq d d' C e=>?_
     obtain⟨rfl,_⟩:=e;cases d with
     |slice elem=>
      show af P Q K q (if(n<0||n>2^48)=true then _ else _) (if(n<0||n>2^48)=true then _ else _) _
      by_cases m:(n<0||n>2^48)=true
      .rw[if_pos m];exact ag.bR (ag.left (ag.runtimePanic _))
      .rw[if_neg m]
       refine af.bind (af.choose _) λB c D _ e=>?_
       subst e;refine af.bind (af.askRoom _) λA _ _ _ _=>?_
       refine af.bind (af.choose _) λz b E _ e=>?_
       subst e;refine af.bind (af.l6 elem (f _ _ _ _ aF.empty)) λw a a' _ e=>?_
       exact af.pure (VR.slice (a:=some a) (b:=some a') e.1)
     |_=>exact ag.bR (ag.halt _)
   |_=>exact ag.bR (ag.halt _)
  |_=>exact ag.bR (ag.halt _)
def rtypeIs (P:Program):Prop:=∃s,P.cutTypes.find? (·.1== "internal/reflectlite.rtype")=some (s,bP)
theorem af.extTypeOf (l:rtypeIs P)(k:rtypeIs Q)(j:∀t,typeHandle Q t=typeHandle P t){x v}(h:aF (VR p) x v):af P Q K p (Extern.ReflectliteType.typeOf x) (Extern.ReflectliteType.typeOf v) (λq a b=>VR q a b):=by
 obtain⟨d⟩:=x;obtain⟨f⟩:=v;have c:d.length=f.length:=h.1
 have i:∀(q:Rel st) (t:TypeId),af P Q K q (Extern.ReflectliteType.toType t) (Extern.ReflectliteType.toType t) (λq a b=>VR q a b):=λq t=>by
  unfold Extern.ReflectliteType.toType;refine af.bind (A:=λ_ a b=>a=bP/\b=bP) ?_ λg a b _ e=>?_
  .unfold Go.cutType
   refine af.bind af.program λg s s' _ e=>?_
   rw[e.1,e.2];obtain⟨s1,n⟩:=l;obtain⟨s2,m⟩:=k;rw[n,m];exact af.pure ⟨rfl,rfl⟩
  .obtain⟨rfl,rfl⟩:=e
   refine af.bind (A:=λ_ a b=>a=b) ?_ λo a b _ e=>?_
   .unfold Extern.Rtype.handle
    refine af.bind af.program λg s s' _ e=>?_
    rw[e.1,e.2,j];exact af.pure rfl
   .subst e
    exact af.pure (VR.rtype _)
 match d,f,c with
 |[],[],_=>exact ag.bR (ag.halt _)
 |x::y::r,v::u::s,_=>exact ag.bR (by cases x<;>exact ag.halt _)
 |[x],[v],_=>
  have hx:VR p x v:=h.2 0 x v rfl rfl;have hc:=hx.cases;cases x with
  |nilIface=>cases v<;>first|exact hc.elim|exact af.pure VR.nilIface
  |iface t a=>cases v<;>first|exact hc.elim|(obtain⟨rfl,_⟩:=hc;exact i _ _)
  |_=>exact ag.bR (ag.halt _)
end
theorem bL {L}{P}{g}{e}(h:j5 P g e)(hs:(g==42||g==69||g==88||L.contains g)=false):j5 (patch L P) g e:=by
 obtain⟨fn,b,a⟩:=h;exact⟨fn,pf b hs,a⟩
theorem pM:j5 prog 167 Extern.BytealgCompare.compare:=⟨_,func167,by kernel_rfl,by kernel_rfl,by kernel_rfl,by kernel_rfl⟩
theorem extCmp:ExtOk [167] (patch ae prog) prog:=λg a=>by
 obtain rfl:=List.mem_singleton.1 a;exact⟨_,bL pM (by rfl),pM,λ_ _ _ _ _ h=>af.jR h⟩
theorem extCmpP:ExtOk [167] (patch ae prog) (patch ae prog):=λg a=>by
 obtain rfl:=List.mem_singleton.1 a;exact⟨_,bL pM (by rfl),bL pM (by rfl),λ_ _ _ _ _ h=>af.jR h⟩
end
