/- Part 19 of the proof. -/
import Derived.Test.YtfpaamhppamcoaaGreatDoorSp18
set_option linter.all false
namespace Go.Proofs.YtfpaamhppamcoaaGreatDoor
section
open Go Go.Conc Go.ConcN
open Go.ConcR (KK wgBlock WgAt stA smA rd wr mk Payload DC0 Bk g_of_ofEvents again_blocked bk_of_mute ofEvent_loc_mark)
theorem bk_low {Wg B}(h:Wg<B){e}(he:Bk Wg e):(MemAct.ofEvent e).low B:=by
 rcases he with b|b|⟨a,w,rfl,c⟩
 .rw[ofEvent_loc_mark b];trivial
 .rw[ofEvent_loc_mark b];trivial
 .show a.block<B
  omega
theorem bk_touch {S:Nat->Prop}{Wg}{e}(he:Bk Wg e){x}(hx:(MemAct.ofEvent e).touch? =some x):ShB (λc=>S c\/c=Wg) x.loc/\x.kind≠.plain/\x.kind≠.said:=by
 rcases he with b|b|⟨a,w,rfl,d⟩
 .rw[ofEvent_loc_mark b]at hx;cases hx
 .rw[ofEvent_loc_mark b]at hx;cases hx
 .simp only[MemAct.ofEvent,MemAct.touch?,Option.some.injEq]at hx
  subst hx;exact⟨⟨a,rfl,.inr d⟩,by simp,by simp⟩
section
variable [Payload]
variable {Q:Program}{ty:TypeId}{S:Nat->Prop}{Wg V nV base nW:Nat}{K:Nat->Prop}{off:Nat->Nat}{vals:Nat->List Value}{zero:Nat->Value}{aL u u':World}{j:Nat}{M:Nat->Nat->Prop}{M₀:Nat->Prop}{t:Trace}
 {gs:Array Goroutine}{D:Nat->WD}{lv:Nat->Bool}{q:Nat->Nat}{d0:Nat}{gE:Goroutine->Prop}{An:Goroutine->World->Prop}{tag:CTag}{f0:Nat}{a:Goroutine}{st sm st' sm':Int}{sl:Option (Nat×Nat)}
theorem Row.pay (h:Row V nV off vals zero j u lv):PayAt V nV u:=let ⟨cs,b,a,_⟩:=h;⟨cs,b,a⟩
theorem Row.has (G:pg nV nW off vals)(h:Row V nV off vals zero j u lv){i}(d:i<j)(a:i<nW)(hl:lv i=false):Has V (off i) ((vals i).headD undef) u:=by
 obtain⟨cs,f,g,e,_⟩:=h;have b:=e i d hl 0 (G.len i a);simp only[Nat.add_zero]at b;unfold Has;simp only[World.cell?,f];simp only[Option.isSome_none,Z0,if_false];rw[b];cases c:vals i with
 |nil=>have:=G.len i a;rw[c]at this;simp at this
 |cons x l=>rfl
theorem workerMoves (G:pg nV nW off vals)(ο:∀g w,An g w->g.status=.running)(U:gs[0]? =some a)(hcs:CS Q ty Wg V nV K gE An nW off vals tag j f0 d0 a u M₀)(h:PI Q ty S Wg V nV base nW K off vals zero aL j gs u t D lv M M₀ q d0)(κ:j<=nW)
 (l:WgAt ty Wg u st sm)(n:ConcN.Mode j D tag st sm){i}(z:i<j){g}(hg:gs[base+1+i]? =some g)(γ:g.status=.running):
 ∃m₁ ops x',runT Q (crowd gs u sl) (base+1+i)=(.next m₁,ops)/\
  VR2 Q ty Wg V nV nW K off vals An x' (cv nW base aL tag j lv M M₀ gs u,(phi nW (Vc j D) tag+Ssum j D,f0+2*Fsum j D+2*sumTo (base+1) q))/\
  ng Q ty S Wg V nV base nW K off vals zero aL gE An x' m₁ (t++ops):=by
 obtain⟨g₁,ν,hw⟩:=h.wk i z;obtain rfl:g=g₁:=by rw[hg]at ν;exact Option.some.inj ν
 have X:WgLive ty Wg u:=⟨_,_,l⟩;have C:=h.lie;have hVj:=Vc_le j D;have τ:i<nW:=by omega
 have hVu:=ZO C.v C.size;have Ω:=ZO C.wg C.size;have hKV:=λc hc=>(C.kin c hc).2.1
 have hKWg:=λc hc=>(C.kin c hc).2.2.1
 have hMV:∀p,p<j->p≠i->∀c,M p c->¬(c=V):=λp J _ c hc e=>by have:=(C.low p J c hc).2;have:=C.v;omega
 have hMWg:∀p,p<j->p≠i->∀c,M p c->¬(c=Wg):=λp J _ c hc e=>by have:=(C.low p J c hc).2;have:=C.wg;omega
 have h0V:∀c,M₀ c->¬(c=V):=λc hc e=>by have:=(C.mY c hc).2;have:=C.v;omega
 have h0Wg:∀c,M₀ c->¬(c=Wg):=λc hc e=>by have:=(C.mY c hc).2;have:=C.wg;omega
 have μ:base+1+i-base-1=i:=by omega
 have N:=h.row;have hdk:=h.deafW i z;rcases hw with⟨hl,δ,ζ,ho⟩|⟨hl,δ,ζ,hk⟩|⟨hl,ω,hs⟩
 .
  have d:cB Q ty Wg V nV nW K off vals An i=kg Q ty Wg V nV (off i) (vals i):=by unfold cB;rw[if_pos τ]
  have Θ:dI nW i=false:=by unfold dI;exact decide_eq_false (by omega)
  by_cases B:∀az,bF K (M i) u az->kg Q ty Wg V nV (off i) (vals i) g az (M i)
  .
   obtain⟨_,hx⟩:=B u (bF.refl _ _ _);obtain⟨g',u',es,hgo,A,υ,m,hk⟩:=hx N.pay X;obtain⟨cs,c1,c2,c3,c4⟩:=N;obtain⟨cs',e1,e2,e3,e4⟩:=A.row cs c1 c2
   have hcell:∀p,p<j->p≠i->u'.cell? ⟨V,off p,none⟩=u.cell? ⟨V,off p,none⟩:=λp J Δ=>by
        simp only[World.cell?,c1,e1];rw[e3 (off p) fun⟨x1,x2⟩=>Δ (G.apart p i (off p) (by omega) τ (ZL _) (by have:=G.len p (by omega);omega) x1 x2)]
   refine wStep G ο U hcs h κ z hg hgo (W:=λc=>c=V) ⟨A.tape,A.os,A.output,Nat.le_of_eq A.size.symm,λc _ hc=>A.block c hc⟩ hKV hMV h0V (λc _ h1 _=>h1) (d':=⟨7,m,0⟩) (l':=false) (M':=M i)
        (λc hc=>.inl hc) (λc hc=>hc) (.inr (.inl ⟨rfl,rfl,rfl,hk⟩)) (λe he x hx=>?_) (λe he=>?_) (λe he=>?_) ?_ (λY=>by simp at Y) ?_ X (l.of_block (A.block Wg (Ne.symm C.vw))) (λ_=>⟨cs',e1,e2⟩) hcell
        (λtag' ht _=>?_) (.inr ⟨hl,rfl,.inr (.inr (.inl ⟨rfl,rfl⟩))⟩)
   .obtain⟨y,y1,y2,rfl⟩:=υ e he
    cases hx;exact .inr ⟨rfl,rfl,.inl ⟨by omega,by omega,.inr ⟨y,by rw[μ];exact y1,by rw[μ];exact y2,rfl⟩⟩⟩
   .obtain⟨y,_,_,rfl⟩:=υ e he
    simp
   .obtain⟨y,_,_,rfl⟩:=υ e he
    rw[A.size];exact hVu
   .rw[ζ]
    exact deafBehind_idle (λe he=>by obtain⟨y,_,_,rfl⟩:=υ e he;simp) 0
   .refine⟨cs',e1,e2,λp J σ o hlo=>?_,λx hx α=>?_⟩
    .by_cases ε:p=i
     .subst ε;exact e4 o hlo
     .rw[upd_ne lv _ ε]at σ
      rw[e3 _ fun⟨x1,x2⟩=>ε (G.apart p i (off p+o) (by omega) τ (by omega) (by omega) x1 x2)];exact c3 p J σ o hlo
    .have h1:=α i z (by rw[upd_same])
     rw[e3 x h1]
     exact c4 x hx λp J σ=>by
      by_cases ε:p=i
      .subst ε;exact h1
      .exact α p J (by rw[upd_ne lv _ ε];exact σ)
   .have:=n.same (i:=i) m 0
    rw[δ]at this;exact this.retag ht
  .
   rcases ho.cases with hx|⟨_,hx⟩
   .exact absurd hx B
   obtain⟨g',u',es,hgo,hd,ho'⟩:=hx u (bF.refl _ _ _);have R:=λc hc=>(C.low i z c hc).2
   have nV':¬M i V:=λhc=>by have:=R V hc;have:=C.v;omega
   have nW':¬M i Wg:=λhc=>by have:=R Wg hc;have:=C.wg;omega
   have β:=hd.keep V hVu nV'
   have Φ:∀c,Grow (M i) u u' c->c<u'.heap.size:=λc hc=>by
        rcases hc with hc|⟨_,hc⟩
        .exact ZO (C.low i z c hc).1 hd.size
        .exact hc
   refine wStep G ο U hcs h κ z hg hgo (W:=M i) ⟨hd.tape,hd.os,hd.output,hd.size,hd.keep⟩ (λc hc hm=>by have:=R c hm;have:=(C.kin c hc).1;omega) (λp J Δ c hc hm=>C.dis p i J z Δ c hc hm)
        (λc hc hm=>C.dis0 i z c hm hc) (λc hc _ _ hm=>by have:=R c hm;omega) (d':=D i) (l':=true) (M':=Grow (M i) u u') (λc hc=>hc) (λc hc=>.inl hc) (.inl ⟨rfl,δ,ζ,ho'⟩) (λe he x hx=>?_)
        (λe he=>((hd.evs e he).marks).2.2 _) (λe he=>(hd.evs e he).low (λc hc=>ZO (C.kin c hc).1 (ZP C.size hd.size)) Φ) ?_ (λY=>by omega) ?_ X (l.of_block (hd.keep Wg Ω nW'))
        (fun⟨cs,p1,p2⟩=>⟨cs,β.trans p1,p2⟩) (λp _ _=>cell_of_block β _) (λtag' ht _=>by rw[upd_self];exact n.retag ht) (.inr ⟨hl,?_⟩)
   .obtain⟨p1,p2,p3⟩:=(hd.evs e he).touch hx
    refine .inr ⟨p1,p2,p3.imp (λhb=>⟨by omega,by omega,.inl ?_⟩) id⟩;rw[μ,upd_same];exact hb
   .exact deafBehind_idle (λe he=>⟨(hd.evs e he).marks.1,(hd.evs e he).marks.2.1⟩) _
   .obtain⟨cs,c1,c2,c3,c4⟩:=N
    have e:upd lv i true=lv:=(by rw[<-hl];exact upd_self lv i);rw[e];exact⟨cs,β.trans c1,c2,c3,c4⟩
   .refine⟨rfl,.inr (.inr (.inr ⟨rfl,rfl,?_,u,es,bF.refl _ _ _,?_,rfl⟩))⟩
    .intro hs
     exact B λaz ψ=>by
      have:=hs az ψ;rw[d]at this;exact this
    .rw[Θ];exact hgo
 .
  have O:∀l',l'=false->Row V nV off vals zero j u (upd lv i l'):=λl' e=>by
   rw[e,<-hl,upd_self];exact N
  rcases Goes.cases hk with d|⟨m',hm,k⟩
  .obtain⟨_,hx⟩:=d u X
   obtain⟨g',hgo,m₂,hk2⟩:=hx (N.has G z τ hl)
   refine wStep G ο U hcs h κ z hg hgo (W:=λ_=>False) ⟨rfl,rfl,rfl,ZL _,λ_ _ _=>rfl⟩ (λ_ _ h=>h) (λ_ _ _ _ _ h=>h) (λ_ _ h=>h) (λ_ _ _ _ h=>h) (d':=⟨6,m₂,0⟩) (l':=false) (M':=M i)
        (λc hc=>.inl hc) (λc hc=>hc) (.inr (.inr ⟨rfl,ZL _,.k1 hk2⟩)) (λe he x hx=>?_) (λe he=>?_) (λe he=>?_) ?_ (λ_=>?_) (O _ rfl) X l id (λ_ _ _=>rfl)
        (λtag' ht _=>(n.counted z (by omega) (.inl rfl) _ _).retag ht) (.inl ⟨hl,rfl,.inl ⟨by show 6<_;omega,by simp[cnt,δ]⟩⟩)
   .have:e=mk (.releaseMerge (stA Wg)):=by simpa using he
    subst this;cases hx
   .have:e=mk (.releaseMerge (stA Wg)):=by simpa using he
    subst this;simp[mk]
   .have:e=mk (.releaseMerge (stA Wg)):=by simpa using he
    subst this;exact Ω
   .rw[ζ];rfl
   .exact⟨t.size,RelBy.new (by rw[hdk,ζ]) _ _⟩
  .obtain⟨g',w',es,hgo,⟨rfl,rfl⟩,F⟩:=k u X
   refine wStep G ο U hcs h κ z hg hgo (W:=λ_=>False) ⟨rfl,rfl,rfl,ZL _,λ_ _ _=>rfl⟩ (λ_ _ h=>h) (λ_ _ _ _ _ h=>h) (λ_ _ h=>h) (λ_ _ _ _ h=>h) (d':=⟨7,m',0⟩) (l':=false) (M':=M i)
        (λc hc=>.inl hc) (λc hc=>hc) (.inr (.inl ⟨rfl,rfl,rfl,F⟩)) (by simp) (by simp) (by simp) (by rw[ζ];rfl) (λY=>by simp at Y) (O _ rfl) X l id (λ_ _ _=>rfl)
        (λtag' ht _=>by have:=n.same (i:=i) m' 0;rw[δ]at this;exact this.retag ht) (.inl ⟨hl,rfl,.inr ⟨δ.symm,hm.symm⟩⟩)
 .
  have O:∀{u':World},u'.heap[V]? =u.heap[V]?->Row V nV off vals zero j u' (upd lv i false):=fun{u'} e=>by
   rw[<-hl,upd_self];obtain⟨cs,c1,c2⟩:=N;exact⟨cs,e.trans c1,c2⟩
  generalize B:(D i).stage=s at hs ω;generalize hfu:(D i).fuel=m at hs;generalize hde:(D i).deaf=dd at hs;have hdk':Deaf t (base+1+i)=dd:=by rw[hdk,hde]
  have ρ:∀{g':Goroutine} {w':World} {es:Array Event} {s' m' H:Nat} {st' sm':Int},stepG Q false g u=.go g' w' es->Aside Wg u w'->WgAt ty Wg w' st' sm'->(∀e∈es,Bk Wg e)->
        (∀I e,es[I]? =some e->(MemAct.ofEvent e).touch? =none\/0<deafBehind dd (es.extract 0 I))->s'<=6->Tail Q ty Wg V nV (off i) (vals i) s' m' H g' w'->deafBehind dd es=H->
        (∀tag',(tag'=tag\/(tag=.blk/\tag'=.w3))->(mayWake Q g=true->g'.status=.running->tag'≠.blk)->ConcN.Mode j (upd D i ⟨s',m',H⟩) tag' st' sm')->((s'<s/\cnt ⟨s',m',H⟩<=cnt (D i))\/(s'=s/\m'+1=m))->
        ∃m₁ ops x',runT Q (crowd gs u sl) (base+1+i)=(.next m₁,ops)/\
         VR2 Q ty Wg V nV nW K off vals An x' (cv nW base aL tag j lv M M₀ gs u,(phi nW (Vc j D) tag+Ssum j D,f0+2*Fsum j D+2*sumTo (base+1) q))/\
         ng Q ty S Wg V nV base nW K off vals zero aL gE An x' m₁ (t++ops):=by
   intro g' w' es s' m' H st' sm' hgo T η Z hd h6' θ Ψ P Ξ;have β:=T.block V C.vw
   refine wStep G ο U hcs h κ z hg hgo (W:=λc=>c=Wg) ⟨T.tape,T.os,T.output,Nat.le_of_eq T.size.symm,λc _ hc=>T.block c hc⟩ hKWg hMWg h0Wg (λc _ _ h2=>h2) (d':=⟨s',m',H⟩) (l':=false) (M':=M i)
        (λc hc=>.inl hc) (λc hc=>hc) (.inr (.inr ⟨rfl,h6',θ⟩)) (λe he x hx=>.inl (bk_touch (Z e he) hx)) (norel_of_Bk Z) (λe he=>bk_low (by rw[T.size];exact Ω) (Z e he)) (by rw[hde];exact Ψ) (λ_=>?_) (O β) X η
        (fun⟨cs,p1,p2⟩=>⟨cs,β.trans p1,p2⟩) (λp _ _=>cell_of_block β _) P (.inl ⟨hl,rfl,by rw[B,hfu];exact Ξ⟩)
   obtain⟨r,hr⟩:=h.rel i z (by omega);exact⟨r,hr.book hdk' _ _ Z hd⟩
  have book:∀{g':Goroutine} {w':World} {es:Array Event} {s' m' H:Nat} {st' sm':Int},stepG Q false g u=.go g' w' es->Aside Wg u w'->WgAt ty Wg w' st' sm'->(∀e∈es,Bk Wg e)->
        (∀I e,es[I]? =some e->(MemAct.ofEvent e).touch? =none\/0<deafBehind dd (es.extract 0 I))->s'<=6->Tail Q ty Wg V nV (off i) (vals i) s' m' H g' w'->deafBehind dd es=H->
        ConcN.Mode j (upd D i ⟨s',m',H⟩) tag st' sm'->((s'<s/\cnt ⟨s',m',H⟩<=cnt (D i))\/(s'=s/\m'+1=m))->
        ∃m₁ ops x',runT Q (crowd gs u sl) (base+1+i)=(.next m₁,ops)/\
         VR2 Q ty Wg V nV nW K off vals An x' (cv nW base aL tag j lv M M₀ gs u,(phi nW (Vc j D) tag+Ssum j D,f0+2*Fsum j D+2*sumTo (base+1) q))/\
         ng Q ty S Wg V nV base nW K off vals zero aL gE An x' m₁ (t++ops):=
   λhgo T η Z hd h6' θ Ψ P Ξ=>ρ hgo T η Z hd h6' θ Ψ (λ_ ht _=>P.retag ht) Ξ
  have idle:∀{g':Goroutine} {m':Nat},stepG Q false g u=.go g' u #[]->Tail Q ty Wg V nV (off i) (vals i) s m' dd g' u->m'+1=m->
        ∃m₁ ops x',runT Q (crowd gs u sl) (base+1+i)=(.next m₁,ops)/\
         VR2 Q ty Wg V nV nW K off vals An x' (cv nW base aL tag j lv M M₀ gs u,(phi nW (Vc j D) tag+Ssum j D,f0+2*Fsum j D+2*sumTo (base+1) q))/\
         ng Q ty S Wg V nV base nW K off vals zero aL gE An x' m₁ (t++ops):=
   fun{g' m'} hgo θ hm=>book hgo (.refl Wg u) l (by simp) (by simp) ω θ rfl (by have:=n.same (i:=i) m' dd;rwa [B]at this) (.inr ⟨rfl,hm⟩)
  have bk1:∀{ad:Addr} {b:Bool},ad.block=Wg->∀e∈(#[⟨.cell ad,b,true⟩]:Array Event),Bk Wg e:=λhb e he=>by simp at he;subst he;exact bk_cell _ _ hb
  cases hs with
  |r0 h=>exact absurd ω (by omega)
  |k1 Y=>
   rcases Goes.cases Y with d|⟨m',rfl,k⟩
   .obtain⟨_,g',hgo,m₂,hk⟩:=d u (RW.refl u)
    exact book hgo (.refl Wg u) l (by intro e he;simp at he;subst he;exact .inl rfl) (by intro I e he;exact .inl (by have:=Array.mem_of_getElem? he;simp at this;subst this;rfl)) (by omega) (.d1 hk) rfl
     (n.counted z (by omega) (.inr rfl) _ _) (.inl ⟨by omega,by simp[cnt,B]⟩)
   .obtain⟨g',w',es,hgo,⟨rfl,rfl⟩,F⟩:=k u (RW.refl u)
    exact idle hgo (.k1 F) rfl
  |d1 Y=>
   rcases Goes.cases Y with d|⟨m',rfl,k⟩
   .obtain⟨_,α⟩:=d u (RW.refl u)
    have hc1:cnt (D i)=1:=(by simp[cnt,B]);have hV1:1<=Vc j D:=(by have:=le_sumTo (f:=λx=>cnt (D x)) z;simp only[Vc];omega);have bk2:∀e∈ #[rd (stA Wg),wr (stA Wg)],Bk Wg e:=by intro e he;simp at he;rcases he with rfl|rfl<;>exact bk_cell _ _ rfl
    have df2:∀I e,(#[rd (stA Wg),wr (stA Wg)]:Array Event)[I]? =some e->(MemAct.ofEvent e).touch? =none\/0<deafBehind 1 ((#[rd (stA Wg),wr (stA Wg)]:Array Event).extract 0 I):=by
     intro I e he
     match I,he with
     |0,_=>exact .inr (by simp[deafBehind])
     |1,_=>exact .inr (by simp[deafBehind,rd])
     |I+2,he=>simp at he
    have hq0:∀q,cnt (⟨1,q,1⟩:WD)=0:=λ_=>rfl
    have opq:∀q,OpenSt j D->OpenSt j (upd D i ⟨1,q,1⟩):=λq h a U=>by
     by_cases e:a=i
     .subst e;rw[upd_same];simp
     .rw[upd_ne D _ e];exact h a U
    cases n with
    |opn h1 h2 h3=>
     obtain⟨v,hv⟩:∃v,Vc j D+pend tag=v+1:=⟨Vc j D+pend tag-1,by omega⟩;rw[hv]at l;have φ:WgAt ty Wg u (((v:Nat)+1)*KK+((0:Nat):Int)) 0:=by simpa using l
     have hp1:pend tag<=1:=by cases tag<;>simp[pend]<;>split<;>omega
     obtain⟨g',hgo,_,hq⟩:=α v 0 (by omega) (by have:=G.few;omega) φ;obtain⟨q,hq⟩:=hq (by omega);have χ:Vc j (upd D i ⟨1,q,1⟩)+pend tag=v:=(by have:=Vc_upd D (⟨1,q,1⟩:WD) z;have:=hq0 q;omega);refine book hgo (aside_setCell u (stA Wg) _) (l.setSt _) bk2 df2 (by omega) (.quit hq) rfl ?_ (.inl ⟨by omega,by simp[cnt]⟩);have e:((v:Nat):Int)*KK+((0:Nat):Int)=((Vc j (upd D i ⟨1,q,1⟩)+pend tag:Nat):Int)*KK:=(by rw[χ];simp);rw[e];exact .opn h1 (opq q h2) (λvs ev=>by have:=h3 vs ev;omega)
    |reg h1 h2 h3=>
     obtain⟨v,hv⟩:∃v,Vc j D=v+1:=⟨Vc j D-1,by omega⟩;rw[hv]at l;have φ:WgAt ty Wg u (((v:Nat)+1)*KK+((1:Nat):Int)) 0:=by simpa using l
     obtain⟨g',hgo,hl',hq⟩:=α v 1 (by omega) (by have:=G.few;omega) φ
     by_cases hv0:v=0
     .subst hv0
      obtain⟨m₂,hk⟩:=hl' ⟨rfl,rfl⟩;refine book hgo (aside_setCell u (stA Wg) _) (l.setSt _) bk2 df2 (by omega) (.d2 hk) rfl ?_ (.inl ⟨by omega,by simp[cnt]⟩)
      have E:∀a,a<j->a≠i->(D a).stage=1:=λa U e=>by
         have c0:=others_uncounted z hv hc1 a U e;have:=h2 a U;simp only[cnt]at c0;split at c0<;>omega
      have:=ConcN.Mode.last (j:=j) (D:=upd D i ⟨4,m₂,1⟩) (tag:=tag) i h1 z (by rw[upd_same];simp) (λa U e=>by rw[upd_ne D _ e];exact E a U e);rw[upd_same]at this;simpa using this
     .obtain⟨q,hq⟩:=hq (by omega)
      have χ:Vc j (upd D i ⟨1,q,1⟩)=v:=(by have:=Vc_upd D (⟨1,q,1⟩:WD) z;have:=hq0 q;omega);refine book hgo (aside_setCell u (stA Wg) _) (l.setSt _) bk2 df2 (by omega) (.quit hq) rfl ?_ (.inl ⟨by omega,by simp[cnt]⟩);have e:((v:Nat):Int)*KK+((1:Nat):Int)=((Vc j (upd D i ⟨1,q,1⟩):Nat):Int)*KK+1:=(by rw[χ];simp);rw[e];exact .reg h1 (opq q h2) (by omega)
    |last L _ h2 h3 h4=>
     by_cases e:i=L
     .subst e;omega
     .have:=h4 i z e;omega
    |sema h2=>have:=h2 i z;omega
    |fin _ h2=>have:=h2 i z;omega
   .obtain⟨g',w',es,hgo,⟨rfl,rfl⟩,F⟩:=k u (RW.refl u)
    exact idle hgo (.d1 F) rfl
  |d2 Y=>
   rcases Goes.cases Y with d|⟨m',rfl,k⟩
   .obtain⟨_,hx⟩:=d u (RW.refl u)
    obtain⟨ξ,E,rfl,rfl⟩:=n.isLast z (by omega);simp only[B]at l;obtain⟨g',hgo,m₂,hk⟩:=hx (by simpa using l);refine book hgo (.refl Wg u) l (bk1 rfl) (by intro I e he;match I,he with|0,_=>exact .inr (by simp[deafBehind])|I+1,he=>simp at he) (by omega) (.d3 hk) rfl ?_ (.inl ⟨by omega,by simp[cnt]⟩);have:=ConcN.Mode.last (j:=j) (D:=upd D i ⟨3,m₂,1⟩) (tag:=tag) i ξ z (by rw[upd_same];simp) (λa U e=>by rw[upd_ne D _ e];exact E a U e);rw[upd_same]at this;simpa using this
   .obtain⟨g',w',es,hgo,⟨rfl,rfl⟩,F⟩:=k u (RW.refl u)
    exact idle hgo (.d2 F) rfl
  |d3 Y=>
   rcases Goes.cases Y with d|⟨m',rfl,k⟩
   .obtain⟨_,hx⟩:=d u (RW.refl u)
    obtain⟨ξ,E,rfl,rfl⟩:=n.isLast z (by omega);simp only[B]at l;obtain⟨g',hgo,m₂,hk⟩:=hx (by simpa using l);refine book hgo (aside_setCell u (stA Wg) _) (l.setSt 0) (bk1 rfl) (by intro I e he;match I,he with|0,_=>exact .inr (by simp[deafBehind])|I+1,he=>simp at he) (by omega) (.d4 hk) rfl ?_ (.inl ⟨by omega,by simp[cnt]⟩);have:=ConcN.Mode.last (j:=j) (D:=upd D i ⟨2,m₂,1⟩) (tag:=tag) i ξ z (by rw[upd_same];simp) (λa U e=>by rw[upd_ne D _ e];exact E a U e);rw[upd_same]at this;simpa using this
   .obtain⟨g',w',es,hgo,⟨rfl,rfl⟩,F⟩:=k u (RW.refl u)
    exact idle hgo (.d3 F) rfl
  |d4 Y=>
   rcases Goes.cases Y with d|⟨m',rfl,k⟩
   .obtain⟨_,hmw,hx⟩:=d u (RW.refl u)
    obtain⟨ξ,E,rfl,rfl⟩:=n.isLast z (by omega);simp only[B]at l;obtain⟨g',hgo,q,hq⟩:=hx (by simpa using l)
    have Γ:g'.status=.running:=by
     cases q with
     |zero=>exact absurd hq.2 (by decide)
     |succ q=>exact hq.elim (λx=>absurd x.2 (by decide)) (λx=>x.1)
    refine ρ hgo (aside_setCell u (smA Wg) _) (l.setSm 1) (es:=semEvents (smA Wg)) bk_sem ?_ (by omega) (.quit hq) (by simp[deafBehind,semEvents]) ?_ (.inl ⟨by omega,by simp[cnt]⟩)
    .intro I e he
     match I,he with
     |0,he=>simp[semEvents]at he;subst he;exact .inl rfl
     |1,_=>exact .inr (by simp[deafBehind,semEvents])
     |2,_=>exact .inr (by simp[deafBehind,semEvents])
     |3,he=>simp[semEvents]at he;subst he;exact .inl rfl
     |I+4,he=>simp[semEvents]at he
    .intro tag' ht hw
     have hnb:=hw hmw Γ
     have e3:tag'=.w3:=by
       rcases ht with rfl|⟨_,rfl⟩
       .cases tag'<;>first|rfl|exact ξ.elim|exact absurd rfl hnb
       .rfl
     subst e3;simp
     exact .sema λa U=>by
       by_cases e:a=i
       .subst e;rw[upd_same]
       .rw[upd_ne D _ e];exact E a U e
   .obtain⟨g',w',es,hgo,⟨rfl,rfl⟩,F⟩:=k u (RW.refl u)
    exact idle hgo (.d4 F) rfl
  |quit Y=>
   cases m with
   |zero=>rw[Y.1]at γ;cases γ
   |succ q=>
    rcases Y with⟨hf,_⟩|⟨_,g',es,ι,k,hq⟩
    .rw[hf]at γ;cases γ
    .have Z:∀e∈es,Bk Wg e:=λe he=>bk_of_mute (ι e he)
     exact book (k u) (.refl Wg u) l Z (λI e he=>.inl (touch_mute (ι e (Array.mem_of_getElem? he)))) (by omega) (.quit hq) rfl (by have:=n.same (i:=i) q (deafBehind dd es);rwa [B]at this) (.inr ⟨rfl,rfl⟩)
end
end
