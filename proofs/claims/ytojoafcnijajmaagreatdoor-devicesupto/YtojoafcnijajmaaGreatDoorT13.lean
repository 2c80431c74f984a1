/- Part 13 of the proof that Devices answers true and leaves its input as it was, for input of bulk at most the bound of its row: XA. -/
import Derived.Test.YtojoafcnijajmaaGreatDoorT12
namespace Go.Proofs.YtojoafcnijajmaaGreatDoor
open Go Go.Conc Go.ConcN
open Go.ConcR (KK wgBlock WgAt stA smA rd wr mk Payload DC0 Bk g_of_ofEvents again_blocked bk_of_mute ofEvent_loc_mark ofEvent_mk)
def BkS (Wg:Nat) (e:Event):Prop:=Bk Wg e ∨ e = mk (.read (smA Wg)) ∨ e = mk (.write (smA Wg))
theorem bkS_low {Wg B:Nat} (h:Wg < B) {e:Event} (he:BkS Wg e):(MemAct.ofEvent e).low B:=by
  rcases he with he | rfl | rfl
  · exact bk_low h he
  · exact h
  · exact h
theorem bkS_touch {S:Nat → Prop} {Wg:Nat} {e:Event} (he:BkS Wg e) {x:Touch} (hx:(MemAct.ofEvent e).touch? = some x):ShB (fun c=>S c ∨ c = Wg) x.loc ∧ x.kind ≠ .plain:=by
  rcases he with he | rfl | rfl
  · exact ⟨(bk_touch (S:=S) he hx).1,(bk_touch (S:=S) he hx).2.1⟩
  · simp only [mk,MemAct.ofEvent,MemAct.touch?,Option.some.injEq] at hx
    subst hx
    exact ⟨⟨_,rfl,.inr rfl⟩,by simp⟩
  · simp only [mk,MemAct.ofEvent,MemAct.touch?,Option.some.injEq] at hx
    subst hx
    exact ⟨⟨_,rfl,.inr rfl⟩,by simp⟩
theorem bkS_norel {Wg:Nat} {e:Event} (he:BkS Wg e):e.loc ≠ .mark (.release (stA Wg)):=by
  rcases he with he | rfl | rfl
  · exact norel_of_Bk (es:=#[e]) (fun x hx=>by rw [Array.mem_singleton.1 hx]; exact he) e (by simp)
  · simp [mk]
  · simp [mk]
section
variable [Payload]
variable {Q:Program} {ty:TypeId} {S:Nat → Prop} {Wg V nV base nW:Nat} {K:Nat → Prop} {off:Nat → Nat} {vals:Nat → List Value} {zero:Nat → Value} {u₀ u u':World} {j:Nat} {M:Nat → Nat → Prop} {M₀:Nat → Prop} {t:Trace}
  {gs:Array Goroutine} {D:Nat → WD} {lv:Nat → Bool} {q:Nat → Nat} {d0:Nat} {gE:Goroutine → Prop} {An:Goroutine → World → Prop} {tag:CTag} {f0:Nat} {a:Goroutine} {st sm st' sm':Int} {sl:Option (Nat × Nat)}
theorem bookS (G:GeoP nV nW off vals) (ha:gs[0]? = some a) (h:PI Q ty S Wg V nV base nW K off vals zero u₀ j gs u t D lv M M₀ q d0) (hjn:j ≤ nW) (hlu:WgLive ty Wg u)
    {g':Goroutine} {es:Array Event} {tag':CTag} {f':Nat} (hgo:stepG Q true a u = .go g' u' es) (hAs:Aside Wg u u') (hbk:∀ e ∈ es,BkS Wg e)
    (hcs':CS Q ty Wg V nV K gE An nW off vals tag' j f' (deafBehind d0 es) g' u' M₀) (hwg':WgAt ty Wg u' st' sm') (hmode':ConcN.Mode j D tag' st' sm')
    (hdec:(lvl tag' = lvl tag ∧ (∀ r,isLoc tag r = false) ∧ (∀ r,isLoc tag' r = false) ∧ (phi nW (Vc j D) tag' < phi nW (Vc j D) tag ∨ (phi nW (Vc j D) tag' = phi nW (Vc j D) tag ∧ f' < f0))) ∨
      (∃ r,r ≤ nW ∧ tag = .sp r 6 ∧ lvl tag' = r ∧ ∀ r,isLoc tag' r = false)) :
    ∃ m₁ ops x',runT Q (crowd gs u sl) 0 = (.next m₁,ops) ∧
      VR2 Q ty Wg V nV nW K off vals An x' (cv nW base u₀ tag j lv M M₀ gs u,(phi nW (Vc j D) tag + Ssum j D,f0 + 2 * Fsum j D + 2 * sumTo (base + 1) q)) ∧
      PInv Q ty S Wg V nV base nW K off vals zero u₀ gE An x' m₁ (t ++ ops):=by
  have hL:=h.lie
  have hWu:Wg < u.heap.size:=Nat.lt_of_lt_of_le hL.wg hL.size
  exact sStep G ha h hjn hgo (W:=fun c=>c = Wg) ⟨hAs.tape,hAs.os,hAs.output,Nat.le_of_eq hAs.size.symm,fun c _ hc=>hAs.block c hc⟩ (fun c hc=>(hL.kin c hc).2.2.1) (fun i' hi' c hc e=>by have:=(hL.low i' hi' c hc).2; have:=hL.wg; omega) (fun c _ _ h2=>h2) (fun c hc=>.inl hc)
    (fun e he x hx=>.inl (bkS_touch (hbk e he) hx)) (fun e he=>bkS_norel (hbk e he)) (fun e he=>bkS_low (by rw [hAs.size]; exact hWu) (hbk e he)) hL.vw hcs' hlu hwg' hmode' (hdec.imp id fun ⟨r,h1,h2,h3⟩=>⟨r,h1,h2,.inr h3⟩)
theorem sFork (G:GeoP nV nW off vals) (ha:gs[0]? = some a) {r:Nat} (hr:r < nW) (h:PI Q ty S Wg V nV base nW K off vals zero u₀ (nW - (r + 1)) gs u t D lv M M₀ q 0) (hwg:WgAt ty Wg u st sm) (hmode:ConcN.Mode (nW - (r + 1)) D (.sp (r + 1) 1) st sm)
    {g' child:Goroutine} (hsp:stepG Q true a u = .spawn g' child u #[]) (hch:Owned Q false K (AtPut Q ty Wg V nV (off (nW - (r + 1))) (vals (nW - (r + 1)))) child u M₀) (hnx:Sr Q ty Wg V nV K An nW off vals r g' u (fun _=>False)) :
    ∃ m₁ ops x',runT Q (crowd gs u sl) 0 = (.next m₁,ops) ∧
      VR2 Q ty Wg V nV nW K off vals An x' (cv nW base u₀ (.sp (r + 1) 1) (nW - (r + 1)) lv M M₀ gs u,(phi nW (Vc (nW - (r + 1)) D) (.sp (r + 1) 1) + Ssum (nW - (r + 1)) D,f0 + 2 * Fsum (nW - (r + 1)) D + 2 * sumTo (base + 1) q)) ∧
      PInv Q ty S Wg V nV base nW K off vals zero u₀ gE An x' m₁ (t ++ ops):=by
  have hsz:=h.size
  obtain ⟨j,hj⟩ : ∃ j,j = nW - (r + 1):=⟨_,rfl⟩
  rw [← hj] at h hmode hch hsz ⊢
  have hrun:=runT_crowd_spawn (P:=Q) (sl:=sl) (i:=0) ha (by simpa using hsp)
  have hjn:j < nW:=by omega
  have hPI:=h.fork (a':=g') G hjn (x:={ g:=0,fn:=a.frame.fn,pos:=a.frame.place,act:=.go (base + j + 1) }) (y:={ g:=base + j + 1,fn:=child.frame.fn,pos:=a.frame.place,act:=.start }) ⟨rfl,rfl⟩ ⟨rfl,rfl⟩ hch
  have eops:((MemOp.ofEvents 0 a.frame.fn a.frame.place #[]).push { g:=0,fn:=a.frame.fn,pos:=a.frame.place,act:=.go gs.size } |>.push { g:=gs.size,fn:=child.frame.fn,pos:=a.frame.place,act:=.start }) =
      #[{ g:=0,fn:=a.frame.fn,pos:=a.frame.place,act:=.go (base + j + 1) },{ g:=base + j + 1,fn:=child.frame.fn,pos:=a.frame.place,act:=.start }]:=by
    rw [hsz,show base + 1 + j = base + j + 1 by omega,ofEvents_eq]
    simp
  rw [eops] at hrun
  obtain ⟨ho,rfl,rfl,_⟩:=hmode.open_inv trivial
  have eV:Vc (j + 1) (upd D j ⟨7,0,0⟩) = Vc j D + 1:=by
    simp only [Vc,sumTo,upd_same]
    rw [sumTo_upd_out D _ cnt (Nat.le_refl _)]; rfl
  have ho':OpenSt (j + 1) (upd D j ⟨7,0,0⟩):=fun i hi=>by
    by_cases e:i = j
    · subst e; rw [upd_same]; simp
    · rw [upd_ne D _ e]; exact ho i (by omega)
  have est:((Vc j D + pend (.sp (r + 1) 1):Nat):Int) * KK = ((Vc (j + 1) (upd D j ⟨7,0,0⟩) + pend (.sp r 6):Nat):Int) * KK:=by rw [eV]; simp [pend]
  have ha':((gs.setIfInBounds 0 g').push child)[0]? = some g':=by
    rw [Array.getElem?_push,if_neg (by simp; omega),Array.getElem?_setIfInBounds_self_of_lt (by omega)]
  have hget:∀ i,0 < i → i < gs.size → ((gs.setIfInBounds 0 g').push child)[i]? = gs[i]?:=fun i h0 hi=>by
    rw [Array.getElem?_push,if_neg (by simp; omega),Array.getElem?_setIfInBounds_ne (by omega)]
  have hch':((gs.setIfInBounds 0 g').push child)[base + 1 + j]? = some child:=by rw [Array.getElem?_push,if_pos (by simp; omega)]
  refine ⟨_,_,(cv nW base u₀ (.sp r 6) (j + 1) (upd lv j true) (upd M j M₀) (fun _=>False) ((gs.setIfInBounds 0 g').push child) u,(phi nW (Vc (j + 1) (upd D j ⟨7,0,0⟩)) (.sp r 6) + Ssum (j + 1) (upd D j ⟨7,0,0⟩),0 + 2 * Fsum (j + 1) (upd D j ⟨7,0,0⟩) + 2 * sumTo (base + 1) q)),hrun,?_,
    _,u,sl,j + 1,upd D j ⟨7,0,0⟩,upd lv j true,upd M j M₀,fun _=>False,q,.sp r 6,0,0,g',_,_,rfl,ha',⟨by omega,by omega,rfl,rfl,hnx⟩,hPI,hwg,?_,by omega,rfl⟩
  · have hc:CR2 Q ty Wg V nV nW K off vals An (cv nW base u₀ (.sp r 6) (j + 1) (upd lv j true) (upd M j M₀) (fun _=>False) ((gs.setIfInBounds 0 g').push child) u j) (cv nW base u₀ (.sp (r + 1) 1) j lv M M₀ gs u j):=by
      unfold cv
      rw [if_pos hjn,if_neg (by omega),upd_same,if_pos rfl,if_pos hjn,if_pos (Nat.le_refl _),upd_same,hch']
      refine ⟨rfl,.inl ⟨rfl,rfl,?_⟩⟩
      show Owned Q (mainOf nW j) K (stopOf Q ty Wg V nV nW K off vals An j) child u M₀
      have e1:mainOf nW j = false:=decide_eq_false (by omega)
      have e2:stopOf Q ty Wg V nV nW K off vals An j = AtPut Q ty Wg V nV (off j) (vals j):=by unfold stopOf; rw [if_pos hjn]
      rw [e1,e2]
      exact hch
    have hc2:CR2 Q ty Wg V nV nW K off vals An (cv nW base u₀ (.sp r 6) (j + 1) (upd lv j true) (upd M j M₀) (fun _=>False) ((gs.setIfInBounds 0 g').push child) u (nW + r)) (cv nW base u₀ (.sp (r + 1) 1) j lv M M₀ gs u (nW + r)):=by
      unfold cv
      have e0:¬ nW + r < nW:=by omega
      rw [if_neg e0,if_neg e0,Nat.add_sub_cancel_left,if_neg (show ¬ r < lvl (.sp r 6) from Nat.lt_irrefl r),if_pos (show isLoc (.sp r 6) r = true by simp [isLoc]),if_pos (show r < lvl (.sp (r + 1) 1) from Nat.lt_succ_self r),ha']
      refine ⟨rfl,.inl ⟨rfl,rfl,?_⟩⟩
      show Owned Q (mainOf nW (nW + r)) K (stopOf Q ty Wg V nV nW K off vals An (nW + r)) g' u (fun _=>False)
      have e1:mainOf nW (nW + r) = true:=decide_eq_true (by omega)
      have e2:stopOf Q ty Wg V nV nW K off vals An (nW + r) = SrS Q ty Wg V nV K An nW off vals r:=by unfold stopOf; rw [if_neg e0,Nat.add_sub_cancel_left]
      rw [e1,e2]
      cases r with
      | zero=>exact hnx
      | succ r=>exact hnx
    refine ⟨fun k hk=>?_,.inl ⟨j,by omega,hc⟩⟩
    by_cases hkj:k = j
    · subst hkj; exact .inr hc
    by_cases hkr:k = nW + r
    · subst hkr; exact .inr hc2
    refine .inl (.inl ?_)
    show cv _ _ _ _ _ _ _ _ _ _ k = cv _ _ _ _ _ _ _ _ _ _ k
    unfold cv
    by_cases hkn:k < nW
    · rw [if_pos hkn,if_pos hkn]
      by_cases hlt:j ≤ k
      · rw [if_pos (show j + 1 ≤ k by omega),if_pos hlt]
      · rw [if_neg (show ¬ j + 1 ≤ k by omega),if_neg hlt,upd_ne lv _ hkj,upd_ne M _ hkj,hget _ (by omega) (by omega)]
    · rw [if_neg hkn,if_neg hkn]
      by_cases hlt:k - nW < r
      · rw [if_pos (show k - nW < lvl (.sp r 6) from hlt),if_pos (show k - nW < lvl (.sp (r + 1) 1) from Nat.lt_succ_of_lt hlt)]
      · rw [if_neg (show ¬ k - nW < lvl (.sp r 6) from hlt),if_neg (show ¬ k - nW < lvl (.sp (r + 1) 1) by show ¬ k - nW < r + 1; omega),if_neg (show ¬ isLoc (.sp r 6) (k - nW) = true by simp [isLoc]; omega),if_neg (show ¬ isLoc (.sp (r + 1) 1) (k - nW) = true by simp [isLoc])]
  · rw [est]
    exact .opn trivial ho' (by simp)
def PGoal (Q:Program) (ty:TypeId) (S:Nat → Prop) (Wg V nV nW:Nat) (off:Nat → Nat) (vals:Nat → List Value) (zero:Nat → Value) (u₀:World) (gE:Goroutine → Prop) (m:Machine) (t:Trace):Prop :=
  ∃ gs u sl q cs,m = crowd gs u sl ∧ (∃ g₀,gs[0]? = some g₀ ∧ gE g₀) ∧ WgLive ty Wg u ∧ Fr0 Q (fun c=>S c ∨ c = Wg) gs u.heap.size t q ∧ u.tape = u₀.tape ∧ u.os = u₀.os ∧ u.output = u₀.output ∧ u₀.heap.size ≤ u.heap.size ∧ (∀ c,c < u₀.heap.size → c ≠ V → c ≠ Wg → u.heap[c]? = u₀.heap[c]?) ∧
    u.heap[V]? = some (.cells cs Payload.ety) ∧ cs.size = nV ∧ (∀ i,i < nW → ∀ o,o < (vals i).length → cs[off i + o]? = (vals i)[o]?) ∧ ∀ x,x < nV → (∀ i,i < nW → ¬ (off i ≤ x ∧ x < off i + (vals i).length)) → cs[x]? = some (zero x)
set_option maxHeartbeats 1600000 in
theorem starterMoves (G:GeoP nV nW off vals) (hAn:∀ g w,WgLive ty Wg w → An g w → ∃ m,Goes Q true (RL ty Wg) DC0 (TW1 Q ty Wg gE An) m g w) (ha:gs[0]? = some a) (hcs:CS Q ty Wg V nV K gE An nW off vals tag j f0 d0 a u M₀)
    (h:PI Q ty S Wg V nV base nW K off vals zero u₀ j gs u t D lv M M₀ q d0) (hjn:j ≤ nW) (hwg:WgAt ty Wg u st sm) (hmode:ConcN.Mode j D tag st sm) (hrun:a.status = .running) :
    (∃ m₁ ops,runT Q (crowd gs u sl) 0 = (.next m₁,ops) ∧ PGoal Q ty S Wg V nV nW off vals zero u₀ gE m₁ (t ++ ops)) ∨
    ∃ m₁ ops x',runT Q (crowd gs u sl) 0 = (.next m₁,ops) ∧
      VR2 Q ty Wg V nV nW K off vals An x' (cv nW base u₀ tag j lv M M₀ gs u,(phi nW (Vc j D) tag + Ssum j D,f0 + 2 * Fsum j D + 2 * sumTo (base + 1) q)) ∧
      PInv Q ty S Wg V nV base nW K off vals zero u₀ gE An x' m₁ (t ++ ops):=by
  have hlu:WgLive ty Wg u:=⟨_,_,hwg⟩
  have hL:=h.lie
  have hVj:=Vc_le j D
  have hfew:=G.few
  have bk1:∀ {e:Event},BkS Wg e → ∀ x ∈ (#[e]:Array Event),BkS Wg x:=fun he x hx=>by rw [Array.mem_singleton.1 hx]; exact he
  have bkD:BkS Wg (mk .disable):=.inl (.inl rfl)
  have bkE:BkS Wg (mk .enable):=.inl (.inr (.inl rfl))
  have bkR:BkS Wg (rd (stA Wg)):=.inl (.inr (.inr ⟨_,_,rfl,rfl⟩))
  have bkRW:∀ x ∈ (#[rd (stA Wg),wr (stA Wg)]:Array Event),BkS Wg x:=fun x hx=>.inl (bk_rw x hx)
  have nl:∀ tg:CTag,(∀ r,tg ≠ .sp r 6) → ∀ r,isLoc tg r = false:=fun tg htg r=>by
    cases tg <;> try rfl
    rename_i r' s
    unfold isLoc
    split
    · exact absurd (by simp_all) (htg r')
    · rfl
  have kds:∀ {r m:Nat} {g' child:Goroutine},r < nW → j = nW - (r + 1) → d0 = 0 → child.status = .running → Goes Q true (RL ty Wg) DC0 (TKdS Q ty Wg g' child) m a u →
      (∀ u₁,Rely K M₀ u u₁ → Owned Q false K (AtPut Q ty Wg V nV (off (nW - (r + 1))) (vals (nW - (r + 1)))) child u₁ M₀ ∧ Sr Q ty Wg V nV K An nW off vals r g' u₁ (fun _=>False)) →
      ((tag = .sp (r + 1) 5 ∧ f0 = m) ∨ tag = .sp (r + 1) 6) →
      ∃ m₁ ops x',runT Q (crowd gs u sl) 0 = (.next m₁,ops) ∧
        VR2 Q ty Wg V nV nW K off vals An x' (cv nW base u₀ tag j lv M M₀ gs u,(phi nW (Vc j D) tag + Ssum j D,f0 + 2 * Fsum j D + 2 * sumTo (base + 1) q)) ∧
        PInv Q ty S Wg V nV base nW K off vals zero u₀ gE An x' m₁ (t ++ ops):=by
    intro r m g' child hr hj hd hch hG hF htag
    have hop:isOpen tag:=by rcases htag with ⟨rfl,_⟩ | rfl <;> trivial
    have hpd:pend tag = 0:=by rcases htag with ⟨rfl,_⟩ | rfl <;> rfl
    rcases Goes.cases hG with hstop | ⟨m',rfl,hstep⟩
    · obtain ⟨_,a',hgo,m₂,hk⟩:=hstop u hlu
      refine bookS G ha h hjn hlu hgo (.refl Wg u) (bk1 bkD) (tag':=.sp (r + 1) 4) (f':=m₂) ⟨hr,hj,by rw [hd]; rfl,g',child,hch,hk,hF⟩ hwg (hmode.reopen hop trivial (by rw [hpd]; rfl) (by simp)) ?_
      rcases htag with ⟨rfl,_⟩ | rfl
      · exact .inl ⟨rfl,nl _ (by simp),nl _ (by simp),.inl (by simp only [phi]; omega)⟩
      · exact .inr ⟨r + 1,by omega,rfl,rfl,nl _ (by simp)⟩
    · obtain ⟨a',w',es,hgo,⟨rfl,rfl⟩,hg'⟩:=hstep u hlu
      refine bookS G ha h hjn hlu hgo (.refl Wg _) (by simp) (tag':=.sp (r + 1) 5) (f':=m') ⟨hr,hj,hd,g',child,hch,hg',hF⟩ hwg (hmode.reopen hop trivial (by rw [hpd]; rfl) (by simp)) ?_
      rcases htag with ⟨rfl,rfl⟩ | rfl
      · exact .inl ⟨rfl,nl _ (by simp),nl _ (by simp),.inr ⟨rfl,by omega⟩⟩
      · exact .inr ⟨r + 1,by omega,rfl,rfl,nl _ (by simp)⟩
  have kdw:∀ {m:Nat},j = nW → d0 = 0 → Goes Q true (RL ty Wg) DC0 (TKd Q ty Wg An) m a u → ((tag = .kd ∧ f0 = m) ∨ tag = .sp 0 6) →
      ∃ m₁ ops x',runT Q (crowd gs u sl) 0 = (.next m₁,ops) ∧
        VR2 Q ty Wg V nV nW K off vals An x' (cv nW base u₀ tag j lv M M₀ gs u,(phi nW (Vc j D) tag + Ssum j D,f0 + 2 * Fsum j D + 2 * sumTo (base + 1) q)) ∧
        PInv Q ty S Wg V nV base nW K off vals zero u₀ gE An x' m₁ (t ++ ops):=by
    intro m hj hd hG htag
    have hop:isOpen tag:=by rcases htag with ⟨rfl,_⟩ | rfl <;> trivial
    have hpd:pend tag = 0:=by rcases htag with ⟨rfl,_⟩ | rfl <;> rfl
    rcases Goes.cases hG with hstop | ⟨m',rfl,hstep⟩
    · obtain ⟨_,a',hgo,m₂,hk⟩:=hstop u hlu
      refine bookS G ha h hjn hlu hgo (.refl Wg u) (bk1 bkD) (tag':=.anch) (f':=m₂) ⟨hj,by rw [hd]; rfl,hk⟩ hwg (hmode.reopen hop trivial (by rw [hpd]; rfl) (by simp)) ?_
      rcases htag with ⟨rfl,_⟩ | rfl
      · exact .inl ⟨rfl,nl _ (by simp),nl _ (by simp),.inl (by simp only [phi]; omega)⟩
      · exact .inr ⟨0,by omega,rfl,rfl,nl _ (by simp)⟩
    · obtain ⟨a',w',es,hgo,⟨rfl,rfl⟩,hg'⟩:=hstep u hlu
      refine bookS G ha h hjn hlu hgo (.refl Wg _) (by simp) (tag':=.kd) (f':=m') ⟨hj,hd,hg'⟩ hwg (hmode.reopen hop trivial (by rw [hpd]; rfl) (by simp)) ?_
      rcases htag with ⟨rfl,rfl⟩ | rfl
      · exact .inl ⟨rfl,nl _ (by simp),nl _ (by simp),.inr ⟨rfl,by omega⟩⟩
      · exact .inr ⟨0,by omega,rfl,rfl,nl _ (by simp)⟩
  have load:∀ {m:Nat},j = nW → d0 = 1 → Goes Q true (RL ty Wg) DC0 (TW1 Q ty Wg gE An) m a u → ((tag = .w1 ∧ f0 = m) ∨ tag = .anch) →
      ∃ m₁ ops x',runT Q (crowd gs u sl) 0 = (.next m₁,ops) ∧
        VR2 Q ty Wg V nV nW K off vals An x' (cv nW base u₀ tag j lv M M₀ gs u,(phi nW (Vc j D) tag + Ssum j D,f0 + 2 * Fsum j D + 2 * sumTo (base + 1) q)) ∧
        PInv Q ty S Wg V nV base nW K off vals zero u₀ gE An x' m₁ (t ++ ops):=by
    intro m hj hd hG htag
    have hop:isOpen tag:=by rcases htag with ⟨rfl,_⟩ | rfl <;> trivial
    have hpd:pend tag = 0:=by rcases htag with ⟨rfl,_⟩ | rfl <;> rfl
    have hl0:lvl tag = 0:=by rcases htag with ⟨rfl,_⟩ | rfl <;> rfl
    have hnl:∀ r,isLoc tag r = false:=by rcases htag with ⟨rfl,_⟩ | rfl <;> exact nl _ (by simp)
    have hph:8 * Vc j D + 5 ≤ phi nW (Vc j D) tag:=by rcases htag with ⟨rfl,_⟩ | rfl <;> simp only [phi] <;> omega
    rcases Goes.cases hG with hstop | ⟨m',rfl,hstep⟩
    · obtain ⟨_,hall⟩:=hstop u hlu
      obtain ⟨ho,rfl,rfl,_⟩:=hmode.open_inv hop
      obtain ⟨a',hgo,h0,hne⟩:=hall (Vc j D) (by omega) (by simpa [hpd] using hwg)
      by_cases hv:Vc j D = 0
      · obtain ⟨m₂,hk⟩:=h0 hv
        refine bookS G ha h hjn hlu hgo (.refl Wg u) (bk1 bkR) (tag':=.ke) (f':=m₂) ⟨hj,by rw [hd]; rfl,hk⟩ hwg ?_ (.inl ⟨hl0.symm,hnl,nl _ (by simp),.inl (by simp only [phi] at hph ⊢; omega)⟩)
        have e:((Vc j D + pend tag:Nat):Int) * KK = 0:=by rw [hv,hpd]; simp
        rw [e]
        exact .fin trivial (allQuit_of ho hv)
      · obtain ⟨m₂,hk⟩:=hne hv
        exact bookS G ha h hjn hlu hgo (.refl Wg u) (bk1 bkR) (tag':=.w2 (Vc j D)) (f':=m₂) ⟨hj,by rw [hd]; rfl,hk⟩ hwg (hmode.reopen hop trivial (by rw [hpd]; rfl) (fun vs e=>by cases e; omega)) (.inl ⟨hl0.symm,hnl,nl _ (by simp),.inl (by simp only [phi] at hph ⊢; omega)⟩)
    · obtain ⟨a',w',es,hgo,⟨rfl,rfl⟩,hg'⟩:=hstep u hlu
      refine bookS G ha h hjn hlu hgo (.refl Wg _) (by simp) (tag':=.w1) (f':=m') ⟨hj,hd,hg'⟩ hwg (hmode.reopen hop trivial (by rw [hpd]; rfl) (by simp)) (.inl ⟨hl0.symm,hnl,nl _ (by simp),?_⟩)
      rcases htag with ⟨rfl,rfl⟩ | rfl
      · exact .inr ⟨rfl,by omega⟩
      · exact .inl (by simp only [phi]; omega)
  cases tag with
  | sp r s =>
    match r,s,hcs with
    | r,6,hcs =>
      obtain ⟨hr,hj,hf,hd,hs⟩ : r ≤ nW ∧ j = nW - r ∧ f0 = 0 ∧ d0 = 0 ∧ Sr Q ty Wg V nV K An nW off vals r a u M₀:=by cases r <;> exact hcs
      have hs':Owned Q true K (SrS Q ty Wg V nV K An nW off vals r) a u M₀:=by cases r <;> exact hs
      refine .inr ?_
      by_cases hst:∀ u₁,Rely K M₀ u u₁ → SrS Q ty Wg V nV K An nW off vals r a u₁ M₀
      · have hx:=hst u (Rely.refl _ _ _)
        cases r with
        | zero =>
          obtain ⟨m,hm⟩:=hx
          exact kdw (by omega) hd hm (.inr rfl)
        | succ r =>
          obtain ⟨g',child,h1,⟨m,hm⟩,h3⟩:=hx
          exact kds (by omega) (by omega) hd h1 hm h3 (.inr rfl)
      · rcases hs'.cases with hx | ⟨_,hx⟩
        · exact absurd hx hst
        obtain ⟨g',u',es,hgo,hdo,ho'⟩:=hx u (Rely.refl _ _ _)
        have hgrow:∀ c,Grow M₀ u u' c → c < u'.heap.size:=fun c hc=>by
          rcases hc with hc | ⟨_,hc⟩
          · exact Nat.lt_of_lt_of_le (hL.low0 c hc).1 hdo.size
          · exact hc
        have hWu:Wg < u.heap.size:=Nat.lt_of_lt_of_le hL.wg hL.size
        refine sStep G ha h hjn hgo (W:=M₀) ⟨hdo.tape,hdo.os,hdo.output,hdo.size,hdo.keep⟩ (fun c hc hm=>by have:=(hL.low0 c hm).2; have:=(hL.kin c hc).1; omega) (fun i' hi' c hc hm=>hL.dis0 i' hi' c hc hm) (fun c hc _ _ hm=>by have:=(hL.low0 c hm).2; omega)
          (M':=Grow M₀ u u') (fun c hc=>hc) (fun e he x hx=>.inr ((hdo.evs e he).touch hx).2.2) (fun e he=>((hdo.evs e he).marks).2.2 _) (fun e he=>(hdo.evs e he).low (fun c hc=>Nat.lt_of_lt_of_le (hL.kin c hc).1 (Nat.le_trans hL.size hdo.size)) hgrow)
          (fun hm=>by have:=(hL.low0 V hm).2; have:=hL.v; omega) (tag':=.sp r 6) (f':=0) ?_ hlu (hwg.of_block (hdo.keep Wg hWu fun hm=>by have:=(hL.low0 Wg hm).2; have:=hL.wg; omega)) hmode (.inr ⟨r,hr,rfl,.inl ⟨rfl,rfl,.inr (.inr (.inr ⟨rfl,rfl,?_,u,es,Rely.refl _ _ _,?_,rfl⟩))⟩⟩)
        · have e:deafBehind d0 es = 0:=by rw [hd]; exact deafBehind_idle (fun e he=>⟨(hdo.evs e he).marks.1,(hdo.evs e he).marks.2.1⟩) 0
          rw [e]
          have hs2:Sr Q ty Wg V nV K An nW off vals r g' u' (Grow M₀ u u'):=by cases r <;> exact ho'
          cases r <;> exact ⟨hr,hj,rfl,rfl,hs2⟩
        · intro hs3
          refine hst fun u₁ hu₁=>?_
          have:=hs3 u₁ hu₁
          have e0:¬ nW + r < nW:=by omega
          simp only [stopOf,if_neg e0,Nat.add_sub_cancel_left] at this
          exact this
        · have e1:mainOf nW (nW + r) = true:=decide_eq_true (by omega)
          rw [e1]; exact hgo
    | r + 1,5,hcs =>
      obtain ⟨hr,hj,hd,g',child,h1,hm,h3⟩:=hcs
      exact .inr (kds hr hj hd h1 hm h3 (.inl ⟨rfl,rfl⟩))
    | r + 1,4,hcs =>
      obtain ⟨hr,hj,hd,g',child,h1,hG,h3⟩:=hcs
      refine .inr ?_
      rcases Goes.cases hG with hstop | ⟨m',rfl,hstep⟩
      · obtain ⟨_,hall⟩:=hstop u hlu
        obtain ⟨ho,rfl,rfl,_⟩:=hmode.open_inv trivial
        obtain ⟨a',hgo,m₂,hk⟩:=hall (Vc j D) (by omega) (by simpa [pend] using hwg)
        have hAs:Aside Wg u (u.setCell (stA Wg) (.int .u64 (((Vc j D:Nat) + 1) * KK))):=aside_setCell u (stA Wg) _
        refine bookS G ha h hjn hlu hgo hAs bkRW (tag':=.sp (r + 1) 3) (f':=m₂) ⟨hr,hj,by rw [hd]; rfl,g',child,h1,hk,fun u₁ hu₁=>h3 u₁ (Rely.trans ?_ hu₁)⟩ (hwg.setSt _) ?_ (.inl ⟨rfl,nl _ (by simp),nl _ (by simp),.inl (by simp only [phi]; omega)⟩)
        · exact ⟨hAs.tape,hAs.os,hAs.output,Nat.le_of_eq hAs.size.symm,fun c hc _=>hAs.block c fun e=>by
            subst e
            rcases hc with hc | hc
            · have:=(hL.low0 _ hc).2; have:=hL.wg; omega
            · exact (hL.kin _ hc).2.2.1 rfl⟩
        · have e:(((Vc j D:Nat):Int) + 1) * KK = ((Vc j D + pend (.sp (r + 1) 3):Nat):Int) * KK:=by simp [pend]
          rw [e]
          exact .opn trivial ho (by simp)
      · obtain ⟨a',w',es,hgo,⟨rfl,rfl⟩,hg'⟩:=hstep u hlu
        exact bookS G ha h hjn hlu hgo (.refl Wg _) (by simp) (tag':=.sp (r + 1) 4) (f':=m') ⟨hr,hj,hd,g',child,h1,hg',h3⟩ hwg hmode (.inl ⟨rfl,nl _ (by simp),nl _ (by simp),.inr ⟨rfl,by omega⟩⟩)
    | r + 1,3,hcs =>
      obtain ⟨hr,hj,hd,g',child,h1,hG,h3⟩:=hcs
      refine .inr ?_
      rcases Goes.cases hG with hstop | ⟨m',rfl,hstep⟩
      · rcases hstop u hlu with ⟨_,a',hgo,m₂,hk⟩ | ⟨_,a',hgo,m₂,hk⟩
        · exact bookS G ha h hjn hlu hgo (.refl Wg u) (bk1 (.inr (.inl rfl))) (tag':=.sp (r + 1) 2) (f':=m₂) ⟨hr,hj,by rw [hd]; rfl,g',child,h1,hk,h3⟩ hwg (hmode.reopen trivial trivial rfl (by simp)) (.inl ⟨rfl,nl _ (by simp),nl _ (by simp),.inl (by simp only [phi]; omega)⟩)
        · exact bookS G ha h hjn hlu hgo (.refl Wg u) (bk1 bkE) (tag':=.sp (r + 1) 1) (f':=m₂) ⟨hr,hj,by rw [hd]; rfl,g',child,h1,hk,h3⟩ hwg (hmode.reopen trivial trivial rfl (by simp)) (.inl ⟨rfl,nl _ (by simp),nl _ (by simp),.inl (by simp only [phi]; omega)⟩)
      · obtain ⟨a',w',es,hgo,⟨rfl,rfl⟩,hg'⟩:=hstep u hlu
        exact bookS G ha h hjn hlu hgo (.refl Wg _) (by simp) (tag':=.sp (r + 1) 3) (f':=m') ⟨hr,hj,hd,g',child,h1,hg',h3⟩ hwg hmode (.inl ⟨rfl,nl _ (by simp),nl _ (by simp),.inr ⟨rfl,by omega⟩⟩)
    | r + 1,2,hcs =>
      obtain ⟨hr,hj,hd,g',child,h1,hG,h3⟩:=hcs
      refine .inr ?_
      rcases Goes.cases hG with hstop | ⟨m',rfl,hstep⟩
      · obtain ⟨_,a',hgo,m₂,hk⟩:=hstop u hlu
        exact bookS G ha h hjn hlu hgo (.refl Wg u) (bk1 bkE) (tag':=.sp (r + 1) 1) (f':=m₂) ⟨hr,hj,by rw [hd]; rfl,g',child,h1,hk,h3⟩ hwg (hmode.reopen trivial trivial rfl (by simp)) (.inl ⟨rfl,nl _ (by simp),nl _ (by simp),.inl (by simp only [phi]; omega)⟩)
      · obtain ⟨a',w',es,hgo,⟨rfl,rfl⟩,hg'⟩:=hstep u hlu
        exact bookS G ha h hjn hlu hgo (.refl Wg _) (by simp) (tag':=.sp (r + 1) 2) (f':=m') ⟨hr,hj,hd,g',child,h1,hg',h3⟩ hwg hmode (.inl ⟨rfl,nl _ (by simp),nl _ (by simp),.inr ⟨rfl,by omega⟩⟩)
    | r + 1,1,hcs =>
      obtain ⟨hr,hj,hd,g',child,h1,hG,h3⟩:=hcs
      refine .inr ?_
      rcases Goes.cases hG with hstop | ⟨m',rfl,hstep⟩
      · obtain ⟨_,hsp⟩:=hstop u hlu
        obtain ⟨h4,h5⟩:=h3 u (Rely.refl _ _ _)
        subst hj hd
        exact sFork G ha hr h hwg hmode hsp h4 h5
      · obtain ⟨a',w',es,hgo,⟨rfl,rfl⟩,hg'⟩:=hstep u hlu
        exact bookS G ha h hjn hlu hgo (.refl Wg _) (by simp) (tag':=.sp (r + 1) 1) (f':=m') ⟨hr,hj,hd,g',child,h1,hg',h3⟩ hwg hmode (.inl ⟨rfl,nl _ (by simp),nl _ (by simp),.inr ⟨rfl,by omega⟩⟩)
    | r + 1,0,hcs=>exact hcs.elim
    | r + 1,s + 7,hcs=>exact hcs.elim
    | 0,0,hcs=>exact hcs.elim
    | 0,1,hcs=>exact hcs.elim
    | 0,2,hcs=>exact hcs.elim
    | 0,3,hcs=>exact hcs.elim
    | 0,4,hcs=>exact hcs.elim
    | 0,5,hcs=>exact hcs.elim
    | 0,s + 7,hcs=>exact hcs.elim
  | kd=>exact .inr (kdw hcs.1 hcs.2.1 hcs.2.2 (.inl ⟨rfl,rfl⟩))
  | anch =>
    obtain ⟨hj,hd,hG⟩:=hcs
    refine .inr ?_
    rcases Goes.cases hG with hstop | ⟨m',rfl,hstep⟩
    · obtain ⟨m₂,hk⟩:=hAn a u hlu (hstop u hlu)
      exact load hj hd hk (.inr rfl)
    · obtain ⟨a',w',es,hgo,⟨rfl,rfl⟩,hg'⟩:=hstep u hlu
      exact bookS G ha h hjn hlu hgo (.refl Wg _) (by simp) (tag':=.anch) (f':=m') ⟨hj,hd,hg'⟩ hwg hmode (.inl ⟨rfl,nl _ (by simp),nl _ (by simp),.inr ⟨rfl,by omega⟩⟩)
  | w1=>exact .inr (load hcs.1 hcs.2.1 hcs.2.2 (.inl ⟨rfl,rfl⟩))
  | w2 vs =>
    obtain ⟨hj,hd,hG⟩:=hcs
    refine .inr ?_
    rcases Goes.cases hG with hstop | ⟨m',rfl,hstep⟩
    · obtain ⟨_,hall⟩:=hstop u hlu
      obtain ⟨ho,rfl,rfl,hw2⟩:=hmode.open_inv trivial
      obtain ⟨hle,h1⟩:=hw2 vs rfl
      obtain ⟨hhit,hmiss⟩:=hall (Vc j D) (by omega) (by simpa [pend] using hwg)
      by_cases e:Vc j D = vs
      · obtain ⟨a',hgo,m₂,hk⟩:=hhit e
        exact bookS G ha h hjn hlu hgo (aside_setCell u (stA Wg) _) bkRW (tag':=.w3) (f':=m₂ + 102) ⟨hj,by rw [hd]; rfl,.inl ⟨m₂,rfl,hk⟩⟩ (hwg.setSt _) (.reg trivial ho (by omega)) (.inl ⟨rfl,nl _ (by simp),nl _ (by simp),.inl (by simp only [phi]; omega)⟩)
      · obtain ⟨a',hgo,m₂,hk⟩:=hmiss e
        exact bookS G ha h hjn hlu hgo (.refl Wg u) (bk1 bkR) (tag':=.anch) (f':=m₂) ⟨hj,by rw [hd]; rfl,hk⟩ hwg (hmode.reopen trivial trivial rfl (by simp)) (.inl ⟨rfl,nl _ (by simp),nl _ (by simp),.inl (by simp only [phi]; omega)⟩)
    · obtain ⟨a',w',es,hgo,⟨rfl,rfl⟩,hg'⟩:=hstep u hlu
      exact bookS G ha h hjn hlu hgo (.refl Wg _) (by simp) (tag':=.w2 vs) (f':=m') ⟨hj,hd,hg'⟩ hwg hmode (.inl ⟨rfl,nl _ (by simp),nl _ (by simp),.inr ⟨rfl,by omega⟩⟩)
  | w3 =>
    obtain ⟨hj,hd,hcs⟩:=hcs
    refine .inr ?_
    rcases hcs with ⟨m,hf,hG⟩ | ⟨m,hf,hG⟩
    · rcases Goes.cases hG with hstop | ⟨m',rfl,hstep⟩
      · obtain ⟨_,a',hgo,hk⟩:=hstop u hlu
        exact bookS G ha h hjn hlu hgo (.refl Wg u) (bk1 (.inr (.inr rfl))) (tag':=.w3) (f':=100 + 1) ⟨hj,by rw [hd]; rfl,.inr ⟨100,rfl,hk⟩⟩ hwg hmode (.inl ⟨rfl,nl _ (by simp),nl _ (by simp),.inr ⟨rfl,by omega⟩⟩)
      · obtain ⟨a',w',es,hgo,⟨rfl,rfl⟩,hg'⟩:=hstep u hlu
        exact bookS G ha h hjn hlu hgo (.refl Wg _) (by simp) (tag':=.w3) (f':=m' + 102) ⟨hj,hd,.inl ⟨m',rfl,hg'⟩⟩ hwg hmode (.inl ⟨rfl,nl _ (by simp),nl _ (by simp),.inr ⟨rfl,by omega⟩⟩)
    · rcases Goes.cases hG with hstop | ⟨m',rfl,hstep⟩
      · obtain ⟨_,hoff,hblk,htake⟩:=hstop u hlu
        have toblk:ConcN.Mode j D .blk st sm → ∃ m₁ ops x',runT Q (crowd gs u sl) 0 = (.next m₁,ops) ∧
            VR2 Q ty Wg V nV nW K off vals An x' (cv nW base u₀ .w3 j lv M M₀ gs u,(phi nW (Vc j D) .w3 + Ssum j D,f0 + 2 * Fsum j D + 2 * sumTo (base + 1) q)) ∧
            PInv Q ty S Wg V nV base nW K off vals zero u₀ gE An x' m₁ (t ++ ops):=fun hm=>by
          have hsm:sm = 0:=by
            cases hm with
            | opn h1 _ _=>exact h1.elim
            | reg _ _ _=>rfl
            | last _ _ _ _ _=>rfl
            | fin h1 _=>exact h1.elim
          subst hsm
          exact bookS G ha h hjn hlu (hblk ⟨_,hwg⟩) (.refl Wg _) (by simp) (tag':=.blk) (f':=0) ⟨hj,hd,rfl,a,rfl,hoff,fun w hw=>hstop w hw⟩ hwg hm (.inl ⟨rfl,nl _ (by simp),nl _ (by simp),.inr ⟨rfl,by omega⟩⟩)
        cases hmode with
        | opn h1 _ _=>exact h1.elim
        | reg h1 h2 h3=>exact toblk (.reg trivial h2 h3)
        | last L h1 h2 h3 h4=>exact toblk (.last L trivial h2 h3 h4)
        | sema h2 =>
          obtain ⟨a',hgo,m₂,hk⟩:=htake hwg
          exact bookS G ha h hjn hlu hgo (aside_setCell u (smA Wg) _) (fun x hx=>.inl (bk_sem x hx)) (tag':=.w4) (f':=m₂) ⟨hj,by rw [hd]; simp [deafBehind,semEvents],hk⟩ (hwg.setSm 0) (.fin trivial h2) (.inl ⟨rfl,nl _ (by simp),nl _ (by simp),.inl (by simp only [phi]; omega)⟩)
        | fin h1 _=>exact h1.elim
      · obtain ⟨a',w',es,hgo,⟨rfl,rfl⟩,hg'⟩:=hstep u hlu
        exact bookS G ha h hjn hlu hgo (.refl Wg _) (by simp) (tag':=.w3) (f':=m' + 1) ⟨hj,hd,.inr ⟨m',rfl,hg'⟩⟩ hwg hmode (.inl ⟨rfl,nl _ (by simp),nl _ (by simp),.inr ⟨rfl,by omega⟩⟩)
  | blk =>
    obtain ⟨_,_,_,g,rfl,_⟩:=hcs
    simp at hrun
  | w4 =>
    obtain ⟨hj,hd,hG⟩:=hcs
    refine .inr ?_
    rcases Goes.cases hG with hstop | ⟨m',rfl,hstep⟩
    · obtain ⟨_,hx⟩:=hstop u hlu
      obtain ⟨hq,rfl,rfl⟩:=hmode.fin_inv trivial
      obtain ⟨a',hgo,m₂,hk⟩:=hx hwg
      exact bookS G ha h hjn hlu hgo (.refl Wg u) (bk1 bkR) (tag':=.ke) (f':=m₂) ⟨hj,by rw [hd]; rfl,hk⟩ hwg (.fin trivial hq) (.inl ⟨rfl,nl _ (by simp),nl _ (by simp),.inl (by simp only [phi]; omega)⟩)
    · obtain ⟨a',w',es,hgo,⟨rfl,rfl⟩,hg'⟩:=hstep u hlu
      exact bookS G ha h hjn hlu hgo (.refl Wg _) (by simp) (tag':=.w4) (f':=m') ⟨hj,hd,hg'⟩ hwg hmode (.inl ⟨rfl,nl _ (by simp),nl _ (by simp),.inr ⟨rfl,by omega⟩⟩)
  | ke =>
    obtain ⟨hj,hd,hG⟩:=hcs
    refine .inr ?_
    rcases Goes.cases hG with hstop | ⟨m',rfl,hstep⟩
    · obtain ⟨_,a',hgo,m₂,hk⟩:=hstop u hlu
      obtain ⟨hq,rfl,rfl⟩:=hmode.fin_inv trivial
      exact bookS G ha h hjn hlu hgo (.refl Wg u) (bk1 bkE) (tag':=.acq) (f':=m₂) ⟨hj,by rw [hd]; rfl,hk⟩ hwg (.fin trivial hq) (.inl ⟨rfl,nl _ (by simp),nl _ (by simp),.inl (by simp only [phi]; omega)⟩)
    · obtain ⟨a',w',es,hgo,⟨rfl,rfl⟩,hg'⟩:=hstep u hlu
      exact bookS G ha h hjn hlu hgo (.refl Wg _) (by simp) (tag':=.ke) (f':=m') ⟨hj,hd,hg'⟩ hwg hmode (.inl ⟨rfl,nl _ (by simp),nl _ (by simp),.inr ⟨rfl,by omega⟩⟩)
  | acq =>
    obtain ⟨hj,hd,hG⟩:=hcs
    rcases Goes.cases hG with hstop | ⟨m',rfl,hstep⟩
    · obtain ⟨_,gF,hgF,hgo⟩:=hstop u hlu
      obtain ⟨hq,rfl,rfl⟩:=hmode.fin_inv trivial
      refine .inl ⟨_,_,runT_crowd_go (P:=Q) (sl:=sl) (i:=0) ha (by simpa using hgo),?_⟩
      have hsz:=h.size
      have hWu:Wg < u.heap.size:=Nat.lt_of_lt_of_le hL.wg hL.size
      have hPI:=h.starter G (g:=a) (g':=gF) (fn:=a.frame.fn) (pos:=a.frame.place) (es:=#[mk (.acquire (stA Wg))]) (W:=fun _=>False) (u':=u) ⟨rfl,rfl,rfl,Nat.le_refl _,fun _ _ _=>rfl⟩ (fun _ _ h=>h) (fun _ _ _ _ h=>h) (fun _ _ _ _ h=>h) (M':=M₀) (fun c hc=>.inl hc)
        (fun e he x hx=>by rw [Array.mem_singleton.1 he] at hx; cases hx) (fun e he=>by rw [Array.mem_singleton.1 he]; simp [mk]) (fun e he=>by rw [Array.mem_singleton.1 he]; exact hWu) (fun h=>h) hlu hlu
      have e1:MemOp.ofEvents 0 a.frame.fn a.frame.place #[mk (.acquire (stA Wg))] = #[{ g:=0,fn:=a.frame.fn,pos:=a.frame.place,act:=.mark (.acquire (stA Wg)) }]:=by rw [ofEvents_eq]; simp [ofEvent_mk]
      have hy:(t ++ #[({ g:=0,fn:=a.frame.fn,pos:=a.frame.place,act:=.mark (.acquire (stA Wg)) }:MemOp)])[t.size]? = some { g:=0,fn:=a.frame.fn,pos:=a.frame.place,act:=.mark (.acquire (stA Wg)) }:=by simp
      have hj2:=hPI.ti.join (q:=t.size) (by rw [e1,act?_of hy]) (by rw [e1]; simp [Trace.g?]) (by rw [e1]; exact ⟨0,by simp [Trace.g?],by rw [deaf_old (Nat.le_refl _)]; exact h.deaf0.trans hd⟩) (fun g g1 g2=>by
        obtain ⟨i,rfl⟩ : ∃ i,g = base + 1 + i:=⟨g - base - 1,by omega⟩
        obtain ⟨r,hr⟩:=h.rel i (by omega) (by rw [hq i (by omega)]; omega)
        exact ⟨r,hr.appOther g_of_ofEvents (by omega),lt_of_act? hr.act⟩)
      have hwk:∀ i,i < j → lv i = false:=fun i hi=>by
        obtain ⟨g,_,hw⟩:=h.wk i hi
        have:=hq i hi
        rcases hw with ⟨_,h7,_⟩ | ⟨hl,_⟩ | ⟨hl,_⟩
        · omega
        · exact hl
        · exact hl
      obtain ⟨cs,c1,c2,c3,c4⟩:=h.row
      refine ⟨_,u,sl,fun k=>if k ≤ base then q k else (D (k - base - 1)).fuel,cs,rfl,⟨gF,get_map_set_same _ _ _ (by omega),hgF⟩,hlu,⟨?_,by rw [gs_size]; omega,hj2.2,?_,hPI.ti.tk.low,?_,fun k g k1 hg=>?_⟩,hL.tape,hL.os,hL.output,hL.size,hL.keep,c1,c2,fun i hi=>c3 i (by omega) (hwk i (by omega)),
        fun x hx hall=>c4 x hx fun i hi _=>hall i (by omega)⟩
      · rw [gs_size,hsz,show base + 1 + j - 1 = base + j by omega]
        exact hj2.1
      · rw [hPI.deaf0,hd]; rfl
      · rintro c (hc | rfl)
        · exact Nat.lt_of_lt_of_le (hL.sh c hc).1 hL.size
        · exact hWu
      · have hlt:k < gs.size:=by have:=(Array.getElem?_eq_some_iff.1 hg).1; simpa using this
        by_cases hkb:k ≤ base
        · simp only [if_pos hkb]
          exact hPI.old k g k1 hkb hg
        · simp only [if_neg hkb]
          obtain ⟨i,rfl⟩ : ∃ i,k = base + 1 + i:=⟨k - base - 1,by omega⟩
          have hi:i < j:=by omega
          obtain ⟨g2,hg2,hw⟩:=hPI.wk i hi
          rw [hg] at hg2
          obtain rfl:=Option.some.inj hg2
          rw [show base + 1 + i - base - 1 = i by omega,hPI.deafW i hi]
          have h1:=hq i hi
          rcases hw with ⟨_,h7,_⟩ | ⟨_,h7,_⟩ | ⟨_,_,hw⟩
          · omega
          · omega
          · exact hw.quits h1
    · obtain ⟨a',w',es,hgo,⟨rfl,rfl⟩,hg'⟩:=hstep u hlu
      exact .inr (bookS G ha h hjn hlu hgo (.refl Wg _) (by simp) (tag':=.acq) (f':=m') ⟨hj,hd,hg'⟩ hwg hmode (.inl ⟨rfl,nl _ (by simp),nl _ (by simp),.inr ⟨rfl,by omega⟩⟩))
  | ret=>exact hcs.elim
end
end Go.Proofs.YtojoafcnijajmaaGreatDoor
