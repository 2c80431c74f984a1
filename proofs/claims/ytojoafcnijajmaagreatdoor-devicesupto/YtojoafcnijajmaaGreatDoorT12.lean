/- Part 12 of the proof that Devices answers true and leaves its input as it was, for input of bulk at most the bound of its row: X9. -/
import Derived.Test.YtojoafcnijajmaaGreatDoorT11
namespace Go.Proofs.YtojoafcnijajmaaGreatDoor
open Go Go.Conc Go.ConcN
open Go.ConcR (KK wgBlock WgAt stA smA rd wr mk Payload DC0 Bk g_of_ofEvents again_blocked bk_of_mute ofEvent_loc_mark)
theorem bk_low {Wg B:Nat} (h:Wg < B) {e:Event} (he:Bk Wg e):(MemAct.ofEvent e).low B:=by
  rcases he with h1 | h1 | ⟨a,w,rfl,ha⟩
  · rw [ofEvent_loc_mark h1]; trivial
  · rw [ofEvent_loc_mark h1]; trivial
  · show a.block < B
    omega
theorem bk_touch {S:Nat → Prop} {Wg:Nat} {e:Event} (he:Bk Wg e) {x:Touch} (hx:(MemAct.ofEvent e).touch? = some x):ShB (fun c=>S c ∨ c = Wg) x.loc ∧ x.kind ≠ .plain ∧ x.kind ≠ .said:=by
  rcases he with h1 | h1 | ⟨a,w,rfl,ha⟩
  · rw [ofEvent_loc_mark h1] at hx; cases hx
  · rw [ofEvent_loc_mark h1] at hx; cases hx
  · simp only [MemAct.ofEvent,MemAct.touch?,Option.some.injEq] at hx
    subst hx
    exact ⟨⟨a,rfl,.inr ha⟩,by simp,by simp⟩
section
variable [Payload]
variable {Q:Program} {ty:TypeId} {S:Nat → Prop} {Wg V nV base nW:Nat} {K:Nat → Prop} {off:Nat → Nat} {vals:Nat → List Value} {zero:Nat → Value} {u₀ u u':World} {j:Nat} {M:Nat → Nat → Prop} {M₀:Nat → Prop} {t:Trace}
  {gs:Array Goroutine} {D:Nat → WD} {lv:Nat → Bool} {q:Nat → Nat} {d0:Nat} {gE:Goroutine → Prop} {An:Goroutine → World → Prop} {tag:CTag} {f0:Nat} {a:Goroutine} {st sm st' sm':Int} {sl:Option (Nat × Nat)}
theorem Row.pay (h:Row V nV off vals zero j u lv):PayAt V nV u:=let ⟨cs,h1,h2,_⟩:=h; ⟨cs,h1,h2⟩
theorem Row.has (G:GeoP nV nW off vals) (h:Row V nV off vals zero j u lv) {i:Nat} (hi:i < j) (hn:i < nW) (hl:lv i = false):Has V (off i) ((vals i).headD undef) u:=by
  obtain ⟨cs,h1,h2,h3,_⟩:=h
  have h0:=h3 i hi hl 0 (G.len i hn)
  simp only [Nat.add_zero] at h0
  unfold Has
  simp only [World.cell?,h1]
  simp only [Option.isSome_none,Bool.false_eq_true,if_false]
  rw [h0]
  cases hv:vals i with
  | nil=>have:=G.len i hn; rw [hv] at this; simp at this
  | cons x l=>rfl
theorem workerMoves (G:GeoP nV nW off vals) (hAr:∀ g w,An g w → g.status = .running) (ha:gs[0]? = some a) (hcs:CS Q ty Wg V nV K gE An nW off vals tag j f0 d0 a u M₀) (h:PI Q ty S Wg V nV base nW K off vals zero u₀ j gs u t D lv M M₀ q d0) (hjn:j ≤ nW)
    (hwg:WgAt ty Wg u st sm) (hmode:ConcN.Mode j D tag st sm) {i:Nat} (hi:i < j) {g:Goroutine} (hg:gs[base + 1 + i]? = some g) (hrun:g.status = .running) :
    ∃ m₁ ops x',runT Q (crowd gs u sl) (base + 1 + i) = (.next m₁,ops) ∧
      VR2 Q ty Wg V nV nW K off vals An x' (cv nW base u₀ tag j lv M M₀ gs u,(phi nW (Vc j D) tag + Ssum j D,f0 + 2 * Fsum j D + 2 * sumTo (base + 1) q)) ∧
      PInv Q ty S Wg V nV base nW K off vals zero u₀ gE An x' m₁ (t ++ ops):=by
  obtain ⟨g₁,hg₁,hw⟩:=h.wk i hi
  obtain rfl:g = g₁:=by rw [hg] at hg₁; exact Option.some.inj hg₁
  have hlu:WgLive ty Wg u:=⟨_,_,hwg⟩
  have hL:=h.lie
  have hVj:=Vc_le j D
  have hin:i < nW:=by omega
  have hVu:V < u.heap.size:=Nat.lt_of_lt_of_le hL.v hL.size
  have hWu:Wg < u.heap.size:=Nat.lt_of_lt_of_le hL.wg hL.size
  have hKV:∀ c,K c → ¬ (c = V):=fun c hc=>(hL.kin c hc).2.1
  have hKWg:∀ c,K c → ¬ (c = Wg):=fun c hc=>(hL.kin c hc).2.2.1
  have hMV:∀ i',i' < j → i' ≠ i → ∀ c,M i' c → ¬ (c = V):=fun i' hi' _ c hc e=>by have:=(hL.low i' hi' c hc).2; have:=hL.v; omega
  have hMWg:∀ i',i' < j → i' ≠ i → ∀ c,M i' c → ¬ (c = Wg):=fun i' hi' _ c hc e=>by have:=(hL.low i' hi' c hc).2; have:=hL.wg; omega
  have h0V:∀ c,M₀ c → ¬ (c = V):=fun c hc e=>by have:=(hL.low0 c hc).2; have:=hL.v; omega
  have h0Wg:∀ c,M₀ c → ¬ (c = Wg):=fun c hc e=>by have:=(hL.low0 c hc).2; have:=hL.wg; omega
  have hidx:base + 1 + i - base - 1 = i:=by omega
  have hrow:=h.row
  have hdk:Deaf t (base + 1 + i) = (D i).deaf:=h.deafW i hi
  rcases hw with ⟨hl,hs7,hdf,ho⟩ | ⟨hl,hs7,hdf,hk⟩ | ⟨hl,hs6,hs⟩
  ·
    have hstop:stopOf Q ty Wg V nV nW K off vals An i = AtPut Q ty Wg V nV (off i) (vals i):=by unfold stopOf; rw [if_pos hin]
    have hmain:mainOf nW i = false:=by unfold mainOf; exact decide_eq_false (by omega)
    by_cases hst:∀ u₁,Rely K (M i) u u₁ → AtPut Q ty Wg V nV (off i) (vals i) g u₁ (M i)
    ·
      obtain ⟨_,hx⟩:=hst u (Rely.refl _ _ _)
      obtain ⟨g',u',es,hgo,hput,hev,m,hk⟩:=hx hrow.pay hlu
      obtain ⟨cs,c1,c2,c3,c4⟩:=hrow
      obtain ⟨cs',e1,e2,e3,e4⟩:=hput.row cs c1 c2
      have hcell:∀ i',i' < j → i' ≠ i → u'.cell? ⟨V,off i',none⟩ = u.cell? ⟨V,off i',none⟩:=fun i' hi' hne=>by
        simp only [World.cell?,c1,e1]
        rw [e3 (off i') fun ⟨x1,x2⟩=>hne (G.apart i' i (off i') (by omega) hin (Nat.le_refl _) (by have:=G.len i' (by omega); omega) x1 x2)]
      refine wStep G hAr ha hcs h hjn hi hg hgo (W:=fun c=>c = V) ⟨hput.tape,hput.os,hput.output,Nat.le_of_eq hput.size.symm,fun c _ hc=>hput.block c hc⟩ hKV hMV h0V (fun c _ h1 _=>h1) (d':=⟨7,m,0⟩) (l':=false) (M':=M i)
        (fun c hc=>.inl hc) (fun c hc=>hc) (.inr (.inl ⟨rfl,rfl,rfl,hk⟩)) (fun e he x hx=>?_) (fun e he=>?_) (fun e he=>?_) ?_ (fun hh=>by simp at hh) ?_ hlu (hwg.of_block (hput.block Wg (Ne.symm hL.vw))) (fun _=>⟨cs',e1,e2⟩) hcell
        (fun tag' ht _=>?_) (.inr ⟨hl,rfl,.inr (.inr (.inl ⟨rfl,rfl⟩))⟩)
      · obtain ⟨y,y1,y2,rfl⟩:=hev e he
        rw [touch_cell] at hx
        cases hx
        exact .inr ⟨rfl,rfl,.inl ⟨by omega,by omega,.inr ⟨y,by rw [hidx]; exact y1,by rw [hidx]; exact y2,rfl⟩⟩⟩
      · obtain ⟨y,_,_,rfl⟩:=hev e he
        simp
      · obtain ⟨y,_,_,rfl⟩:=hev e he
        show V < _
        rw [hput.size]; exact hVu
      · rw [hdf]
        exact deafBehind_idle (fun e he=>by obtain ⟨y,_,_,rfl⟩:=hev e he; simp) 0
      · refine ⟨cs',e1,e2,fun i' hi' hli o hlo=>?_,fun x hx hall=>?_⟩
        · by_cases hii:i' = i
          · subst hii; exact e4 o hlo
          · rw [upd_ne lv _ hii] at hli
            rw [e3 _ fun ⟨x1,x2⟩=>hii (G.apart i' i (off i' + o) (by omega) hin (by omega) (by omega) x1 x2)]
            exact c3 i' hi' hli o hlo
        · have h1:=hall i hi (by rw [upd_same])
          rw [e3 x h1]
          exact c4 x hx fun i' hi' hli=>by
            by_cases hii:i' = i
            · subst hii; exact h1
            · exact hall i' hi' (by rw [upd_ne lv _ hii]; exact hli)
      · have:=hmode.same (i:=i) m 0
        rw [hs7] at this
        exact this.retag ht
    ·
      rcases ho.cases with hx | ⟨_,hx⟩
      · exact absurd hx hst
      obtain ⟨g',u',es,hgo,hd,ho'⟩:=hx u (Rely.refl _ _ _)
      have hMlow:∀ c,M i c → u₀.heap.size ≤ c:=fun c hc=>(hL.low i hi c hc).2
      have nV':¬ M i V:=fun hc=>by have:=hMlow V hc; have:=hL.v; omega
      have nW':¬ M i Wg:=fun hc=>by have:=hMlow Wg hc; have:=hL.wg; omega
      have hVb:=hd.keep V hVu nV'
      have hgrow:∀ c,Grow (M i) u u' c → c < u'.heap.size:=fun c hc=>by
        rcases hc with hc | ⟨_,hc⟩
        · exact Nat.lt_of_lt_of_le (hL.low i hi c hc).1 hd.size
        · exact hc
      refine wStep G hAr ha hcs h hjn hi hg hgo (W:=M i) ⟨hd.tape,hd.os,hd.output,hd.size,hd.keep⟩ (fun c hc hm=>by have:=hMlow c hm; have:=(hL.kin c hc).1; omega) (fun i' hi' hne c hc hm=>hL.dis i' i hi' hi hne c hc hm)
        (fun c hc hm=>hL.dis0 i hi c hm hc) (fun c hc _ _ hm=>by have:=hMlow c hm; omega) (d':=D i) (l':=true) (M':=Grow (M i) u u') (fun c hc=>hc) (fun c hc=>.inl hc) (.inl ⟨rfl,hs7,hdf,ho'⟩) (fun e he x hx=>?_)
        (fun e he=>((hd.evs e he).marks).2.2 _) (fun e he=>(hd.evs e he).low (fun c hc=>Nat.lt_of_lt_of_le (hL.kin c hc).1 (Nat.le_trans hL.size hd.size)) hgrow) ?_ (fun hh=>by omega) ?_ hlu (hwg.of_block (hd.keep Wg hWu nW'))
        (fun ⟨cs,p1,p2⟩=>⟨cs,hVb.trans p1,p2⟩) (fun i' _ _=>cell_of_block hVb _) (fun tag' ht _=>by rw [upd_self]; exact hmode.retag ht) (.inr ⟨hl,?_⟩)
      · obtain ⟨p1,p2,p3⟩:=(hd.evs e he).touch hx
        refine .inr ⟨p1,p2,p3.imp (fun hb=>⟨by omega,by omega,.inl ?_⟩) id⟩
        rw [hidx,upd_same]
        exact hb
      · exact deafBehind_idle (fun e he=>⟨(hd.evs e he).marks.1,(hd.evs e he).marks.2.1⟩) _
      · obtain ⟨cs,c1,c2,c3,c4⟩:=hrow
        have e:upd lv i true = lv:=by rw [← hl]; exact upd_self lv i
        rw [e]
        exact ⟨cs,hVb.trans c1,c2,c3,c4⟩
      · refine ⟨rfl,.inr (.inr (.inr ⟨rfl,rfl,?_,u,es,Rely.refl _ _ _,?_,rfl⟩))⟩
        · intro hs
          exact hst fun u₁ hu₁=>by
            have:=hs u₁ hu₁
            rw [hstop] at this
            exact this
        · rw [hmain]; exact hgo
  ·
    have hrowK:∀ l',l' = false → Row V nV off vals zero j u (upd lv i l'):=fun l' e=>by
      rw [e,← hl,upd_self]; exact hrow
    rcases Goes.cases hk with hstop | ⟨m',hm,hstep⟩
    · obtain ⟨_,hx⟩:=hstop u hlu
      obtain ⟨g',hgo,m₂,hk2⟩:=hx (hrow.has G hi hin hl)
      refine wStep G hAr ha hcs h hjn hi hg hgo (W:=fun _=>False) ⟨rfl,rfl,rfl,Nat.le_refl _,fun _ _ _=>rfl⟩ (fun _ _ h=>h) (fun _ _ _ _ _ h=>h) (fun _ _ h=>h) (fun _ _ _ _ h=>h) (d':=⟨6,m₂,0⟩) (l':=false) (M':=M i)
        (fun c hc=>.inl hc) (fun c hc=>hc) (.inr (.inr ⟨rfl,Nat.le_refl _,.k1 hk2⟩)) (fun e he x hx=>?_) (fun e he=>?_) (fun e he=>?_) ?_ (fun _=>?_) (hrowK _ rfl) hlu hwg id (fun _ _ _=>rfl)
        (fun tag' ht _=>(hmode.counted hi (by omega) (.inl rfl) _ _).retag ht) (.inl ⟨hl,rfl,.inl ⟨by show 6 < _; omega,by simp [cnt,hs7]⟩⟩)
      · have:e = mk (.releaseMerge (stA Wg)):=by simpa using he
        subst this; cases hx
      · have:e = mk (.releaseMerge (stA Wg)):=by simpa using he
        subst this; simp [mk]
      · have:e = mk (.releaseMerge (stA Wg)):=by simpa using he
        subst this; exact hWu
      · rw [hdf]; rfl
      · exact ⟨t.size,RelBy.new (by rw [hdk,hdf]) _ _⟩
    · obtain ⟨g',w',es,hgo,⟨rfl,rfl⟩,hg'⟩:=hstep u hlu
      refine wStep G hAr ha hcs h hjn hi hg hgo (W:=fun _=>False) ⟨rfl,rfl,rfl,Nat.le_refl _,fun _ _ _=>rfl⟩ (fun _ _ h=>h) (fun _ _ _ _ _ h=>h) (fun _ _ h=>h) (fun _ _ _ _ h=>h) (d':=⟨7,m',0⟩) (l':=false) (M':=M i)
        (fun c hc=>.inl hc) (fun c hc=>hc) (.inr (.inl ⟨rfl,rfl,rfl,hg'⟩)) (by simp) (by simp) (by simp) (by rw [hdf]; rfl) (fun hh=>by simp at hh) (hrowK _ rfl) hlu hwg id (fun _ _ _=>rfl)
        (fun tag' ht _=>by have:=hmode.same (i:=i) m' 0; rw [hs7] at this; exact this.retag ht) (.inl ⟨hl,rfl,.inr ⟨hs7.symm,hm.symm⟩⟩)
  ·
    have hrowK:∀ {u':World},u'.heap[V]? = u.heap[V]? → Row V nV off vals zero j u' (upd lv i false):=fun {u'} e=>by
      rw [← hl,upd_self]
      obtain ⟨cs,c1,c2⟩:=hrow
      exact ⟨cs,e.trans c1,c2⟩
    generalize hst:(D i).stage = s at hs hs6
    generalize hfu:(D i).fuel = m at hs
    generalize hde:(D i).deaf = dd at hs
    have hdk':Deaf t (base + 1 + i) = dd:=by rw [hdk,hde]
    have bookG:∀ {g':Goroutine} {w':World} {es:Array Event} {s' m' dd':Nat} {st' sm':Int},stepG Q false g u = .go g' w' es → Aside Wg u w' → WgAt ty Wg w' st' sm' → (∀ e ∈ es,Bk Wg e) →
        (∀ jx e,es[jx]? = some e → (MemAct.ofEvent e).touch? = none ∨ 0 < deafBehind dd (es.extract 0 jx)) → s' ≤ 6 → Tail Q ty Wg V nV (off i) (vals i) s' m' dd' g' w' → deafBehind dd es = dd' →
        (∀ tag',(tag' = tag ∨ (tag = .blk ∧ tag' = .w3)) → (mayWake Q g = true → g'.status = .running → tag' ≠ .blk) → ConcN.Mode j (upd D i ⟨s',m',dd'⟩) tag' st' sm') → ((s' < s ∧ cnt ⟨s',m',dd'⟩ ≤ cnt (D i)) ∨ (s' = s ∧ m' + 1 = m)) →
        ∃ m₁ ops x',runT Q (crowd gs u sl) (base + 1 + i) = (.next m₁,ops) ∧
          VR2 Q ty Wg V nV nW K off vals An x' (cv nW base u₀ tag j lv M M₀ gs u,(phi nW (Vc j D) tag + Ssum j D,f0 + 2 * Fsum j D + 2 * sumTo (base + 1) q)) ∧
          PInv Q ty S Wg V nV base nW K off vals zero u₀ gE An x' m₁ (t ++ ops):=by
      intro g' w' es s' m' dd' st' sm' hgo hAs hwg' hbk hd h6' hs' hdd hmode' hlt
      have hVb:w'.heap[V]? = u.heap[V]?:=hAs.block V hL.vw
      refine wStep G hAr ha hcs h hjn hi hg hgo (W:=fun c=>c = Wg) ⟨hAs.tape,hAs.os,hAs.output,Nat.le_of_eq hAs.size.symm,fun c _ hc=>hAs.block c hc⟩ hKWg hMWg h0Wg (fun c _ _ h2=>h2) (d':=⟨s',m',dd'⟩) (l':=false) (M':=M i)
        (fun c hc=>.inl hc) (fun c hc=>hc) (.inr (.inr ⟨rfl,h6',hs'⟩)) (fun e he x hx=>.inl (bk_touch (hbk e he) hx)) (norel_of_Bk hbk) (fun e he=>bk_low (by rw [hAs.size]; exact hWu) (hbk e he)) (by rw [hde]; exact hdd) (fun _=>?_) (hrowK hVb) hlu hwg'
        (fun ⟨cs,p1,p2⟩=>⟨cs,hVb.trans p1,p2⟩) (fun i' _ _=>cell_of_block hVb _) hmode' (.inl ⟨hl,rfl,by rw [hst,hfu]; exact hlt⟩)
      obtain ⟨r,hr⟩:=h.rel i hi (by omega)
      exact ⟨r,hr.book hdk' _ _ hbk hd⟩
    have book:∀ {g':Goroutine} {w':World} {es:Array Event} {s' m' dd':Nat} {st' sm':Int},stepG Q false g u = .go g' w' es → Aside Wg u w' → WgAt ty Wg w' st' sm' → (∀ e ∈ es,Bk Wg e) →
        (∀ jx e,es[jx]? = some e → (MemAct.ofEvent e).touch? = none ∨ 0 < deafBehind dd (es.extract 0 jx)) → s' ≤ 6 → Tail Q ty Wg V nV (off i) (vals i) s' m' dd' g' w' → deafBehind dd es = dd' →
        ConcN.Mode j (upd D i ⟨s',m',dd'⟩) tag st' sm' → ((s' < s ∧ cnt ⟨s',m',dd'⟩ ≤ cnt (D i)) ∨ (s' = s ∧ m' + 1 = m)) →
        ∃ m₁ ops x',runT Q (crowd gs u sl) (base + 1 + i) = (.next m₁,ops) ∧
          VR2 Q ty Wg V nV nW K off vals An x' (cv nW base u₀ tag j lv M M₀ gs u,(phi nW (Vc j D) tag + Ssum j D,f0 + 2 * Fsum j D + 2 * sumTo (base + 1) q)) ∧
          PInv Q ty S Wg V nV base nW K off vals zero u₀ gE An x' m₁ (t ++ ops) :=
      fun hgo hAs hwg' hbk hd h6' hs' hdd hmode' hlt=>bookG hgo hAs hwg' hbk hd h6' hs' hdd (fun _ ht _=>hmode'.retag ht) hlt
    have idle:∀ {g':Goroutine} {m':Nat},stepG Q false g u = .go g' u #[] → Tail Q ty Wg V nV (off i) (vals i) s m' dd g' u → m' + 1 = m →
        ∃ m₁ ops x',runT Q (crowd gs u sl) (base + 1 + i) = (.next m₁,ops) ∧
          VR2 Q ty Wg V nV nW K off vals An x' (cv nW base u₀ tag j lv M M₀ gs u,(phi nW (Vc j D) tag + Ssum j D,f0 + 2 * Fsum j D + 2 * sumTo (base + 1) q)) ∧
          PInv Q ty S Wg V nV base nW K off vals zero u₀ gE An x' m₁ (t ++ ops) :=
      fun {g' m'} hgo hs' hm=>book hgo (.refl Wg u) hwg (by simp) (by simp) hs6 hs' rfl (by have:=hmode.same (i:=i) m' dd; rwa [hst] at this) (.inr ⟨rfl,hm⟩)
    have bk1:∀ {ad:Addr} {b:Bool},ad.block = Wg → ∀ e ∈ (#[⟨.cell ad,b,true⟩]:Array Event),Bk Wg e:=fun hb e he=>by simp at he; subst he; exact bk_cell _ _ hb
    cases hs with
    | r0 h=>exact absurd hs6 (by omega)
    | k1 hh =>
      rcases Goes.cases hh with hstop | ⟨m',rfl,hstep⟩
      · obtain ⟨_,g',hgo,m₂,hk⟩:=hstop u (RW.refl u)
        exact book hgo (.refl Wg u) hwg (by intro e he; simp at he; subst he; exact .inl rfl) (by intro jx e he; exact .inl (by have:=Array.mem_of_getElem? he; simp at this; subst this; rfl)) (by omega) (.d1 hk) rfl
          (hmode.counted hi (by omega) (.inr rfl) _ _) (.inl ⟨by omega,by simp [cnt,hst]⟩)
      · obtain ⟨g',w',es,hgo,⟨rfl,rfl⟩,hg'⟩:=hstep u (RW.refl u)
        exact idle hgo (.k1 hg') rfl
    | d1 hh =>
      rcases Goes.cases hh with hstop | ⟨m',rfl,hstep⟩
      · obtain ⟨_,hall⟩:=hstop u (RW.refl u)
        have hc1:cnt (D i) = 1:=by simp [cnt,hst]
        have hV1:1 ≤ Vc j D:=by have:=le_sumTo (f:=fun x=>cnt (D x)) hi; simp only [Vc]; omega
        have bk2:∀ e ∈ #[rd (stA Wg),wr (stA Wg)],Bk Wg e:=by intro e he; simp at he; rcases he with rfl | rfl <;> exact bk_cell _ _ rfl
        have df2:∀ jx e,(#[rd (stA Wg),wr (stA Wg)]:Array Event)[jx]? = some e → (MemAct.ofEvent e).touch? = none ∨ 0 < deafBehind 1 ((#[rd (stA Wg),wr (stA Wg)]:Array Event).extract 0 jx):=by
          intro jx e he
          match jx,he with
          | 0,_=>exact .inr (by simp [deafBehind])
          | 1,_=>exact .inr (by simp [deafBehind,rd])
          | jx + 2,he=>simp at he
        have hq0:∀ q,cnt (⟨1,q,1⟩ : WD) = 0:=fun _=>rfl
        have opq:∀ q,OpenSt j D → OpenSt j (upd D i ⟨1,q,1⟩):=fun q h a ha=>by
          by_cases e:a = i
          · subst e; rw [upd_same]; simp
          · rw [upd_ne D _ e]; exact h a ha
        cases hmode with
        | opn h1 h2 h3 =>
          obtain ⟨v,hv⟩ : ∃ v,Vc j D + pend tag = v + 1:=⟨Vc j D + pend tag - 1,by omega⟩
          rw [hv] at hwg
          have hw1:WgAt ty Wg u (((v:Nat) + 1) * KK + ((0:Nat):Int)) 0:=by simpa using hwg
          have hp1:pend tag ≤ 1:=by cases tag <;> simp [pend] <;> split <;> omega
          obtain ⟨g',hgo,_,hq⟩:=hall v 0 (by omega) (by have:=G.few; omega) hw1
          obtain ⟨q,hq⟩:=hq (by omega)
          have hv':Vc j (upd D i ⟨1,q,1⟩) + pend tag = v:=by have:=Vc_upd D (⟨1,q,1⟩ : WD) hi; have:=hq0 q; omega
          refine book hgo (aside_setCell u (stA Wg) _) (hwg.setSt _) bk2 df2 (by omega) (.quit hq) rfl ?_ (.inl ⟨by omega,by simp [cnt]⟩)
          have e:((v:Nat):Int) * KK + ((0:Nat):Int) = ((Vc j (upd D i ⟨1,q,1⟩) + pend tag:Nat):Int) * KK:=by rw [hv']; simp
          rw [e]
          exact .opn h1 (opq q h2) (fun vs ev=>by have:=h3 vs ev; omega)
        | reg h1 h2 h3 =>
          obtain ⟨v,hv⟩ : ∃ v,Vc j D = v + 1:=⟨Vc j D - 1,by omega⟩
          rw [hv] at hwg
          have hw1:WgAt ty Wg u (((v:Nat) + 1) * KK + ((1:Nat):Int)) 0:=by simpa using hwg
          obtain ⟨g',hgo,hl',hq⟩:=hall v 1 (by omega) (by have:=G.few; omega) hw1
          by_cases hv0:v = 0
          · subst hv0
            obtain ⟨m₂,hk⟩:=hl' ⟨rfl,rfl⟩
            refine book hgo (aside_setCell u (stA Wg) _) (hwg.setSt _) bk2 df2 (by omega) (.d2 hk) rfl ?_ (.inl ⟨by omega,by simp [cnt]⟩)
            have hoth:∀ a,a < j → a ≠ i → (D a).stage = 1:=fun a ha e=>by
              have c0:=others_uncounted hi hv hc1 a ha e
              have:=h2 a ha
              simp only [cnt] at c0
              split at c0 <;> omega
            have:=ConcN.Mode.last (j:=j) (D:=upd D i ⟨4,m₂,1⟩) (tag:=tag) i h1 hi (by rw [upd_same]; simp) (fun a ha e=>by rw [upd_ne D _ e]; exact hoth a ha e)
            rw [upd_same] at this
            simpa using this
          · obtain ⟨q,hq⟩:=hq (by omega)
            have hv':Vc j (upd D i ⟨1,q,1⟩) = v:=by have:=Vc_upd D (⟨1,q,1⟩ : WD) hi; have:=hq0 q; omega
            refine book hgo (aside_setCell u (stA Wg) _) (hwg.setSt _) bk2 df2 (by omega) (.quit hq) rfl ?_ (.inl ⟨by omega,by simp [cnt]⟩)
            have e:((v:Nat):Int) * KK + ((1:Nat):Int) = ((Vc j (upd D i ⟨1,q,1⟩):Nat):Int) * KK + 1:=by rw [hv']; simp
            rw [e]
            exact .reg h1 (opq q h2) (by omega)
        | last L _ h2 h3 h4 =>
          by_cases e:i = L
          · subst e; omega
          · have:=h4 i hi e; omega
        | sema h2=>have:=h2 i hi; omega
        | fin _ h2=>have:=h2 i hi; omega
      · obtain ⟨g',w',es,hgo,⟨rfl,rfl⟩,hg'⟩:=hstep u (RW.refl u)
        exact idle hgo (.d1 hg') rfl
    | d2 hh =>
      rcases Goes.cases hh with hstop | ⟨m',rfl,hstep⟩
      · obtain ⟨_,hx⟩:=hstop u (RW.refl u)
        obtain ⟨hW3,hoth,rfl,rfl⟩:=hmode.isLast hi (by omega)
        simp only [hst] at hwg
        obtain ⟨g',hgo,m₂,hk⟩:=hx (by simpa using hwg)
        refine book hgo (.refl Wg u) hwg (bk1 rfl) (by intro jx e he; match jx,he with | 0,_=>exact .inr (by simp [deafBehind]) | jx + 1,he=>simp at he) (by omega) (.d3 hk) rfl ?_ (.inl ⟨by omega,by simp [cnt]⟩)
        have:=ConcN.Mode.last (j:=j) (D:=upd D i ⟨3,m₂,1⟩) (tag:=tag) i hW3 hi (by rw [upd_same]; simp) (fun a ha e=>by rw [upd_ne D _ e]; exact hoth a ha e)
        rw [upd_same] at this
        simpa using this
      · obtain ⟨g',w',es,hgo,⟨rfl,rfl⟩,hg'⟩:=hstep u (RW.refl u)
        exact idle hgo (.d2 hg') rfl
    | d3 hh =>
      rcases Goes.cases hh with hstop | ⟨m',rfl,hstep⟩
      · obtain ⟨_,hx⟩:=hstop u (RW.refl u)
        obtain ⟨hW3,hoth,rfl,rfl⟩:=hmode.isLast hi (by omega)
        simp only [hst] at hwg
        obtain ⟨g',hgo,m₂,hk⟩:=hx (by simpa using hwg)
        refine book hgo (aside_setCell u (stA Wg) _) (hwg.setSt 0) (bk1 rfl) (by intro jx e he; match jx,he with | 0,_=>exact .inr (by simp [deafBehind]) | jx + 1,he=>simp at he) (by omega) (.d4 hk) rfl ?_ (.inl ⟨by omega,by simp [cnt]⟩)
        have:=ConcN.Mode.last (j:=j) (D:=upd D i ⟨2,m₂,1⟩) (tag:=tag) i hW3 hi (by rw [upd_same]; simp) (fun a ha e=>by rw [upd_ne D _ e]; exact hoth a ha e)
        rw [upd_same] at this
        simpa using this
      · obtain ⟨g',w',es,hgo,⟨rfl,rfl⟩,hg'⟩:=hstep u (RW.refl u)
        exact idle hgo (.d3 hg') rfl
    | d4 hh =>
      rcases Goes.cases hh with hstop | ⟨m',rfl,hstep⟩
      · obtain ⟨_,hmw,hx⟩:=hstop u (RW.refl u)
        obtain ⟨hW3,hoth,rfl,rfl⟩:=hmode.isLast hi (by omega)
        simp only [hst] at hwg
        obtain ⟨g',hgo,q,hq⟩:=hx (by simpa using hwg)
        have hrun':g'.status = .running:=by
          cases q with
          | zero=>exact absurd hq.2 (by decide)
          | succ q=>exact hq.elim (fun x=>absurd x.2 (by decide)) (fun x=>x.1)
        refine bookG hgo (aside_setCell u (smA Wg) _) (hwg.setSm 1) (es:=semEvents (smA Wg)) bk_sem ?_ (by omega) (.quit hq) (by simp [deafBehind,semEvents]) ?_ (.inl ⟨by omega,by simp [cnt]⟩)
        · intro jx e he
          match jx,he with
          | 0,he=>simp [semEvents] at he; subst he; exact .inl rfl
          | 1,_=>exact .inr (by simp [deafBehind,semEvents])
          | 2,_=>exact .inr (by simp [deafBehind,semEvents])
          | 3,he=>simp [semEvents] at he; subst he; exact .inl rfl
          | jx + 4,he=>simp [semEvents] at he
        · intro tag' ht hw
          have hnb:=hw hmw hrun'
          have e3:tag' = .w3:=by
            rcases ht with rfl | ⟨_,rfl⟩
            · cases tag' <;> first | rfl | exact hW3.elim | exact absurd rfl hnb
            · rfl
          subst e3
          simp only [if_true]
          exact .sema fun a ha=>by
            by_cases e:a = i
            · subst e; rw [upd_same]
            · rw [upd_ne D _ e]; exact hoth a ha e
      · obtain ⟨g',w',es,hgo,⟨rfl,rfl⟩,hg'⟩:=hstep u (RW.refl u)
        exact idle hgo (.d4 hg') rfl
    | quit hh =>
      cases m with
      | zero=>rw [hh.1] at hrun; cases hrun
      | succ q =>
        rcases hh with ⟨hf,_⟩ | ⟨_,g',es,hmute,hstep,hq⟩
        · rw [hf] at hrun; cases hrun
        · have hbk:∀ e ∈ es,Bk Wg e:=fun e he=>bk_of_mute (hmute e he)
          exact book (hstep u) (.refl Wg u) hwg hbk (fun jx e he=>.inl (touch_mute (hmute e (Array.mem_of_getElem? he)))) (by omega) (.quit hq) rfl (by have:=hmode.same (i:=i) q (deafBehind dd es); rwa [hst] at this) (.inr ⟨rfl,rfl⟩)
end
end Go.Proofs.YtojoafcnijajmaaGreatDoor
