/- Part 10 of the proof that Devices answers true and leaves its input as it was, for input of bulk at most the bound of its row: X5 X6. -/
import Derived.Test.YtojoafcnijajmaaGreatDoorT9
set_option linter.unusedSectionVars false
namespace Go.Proofs.YtojoafcnijajmaaGreatDoor
open Go Go.Conc Go.ConcN
open Go.ConcR (KK wgBlock WgAt stA smA rd wr mk Payload DC0 Bk g_of_ofEvents)
structure GeoP (nV nW:Nat) (off:Nat → Nat) (vals:Nat → List Value):Prop where
  few:nW ≤ 4
  len:∀ i,i < nW → 0 < (vals i).length
  within:∀ i,i < nW → off i + (vals i).length ≤ nV
  apart:∀ i i' x,i < nW → i' < nW → off i ≤ x → x < off i + (vals i).length → off i' ≤ x → x < off i' + (vals i').length → i = i'
section
variable {S:Nat → Prop} {Wg V nV base nW:Nat} {K:Nat → Prop} {off:Nat → Nat} {vals:Nat → List Value} {u₀ u u':World} {j:Nat} {M:Nat → Nat → Prop} {M₀:Nat → Prop} {t:Trace}
theorem ofBlock_cell {M:Nat → Prop} {a:Addr}:OfBlock M (.cell a) ↔ M a.block:=by
  constructor
  · rintro ⟨c,h | ⟨b,h,rfl⟩,hm⟩
    · cases h
    · cases h; exact hm
  · exact fun h=>⟨_,.inr ⟨a,rfl,rfl⟩,h⟩
theorem ofBlock_obj {M:Nat → Prop} {c:Nat}:OfBlock M (.obj c) ↔ M c:=by
  constructor
  · rintro ⟨d,h | ⟨b,h,_⟩,hm⟩
    · cases h; exact hm
    · cases h
  · exact fun h=>⟨c,.inl rfl,h⟩
theorem OfBlock.join {M N:Nat → Prop} {l:Loc} (h:OfBlock M l) (k:OfBlock N l):∃ c,M c ∧ N c:=by
  obtain ⟨c,rfl | ⟨a,rfl,rfl⟩,hm⟩:=h
  · exact ⟨c,hm,ofBlock_obj.1 k⟩
  · exact ⟨_,hm,ofBlock_cell.1 k⟩
theorem OfBlock.mono {M N:Nat → Prop} {l:Loc} (h:OfBlock M l) (hm:∀ c,M c → N c):OfBlock N l:=let ⟨c,a,b⟩:=h; ⟨c,a,hm c b⟩
theorem Lie.apart (h:Lie S Wg V K u₀ j u M M₀) (G:GeoP nV nW off vals):Apart (ShB fun c=>S c ∨ c = Wg) (OwnF base V nW off vals M) (RdF base K):=by
  have low:∀ i c,M i c → u₀.heap.size ≤ c:=fun i c hc=>by
    rcases Nat.lt_or_ge i j with hi | hi
    · exact (h.low i hi c hc).2
    · exact (h.emp i hi c hc).elim
  have hV:∀ i x,¬ OfBlock (M i) (.cell ⟨V,x,none⟩):=fun i x hx=>by
    have:=low i V (ofBlock_cell.1 hx); have:=h.v; omega
  refine ⟨fun k k' l h1 h2=>?_,fun k k' l h1 h2=>?_,fun k l h1 h2=>?_,fun k l h1 h2=>?_⟩
  · obtain ⟨b1,n1,h1⟩:=h1
    obtain ⟨b2,n2,h2⟩:=h2
    rcases h1 with h1 | ⟨x,x1,x2,rfl⟩ <;> rcases h2 with h2 | ⟨y,y1,y2,e⟩
    · obtain ⟨c,c1,c2⟩:=h1.join h2
      apply Classical.byContradiction
      intro hne
      have hi:k - base - 1 < j:=Nat.lt_of_not_le fun hi=>h.emp _ hi c c1
      have hi':k' - base - 1 < j:=Nat.lt_of_not_le fun hi=>h.emp _ hi c c2
      exact h.dis _ _ hi hi' (by omega) c c1 c2
    · subst e; exact absurd h1 (hV _ _)
    · exact absurd h2 (hV _ _)
    · cases e
      have:=G.apart _ _ x n1 n2 x1 x2 y1 y2
      omega
  · obtain ⟨b1,n1,h1⟩:=h1
    rcases h1 with h1 | ⟨x,x1,x2,rfl⟩
    · obtain ⟨c,c1,c2⟩:=h1.join h2.2
      have:=low _ c c1; have:=(h.kin c c2).1; omega
    · exact (h.kin V (ofBlock_cell.1 h2.2)).2.1 rfl
  · obtain ⟨b1,n1,h1⟩:=h1
    obtain ⟨a,rfl,ha⟩:=h2
    rcases h1 with h1 | ⟨x,x1,x2,e⟩
    · have h3:=low _ _ (ofBlock_cell.1 h1)
      rcases ha with ha | ha
      · have:=(h.sh _ ha).1; omega
      · have:=h.wg; omega
    · cases e
      rcases ha with ha | ha
      · exact (h.sh _ ha).2.1 rfl
      · exact h.vw ha
  · obtain ⟨a,rfl,ha⟩:=h2
    have:=h.kin _ (ofBlock_cell.1 h1.2)
    rcases ha with ha | ha
    · exact this.2.2.2 ha
    · exact this.2.2.1 ha
theorem touch_cell (a:Addr) (wr:Bool):(MemAct.ofEvent ⟨.cell a,wr,false⟩).touch? = some ⟨.cell a,wr,.plain⟩:=rfl
theorem touch_obj (c:Nat) (wr:Bool):(MemAct.ofEvent ⟨.obj c,wr,false⟩).touch? = some ⟨.obj c,wr,.plain⟩:=by cases wr <;> rfl
theorem EvM.touch {M:Nat → Prop} {e:Event} (h:EvM K M e) {x:Touch} (hx:(MemAct.ofEvent e).touch? = some x):x.kind = .plain ∧ x.loc.isMemory = true ∧ (OfBlock M x.loc ∨ (OfBlock K x.loc ∧ x.write = false)):=by
  rcases h with ⟨c,hc,hs,hm⟩ | rfl
  · obtain ⟨loc,wr,sy⟩:=e
    simp only at hc hs hm
    subst hs
    rcases hc with rfl | ⟨a,rfl,rfl⟩
    · rw [touch_obj] at hx
      cases hx
      exact ⟨rfl,rfl,hm.imp ofBlock_obj.2 fun ⟨a,b⟩=>⟨ofBlock_obj.2 a,b⟩⟩
    · rw [touch_cell] at hx
      cases hx
      exact ⟨rfl,rfl,hm.imp ofBlock_cell.2 fun ⟨a,b⟩=>⟨ofBlock_cell.2 a,b⟩⟩
  · cases hx
theorem EvM.low {M:Nat → Prop} {e:Event} (h:EvM K M e) {B:Nat} (hK:∀ c,K c → c < B) (hM:∀ c,M c → c < B):(MemAct.ofEvent e).low B:=by
  rcases h with ⟨c,hc,hs,hm⟩ | rfl
  · have hlt:c < B:=hm.elim (hM c) fun h=>hK c h.1
    obtain ⟨loc,wr,sy⟩:=e
    simp only at hc hs
    subst hs
    rcases hc with rfl | ⟨a,rfl,rfl⟩
    · cases wr <;> exact hlt
    · exact hlt
  · trivial
theorem EvM.marks {M:Nat → Prop} {e:Event} (h:EvM K M e):e.loc ≠ .mark .disable ∧ e.loc ≠ .mark .enable ∧ ∀ a,e.loc ≠ .mark (.release a):=by
  rcases h with ⟨c,hc,_⟩ | rfl
  · rcases hc with hc | ⟨a,hc,_⟩ <;> rw [hc] <;> simp
  · simp
theorem norel_ofEvents {a:Addr} {g:Nat} {fn:FuncId} {pos:String} {es:Array Event} (h:∀ e ∈ es,e.loc ≠ .mark (.release a)):∀ op ∈ MemOp.ofEvents g fn pos es,op.act ≠ .mark (.release a):=fun op hop e=>by
  obtain ⟨x,hx,rfl⟩:=Go.Conc.mem_ofEvents hop
  exact h x hx (Go.ConcR.loc_of_ofEvent e)
end
section
variable [Payload]
variable {Q:Program} {ty:TypeId} {S:Nat → Prop} {Wg V nV base nW:Nat} {K:Nat → Prop} {off:Nat → Nat} {vals:Nat → List Value} {zero:Nat → Value} {u₀ u u':World} {j:Nat} {M:Nat → Nat → Prop} {M₀:Nat → Prop} {t:Trace}
  {gs:Array Goroutine} {D:Nat → WD} {lv:Nat → Bool} {q:Nat → Nat} {d0:Nat}
theorem Wk.running (hlu:WgLive ty Wg u) {o:Nat} {vs:List Value} {l:Bool} {d:WD} {N:Nat → Prop} {g:Goroutine} (h:Wk Q ty Wg V nV K o vs l d N g u):g.status = .running ∨ g.status = .finished:=by
  rcases h with ⟨_,_,_,h⟩ | ⟨_,_,_,h⟩ | ⟨_,_,h⟩
  · refine .inl ?_
    rcases h.cases with h | h
    · exact (h u (Rely.refl _ _ _)).1
    · exact h.1
  · exact .inl (Goes.running (fun _ _ x=>x.1) u hlu h)
  · exact h.status
theorem Wk.woken (hlu:WgLive ty Wg u) {o:Nat} {vs:List Value} {l:Bool} {d:WD} {N:Nat → Prop} {g:Goroutine} (h:Wk Q ty Wg V nV K o vs l d N g u) (a a':Goroutine) (w':World):woken Q a a' w' g = g:=by
  unfold Go.Conc.woken
  split
  · exact again_running _ (h.running hlu)
  · rfl
theorem Wk.eff {o:Nat} {vs:List Value} {l:Bool} {d:WD} {N W:Nat → Prop} {g:Goroutine} (h:Wk Q ty Wg V nV K o vs l d N g u) (he:Eff W u u') (hK:∀ c,K c → ¬ W c) (hN:∀ c,N c → ¬ W c)
    (hl:WgLive ty Wg u') (hp:PayAt V nV u → PayAt V nV u') (hc:u'.cell? ⟨V,o,none⟩ = u.cell? ⟨V,o,none⟩):Wk Q ty Wg V nV K o vs l d N g u':=by
  rcases h with ⟨h1,h2,h3,h4⟩ | ⟨h1,h2,h3,h4⟩ | ⟨h1,h2,h3⟩
  · exact .inl ⟨h1,h2,h3,h4.rely (he.rely hK hN)⟩
  · exact .inr (.inl ⟨h1,h2,h3,Goes.rely (fun _ _ _ _ h=>h) h4 hl⟩)
  · exact .inr (.inr ⟨h1,h2,h3.rely ⟨fun b hb=>absurd hb (Nat.not_lt_zero _),fun _=>hl,hp,hc⟩⟩)
theorem upd_self {α:Type} (f:Nat → α) (i:Nat):upd f i (f i) = f:=by
  funext a
  by_cases h:a = i
  · subst h; rw [upd_same]
  · rw [upd_ne f _ h]
theorem deaf_of_others {g g':Nat} {fn:FuncId} {pos:String} {es:Array Event} (h:g' ≠ g):Deaf (t ++ MemOp.ofEvents g' fn pos es) g = Deaf t g :=
  Deaf_other t h _ fun op hop=>by obtain ⟨e,_,rfl⟩:=Go.Conc.mem_ofEvents hop; rfl
theorem PI.worker (G:GeoP nV nW off vals) (h:PI Q ty S Wg V nV base nW K off vals zero u₀ j gs u t D lv M M₀ q d0) {i:Nat} (hi:i < j) {g g':Goroutine} {es:Array Event} {fn:FuncId} {pos:String} {W:Nat → Prop} (he:Eff W u u')
    (hKW:∀ c,K c → ¬ W c) (hMW:∀ i',i' < j → i' ≠ i → ∀ c,M i' c → ¬ W c) (hW0:∀ c,c < u₀.heap.size → c ≠ V → c ≠ Wg → ¬ W c) {d':WD} {l':Bool} {M':Nat → Prop}
    (hM1:∀ c,M' c → M i c ∨ (u.heap.size ≤ c ∧ c < u'.heap.size)) (hM2:∀ c,M i c → M' c) (hwk:Wk Q ty Wg V nV K (off i) (vals i) l' d' M' g' u')
    (hok:∀ e ∈ es,∀ x,(MemAct.ofEvent e).touch? = some x → (ShB (fun c=>S c ∨ c = Wg) x.loc ∧ x.kind ≠ .plain ∧ x.kind ≠ .said) ∨ (x.kind = .plain ∧ x.loc.isMemory = true ∧ (OwnF base V nW off vals (upd M i M') (base + 1 + i) x.loc ∨ (OfBlock K x.loc ∧ x.write = false))))
    (hnr:∀ e ∈ es,e.loc ≠ .mark (.release (stA Wg))) (hlow:∀ e ∈ es,(MemAct.ofEvent e).low u'.heap.size) (hdeaf:deafBehind (D i).deaf es = d'.deaf)
    (hrel:d'.stage ≤ 6 → ∃ r,RelBy (stA Wg) (t ++ MemOp.ofEvents (base + 1 + i) fn pos es) (base + 1 + i) r) (hrow:Row V nV off vals zero j u' (upd lv i l'))
    (hlu:WgLive ty Wg u) (hl:WgLive ty Wg u') (hp:PayAt V nV u → PayAt V nV u') (hc:∀ i',i' < j → i' ≠ i → u'.cell? ⟨V,off i',none⟩ = u.cell? ⟨V,off i',none⟩) :
    PI Q ty S Wg V nV base nW K off vals zero u₀ j ((gs.map (woken Q g g' u')).setIfInBounds (base + 1 + i) g') u' (t ++ MemOp.ofEvents (base + 1 + i) fn pos es) (upd D i d') (upd lv i l') (upd M i M') M₀ q d0:=by
  have hsz:=h.size
  have hlie:=h.lie
  have lie':Lie S Wg V K u₀ j u' (upd M i M') M₀:=by
    refine ⟨he.tape.trans hlie.tape,he.os.trans hlie.os,he.output.trans hlie.output,Nat.le_trans hlie.size he.size,fun c hc h1 h2=>(he.keep c (Nat.lt_of_lt_of_le hc hlie.size) (hW0 c hc h1 h2)).trans (hlie.keep c hc h1 h2),hlie.v,hlie.wg,hlie.vw,hlie.kin,hlie.sh,
      fun i' hi' c hc=>?_,fun c hc=>⟨Nat.lt_of_lt_of_le (hlie.low0 c hc).1 he.size,(hlie.low0 c hc).2⟩,fun a b ha hb hab c h1 h2=>?_,fun i' hi' c hc h0=>?_,fun i' hi' c hc=>?_⟩
    · by_cases e:i' = i
      · subst e
        rw [upd_same] at hc
        rcases hM1 c hc with h1 | ⟨h1,h2⟩
        · exact ⟨Nat.lt_of_lt_of_le (hlie.low i' hi c h1).1 he.size,(hlie.low i' hi c h1).2⟩
        · exact ⟨h2,Nat.le_trans hlie.size h1⟩
      · rw [upd_ne M _ e] at hc
        exact ⟨Nat.lt_of_lt_of_le (hlie.low i' hi' c hc).1 he.size,(hlie.low i' hi' c hc).2⟩
    · have key:∀ b,b < j → b ≠ i → M' c → M b c → False:=fun b hb hbi h1 h2=>by
        rcases hM1 c h1 with h3 | ⟨h3,_⟩
        · exact hlie.dis i b hi hb (Ne.symm hbi) c h3 h2
        · have:=(hlie.low b hb c h2).1; omega
      by_cases e:a = i
      · subst e
        rw [upd_same] at h1
        rw [upd_ne M _ (Ne.symm hab)] at h2
        exact key b hb (Ne.symm hab) h1 h2
      · rw [upd_ne M _ e] at h1
        by_cases e2:b = i
        · subst e2
          rw [upd_same] at h2
          exact key a ha e h2 h1
        · rw [upd_ne M _ e2] at h2
          exact hlie.dis a b ha hb hab c h1 h2
    · by_cases e:i' = i
      · subst e
        rw [upd_same] at hc
        rcases hM1 c hc with h1 | ⟨h1,_⟩
        · exact hlie.dis0 i' hi c h1 h0
        · have:=(hlie.low0 c h0).1; omega
      · rw [upd_ne M _ e] at hc
        exact hlie.dis0 i' hi' c hc h0
    · rw [upd_ne M _ (by omega)] at hc
      exact hlie.emp i' hi' c hc
  have A':=lie'.apart (base:=base) G
  have hgs:∀ op ∈ MemOp.ofEvents (base + 1 + i) fn pos es,op.g = base + 1 + i:=fun op hop=>by obtain ⟨e,_,rfl⟩:=Go.Conc.mem_ofEvents hop; rfl
  have ct':CT (ShB fun c=>S c ∨ c = Wg) (OwnF base V nW off vals (upd M i M')) (RdF base K) t (base + j):=by
    refine CT.fam h.ti.ct (fun k _ _ l hl=>?_) (fun k _ _ l hl=>?_) fun _ _ _ _=>Iff.rfl
    · obtain ⟨b1,b2,h1 | h1⟩:=hl
      · by_cases e:k - base - 1 = i
        · rw [e,upd_same] at h1
          obtain ⟨c,hc,hm⟩:=h1
          rcases hM1 c hm with h2 | ⟨h2,_⟩
          · exact .inl ⟨b1,b2,.inl (by rw [e]; exact ⟨c,hc,h2⟩)⟩
          · refine .inr fun p a ha hl=>?_
            obtain ⟨op,hop,hopa⟩:=touch_of ha
            have hlo:=h.ti.tk.low op (mem_of_getElem? hop)
            have:c < u.heap.size:=by
              cases hact:op.act with
              | access ev =>
                rw [hact] at hopa hlo
                simp only [MemAct.touch?,Option.some.injEq] at hopa
                subst hopa
                have hloc:ev.loc = l:=hl
                have hlo':ev.loc.low u.heap.size:=hlo
                rw [hloc] at hlo'
                rcases hc with rfl | ⟨ad,rfl,rfl⟩
                · exact hlo'
                · exact hlo'
              | mark m =>
                rw [hact] at hopa hlo
                cases m <;> simp only [MemAct.touch?,Option.some.injEq,reduceCtorEq] at hopa
                all_goals
                  subst hopa
                  simp only at hl
                  subst hl
                  rcases hc with hc | ⟨ad,hc,rfl⟩
                  · cases hc
                  · cases hc; exact hlo
              | _=>rw [hact] at hopa; cases hopa
            omega
        · rw [upd_ne M _ e] at h1
          exact .inl ⟨b1,b2,.inl h1⟩
      · exact .inl ⟨b1,b2,.inr h1⟩
    · obtain ⟨b1,b2,h1 | h1⟩:=hl
      · refine ⟨b1,b2,.inl ?_⟩
        by_cases e:k - base - 1 = i
        · rw [e,upd_same]
          rw [e] at h1
          exact h1.mono hM2
        · rw [upd_ne M _ e]; exact h1
      · exact ⟨b1,b2,.inr h1⟩
  refine ⟨by simpa using hsz,?_,lie',hrow,fun k x k1 kb hx=>?_,?_,fun i' hi'=>?_,fun i' hi'=>?_,fun i' hi' hs=>?_⟩
  · refine TI.appW A' ⟨ct',h.ti.tk⟩ he.size (by omega) (by omega) (fun op hop=>⟨hgs op hop,fun x hx=>?_⟩) (fun op hop x hx hn=>?_) (norel_ofEvents hnr) (low_ofEvents hlow)
    · obtain ⟨e,hm,rfl⟩:=Go.Conc.mem_ofEvents hop
      rcases hok e hm x hx with h1 | ⟨_,_,h1 | ⟨h1,h2⟩⟩
      · exact .inl h1
      · exact .inr (.inl h1)
      · exact .inr (.inr ⟨⟨by omega,h1⟩,h2⟩)
    · obtain ⟨e,hm,rfl⟩:=Go.Conc.mem_ofEvents hop
      rcases hok e hm x hx with h1 | ⟨h1,h2,_⟩
      · exact absurd h1.1 hn
      · exact ⟨by rw [h1]; simp,h2⟩
  · rw [get_map_set _ _ _ _ (by omega)] at hx
    obtain ⟨y,hy,rfl⟩:=Option.map_eq_some_iff.1 hx
    have hq:=h.old k y k1 kb hy
    rw [woken_quitsD hq,deaf_of_others (by omega)]
    exact hq
  · rw [deaf_of_others (by omega)]; exact h.deaf0
  · by_cases e:i' = i
    · subst e
      rw [upd_same,Deaf_own,h.deafW i' hi]
      exact hdeaf
    · rw [upd_ne D _ e,deaf_of_others (by omega)]
      exact h.deafW i' hi'
  · by_cases e:i' = i
    · subst e
      rw [upd_same,upd_same,upd_same]
      exact ⟨g',get_map_set_same _ _ _ (by omega),hwk⟩
    · obtain ⟨x,hx,hw⟩:=h.wk i' hi'
      rw [upd_ne D _ e,upd_ne lv _ e,upd_ne M _ e]
      refine ⟨x,?_,hw.eff he hKW (hMW i' hi' e) hl hp (hc i' hi' e)⟩
      rw [get_map_set _ _ _ _ (by omega),hx]
      simp [hw.woken hlu]
  · by_cases e:i' = i
    · subst e
      rw [upd_same] at hs
      exact hrel hs
    · rw [upd_ne D _ e] at hs
      obtain ⟨r,hr⟩:=h.rel i' hi' hs
      exact ⟨r,hr.appOther hgs (by omega)⟩
end
end Go.Proofs.YtojoafcnijajmaaGreatDoor

namespace Go.Proofs.YtojoafcnijajmaaGreatDoor
open Go Go.Conc Go.ConcN
open Go.ConcR (KK wgBlock WgAt stA smA rd wr mk Payload DC0 Bk g_of_ofEvents)
section
variable [Payload]
variable {Q:Program} {ty:TypeId} {S:Nat → Prop} {Wg V nV base nW:Nat} {K:Nat → Prop} {off:Nat → Nat} {vals:Nat → List Value} {zero:Nat → Value} {u₀ u u':World} {j:Nat} {M:Nat → Nat → Prop} {M₀:Nat → Prop} {t:Trace}
  {gs:Array Goroutine} {D:Nat → WD} {lv:Nat → Bool} {q:Nat → Nat} {d0:Nat}
theorem touched_low {B:Nat} {op:MemOp} {x:Touch} (hlo:op.act.low B) (hx:op.act.touch? = some x) {N:Nat → Prop} (hb:OfBlock N x.loc):∃ c,c < B ∧ N c:=by
  obtain ⟨c,hc,hm⟩:=hb
  refine ⟨c,?_,hm⟩
  cases hact:op.act with
  | access ev =>
    rw [hact] at hx hlo
    simp only [MemAct.touch?,Option.some.injEq] at hx
    subst hx
    have hlo':ev.loc.low B:=hlo
    simp only at hc
    rcases hc with hc | ⟨ad,hc,rfl⟩ <;> rw [hc] at hlo' <;> exact hlo'
  | mark m =>
    rw [hact] at hx hlo
    cases m <;> simp only [MemAct.touch?,Option.some.injEq,reduceCtorEq] at hx
    all_goals
      subst hx
      rcases hc with hc | ⟨ad,hc,rfl⟩
      · cases hc
      · cases hc; exact hlo
  | _=>rw [hact] at hx; cases hx
theorem PI.starter (G:GeoP nV nW off vals) (h:PI Q ty S Wg V nV base nW K off vals zero u₀ j gs u t D lv M M₀ q d0) {g g':Goroutine} {es:Array Event} {fn:FuncId} {pos:String} {W:Nat → Prop} (he:Eff W u u')
    (hKW:∀ c,K c → ¬ W c) (hMW:∀ i',i' < j → ∀ c,M i' c → ¬ W c) (hW0:∀ c,c < u₀.heap.size → c ≠ V → c ≠ Wg → ¬ W c) {M':Nat → Prop}
    (hM1:∀ c,M' c → M₀ c ∨ (u.heap.size ≤ c ∧ c < u'.heap.size))
    (hok:∀ e ∈ es,∀ x,(MemAct.ofEvent e).touch? = some x → (ShB (fun c=>S c ∨ c = Wg) x.loc ∧ x.kind ≠ .plain) ∨ (OfBlock M' x.loc ∨ (OfBlock K x.loc ∧ x.write = false)))
    (hnr:∀ e ∈ es,e.loc ≠ .mark (.release (stA Wg))) (hlow:∀ e ∈ es,(MemAct.ofEvent e).low u'.heap.size) (hV:¬ W V)
    (hlu:WgLive ty Wg u) (hl:WgLive ty Wg u') :
    PI Q ty S Wg V nV base nW K off vals zero u₀ j ((gs.map (woken Q g g' u')).setIfInBounds 0 g') u' (t ++ MemOp.ofEvents 0 fn pos es) D lv M M' q (deafBehind d0 es):=by
  have hsz:=h.size
  have hlie:=h.lie
  have hVb:u'.heap[V]? = u.heap[V]?:=he.keep V (Nat.lt_of_lt_of_le hlie.v hlie.size) hV
  have lie':Lie S Wg V K u₀ j u' M M':=by
    refine ⟨he.tape.trans hlie.tape,he.os.trans hlie.os,he.output.trans hlie.output,Nat.le_trans hlie.size he.size,fun c hc h1 h2=>(he.keep c (Nat.lt_of_lt_of_le hc hlie.size) (hW0 c hc h1 h2)).trans (hlie.keep c hc h1 h2),hlie.v,hlie.wg,hlie.vw,hlie.kin,hlie.sh,
      fun i' hi' c hc=>⟨Nat.lt_of_lt_of_le (hlie.low i' hi' c hc).1 he.size,(hlie.low i' hi' c hc).2⟩,fun c hc=>?_,hlie.dis,fun i' hi' c hc h0=>?_,hlie.emp⟩
    · rcases hM1 c hc with h1 | ⟨h1,h2⟩
      · exact ⟨Nat.lt_of_lt_of_le (hlie.low0 c h1).1 he.size,(hlie.low0 c h1).2⟩
      · exact ⟨h2,Nat.le_trans hlie.size h1⟩
    · rcases hM1 c h0 with h1 | ⟨h1,_⟩
      · exact hlie.dis0 i' hi' c hc h1
      · have:=(hlie.low i' hi' c hc).1; omega
  have A:=hlie.apart (base:=base) G
  have hgs:∀ op ∈ MemOp.ofEvents 0 fn pos es,op.g = 0:=fun op hop=>by obtain ⟨e,_,rfl⟩:=Go.Conc.mem_ofEvents hop; rfl
  refine ⟨by simpa using hsz,?_,lie',?_,fun k x k1 kb hx=>?_,?_,fun i' hi'=>?_,fun i' hi'=>?_,fun i' hi' hs=>?_⟩
  · refine TI.app0 A h.ti he.size (fun op hop=>⟨hgs op hop,fun x hx=>?_⟩) (norel_ofEvents hnr) (low_ofEvents hlow)
    obtain ⟨e,hm,rfl⟩:=Go.Conc.mem_ofEvents hop
    rcases hok e hm x hx with h1 | h1
    · exact .inl h1
    · refine .inr ⟨?_,fun k k1 kj ho=>?_,fun hw k k1 kj hr=>?_⟩
      · rintro ⟨a,ha,hs⟩
        rcases h1 with h1 | ⟨h1,_⟩
        · rw [ha] at h1
          have h2:=ofBlock_cell.1 h1
          have:u₀.heap.size ≤ a.block:=(lie'.low0 _ h2).2
          rcases hs with hs | hs
          · have:=(hlie.sh _ hs).1; omega
          · have:=hlie.wg; omega
        · exact A.rdSh (base + 1) x.loc ⟨by omega,h1⟩ ⟨a,ha,hs⟩
      · rcases h1 with h1 | ⟨h1,_⟩
        · obtain ⟨b1,b2,h2 | ⟨y,_,_,e⟩⟩:=ho
          · obtain ⟨c,c1,c2⟩:=h1.join h2
            have hi:k - base - 1 < j:=Nat.lt_of_not_le fun hi=>hlie.emp _ hi c c2
            exact lie'.dis0 _ hi c c2 c1
          · rw [e] at h1
            have:=(lie'.low0 _ (ofBlock_cell.1 h1)).2
            have:=hlie.v
            simp only at *
            omega
        · exact A.ownRd k (base + 1) x.loc ho ⟨by omega,h1⟩
      · rcases h1 with h1 | ⟨_,h1⟩
        · obtain ⟨c,c1,c2⟩:=h1.join hr.2
          have:=(lie'.low0 _ c1).2
          have:=(hlie.kin _ c2).1
          omega
        · rw [h1] at hw; cases hw
  · obtain ⟨cs,h1,h2⟩:=h.row
    exact ⟨cs,hVb.trans h1,h2⟩
  · rw [get_map_set _ _ _ _ (by omega)] at hx
    obtain ⟨y,hy,rfl⟩:=Option.map_eq_some_iff.1 hx
    have hq:=h.old k y k1 kb hy
    rw [woken_quitsD hq,deaf_of_others (by omega)]
    exact hq
  · rw [Deaf_own,h.deaf0]
  · rw [deaf_of_others (by omega)]
    exact h.deafW i' hi'
  · obtain ⟨x,hx,hw⟩:=h.wk i' hi'
    refine ⟨x,?_,hw.eff he hKW (hMW i' hi') hl (fun ⟨cs,a,b⟩=>⟨cs,hVb.trans a,b⟩) (cell_of_block hVb _)⟩
    rw [get_map_set _ _ _ _ (by omega),hx]
    simp [hw.woken hlu]
  · obtain ⟨r,hr⟩:=h.rel i' hi' hs
    exact ⟨r,hr.appOther hgs (by omega)⟩
theorem PI.slip (G:GeoP nV nW off vals) (h:PI Q ty S Wg V nV base nW K off vals zero u₀ j gs u t D lv M M₀ q d0) {i k:Nat} {g g':Goroutine} {es:Array Event} {fn:FuncId} {pos:String} (i1:0 < i) (ib:i ≤ base)
    (hm:∀ e ∈ es,e.mute = true) (hq':QuitsD Q k (deafBehind (Deaf t i) es) g') (hlu:WgLive ty Wg u) :
    PI Q ty S Wg V nV base nW K off vals zero u₀ j ((gs.map (woken Q g g' u)).setIfInBounds i g') u (t ++ MemOp.ofEvents i fn pos es) D lv M M₀ (upd q i k) d0:=by
  have hsz:=h.size
  have hgs:∀ op ∈ MemOp.ofEvents i fn pos es,op.g = i:=fun op hop=>by obtain ⟨e,_,rfl⟩:=Go.Conc.mem_ofEvents hop; rfl
  have hn:∀ op ∈ MemOp.ofEvents i fn pos es,op.act.touch? = none:=fun op hop=>by obtain ⟨e,he,rfl⟩:=Go.Conc.mem_ofEvents hop; exact touch_mute (hm e he)
  have hnr:∀ e ∈ es,e.loc ≠ .mark (.release (stA Wg)):=fun e he hl=>by
    have:=hm e he
    obtain ⟨loc,wr,sy⟩:=e
    simp only at hl
    subst hl
    simp [Event.mute] at this
  refine ⟨by simpa using hsz,TI.slip (h.lie.apart (base:=base) G) h.ti i1 ib hgs hn (norel_ofEvents hnr) (low_ofEvents fun e he=>low_mute (hm e he) _),h.lie,h.row,fun k' x k1 kb hx=>?_,?_,fun i' hi'=>?_,fun i' hi'=>?_,fun i' hi' hs=>?_⟩
  · by_cases e:i = k'
    · subst e
      rw [Array.getElem?_setIfInBounds_self_of_lt (by simp; omega)] at hx
      obtain rfl:=Option.some.inj hx
      rw [upd_same,Deaf_own]
      exact hq'
    · rw [get_map_set _ _ _ _ e] at hx
      obtain ⟨y,hy,rfl⟩:=Option.map_eq_some_iff.1 hx
      have hq:=h.old k' y k1 kb hy
      rw [woken_quitsD hq,upd_ne q k (Ne.symm e),deaf_of_others e]
      exact hq
  · rw [deaf_of_others (by omega)]; exact h.deaf0
  · rw [deaf_of_others (by omega)]; exact h.deafW i' hi'
  · obtain ⟨x,hx,hw⟩:=h.wk i' hi'
    refine ⟨x,?_,hw⟩
    rw [get_map_set _ _ _ _ (by omega),hx]
    simp [hw.woken hlu]
  · obtain ⟨r,hr⟩:=h.rel i' hi' hs
    exact ⟨r,hr.appOther hgs (by omega)⟩
theorem PI.at (h:PI Q ty S Wg V nV base nW K off vals zero u₀ j gs u t D lv M M₀ q d0) (hlu:WgLive ty Wg u) (d:Nat):PI Q ty S Wg V nV base nW K off vals zero u₀ j gs (u.at d) t D lv M M₀ q d0:=by
  have e:Eff (fun _=>False) u (u.at d):=⟨rfl,rfl,rfl,Nat.le_refl _,fun _ _ _=>rfl⟩
  have hl:=h.lie
  refine ⟨h.size,h.ti,⟨hl.tape,hl.os,hl.output,hl.size,hl.keep,hl.v,hl.wg,hl.vw,hl.kin,hl.sh,hl.low,hl.low0,hl.dis,hl.dis0,hl.emp⟩,h.row,h.old,h.deaf0,h.deafW,fun i hi=>?_,h.rel⟩
  obtain ⟨g,hg,hw⟩:=h.wk i hi
  exact ⟨g,hg,hw.eff e (fun _ _ h=>h) (fun _ _ h=>h) hlu id rfl⟩
theorem PI.fork (G:GeoP nV nW off vals) (h:PI Q ty S Wg V nV base nW K off vals zero u₀ j gs u t D lv M M₀ q 0) (hj:j < nW) {a' child:Goroutine} {x y:MemOp} (hx:x.g = 0 ∧ x.act = .go (base + j + 1)) (hy:y.g = base + j + 1 ∧ y.act = .start)
    (hc:Owned Q false K (AtPut Q ty Wg V nV (off j) (vals j)) child u M₀) :
    PI Q ty S Wg V nV base nW K off vals zero u₀ (j + 1) ((gs.setIfInBounds 0 a').push child) u (t ++ #[x,y]) (upd D j ⟨7,0,0⟩) (upd lv j true) (upd M j M₀) (fun _=>False) q 0:=by
  have hsz:=h.size
  have hlie:=h.lie
  have lie':Lie S Wg V K u₀ (j + 1) u (upd M j M₀) (fun _=>False):=by
    refine ⟨hlie.tape,hlie.os,hlie.output,hlie.size,hlie.keep,hlie.v,hlie.wg,hlie.vw,hlie.kin,hlie.sh,fun i hi c hc=>?_,fun c hc=>hc.elim,fun a b ha hb hab c h1 h2=>?_,fun _ _ _ _ h=>h,fun i hi c hc=>?_⟩
    · by_cases e:i = j
      · subst e; rw [upd_same] at hc; exact hlie.low0 c hc
      · rw [upd_ne M _ e] at hc; exact hlie.low i (by omega) c hc
    · by_cases e:a = j
      · subst e
        rw [upd_same] at h1
        rw [upd_ne M _ (Ne.symm hab)] at h2
        exact hlie.dis0 b (by omega) c h2 h1
      · rw [upd_ne M _ e] at h1
        by_cases e2:b = j
        · subst e2
          rw [upd_same] at h2
          exact hlie.dis0 a (by omega) c h1 h2
        · rw [upd_ne M _ e2] at h2
          exact hlie.dis a b (by omega) (by omega) hab c h1 h2
    · rw [upd_ne M _ (by omega)] at hc
      exact hlie.emp i (by omega) c hc
  have ct':CT (ShB fun c=>S c ∨ c = Wg) (OwnF base V nW off vals (upd M j M₀)) (RdF base K) t (base + j):=by
    refine CT.fam h.ti.ct (fun k k1 kj l hl=>?_) (fun k k1 kj l hl=>?_) fun _ _ _ _=>Iff.rfl
    · obtain ⟨b1,b2,h1⟩:=hl
      rw [upd_ne M _ (by omega)] at h1
      exact .inl ⟨b1,b2,h1⟩
    · obtain ⟨b1,b2,h1⟩:=hl
      refine ⟨b1,b2,?_⟩
      rw [upd_ne M _ (by omega)]
      exact h1
  have hm:∀ op ∈ #[x,y],op = x ∨ op = y:=fun op hop=>by simpa using hop
  have hst:∀ op ∈ #[x,y],op.act ≠ .mark .disable ∧ op.act ≠ .mark .enable:=fun op hop=>by
    rcases hm op hop with rfl | rfl
    · rw [hx.2]; simp
    · rw [hy.2]; simp
  have hdf:∀ g,Deaf (t ++ #[x,y]) g = Deaf t g:=fun g=>Deaf_still t g _ hst
  have hget:∀ i,0 < i → i < gs.size → ((gs.setIfInBounds 0 a').push child)[i]? = gs[i]?:=fun i h0 hi=>by
    rw [Array.getElem?_push,if_neg (by simp; omega),Array.getElem?_setIfInBounds_ne (by omega)]
  refine ⟨by simp; omega,TI.fork (lie'.apart (base:=base) G) ⟨ct',h.ti.tk⟩ hx hy h.deaf0,lie',?_,fun i g i1 ib hg=>?_,by rw [hdf]; exact h.deaf0,fun i hi=>?_,fun i hi=>?_,fun i hi hs=>?_⟩
  · obtain ⟨cs,h1,h2,h3,h4⟩:=h.row
    refine ⟨cs,h1,h2,fun i hi hli o ho=>?_,fun z hz hall=>h4 z hz fun i hi hli=>?_⟩
    · by_cases e:i = j
      · subst e; rw [upd_same] at hli; cases hli
      · rw [upd_ne lv _ e] at hli
        exact h3 i (by omega) hli o ho
    · exact hall i (by omega) (by rw [upd_ne lv _ (by omega)]; exact hli)
  · rw [hget i i1 (by omega)] at hg
    rw [hdf]
    exact h.old i g i1 ib hg
  · rw [hdf]
    by_cases e:i = j
    · subst e
      rw [upd_same]
      exact Deaf_absent fun p op hp e2=>by have:=h.ti.ct.gs p op hp; omega
    · rw [upd_ne D _ e]; exact h.deafW i (by omega)
  · by_cases e:i = j
    · subst e
      rw [upd_same,upd_same,upd_same]
      refine ⟨child,?_,.inl ⟨rfl,rfl,rfl,hc⟩⟩
      rw [Array.getElem?_push,if_pos (by simp; omega)]
    · obtain ⟨g,hg,hw⟩:=h.wk i (by omega)
      rw [upd_ne D _ e,upd_ne lv _ e,upd_ne M _ e]
      exact ⟨g,by rw [hget _ (by omega) (by omega)]; exact hg,hw⟩
  · by_cases e:i = j
    · subst e; rw [upd_same] at hs; simp at hs
    · rw [upd_ne D _ e] at hs
      obtain ⟨r,hr⟩:=h.rel i (by omega) hs
      refine ⟨r,hr.appNot fun op hop=>?_⟩
      rcases hm op hop with rfl | rfl
      · rw [hx.1]; omega
      · rw [hy.1]; omega
end
end Go.Proofs.YtojoafcnijajmaaGreatDoor
