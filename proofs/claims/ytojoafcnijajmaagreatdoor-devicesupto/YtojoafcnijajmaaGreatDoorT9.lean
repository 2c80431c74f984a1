/- Part 9 of the proof that Devices answers true and leaves its input as it was, for input of bulk at most the bound of its row: X1 X3 X4. -/
import Derived.Conc.CrowdRun
import Derived.Conc.Beside
import Derived.Test.YtojoafcnijajmaaGreatDoorT8
import Derived.Test.YtojoafcnijajmaaGreatDoorT7
import Derived.Conc.CrowdStepC2
set_option linter.unusedSectionVars false
namespace Go.Proofs.YtojoafcnijajmaaGreatDoor
open Go Go.Conc Go.ConcN
def ShB (S:Nat → Prop):Loc → Prop:=fun l=>∃ a,l = .cell a ∧ S a.block
def NoFam:Nat → Loc → Prop:=fun _ _=>False
theorem apart_none (S:Nat → Prop):Apart (ShB S) NoFam NoFam:=⟨fun _ _ _ h=>h.elim,fun _ _ _ h=>h.elim,fun _ _ h=>h.elim,fun _ _ h=>h.elim⟩
structure Fr0 (Q:Program) (S:Nat → Prop) (gs:Array Goroutine) (B:Nat) (t:Trace) (q:Nat → Nat):Prop where
  ct:CT (ShB S) NoFam NoFam t (gs.size - 1)
  pos:0 < gs.size
  over:t.HandedOver
  hears:Deaf t 0 = 0
  low:∀ op ∈ t,op.act.low B
  sh:∀ c,S c → c < B
  old:∀ i g,0 < i → gs[i]? = some g → QuitsD Q (q i) (Deaf t i) g
def EvP (S:Nat → Prop) (B:Nat) (e:Event):Prop:=(∀ x,(MemAct.ofEvent e).touch? = some x → ¬ ShB S x.loc) ∧ e.loc ≠ .mark .disable ∧ e.loc ≠ .mark .enable ∧ (MemAct.ofEvent e).low B
section
variable {Q:Program} {S:Nat → Prop} {gs:Array Goroutine} {u u':World} {t:Trace} {q:Nat → Nat} {B B':Nat}
theorem low_ofEvents {g:Nat} {fn:FuncId} {pos:String} {es:Array Event} (h:∀ e ∈ es,(MemAct.ofEvent e).low B):∀ op ∈ MemOp.ofEvents g fn pos es,op.act.low B:=fun op hop=>by
  obtain ⟨e,he,rfl⟩:=Go.Conc.mem_ofEvents hop
  exact h e he
theorem low_more (h:∀ op ∈ t,op.act.low B) (hB:B ≤ B'):∀ op ∈ t,op.act.low B':=fun op hop=>MemAct.low_mono hB (h op hop)
theorem gs_size (f:Goroutine → Goroutine) (i:Nat) (x:Goroutine):((gs.map f).setIfInBounds i x).size = gs.size:=by simp
theorem Fr0.step0 (h:Fr0 Q S gs B t q) {g a':Goroutine} {fn:FuncId} {pos:String} {es:Array Event} (hu:B ≤ B') (hes:∀ e ∈ es,EvP S B' e) :
    Fr0 Q S ((gs.map (woken Q g a' u')).setIfInBounds 0 a') B' (t ++ MemOp.ofEvents 0 fn pos es) q:=by
  have hg:∀ op ∈ MemOp.ofEvents 0 fn pos es,op.g = 0:=fun op hop=>by obtain ⟨e,_,rfl⟩:=Go.Conc.mem_ofEvents hop; rfl
  refine ⟨?_,by rw [gs_size]; exact h.pos,handedOver_app h.over fun op hop=>.inl (hg op hop),?_,seen_app (low_more h.low hu) (low_ofEvents fun e he=>(hes e he).2.2.2),fun c hc=>Nat.lt_of_lt_of_le (h.sh c hc) hu,fun i x hi hx=>?_⟩
  · rw [gs_size]
    refine h.ct.app0 (apart_none S) fun op hop=>⟨hg op hop,fun x hx=>.inr ⟨?_,fun _ _ _ hk=>hk,fun _ _ _ _ hk=>hk⟩⟩
    obtain ⟨e,he,rfl⟩:=Go.Conc.mem_ofEvents hop
    exact (hes e he).1 x hx
  · rw [Deaf_own,h.hears]
    exact deafBehind_still (fun e he=>⟨(hes e he).2.1,(hes e he).2.2.1⟩) _
  · have hne:0 ≠ i:=by omega
    rw [Array.getElem?_setIfInBounds_ne hne,Array.getElem?_map] at hx
    obtain ⟨y,hy,rfl⟩:=Option.map_eq_some_iff.1 hx
    have hq:=h.old i y hi hy
    rw [woken_quitsD hq,Deaf_other t (by omega) _ hg]
    exact hq
theorem Fr0.slip (h:Fr0 Q S gs B t q) {i k:Nat} {g g':Goroutine} {fn:FuncId} {pos:String} {es:Array Event} (hi:gs[i]? = some g) (hpos:0 < i) (hm:∀ e ∈ es,e.mute = true) (hq':QuitsD Q k (deafBehind (Deaf t i) es) g') :
    Fr0 Q S ((gs.map (woken Q g g' u)).setIfInBounds i g') B (t ++ MemOp.ofEvents i fn pos es) (upd q i k):=by
  have hlt:i < gs.size:=(Array.getElem?_eq_some_iff.1 hi).1
  have hg:∀ op ∈ MemOp.ofEvents i fn pos es,op.g = i:=fun op hop=>by obtain ⟨e,_,rfl⟩:=Go.Conc.mem_ofEvents hop; rfl
  have hn:∀ op ∈ MemOp.ofEvents i fn pos es,op.act.touch? = none:=fun op hop=>by obtain ⟨e,he,rfl⟩:=Go.Conc.mem_ofEvents hop; exact touch_mute (hm e he)
  refine ⟨?_,by rw [gs_size]; exact h.pos,handedOver_app h.over fun op hop=>.inr (hn op hop),?_,seen_app h.low (low_ofEvents fun e he=>low_mute (hm e he) _),h.sh,fun j x hj hx=>?_⟩
  · rw [gs_size]
    exact h.ct.appW (apart_none S) (k:=i) hpos (by omega) fun op hop=>⟨hg op hop,fun x hx=>by rw [hn op hop] at hx; cases hx⟩
  · rw [Deaf_other t (g':=i) (by omega) _ hg]
    exact h.hears
  · by_cases hji:i = j
    · subst hji
      rw [Array.getElem?_setIfInBounds_self_of_lt (by simpa using hlt)] at hx
      obtain rfl:=Option.some.inj hx
      rw [upd_same,Deaf_own]
      exact hq'
    · rw [Array.getElem?_setIfInBounds_ne hji,Array.getElem?_map] at hx
      obtain ⟨y,hy,rfl⟩:=Option.map_eq_some_iff.1 hx
      have hqj:=h.old j y hj hy
      rw [woken_quitsD hqj,upd_ne q k (Ne.symm hji),Deaf_other t hji _ hg]
      exact hqj
theorem pick0:∀ (M:Nat) (gs:Array Goroutine) (u:World) (sl:Option (Nat × Nat)) (t:Trace) (q:Nat → Nat) (a:Goroutine),sumTo gs.size q ≤ M → gs[0]? = some a → a.status = .running → Fr0 Q S gs B t q →
    ∃ (N:Nat) (gs':Array Goroutine) (d d':Nat) (sl' sl'':Option (Nat × Nat)) (t':Trace) (q':Nat → Nat),runNT Q N (crowd gs u sl) t = (.next (crowd gs' (u.at d) sl'),t') ∧ gs'[0]? = some a ∧ gs'.size = gs.size ∧ Fr0 Q S gs' B t' q' ∧
      stepT Q (crowd gs' (u.at d) sl') = runT Q (crowd gs' (u.at d') sl'') 0:=by
  intro M
  induction M with
  | zero =>
    intro gs u sl t q a hM h0 hrun hF
    have haw:∀ g ∈ gs,awake g:=by
      intro g hg
      obtain ⟨i,hi,rfl⟩:=Array.mem_iff_getElem.1 hg
      rcases Nat.eq_zero_or_pos i with rfl | hpos
      · have:gs[0] = a:=by simpa [Array.getElem?_eq_getElem hi] using h0
        rw [this]; exact awake_of (.inl hrun)
      · exact awake_of ((hF.old i _ hpos (Array.getElem?_eq_getElem hi)).status.elim .inl fun x=>.inr (.inr x))
    obtain ⟨i,g,d,sl',hi,hg,hst⟩:=crowd_pick (P:=Q) (w:=u) (sl:=sl) haw ⟨0,a,h0,hrun⟩
    rcases Nat.eq_zero_or_pos i with rfl | hpos
    · exact ⟨0,gs,u.drawn,d,sl,sl',t,q,rfl,h0,rfl,hF,hst⟩
    · have hq:=hF.old i g hpos hi
      have hlt:i < gs.size:=(Array.getElem?_eq_some_iff.1 hi).1
      have h1:=le_sumTo (f:=q) hlt
      have hqi:q i = 0:=by omega
      rw [hqi] at hq
      rw [hq.1] at hg; cases hg
  | succ M ih =>
    intro gs u sl t q a hM h0 hrun hF
    have haw:∀ g ∈ gs,awake g:=by
      intro g hg
      obtain ⟨i,hi,rfl⟩:=Array.mem_iff_getElem.1 hg
      rcases Nat.eq_zero_or_pos i with rfl | hpos
      · have:gs[0] = a:=by simpa [Array.getElem?_eq_getElem hi] using h0
        rw [this]; exact awake_of (.inl hrun)
      · exact awake_of ((hF.old i _ hpos (Array.getElem?_eq_getElem hi)).status.elim .inl fun x=>.inr (.inr x))
    obtain ⟨i,g,d,sl',hi,hg,hst⟩:=crowd_pick (P:=Q) (w:=u) (sl:=sl) haw ⟨0,a,h0,hrun⟩
    rcases Nat.eq_zero_or_pos i with rfl | hpos
    · exact ⟨0,gs,u.drawn,d,sl,sl',t,q,rfl,h0,rfl,hF,hst⟩
    · have hq:=hF.old i g hpos hi
      have hi0:(i == 0) = false:=by simp; omega
      have hlt:i < gs.size:=(Array.getElem?_eq_some_iff.1 hi).1
      cases hqi:q i with
      | zero=>rw [hqi] at hq; rw [hq.1] at hg; cases hg
      | succ k =>
        rw [hqi] at hq
        rcases hq with ⟨hf,_⟩ | ⟨_,g',es,hm,hstp,hq'⟩
        · rw [hf] at hg; cases hg
        have hrunT:=runT_crowd_go (P:=Q) (sl:=sl') (i:=i) hi (by rw [hi0]; exact hstp (u.at d))
        have hsum:sumTo gs.size (upd q i k) + (k + 1) = sumTo gs.size q + k:=by
          have:=sumTo_upd q k id hlt
          simpa [hqi] using this
        obtain ⟨N,gs',d1,d2,sl1,sl2,t',q',r1,r2,r3,r4,r5⟩:=ih ((gs.map (woken Q g g' (u.at d))).setIfInBounds i g') (u.at d) sl' (t ++ MemOp.ofEvents i g.frame.fn g.frame.place es) (upd q i k) a (by rw [gs_size]; omega)
          (by
            have hne:i ≠ 0:=by omega
            rw [Array.getElem?_setIfInBounds_ne hne,Array.getElem?_map,h0]
            simp [woken_run hrun]) hrun (hF.slip hi hpos hm hq')
        exact ⟨N + 1,gs',d1,d2,sl1,sl2,t',q',by simp only [runNT,hst,hrunT]; exact r1,r2,r3.trans (gs_size _ _ _),r4,r5⟩
theorem own0 {sl:Option (Nat × Nat)} {a:Goroutine} (hF:Fr0 Q S gs B t q) (h0:gs[0]? = some a) (hrun:a.status = .running) {Stop:Goroutine → World → Nat → Prop}
    (h:∀ d,∃ a' u' es B',stepG Q true a (u.at d) = .go a' u' es ∧ B ≤ B' ∧ (∀ e ∈ es,EvP S B' e) ∧ Stop a' u' B') :
    ∃ (N:Nat) (gs':Array Goroutine) (a':Goroutine) (u':World) (sl':Option (Nat × Nat)) (t':Trace) (q':Nat → Nat) (B':Nat),runNT Q N (crowd gs u sl) t = (.next (crowd gs' u' sl'),t') ∧ gs'.size = gs.size ∧ gs'[0]? = some a' ∧ Stop a' u' B' ∧ Fr0 Q S gs' B' t' q':=by
  obtain ⟨N,gs1,d,d',sl1,sl2,t1,q1,r1,r2,r3,r4,r5⟩:=pick0 _ gs u sl t q a (Nat.le_refl _) h0 hrun hF
  obtain ⟨a',u',es,B',e1,e2,e3,e4⟩:=h d'
  have hrunT:=runT_crowd_go (P:=Q) (sl:=sl2) (i:=0) r2 (show stepG Q (0 == 0) a (u.at d') = _ from e1)
  refine ⟨N + 1,(gs1.map (woken Q a a' u')).setIfInBounds 0 a',a',u',sl2,t1 ++ MemOp.ofEvents 0 a.frame.fn a.frame.place es,q1,B',?_,(gs_size _ _ _).trans r3,by rw [get_map_set_same _ _ _ r4.pos],e4,r4.step0 (fn:=a.frame.fn) (pos:=a.frame.place) e2 e3⟩
  have:runNT Q 1 (crowd gs1 (u.at d) sl1) t1 = (.next (crowd ((gs1.map (woken Q a a' u')).setIfInBounds 0 a') u' sl2),t1 ++ MemOp.ofEvents 0 a.frame.fn a.frame.place es):=by
    simp only [runNT,r5,hrunT]
  rw [runNT_add,r1]; exact this
theorem end0 {sl:Option (Nat × Nat)} {a:Goroutine} (hF:Fr0 Q S gs B t q) (h0:gs[0]? = some a) (hrun:a.status = .running) {Post:Value → World → Prop}
    (h:∀ d,∃ v u' es,stepG Q true a (u.at d) = .ended (.done v) u' es ∧ (∀ e ∈ es,EvP S B' e) ∧ B ≤ B' ∧ Post v u') :
    ∃ N last o w' t',runNT Q (N + 1) (crowd gs u sl) t = (.ended o w',t') ∧ runN Q N (crowd gs u sl) = .next last ∧ step Q last = .ended o w' ∧ Conc.Good Q Post last o w' t':=by
  obtain ⟨N,gs1,d,d',sl1,sl2,t1,q1,r1,r2,r3,r4,r5⟩:=pick0 _ gs u sl t q a (Nat.le_refl _) h0 hrun hF
  obtain ⟨v,u',es,e1,e2,e3,e4⟩:=h d'
  have hrunT:=runT_many_ended (P:=Q) (sl:=sl2) (i:=0) r2 (show stepG Q (0 == 0) a (u.at d') = _ from e1)
  have r4':=r4.step0 (u':=u') (g:=a) (a':=a) (fn:=a.frame.fn) (pos:=a.frame.place) e3 e2
  refine ⟨N,crowd gs1 (u.at d) sl1,.done v,u',t1 ++ MemOp.ofEvents 0 a.frame.fn a.frame.place es,?_,?_,?_,v,rfl,e4,r4'.ct.nr,r4'.over,⟨fun x hx=>?_,rfl⟩,fun j x hx hj=>?_⟩
  · have:runNT Q 1 (crowd gs1 (u.at d) sl1) t1 = (.ended (.done v) u',t1 ++ MemOp.ofEvents 0 a.frame.fn a.frame.place es):=by simp only [runNT,r5,hrunT]
    rw [runNT_add,r1]; exact this
  · rw [← runNT_fst Q _ _ t,r1]
  · simp only [step,r5,hrunT]
  · obtain ⟨j,hj⟩:=List.mem_iff_getElem?.1 hx
    rw [List.getElem?_drop] at hj
    exact ⟨_,(r4.old (1 + j) x (by omega) (by simpa [crowd] using hj)).leaves⟩
  · have hq:=r4.old j x (by omega) hx
    refine ⟨q1 j,?_⟩
    have e:(t1 ++ MemOp.ofEvents 0 a.frame.fn a.frame.place es).deaf j (t1 ++ MemOp.ofEvents 0 a.frame.fn a.frame.place es).size = Deaf t1 j :=
      Deaf_other t1 (g:=j) (g':=0) (by omega) _ (fun op hop=>by obtain ⟨e,_,rfl⟩:=Go.Conc.mem_ofEvents hop; rfl)
    rw [e]
    exact hq.hears _
end
end Go.Proofs.YtojoafcnijajmaaGreatDoor

namespace Go.Proofs.YtojoafcnijajmaaGreatDoor
open Go Go.Conc Go.ConcN
open Go.ConcR (stA smA rd wr mk)
section
variable {Sh Sh':Loc → Prop} {Own Rd Own' Rd':Nat → Loc → Prop} {t u:Trace} {j base B:Nat}
theorem CT.fam (h:CT Sh Own Rd t j) (hO:∀ k,1 ≤ k → k ≤ j → ∀ l,Own' k l → Own k l ∨ ∀ i a,touchAt t i = some a → a.loc ≠ l) (hO2:∀ k,1 ≤ k → k ≤ j → ∀ l,Own k l → Own' k l)
    (hR:∀ k,1 ≤ k → k ≤ j → ∀ l,Rd' k l ↔ Rd k l):CT Sh Own' Rd' t j:=by
  refine ⟨h.quiet,fun k k1 kj l hl=>?_,fun k k1 kj l hl=>h.rd k k1 kj l ((hR k k1 kj l).1 hl),fun l hs hl=>h.free l hs fun k k1 kj=>⟨fun x=>(hl k k1 kj).1 (hO2 k k1 kj l x),fun x=>(hl k k1 kj).2 ((hR k k1 kj l).2 x)⟩,
    fun l hs hl=>h.mine l hs fun k k1 kj x=>hl k k1 kj (hO2 k k1 kj l x),h.nr,h.gs⟩
  rcases hO k k1 kj l hl with ho | hn
  · exact h.own k k1 kj l ho
  · exact fun i a ha e=>absurd e (hn i a ha)
theorem CT.shun (h:CT Sh Own Rd t j) (hS:∀ l,Sh l → Sh' l) (hn:∀ l,Sh' l → Sh l ∨ ∀ i a,touchAt t i = some a → a.loc ≠ l):CT Sh' Own Rd t j:=by
  refine ⟨fun i op x hi hx hs=>?_,h.own,h.rd,fun l hs hl=>h.free l (fun x=>hs (hS l x)) hl,fun l hs hl=>h.mine l (fun x=>hs (hS l x)) hl,h.nr,h.gs⟩
  rcases hn _ hs with h1 | h1
  · exact h.quiet i op x hi hx h1
  · exact absurd rfl (h1 i x (by rw [touchAt_of hi]; exact hx))
structure TK (Sh:Loc → Prop) (a:Addr) (base B:Nat) (t:Trace):Prop where
  known:∀ i x,touchAt t i = some x → ¬ Sh x.loc → Knows t 0 i ∨ ∃ g,t.g? i = some g ∧ base < g ∧ x.kind ≠ .atomic ∧ x.loc.isMemory = true
  over:∀ i g,t.g? i = some g → g ≠ 0 → t.counts i → (∃ p,t.g? p = some 0 ∧ HappensBefore t i p) ∨ base < g
  nrel:NoRelease a t
  low:∀ op ∈ t,op.act.low B
structure TI (Sh:Loc → Prop) (Own Rd:Nat → Loc → Prop) (a:Addr) (base j B:Nat) (t:Trace):Prop where
  ct:CT Sh Own Rd t (base + j)
  tk:TK Sh a base B t
theorem g?_of {i:Nat} {op:MemOp} (h:t[i]? = some op):t.g? i = some op.g:=by simp [Trace.g?,h]
theorem g?_lt {p g:Nat} (h:t.g? p = some g):p < t.size:=by
  obtain ⟨z,hz,_⟩:=Option.map_eq_some_iff.1 (show (t[p]?).map (·.g) = some g from h)
  exact lt_size_of_getElem? hz
theorem TK.grow {a:Addr} (h:TK Sh a base B t) {B':Nat} (hB:B ≤ B')
    (hk:∀ op ∈ u,∀ x,op.act.touch? = some x → ¬ Sh x.loc → op.g = 0 ∨ (base < op.g ∧ x.kind ≠ .atomic ∧ x.loc.isMemory = true))
    (ho:∀ op ∈ u,op.g ≠ 0 → ¬ base < op.g → op.act.touch? = none) (hr:∀ op ∈ u,op.act ≠ .mark (.release a)) (hl:∀ op ∈ u,op.act.low B'):TK Sh a base B' (t ++ u):=by
  refine ⟨fun i x hx hs=>?_,fun i g hg hne hc=>?_,h.nrel.app hr,fun op hop=>(Array.mem_append.1 hop).elim (fun hop=>MemAct.low_mono hB (h.low op hop)) (hl op)⟩
  · obtain ⟨y,hy,hyx⟩:=touch_of hx
    rcases getElem?_append_cases hy with ⟨hlt,hy'⟩ | ⟨_,hyu⟩
    · rcases h.known i x (by rw [touchAt_of hy']; exact hyx) hs with h1 | ⟨g,h1,h2⟩
      · exact .inl (h1.app u)
      · exact .inr ⟨g,by rw [g?_old hlt]; exact h1,h2⟩
    · rcases hk y hyu x hyx hs with h1 | h1
      · have:=knows_own hy
        rw [h1] at this
        exact .inl this
      · exact .inr ⟨y.g,g?_of hy,h1⟩
  · obtain ⟨x,hx,hm⟩:=hc
    obtain ⟨y,hy,hyx⟩:=touch_of hx
    rcases getElem?_append_cases hy with ⟨hlt,hy'⟩ | ⟨_,hyu⟩
    · rw [g?_old hlt] at hg
      rcases h.over i g hg hne ((counts_old hlt).1 ⟨x,hx,hm⟩) with ⟨p,h1,h2⟩ | h1
      · exact .inl ⟨p,by rw [g?_old (g?_lt h1)]; exact h1,hb_app u h2⟩
      · exact .inr h1
    · rw [g?_of hy] at hg
      obtain rfl:=Option.some.inj hg
      by_cases hb:base < y.g
      · exact .inr hb
      · rw [ho y hyu hne hb] at hyx; cases hyx
theorem TI.app0 {a:Addr} (A:Apart Sh Own Rd) (h:TI Sh Own Rd a base j B t) {B':Nat} (hB:B ≤ B') (hu:∀ op ∈ u,Ok0 Sh Own Rd (base + j) op) (hr:∀ op ∈ u,op.act ≠ .mark (.release a)) (hl:∀ op ∈ u,op.act.low B') :
    TI Sh Own Rd a base j B' (t ++ u) :=
  ⟨h.ct.app0 A hu,h.tk.grow hB (fun op hop _ _ _=>.inl (hu op hop).1) (fun op hop hne _=>absurd (hu op hop).1 hne) hr hl⟩
theorem TI.appW {a:Addr} (A:Apart Sh Own Rd) (h:TI Sh Own Rd a base j B t) {B' k:Nat} (hB:B ≤ B') (k1:base < k) (kj:k ≤ base + j) (hu:∀ op ∈ u,OkW Sh Own Rd k op)
    (hp:∀ op ∈ u,∀ x,op.act.touch? = some x → ¬ Sh x.loc → x.kind ≠ .atomic ∧ x.loc.isMemory = true) (hr:∀ op ∈ u,op.act ≠ .mark (.release a)) (hl:∀ op ∈ u,op.act.low B'):TI Sh Own Rd a base j B' (t ++ u) :=
  ⟨h.ct.appW A (by omega) kj hu,h.tk.grow hB (fun op hop x hx hs=>.inr ⟨by rw [(hu op hop).1]; exact k1,hp op hop x hx hs⟩) (fun op hop _ hn=>absurd (by rw [(hu op hop).1]; exact k1) hn) hr hl⟩
theorem TI.slip {a:Addr} (A:Apart Sh Own Rd) (h:TI Sh Own Rd a base j B t) {k:Nat} (k1:1 ≤ k) (kb:k ≤ base) (hg:∀ op ∈ u,op.g = k) (hn:∀ op ∈ u,op.act.touch? = none) (hr:∀ op ∈ u,op.act ≠ .mark (.release a)) (hl:∀ op ∈ u,op.act.low B) :
    TI Sh Own Rd a base j B (t ++ u) :=
  ⟨h.ct.appW A k1 (by omega) fun op hop=>⟨hg op hop,fun x hx=>by rw [hn op hop] at hx; cases hx⟩,h.tk.grow (Nat.le_refl _) (fun op hop x hx=>by rw [hn op hop] at hx; cases hx) (fun op hop _ _=>hn op hop) hr hl⟩
theorem TI.fork {a:Addr} (A:Apart Sh Own Rd) (h:TI Sh Own Rd a base j B t) {x y:MemOp} (hx:x.g = 0 ∧ x.act = .go (base + j + 1)) (hy:y.g = base + j + 1 ∧ y.act = .start) (h0:Deaf t 0 = 0):TI Sh Own Rd a base (j + 1) B (t ++ #[x,y]):=by
  have hm:∀ op ∈ #[x,y],op = x ∨ op = y:=fun op hop=>by simpa using hop
  have hn:∀ op ∈ #[x,y],op.act.touch? = none:=fun op hop=>by
    rcases hm op hop with rfl | rfl
    · rw [hx.2]; rfl
    · rw [hy.2]; rfl
  refine ⟨h.ct.fork A hx hy h0,h.tk.grow (Nat.le_refl _) (fun op hop z hz=>by rw [hn op hop] at hz; cases hz) (fun op hop _ _=>hn op hop) (fun op hop e=>?_) (fun op hop=>?_)⟩
  · rcases hm op hop with rfl | rfl
    · rw [hx.2] at e; cases e
    · rw [hy.2] at e; cases e
  · rcases hm op hop with rfl | rfl
    · rw [hx.2]; trivial
    · rw [hy.2]; trivial
theorem TI.join {a:Addr} (h:TI Sh Own Rd a base j B t) {q:Nat} (hq:t.act? q = some (.mark (.acquire a))) (hg:t.g? q = some 0) (hh:t.heard q) (hw:∀ g,base < g → g ≤ base + j → ∃ r,RelBy a t g r ∧ r < q) :
    CT Sh NoFam NoFam t (base + j) ∧ t.HandedOver:=by
  have key:∀ i g,t.g? i = some g → base < g → t.counts i → HappensBefore t i q:=by
    intro i g hgi hb hc
    obtain ⟨op,hop,hog⟩:=Option.map_eq_some_iff.1 (show (t[i]?).map (·.g) = some g from hgi)
    have hle:=h.ct.gs i op hop
    rw [hog] at hle
    obtain ⟨r,hr,hrq⟩:=hw g hb hle
    have edge:HappensBefore t r q:=.single (.inr ⟨.marked hrq (.inr hr.act) hq (fun k _ _=>h.tk.nrel k),hr.heard,hh⟩)
    have hle:i ≤ r:=Nat.le_of_not_lt fun hlt=>hr.after i hlt hgi hc
    rcases Nat.lt_or_ge i r with hlt | hge
    · exact .trans (.single (.inl ⟨hlt,g,hgi,hr.g⟩)) edge
    · obtain rfl:i = r:=by omega
      exact edge
  obtain ⟨zq,hzq,hzg⟩:=Option.map_eq_some_iff.1 (show (t[q]?).map (·.g) = some 0 from hg)
  have kn:∀ l,¬ Sh l → Perm t 0 l:=fun l hs i x hx hl=>by
    rcases h.tk.known i x hx (hl ▸ hs) with h1 | ⟨g,h1,h2,h3,h4⟩
    · exact h1
    · exact ⟨q,zq,hzq,hzg,.inr (key i g h1 h2 ⟨x,hx,h4,.inl h3⟩)⟩
  refine ⟨⟨h.ct.quiet,fun k _ _ l hl=>hl.elim,fun k _ _ l hl=>hl.elim,fun l hs _=>kn l hs,fun l hs _=>PermW.of (kn l hs),h.ct.nr,h.ct.gs⟩,fun i g hgi hne hc=>?_⟩
  rcases h.tk.over i g hgi hne hc with h1 | h1
  · exact h1
  · exact ⟨q,hg,key i g hgi h1 hc⟩
end
end Go.Proofs.YtojoafcnijajmaaGreatDoor

namespace Go.Proofs.YtojoafcnijajmaaGreatDoor
open Go Go.Conc Go.ConcN
open Go.ConcR (KK wgBlock WgAt stA smA rd wr mk Payload DC0 Bk)
variable [Payload]
structure Puts (V nV off:Nat) (vs:List Value) (u u':World):Prop where
  tape:u'.tape = u.tape
  os:u'.os = u.os
  output:u'.output = u.output
  size:u'.heap.size = u.heap.size
  block:∀ b,b ≠ V → u'.heap[b]? = u.heap[b]?
  row:∀ cs,u.heap[V]? = some (.cells cs Payload.ety) → cs.size = nV → ∃ cs',u'.heap[V]? = some (.cells cs' Payload.ety) ∧ cs'.size = nV ∧ (∀ x,¬ (off ≤ x ∧ x < off + vs.length) → cs'[x]? = cs[x]?) ∧ ∀ o,o < vs.length → cs'[off + o]? = vs[o]?
def EvPut (V off n:Nat) (e:Event):Prop:=∃ x,off ≤ x ∧ x < off + n ∧ e = ⟨.cell ⟨V,x,none⟩,true,false⟩
section
variable (Q:Program) (ty:TypeId) (Wg V nV:Nat) (K:Nat → Prop)
def RL (_ w₁:World):Prop:=WgLive ty Wg w₁
def TR0 (off:Nat) (vs:List Value) (g:Goroutine) (w:World):Prop :=
  g.status = .running ∧ (Has V off (vs.headD undef) w → ∃ g',stepG Q false g w = .go g' w #[mk (.releaseMerge (stA Wg))] ∧ ∃ m,Goes Q false (RW ty Wg V nV 0 off) DC0 (AtK1 Q ty Wg V nV 0 (off + 1)) m g' w)
def AtPut (off:Nat) (vs:List Value) (g:Goroutine) (u:World) (_:Nat → Prop):Prop :=
  g.status = .running ∧ (PayAt V nV u → WgLive ty Wg u → ∃ g' u' es,stepG Q false g u = .go g' u' es ∧ Puts V nV off vs u u' ∧ (∀ e ∈ es,EvPut V off vs.length e) ∧
    ∃ m,Goes Q false (RL ty Wg) DC0 (TR0 Q ty Wg V nV off vs) m g' u')
abbrev Tail (off:Nat) (vs:List Value):=WSit Q ty Wg V nV NoFam NoFam 0 (off + 1) (vs.headD undef)
def Wk (off:Nat) (vs:List Value) (lv:Bool) (d:WD) (M:Nat → Prop) (g:Goroutine) (u:World):Prop :=
  (lv = true ∧ d.stage = 7 ∧ d.deaf = 0 ∧ Owned Q false K (AtPut Q ty Wg V nV off vs) g u M) ∨ (lv = false ∧ d.stage = 7 ∧ d.deaf = 0 ∧ Goes Q false (RL ty Wg) DC0 (TR0 Q ty Wg V nV off vs) d.fuel g u) ∨
    (lv = false ∧ d.stage ≤ 6 ∧ Tail Q ty Wg V nV off vs d.stage d.fuel d.deaf g u)
def TGo (g' child g:Goroutine) (w:World):Prop:=g.status = .running ∧ stepG Q true g w = .spawn g' child w #[]
def TKeS (g' child g:Goroutine) (w:World):Prop:=g.status = .running ∧ ∃ g₁,stepG Q true g w = .go g₁ w #[mk .enable] ∧ ∃ m,Goes Q true (RL ty Wg) DC0 (TGo Q g' child) m g₁ w
def TRd (g' child g:Goroutine) (w:World):Prop:=g.status = .running ∧ ∃ g₁,stepG Q true g w = .go g₁ w #[mk (.read (smA Wg))] ∧ ∃ m,Goes Q true (RL ty Wg) DC0 (TKeS Q ty Wg g' child) m g₁ w
def TA1 (g' child g:Goroutine) (w:World):Prop:=g.status = .running ∧ ∀ v:Nat,v < 4 → WgAt ty Wg w (v * KK) 0 →
  ∃ g₁,stepG Q true g w = .go g₁ (w.setCell (stA Wg) (.int .u64 ((v + 1) * KK))) #[rd (stA Wg),wr (stA Wg)] ∧ ∃ m,Goes Q true (RL ty Wg) DC0 (fun g w=>TRd Q ty Wg g' child g w ∨ TKeS Q ty Wg g' child g w) m g₁ (w.setCell (stA Wg) (.int .u64 ((v + 1) * KK)))
def TKdS (g' child g:Goroutine) (w:World):Prop:=g.status = .running ∧ ∃ g₁,stepG Q true g w = .go g₁ w #[mk .disable] ∧ ∃ m,Goes Q true (RL ty Wg) DC0 (TA1 Q ty Wg g' child) m g₁ w
variable (gE:Goroutine → Prop) (An:Goroutine → World → Prop)
def TAcq (g:Goroutine) (w:World):Prop:=g.status = .running ∧ ∃ g₁,gE g₁ ∧ stepG Q true g w = .go g₁ w #[mk (.acquire (stA Wg))]
def TKe (g:Goroutine) (w:World):Prop:=g.status = .running ∧ ∃ g₁,stepG Q true g w = .go g₁ w #[mk .enable] ∧ ∃ m,Goes Q true (RL ty Wg) DC0 (TAcq Q Wg gE) m g₁ w
def TW4 (g:Goroutine) (w:World):Prop:=g.status = .running ∧ (WgAt ty Wg w 0 0 → ∃ g₁,stepG Q true g w = .go g₁ w #[rd (stA Wg)] ∧ ∃ m,Goes Q true (RL ty Wg) DC0 (TKe Q ty Wg gE) m g₁ w)
def TW3 (g:Goroutine) (w:World):Prop:=g.status = .running ∧ g.offers = none ∧ ((∃ st,WgAt ty Wg w st 0) → stepG Q true g w = .go { g with status:=.blocked } w #[]) ∧
  (WgAt ty Wg w 0 1 → ∃ g₁,stepG Q true g w = .go g₁ (w.setCell (smA Wg) (.int .u32 0)) (semEvents (smA Wg)) ∧ ∃ m,Goes Q true (RL ty Wg) DC0 (TW4 Q ty Wg gE) m g₁ (w.setCell (smA Wg) (.int .u32 0)))
def TWr (g:Goroutine) (w:World):Prop:=g.status = .running ∧ ∃ g₁,stepG Q true g w = .go g₁ w #[mk (.write (smA Wg))] ∧ Goes Q true (RL ty Wg) DC0 (TW3 Q ty Wg gE) 100 g₁ w
def TW2 (vs:Nat) (g:Goroutine) (w:World):Prop:=g.status = .running ∧ ∀ v:Nat,v ≤ 4 → WgAt ty Wg w (v * KK) 0 →
  (v = vs → ∃ g₁,stepG Q true g w = .go g₁ (w.setCell (stA Wg) (.int .u64 (v * KK + 1))) #[rd (stA Wg),wr (stA Wg)] ∧ ∃ m,Goes Q true (RL ty Wg) DC0 (TWr Q ty Wg gE) m g₁ (w.setCell (stA Wg) (.int .u64 (v * KK + 1)))) ∧
  (v ≠ vs → ∃ g₁,stepG Q true g w = .go g₁ w #[rd (stA Wg)] ∧ ∃ m,Goes Q true (RL ty Wg) DC0 An m g₁ w)
def TW1 (g:Goroutine) (w:World):Prop:=g.status = .running ∧ ∀ v:Nat,v ≤ 4 → WgAt ty Wg w (v * KK) 0 → ∃ g₁,stepG Q true g w = .go g₁ w #[rd (stA Wg)] ∧
  (v = 0 → ∃ m,Goes Q true (RL ty Wg) DC0 (TKe Q ty Wg gE) m g₁ w) ∧ (v ≠ 0 → ∃ m,Goes Q true (RL ty Wg) DC0 (TW2 Q ty Wg gE An v) m g₁ w)
def TKd (g:Goroutine) (w:World):Prop:=g.status = .running ∧ ∃ g₁,stepG Q true g w = .go g₁ w #[mk .disable] ∧ ∃ m,Goes Q true (RL ty Wg) DC0 An m g₁ w
variable (nW:Nat) (off:Nat → Nat) (vals:Nat → List Value)
def SrStop (Nx:Goroutine → World → (Nat → Prop) → Prop) (r:Nat) (g:Goroutine) (u:World) (M₀:Nat → Prop):Prop :=
  ∃ g' child,child.status = .running ∧ (∃ m,Goes Q true (RL ty Wg) DC0 (TKdS Q ty Wg g' child) m g u) ∧ ∀ u₁,Rely K M₀ u u₁ → Owned Q false K (AtPut Q ty Wg V nV (off (nW - (r + 1))) (vals (nW - (r + 1)))) child u₁ M₀ ∧ Nx g' u₁ (fun _=>False)
def SrEnd (g:Goroutine) (u:World) (_:Nat → Prop):Prop:=∃ m,Goes Q true (RL ty Wg) DC0 (TKd Q ty Wg An) m g u
def Sr:Nat → Goroutine → World → (Nat → Prop) → Prop
  | 0=>Owned Q true K (SrEnd Q ty Wg An)
  | r + 1=>Owned Q true K (SrStop Q ty Wg V nV K nW off vals (Sr r) r)
def SrS:Nat → Goroutine → World → (Nat → Prop) → Prop
  | 0=>SrEnd Q ty Wg An
  | r + 1=>SrStop Q ty Wg V nV K nW off vals (Sr Q ty Wg V nV K An nW off vals r) r
def Fk (r:Nat) (X:Goroutine → Goroutine → Goroutine → World → Prop) (f0:Nat) (a:Goroutine) (u:World) (M₀:Nat → Prop):Prop :=
  ∃ g' child,child.status = .running ∧ Goes Q true (RL ty Wg) DC0 (X g' child) f0 a u ∧ ∀ u₁,Rely K M₀ u u₁ → Owned Q false K (AtPut Q ty Wg V nV (off (nW - (r + 1))) (vals (nW - (r + 1)))) child u₁ M₀ ∧ Sr Q ty Wg V nV K An nW off vals r g' u₁ (fun _=>False)
def CS:CTag → Nat → Nat → Nat → Goroutine → World → (Nat → Prop) → Prop
  | .sp r 6,j,f0,d0,a,u,M₀=>r ≤ nW ∧ j = nW - r ∧ f0 = 0 ∧ d0 = 0 ∧ Sr Q ty Wg V nV K An nW off vals r a u M₀
  | .sp (r + 1) 5,j,f0,d0,a,u,M₀=>r < nW ∧ j = nW - (r + 1) ∧ d0 = 0 ∧ Fk Q ty Wg V nV K An nW off vals r (TKdS Q ty Wg) f0 a u M₀
  | .sp (r + 1) 4,j,f0,d0,a,u,M₀=>r < nW ∧ j = nW - (r + 1) ∧ d0 = 1 ∧ Fk Q ty Wg V nV K An nW off vals r (TA1 Q ty Wg) f0 a u M₀
  | .sp (r + 1) 3,j,f0,d0,a,u,M₀=>r < nW ∧ j = nW - (r + 1) ∧ d0 = 1 ∧ Fk Q ty Wg V nV K An nW off vals r (fun g' c g w=>TRd Q ty Wg g' c g w ∨ TKeS Q ty Wg g' c g w) f0 a u M₀
  | .sp (r + 1) 2,j,f0,d0,a,u,M₀=>r < nW ∧ j = nW - (r + 1) ∧ d0 = 1 ∧ Fk Q ty Wg V nV K An nW off vals r (TKeS Q ty Wg) f0 a u M₀
  | .sp (r + 1) 1,j,f0,d0,a,u,M₀=>r < nW ∧ j = nW - (r + 1) ∧ d0 = 0 ∧ Fk Q ty Wg V nV K An nW off vals r (TGo Q) f0 a u M₀
  | .sp _ _,_,_,_,_,_,_=>False
  | .kd,j,f0,d0,a,u,_=>j = nW ∧ d0 = 0 ∧ Goes Q true (RL ty Wg) DC0 (TKd Q ty Wg An) f0 a u
  | .anch,j,f0,d0,a,u,_=>j = nW ∧ d0 = 1 ∧ Goes Q true (RL ty Wg) DC0 An f0 a u
  | .w1,j,f0,d0,a,u,_=>j = nW ∧ d0 = 1 ∧ Goes Q true (RL ty Wg) DC0 (TW1 Q ty Wg gE An) f0 a u
  | .w2 vs,j,f0,d0,a,u,_=>j = nW ∧ d0 = 1 ∧ Goes Q true (RL ty Wg) DC0 (TW2 Q ty Wg gE An vs) f0 a u
  | .w3,j,f0,d0,a,u,_=>j = nW ∧ d0 = 1 ∧ ((∃ m,f0 = m + 102 ∧ Goes Q true (RL ty Wg) DC0 (TWr Q ty Wg gE) m a u) ∨ ∃ m,f0 = m + 1 ∧ Goes Q true (RL ty Wg) DC0 (TW3 Q ty Wg gE) m a u)
  | .blk,j,f0,d0,a,_,_=>j = nW ∧ d0 = 1 ∧ f0 = 0 ∧ ∃ g:Goroutine,a = { g with status:=.blocked } ∧ g.offers = none ∧ ∀ w,WgLive ty Wg w → TW3 Q ty Wg gE g w
  | .w4,j,f0,d0,a,u,_=>j = nW ∧ d0 = 1 ∧ Goes Q true (RL ty Wg) DC0 (TW4 Q ty Wg gE) f0 a u
  | .ke,j,f0,d0,a,u,_=>j = nW ∧ d0 = 1 ∧ Goes Q true (RL ty Wg) DC0 (TKe Q ty Wg gE) f0 a u
  | .acq,j,f0,d0,a,u,_=>j = nW ∧ d0 = 0 ∧ Goes Q true (RL ty Wg) DC0 (TAcq Q Wg gE) f0 a u
  | .ret,_,_,_,_,_,_=>False
end
def OfBlock (M:Nat → Prop) (l:Loc):Prop:=∃ c,(l = .obj c ∨ ∃ a,l = .cell a ∧ a.block = c) ∧ M c
def OwnF (base V nW:Nat) (off:Nat → Nat) (vals:Nat → List Value) (M:Nat → Nat → Prop) (k:Nat) (l:Loc):Prop :=
  base < k ∧ k - base - 1 < nW ∧ (OfBlock (M (k - base - 1)) l ∨ ∃ x,off (k - base - 1) ≤ x ∧ x < off (k - base - 1) + (vals (k - base - 1)).length ∧ l = .cell ⟨V,x,none⟩)
def RdF (base:Nat) (K:Nat → Prop) (k:Nat) (l:Loc):Prop:=base < k ∧ OfBlock K l
structure Eff (W:Nat → Prop) (u u':World):Prop where
  tape:u'.tape = u.tape
  os:u'.os = u.os
  output:u'.output = u.output
  size:u.heap.size ≤ u'.heap.size
  keep:∀ c,c < u.heap.size → ¬ W c → u'.heap[c]? = u.heap[c]?
theorem Eff.rely {W K M:Nat → Prop} {u u':World} (h:Eff W u u') (hK:∀ c,K c → ¬ W c) (hM:∀ c,M c → ¬ W c):Rely K M u u' :=
  ⟨h.tape,h.os,h.output,h.size,fun c hc hl=>h.keep c hl (hc.elim (hM c) (hK c))⟩
section
variable (Q:Program) (ty:TypeId) (S:Nat → Prop) (Wg V nV base nW:Nat) (K:Nat → Prop) (off:Nat → Nat) (vals:Nat → List Value) (zero:Nat → Value) (u₀:World)
structure Lie (j:Nat) (u:World) (M:Nat → Nat → Prop) (M₀:Nat → Prop):Prop where
  tape:u.tape = u₀.tape
  os:u.os = u₀.os
  output:u.output = u₀.output
  size:u₀.heap.size ≤ u.heap.size
  keep:∀ c,c < u₀.heap.size → c ≠ V → c ≠ Wg → u.heap[c]? = u₀.heap[c]?
  v:V < u₀.heap.size
  wg:Wg < u₀.heap.size
  vw:V ≠ Wg
  kin:∀ c,K c → c < u₀.heap.size ∧ c ≠ V ∧ c ≠ Wg ∧ ¬ S c
  sh:∀ c,S c → c < u₀.heap.size ∧ c ≠ V ∧ c ≠ Wg
  low:∀ i,i < j → ∀ c,M i c → c < u.heap.size ∧ u₀.heap.size ≤ c
  low0:∀ c,M₀ c → c < u.heap.size ∧ u₀.heap.size ≤ c
  dis:∀ i i',i < j → i' < j → i ≠ i' → ∀ c,M i c → ¬ M i' c
  dis0:∀ i,i < j → ∀ c,M i c → ¬ M₀ c
  emp:∀ i,j ≤ i → ∀ c,¬ M i c
def Row (j:Nat) (u:World) (lv:Nat → Bool):Prop :=
  ∃ cs,u.heap[V]? = some (.cells cs Payload.ety) ∧ cs.size = nV ∧ (∀ i,i < j → lv i = false → ∀ o,o < (vals i).length → cs[off i + o]? = (vals i)[o]?) ∧
    ∀ x,x < nV → (∀ i,i < j → lv i = false → ¬ (off i ≤ x ∧ x < off i + (vals i).length)) → cs[x]? = some (zero x)
structure PI (j:Nat) (gs:Array Goroutine) (u:World) (t:Trace) (D:Nat → WD) (lv:Nat → Bool) (M:Nat → Nat → Prop) (M₀:Nat → Prop) (q:Nat → Nat) (d0:Nat):Prop where
  size:gs.size = base + 1 + j
  ti:TI (ShB fun c=>S c ∨ c = Wg) (OwnF base V nW off vals M) (RdF base K) (stA Wg) base j u.heap.size t
  lie:Lie S Wg V K u₀ j u M M₀
  row:Row V nV off vals zero j u lv
  old:∀ i g,0 < i → i ≤ base → gs[i]? = some g → QuitsD Q (q i) (Deaf t i) g
  deaf0:Deaf t 0 = d0
  deafW:∀ i,i < j → Deaf t (base + 1 + i) = (D i).deaf
  wk:∀ i,i < j → ∃ g,gs[base + 1 + i]? = some g ∧ Wk Q ty Wg V nV K (off i) (vals i) (lv i) (D i) (M i) g u
  rel:∀ i,i < j → (D i).stage ≤ 6 → ∃ r,RelBy (stA Wg) t (base + 1 + i) r
end
end Go.Proofs.YtojoafcnijajmaaGreatDoor
