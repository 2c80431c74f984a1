/- Part 11 of the proof that Devices answers true and leaves its input as it was, for input of bulk at most the bound of its row: X7 X8. -/
import Derived.Test.YtojoafcnijajmaaGreatDoorT10
set_option linter.unusedSectionVars false
namespace Go.Proofs.YtojoafcnijajmaaGreatDoor
open Go Go.Conc Go.ConcN
open Go.ConcR (KK wgBlock WgAt stA smA rd wr mk Payload DC0 Bk g_of_ofEvents again_blocked)
structure Cmp where
  idx:Nat
  tag:Nat
  g:Goroutine
  u:World
  M:Nat → Prop
section
variable (Q:Program) (K:Nat → Prop) (mainOf:Nat → Bool) (stopOf:Nat → Goroutine → World → (Nat → Prop) → Prop)
def OwnAt (x:Cmp):Prop:=Owned Q (mainOf x.idx) K (stopOf x.idx) x.g x.u x.M
def Stopped (x:Cmp):Prop:=∀ u₁,Rely K x.M x.u u₁ → stopOf x.idx x.g u₁ x.M
def OStep (y x:Cmp):Prop:=¬ Stopped K stopOf x ∧ ∃ u₁ es,Rely K x.M x.u u₁ ∧ stepG Q (mainOf x.idx) x.g u₁ = .go y.g y.u es ∧ y.M = Grow x.M u₁ y.u
def CRel (y x:Cmp):Prop:=y.idx = x.idx ∧ ((x.tag = 2 ∧ y.tag = 1 ∧ OwnAt Q K mainOf stopOf y) ∨ (x.tag = 2 ∧ y.tag = 0) ∨ (x.tag = 1 ∧ y.tag = 0) ∨ (x.tag = 1 ∧ y.tag = 1 ∧ OStep Q K mainOf stopOf y x))
def CMov (y x:Cmp):Prop:=y = x ∨ (y.idx = x.idx ∧ y.tag = x.tag ∧ y.g = x.g ∧ y.M = x.M ∧ Rely K x.M x.u y.u)
variable {Q K mainOf stopOf}
theorem CMov.down (x y z:Cmp) (h:CMov K y x) (hz:CRel Q K mainOf stopOf z y):CRel Q K mainOf stopOf z x:=by
  rcases h with rfl | ⟨h1,h2,h3,h4,h5⟩
  · exact hz
  · obtain ⟨e,hz⟩:=hz
    refine ⟨e.trans h1,?_⟩
    rw [h2] at hz
    rcases hz with hz | hz | hz | ⟨a,b,c,u₁,es,r1,r2,r3⟩
    · exact .inl hz
    · exact .inr (.inl hz)
    · exact .inr (.inr (.inl hz))
    · refine .inr (.inr (.inr ⟨a,b,fun hs=>c fun u₂ hu₂=>?_,u₁,es,?_,?_,?_⟩))
      · rw [h4] at hu₂ ⊢
        rw [h1,h3]
        exact hs u₂ (h5.trans hu₂)
      · rw [h4] at r1; exact h5.trans r1
      · rw [h1,h3] at r2; exact r2
      · rw [h4] at r3; exact r3
theorem acc_dead (x:Cmp) (h:x.tag = 0):Acc (CRel Q K mainOf stopOf) x:=⟨_,fun y hy=>by
  obtain ⟨_,h1 | h1 | h1 | h1⟩:=hy <;> · have:=h1.1; omega⟩
theorem acc_live (x:Cmp) (h:x.tag = 1) (ho:OwnAt Q K mainOf stopOf x):Acc (CRel Q K mainOf stopOf) x:=by
  obtain ⟨idx,tag,g,u,M⟩:=x
  simp only at h
  subst h
  refine ho (fun g u M=>Acc (CRel Q K mainOf stopOf) ⟨idx,1,g,u,M⟩) fun g u M hn=>⟨_,fun y hy=>?_⟩
  obtain ⟨yi,yt,yg,yu,yM⟩:=y
  obtain ⟨e,h1 | h1 | h1 | ⟨_,h1,hs,u₁,es,r1,r2,r3⟩⟩:=hy
  · have:=h1.1; simp at this
  · have:=h1.1; simp at this
  · exact acc_dead _ h1.2
  · simp only at e h1 r1 r2 r3
    subst e h1 r3
    rcases hn with hn | ⟨_,hn⟩
    · exact absurd hn hs
    · obtain ⟨g',u',es',e1,_,e2⟩:=hn u₁ r1
      rw [e1] at r2
      cases r2
      exact e2
theorem acc_new (x:Cmp) (h:x.tag = 2):Acc (CRel Q K mainOf stopOf) x:=⟨_,fun y hy=>by
  obtain ⟨_,h1 | h1 | h1 | h1⟩:=hy
  · exact acc_live _ h1.2.1 h1.2.2
  · exact acc_dead _ h1.2
  · have:=h1.1; omega
  · have:=h1.1; omega⟩
end
section
variable [Payload]
variable {Q:Program} {ty:TypeId} {S:Nat → Prop} {Wg V nV base nW:Nat} {K:Nat → Prop} {off:Nat → Nat} {vals:Nat → List Value} {zero:Nat → Value} {u₀ u u':World} {j:Nat} {M:Nat → Nat → Prop} {M₀:Nat → Prop} {t:Trace}
  {gs:Array Goroutine} {D:Nat → WD} {lv:Nat → Bool} {q:Nat → Nat} {d0:Nat} {gE:Goroutine → Prop} {An:Goroutine → World → Prop} {tag:CTag} {f0:Nat} {a:Goroutine}
theorem RL.trans (a b c:World) (_:RL ty Wg a b) (h:RL ty Wg b c):RL ty Wg a c:=h
theorem Fk.rely {r:Nat} {X:Goroutine → Goroutine → Goroutine → World → Prop} (h:Fk Q ty Wg V nV K An nW off vals r X f0 a u M₀) (hr:Rely K M₀ u u') (hl:WgLive ty Wg u'):Fk Q ty Wg V nV K An nW off vals r X f0 a u' M₀:=by
  obtain ⟨g',child,h1,h2,h3⟩:=h
  exact ⟨g',child,h1,Goes.rely RL.trans h2 hl,fun u₁ h₁=>h3 u₁ (hr.trans h₁)⟩
theorem Sr.rely {r:Nat} (h:Sr Q ty Wg V nV K An nW off vals r a u M₀) (hr:Rely K M₀ u u'):Sr Q ty Wg V nV K An nW off vals r a u' M₀:=by
  cases r with
  | zero=>exact Owned.rely h hr
  | succ r=>exact Owned.rely h hr
theorem CS.rely (h:CS Q ty Wg V nV K gE An nW off vals tag j f0 d0 a u M₀) (hr:Rely K M₀ u u') (hl:WgLive ty Wg u'):CS Q ty Wg V nV K gE An nW off vals tag j f0 d0 a u' M₀:=by
  cases tag with
  | sp r s =>
    match r,s,h with
    | r,6,h=>cases r <;> exact ⟨h.1,h.2.1,h.2.2.1,h.2.2.2.1,h.2.2.2.2.rely hr⟩
    | r + 1,5,h=>exact ⟨h.1,h.2.1,h.2.2.1,h.2.2.2.rely hr hl⟩
    | r + 1,4,h=>exact ⟨h.1,h.2.1,h.2.2.1,h.2.2.2.rely hr hl⟩
    | r + 1,3,h=>exact ⟨h.1,h.2.1,h.2.2.1,h.2.2.2.rely hr hl⟩
    | r + 1,2,h=>exact ⟨h.1,h.2.1,h.2.2.1,h.2.2.2.rely hr hl⟩
    | r + 1,1,h=>exact ⟨h.1,h.2.1,h.2.2.1,h.2.2.2.rely hr hl⟩
    | r + 1,0,h=>exact h.elim
    | r + 1,s + 7,h=>exact h.elim
    | 0,0,h=>exact h.elim
    | 0,1,h=>exact h.elim
    | 0,2,h=>exact h.elim
    | 0,3,h=>exact h.elim
    | 0,4,h=>exact h.elim
    | 0,5,h=>exact h.elim
    | 0,s + 7,h=>exact h.elim
  | kd=>exact ⟨h.1,h.2.1,Goes.rely RL.trans h.2.2 hl⟩
  | anch=>exact ⟨h.1,h.2.1,Goes.rely RL.trans h.2.2 hl⟩
  | w1=>exact ⟨h.1,h.2.1,Goes.rely RL.trans h.2.2 hl⟩
  | w2 vs=>exact ⟨h.1,h.2.1,Goes.rely RL.trans h.2.2 hl⟩
  | w3 =>
    refine ⟨h.1,h.2.1,?_⟩
    rcases h.2.2 with ⟨m,e,h⟩ | ⟨m,e,h⟩
    · exact .inl ⟨m,e,Goes.rely RL.trans h hl⟩
    · exact .inr ⟨m,e,Goes.rely RL.trans h hl⟩
  | blk=>exact h
  | w4=>exact ⟨h.1,h.2.1,Goes.rely RL.trans h.2.2 hl⟩
  | ke=>exact ⟨h.1,h.2.1,Goes.rely RL.trans h.2.2 hl⟩
  | acq=>exact ⟨h.1,h.2.1,Goes.rely RL.trans h.2.2 hl⟩
  | ret=>exact h
theorem Fk.running {r:Nat} {X:Goroutine → Goroutine → Goroutine → World → Prop} (hX:∀ x y g w,X x y g w → g.status = .running) (h:Fk Q ty Wg V nV K An nW off vals r X f0 a u M₀) (hl:WgLive ty Wg u):a.status = .running:=by
  obtain ⟨g',child,_,h2,_⟩:=h
  exact Goes.running (hX g' child) u hl h2
theorem Sr.running {r:Nat} (h:Sr Q ty Wg V nV K An nW off vals r a u M₀) (hl:WgLive ty Wg u):a.status = .running:=by
  cases r with
  | zero =>
    rcases Owned.cases h with h | h
    · obtain ⟨m,hm⟩:=h u (Rely.refl _ _ _)
      exact Goes.running (fun _ _ x=>x.1) u hl hm
    · exact h.1
  | succ r =>
    rcases Owned.cases h with h | h
    · obtain ⟨g',c,_,⟨m,hm⟩,_⟩:=h u (Rely.refl _ _ _)
      exact Goes.running (fun _ _ x=>x.1) u hl hm
    · exact h.1
theorem CS.status (hAr:∀ g w,An g w → g.status = .running) (h:CS Q ty Wg V nV K gE An nW off vals tag j f0 d0 a u M₀) (hl:WgLive ty Wg u):(a.status = .running ∧ tag ≠ .blk) ∨ (a.status = .blocked ∧ tag = .blk):=by
  cases tag with
  | sp r s =>
    refine .inl ⟨?_,by simp⟩
    match r,s,h with
    | r,6,h=>cases r <;> exact h.2.2.2.2.running hl
    | r + 1,5,h=>exact h.2.2.2.running (fun _ _ _ _ x=>x.1) hl
    | r + 1,4,h=>exact h.2.2.2.running (fun _ _ _ _ x=>x.1) hl
    | r + 1,3,h=>exact h.2.2.2.running (fun _ _ _ _ x=>x.elim (fun y=>y.1) fun y=>y.1) hl
    | r + 1,2,h=>exact h.2.2.2.running (fun _ _ _ _ x=>x.1) hl
    | r + 1,1,h=>exact h.2.2.2.running (fun _ _ _ _ x=>x.1) hl
    | r + 1,0,h=>exact h.elim
    | r + 1,s + 7,h=>exact h.elim
    | 0,0,h=>exact h.elim
    | 0,1,h=>exact h.elim
    | 0,2,h=>exact h.elim
    | 0,3,h=>exact h.elim
    | 0,4,h=>exact h.elim
    | 0,5,h=>exact h.elim
    | 0,s + 7,h=>exact h.elim
  | kd=>exact .inl ⟨Goes.running (fun _ _ x=>x.1) u hl h.2.2,by simp⟩
  | anch=>exact .inl ⟨Goes.running hAr u hl h.2.2,by simp⟩
  | w1=>exact .inl ⟨Goes.running (fun _ _ x=>x.1) u hl h.2.2,by simp⟩
  | w2 vs=>exact .inl ⟨Goes.running (fun _ _ x=>x.1) u hl h.2.2,by simp⟩
  | w3 =>
    rcases h.2.2 with ⟨m,e,h⟩ | ⟨m,e,h⟩
    · exact .inl ⟨Goes.running (fun _ _ x=>x.1) u hl h,by simp⟩
    · exact .inl ⟨Goes.running (fun _ _ x=>x.1) u hl h,by simp⟩
  | blk =>
    obtain ⟨_,_,_,g,rfl,_⟩:=h
    exact .inr ⟨rfl,rfl⟩
  | w4=>exact .inl ⟨Goes.running (fun _ _ x=>x.1) u hl h.2.2,by simp⟩
  | ke=>exact .inl ⟨Goes.running (fun _ _ x=>x.1) u hl h.2.2,by simp⟩
  | acq=>exact .inl ⟨Goes.running (fun _ _ x=>x.1) u hl h.2.2,by simp⟩
  | ret=>exact h.elim
theorem CS.wokenBy (hAr:∀ g w,An g w → g.status = .running) (h:CS Q ty Wg V nV K gE An nW off vals tag j f0 d0 a u M₀) (hr:Rely K M₀ u u') (hl:WgLive ty Wg u') (g g':Goroutine) :
    ∃ tag' f',CS Q ty Wg V nV K gE An nW off vals tag' j f' d0 (woken Q g g' u' a) u' M₀ ∧ f' ≤ f0 + 1 ∧ ((tag' = tag ∧ woken Q g g' u' a = a) ∨ (tag = .blk ∧ tag' = .w3)) ∧ (mayWake Q g = true → g'.status = .running → tag' ≠ .blk):=by
  have h':=h.rely hr hl
  unfold Go.Conc.woken
  split
  · rcases h'.status hAr hl with ⟨hs,hne⟩ | ⟨_,rfl⟩
    · have e:=again_running (g:=a) u' (.inl hs)
      exact ⟨tag,f0,by rw [e]; exact h',by omega,.inl ⟨rfl,e⟩,fun _ _=>hne⟩
    · obtain ⟨h1,h2,h3,g0,rfl,h4,h5⟩:=h'
      have hg:=h5 u' hl
      refine ⟨.w3,0 + 1,?_,by omega,.inr ⟨rfl,rfl⟩,fun _ _=>by simp⟩
      rw [again_blocked hg.1 h4]
      exact ⟨h1,h2,.inr ⟨0,rfl,Goes.stop fun w₁ hw=>h5 w₁ hw⟩⟩
  · rename_i hc
    exact ⟨tag,f0,h',by omega,.inl ⟨rfl,rfl⟩,fun h1 h2=>absurd (by simp [h1,h2]) hc⟩
end
end Go.Proofs.YtojoafcnijajmaaGreatDoor

namespace Go.Proofs.YtojoafcnijajmaaGreatDoor
open Go Go.Conc Go.ConcN
open Go.ConcR (KK wgBlock WgAt stA smA rd wr mk Payload DC0 Bk g_of_ofEvents again_blocked)
def ph0:Goroutine:={ (default:Goroutine) with status:=.finished }
def isLoc:CTag → Nat → Bool
  | .sp r 6,r'=>r' == r
  | _,_=>false
def lvl:CTag → Nat
  | .sp r _=>r
  | _=>0
def cv (nW base:Nat) (w0:World) (tag:CTag) (j:Nat) (lv:Nat → Bool) (M:Nat → Nat → Prop) (M₀:Nat → Prop) (gs:Array Goroutine) (u:World) (k:Nat):Cmp :=
  if k < nW then (if j ≤ k then ⟨k,2,ph0,w0,fun _=>False⟩ else if lv k = true then ⟨k,1,(gs[base + 1 + k]?).getD ph0,u,M k⟩ else ⟨k,0,ph0,w0,fun _=>False⟩)
  else if k - nW < lvl tag then ⟨k,2,ph0,w0,fun _=>False⟩ else if isLoc tag (k - nW) = true then ⟨k,1,(gs[0]?).getD ph0,u,M₀⟩ else ⟨k,0,ph0,w0,fun _=>False⟩
theorem cvMov {nW base j:Nat} {w0 u u':World} {tag tag':CTag} {lv lv':Nat → Bool} {M M':Nat → Nat → Prop} {M₀ M₀':Nat → Prop} {gs gs':Array Goroutine} {K:Nat → Prop} {k:Nat}
    (hw:k < nW → k < j → lv' k = lv k ∧ (lv k = true → (gs'[base + 1 + k]?).getD ph0 = (gs[base + 1 + k]?).getD ph0 ∧ M' k = M k ∧ Rely K (M k) u u'))
    (hs:¬ k < nW → lvl tag' = lvl tag ∧ isLoc tag' (k - nW) = isLoc tag (k - nW) ∧ (isLoc tag (k - nW) = true → (gs'[0]?).getD ph0 = (gs[0]?).getD ph0 ∧ M₀' = M₀ ∧ Rely K M₀ u u')) :
    CMov K (cv nW base w0 tag' j lv' M' M₀' gs' u' k) (cv nW base w0 tag j lv M M₀ gs u k):=by
  unfold cv
  by_cases hk:k < nW
  · rw [if_pos hk,if_pos hk]
    by_cases hj:j ≤ k
    · rw [if_pos hj,if_pos hj]; exact .inl rfl
    · rw [if_neg hj,if_neg hj]
      obtain ⟨e,h⟩:=hw hk (by omega)
      rw [e]
      by_cases hl:lv k = true
      · obtain ⟨e1,e2,e3⟩:=h hl
        rw [if_pos hl,if_pos hl,e1,e2]
        exact .inr ⟨rfl,rfl,rfl,rfl,e3⟩
      · rw [if_neg hl,if_neg hl]; exact .inl rfl
  · rw [if_neg hk,if_neg hk]
    obtain ⟨e1,e2,h⟩:=hs hk
    rw [e1,e2]
    by_cases hl:k - nW < lvl tag
    · rw [if_pos hl,if_pos hl]; exact .inl rfl
    · rw [if_neg hl,if_neg hl]
      by_cases hc:isLoc tag (k - nW) = true
      · obtain ⟨e3,e4,e5⟩:=h hc
        rw [if_pos hc,if_pos hc,e3,e4]
        exact .inr ⟨rfl,rfl,rfl,rfl,e5⟩
      · rw [if_neg hc,if_neg hc]; exact .inl rfl
section
variable [Payload]
variable (Q:Program) (ty:TypeId) (S:Nat → Prop) (Wg V nV base nW:Nat) (K:Nat → Prop) (off:Nat → Nat) (vals:Nat → List Value) (zero:Nat → Value) (u₀:World) (gE:Goroutine → Prop) (An:Goroutine → World → Prop)
def mainOf (k:Nat):Bool:=decide (nW ≤ k)
def stopOf (k:Nat):Goroutine → World → (Nat → Prop) → Prop:=if k < nW then AtPut Q ty Wg V nV (off k) (vals k) else SrS Q ty Wg V nV K An nW off vals (k - nW)
abbrev CR2:=CRel Q K (mainOf nW) (stopOf Q ty Wg V nV nW K off vals An)
abbrev VR2:=VRel (CR2 Q ty Wg V nV nW K off vals An) (CMov K) Lt2 (nW + nW + 1)
def PInv (x:(Nat → Cmp) × (Nat × Nat)) (m:Machine) (t:Trace):Prop :=
  ∃ (gs:Array Goroutine) (u:World) (sl:Option (Nat × Nat)) (j:Nat) (D:Nat → WD) (lv:Nat → Bool) (M:Nat → Nat → Prop) (M₀:Nat → Prop) (q:Nat → Nat) (tag:CTag) (f0 d0:Nat) (a:Goroutine) (st sm:Int),
    m = crowd gs u sl ∧ gs[0]? = some a ∧ CS Q ty Wg V nV K gE An nW off vals tag j f0 d0 a u M₀ ∧ PI Q ty S Wg V nV base nW K off vals zero u₀ j gs u t D lv M M₀ q d0 ∧ WgAt ty Wg u st sm ∧ ConcN.Mode j D tag st sm ∧ j ≤ nW ∧
    x = (cv nW base u₀ tag j lv M M₀ gs u,(phi nW (Vc j D) tag + Ssum j D,f0 + 2 * Fsum j D + 2 * sumTo (base + 1) q))
end
section
variable [Payload]
variable {Q:Program} {ty:TypeId} {S:Nat → Prop} {Wg V nV base nW:Nat} {K:Nat → Prop} {off:Nat → Nat} {vals:Nat → List Value} {zero:Nat → Value} {u₀ u u':World} {j:Nat} {M:Nat → Nat → Prop} {M₀:Nat → Prop} {t:Trace}
  {gs:Array Goroutine} {D:Nat → WD} {lv:Nat → Bool} {q:Nat → Nat} {d0:Nat} {gE:Goroutine → Prop} {An:Goroutine → World → Prop} {tag:CTag} {f0:Nat} {a:Goroutine} {st sm st' sm':Int} {sl:Option (Nat × Nat)}
theorem wStep (G:GeoP nV nW off vals) (hAr:∀ g w,An g w → g.status = .running) (ha:gs[0]? = some a) (hcs:CS Q ty Wg V nV K gE An nW off vals tag j f0 d0 a u M₀) (h:PI Q ty S Wg V nV base nW K off vals zero u₀ j gs u t D lv M M₀ q d0) (hjn:j ≤ nW)
    {i:Nat} (hi:i < j) {g g':Goroutine} {es:Array Event} (hg:gs[base + 1 + i]? = some g) (hgo:stepG Q false g u = .go g' u' es) {W:Nat → Prop} (he:Eff W u u')
    (hKW:∀ c,K c → ¬ W c) (hMW:∀ i',i' < j → i' ≠ i → ∀ c,M i' c → ¬ W c) (hM0W:∀ c,M₀ c → ¬ W c) (hW0:∀ c,c < u₀.heap.size → c ≠ V → c ≠ Wg → ¬ W c) {d':WD} {l':Bool} {M':Nat → Prop}
    (hM1:∀ c,M' c → M i c ∨ (u.heap.size ≤ c ∧ c < u'.heap.size)) (hM2:∀ c,M i c → M' c) (hwk:Wk Q ty Wg V nV K (off i) (vals i) l' d' M' g' u')
    (hok:∀ e ∈ es,∀ x,(MemAct.ofEvent e).touch? = some x → (ShB (fun c=>S c ∨ c = Wg) x.loc ∧ x.kind ≠ .plain ∧ x.kind ≠ .said) ∨ (x.kind = .plain ∧ x.loc.isMemory = true ∧ (OwnF base V nW off vals (upd M i M') (base + 1 + i) x.loc ∨ (OfBlock K x.loc ∧ x.write = false))))
    (hnr:∀ e ∈ es,e.loc ≠ .mark (.release (stA Wg))) (hlow:∀ e ∈ es,(MemAct.ofEvent e).low u'.heap.size) (hdeaf:deafBehind (D i).deaf es = d'.deaf)
    (hrel:d'.stage ≤ 6 → ∃ r,RelBy (stA Wg) (t ++ MemOp.ofEvents (base + 1 + i) g.frame.fn g.frame.place es) (base + 1 + i) r) (hrow:Row V nV off vals zero j u' (upd lv i l'))
    (hlu:WgLive ty Wg u) (hwg':WgAt ty Wg u' st' sm') (hp:PayAt V nV u → PayAt V nV u') (hc:∀ i',i' < j → i' ≠ i → u'.cell? ⟨V,off i',none⟩ = u.cell? ⟨V,off i',none⟩)
    (hmode:∀ tag',(tag' = tag ∨ (tag = .blk ∧ tag' = .w3)) → (mayWake Q g = true → g'.status = .running → tag' ≠ .blk) → ConcN.Mode j (upd D i d') tag' st' sm')
    (hdec:(lv i = false ∧ l' = false ∧ ((d'.stage < (D i).stage ∧ cnt d' ≤ cnt (D i)) ∨ (d'.stage = (D i).stage ∧ d'.fuel + 1 = (D i).fuel))) ∨
      (lv i = true ∧ CR2 Q ty Wg V nV nW K off vals An (if l' = true then ⟨i,1,g',u',M'⟩ else ⟨i,0,ph0,u₀,fun _=>False⟩) ⟨i,1,g,u,M i⟩)) :
    ∃ m₁ ops x',runT Q (crowd gs u sl) (base + 1 + i) = (.next m₁,ops) ∧
      VR2 Q ty Wg V nV nW K off vals An x' (cv nW base u₀ tag j lv M M₀ gs u,(phi nW (Vc j D) tag + Ssum j D,f0 + 2 * Fsum j D + 2 * sumTo (base + 1) q)) ∧
      PInv Q ty S Wg V nV base nW K off vals zero u₀ gE An x' m₁ (t ++ ops):=by
  have hlive:WgLive ty Wg u':=⟨_,_,hwg'⟩
  obtain ⟨tag',f',hcs',hf',htag,hwkn⟩:=hcs.wokenBy hAr (he.rely hKW hM0W) hlive g g'
  have hsz:=h.size
  have hrun:=runT_crowd_go (P:=Q) (sl:=sl) (i:=base + 1 + i) hg (by
    have:(base + 1 + i == 0) = false:=by simp
    rw [this]; exact hgo)
  have hPI:=h.worker G hi (g:=g) (g':=g') (fn:=g.frame.fn) (pos:=g.frame.place) he hKW hMW hW0 hM1 hM2 hwk hok hnr hlow hdeaf hrel hrow hlu hlive hp hc
  have e1:=sumTo_upd D d' cnt hi
  have e2:=sumTo_upd D d' WD.stage hi
  have e3:=sumTo_upd D d' WD.fuel hi
  have ha':((gs.map (woken Q g g' u')).setIfInBounds (base + 1 + i) g')[0]? = some (woken Q g g' u' a):=by rw [get_map_set _ _ _ _ (by omega),ha]; rfl
  have htag2:tag' = tag ∨ (tag = .blk ∧ tag' = .w3):=htag.imp (fun x=>x.1) id
  refine ⟨_,_,(cv nW base u₀ tag' j (upd lv i l') (upd M i M') M₀ ((gs.map (woken Q g g' u')).setIfInBounds (base + 1 + i) g') u',(phi nW (Vc j (upd D i d')) tag' + Ssum j (upd D i d'),f' + 2 * Fsum j (upd D i d') + 2 * sumTo (base + 1) q)),hrun,?_,
    _,u',sl,j,upd D i d',upd lv i l',upd M i M',M₀,q,tag',f',d0,woken Q g g' u' a,st',sm',rfl,ha',hcs',hPI,hwg',hmode tag' htag2 hwkn,hjn,rfl⟩
  have hmov:∀ k,k < nW + nW + 1 → k ≠ i → CMov K (cv nW base u₀ tag' j (upd lv i l') (upd M i M') M₀ ((gs.map (woken Q g g' u')).setIfInBounds (base + 1 + i) g') u' k) (cv nW base u₀ tag j lv M M₀ gs u k):=by
    intro k _ hki
    refine cvMov (fun hk hkj=>⟨upd_ne lv _ hki,fun hl=>⟨?_,upd_ne M _ hki,he.rely hKW (hMW k hkj hki)⟩⟩) fun hk=>?_
    · obtain ⟨gk,hgk,hw⟩:=h.wk k hkj
      rw [get_map_set _ _ _ _ (by omega),hgk]
      simp [hw.woken hlu]
    · rcases htag with ⟨rfl,ea⟩ | ⟨rfl,rfl⟩
      · refine ⟨rfl,rfl,fun _=>⟨?_,rfl,he.rely hKW hM0W⟩⟩
        rw [ha',ha,ea]
      · exact ⟨rfl,rfl,fun hh=>by cases hh⟩
  have hinw:i < nW:=by omega
  have hnew:cv nW base u₀ tag' j (upd lv i l') (upd M i M') M₀ ((gs.map (woken Q g g' u')).setIfInBounds (base + 1 + i) g') u' i = (if l' = true then ⟨i,1,g',u',M'⟩ else ⟨i,0,ph0,u₀,fun _=>False⟩):=by
    unfold cv
    rw [if_pos hinw,if_neg (by omega),upd_same,upd_same,get_map_set_same _ _ _ (by omega)]
    rfl
  have hold:cv nW base u₀ tag j lv M M₀ gs u i = (if lv i = true then ⟨i,1,g,u,M i⟩ else ⟨i,0,ph0,u₀,fun _=>False⟩):=by
    unfold cv
    rw [if_pos hinw,if_neg (by omega),hg]
    rfl
  rcases hdec with ⟨hl,rfl,hnum⟩ | ⟨hl,hcr⟩
  · refine ⟨fun k hk=>.inl ?_,.inr ?_⟩
    · by_cases hki:k = i
      · subst hki
        show CMov K (cv _ _ _ _ _ _ _ _ _ _ k) (cv _ _ _ _ _ _ _ _ _ _ k)
        rw [hnew,hold,hl]
        exact .inl rfl
      · exact hmov k hk hki
    · rw [phi_retag nW _ htag2]
      simp only [Vc,Ssum,Fsum] at *
      rcases hnum with ⟨h1,h2⟩ | ⟨h1,h2⟩
      · refine Prod.Lex.left _ _ ?_
        have:=phi_mono nW (v':=sumTo j fun a=>cnt (upd D i d' a)) (v:=sumTo j fun a=>cnt (D a)) (by omega) tag
        omega
      · have ec:cnt d' = cnt (D i):=by simp only [cnt,h1]
        have ev:(sumTo j fun a=>cnt (upd D i d' a)) = sumTo j fun a=>cnt (D a):=by omega
        have es':(sumTo j fun a=>(upd D i d' a).stage) = sumTo j fun a=>(D a).stage:=by omega
        rw [ev,es']
        refine Prod.Lex.right _ ?_
        omega
  · have hci:CR2 Q ty Wg V nV nW K off vals An (cv nW base u₀ tag' j (upd lv i l') (upd M i M') M₀ ((gs.map (woken Q g g' u')).setIfInBounds (base + 1 + i) g') u' i) (cv nW base u₀ tag j lv M M₀ gs u i):=by
      rw [hnew,hold,if_pos hl]; exact hcr
    refine ⟨fun k hk=>?_,.inl ⟨i,by omega,hci⟩⟩
    by_cases hki:k = i
    · subst hki; exact .inr hci
    · exact .inl (hmov k hk hki)
theorem sStep (G:GeoP nV nW off vals) (ha:gs[0]? = some a) (h:PI Q ty S Wg V nV base nW K off vals zero u₀ j gs u t D lv M M₀ q d0) (hjn:j ≤ nW)
    {g':Goroutine} {es:Array Event} {tag':CTag} {f':Nat} (hgo:stepG Q true a u = .go g' u' es) {W:Nat → Prop} (he:Eff W u u')
    (hKW:∀ c,K c → ¬ W c) (hMW:∀ i',i' < j → ∀ c,M i' c → ¬ W c) (hW0:∀ c,c < u₀.heap.size → c ≠ V → c ≠ Wg → ¬ W c) {M':Nat → Prop}
    (hM1:∀ c,M' c → M₀ c ∨ (u.heap.size ≤ c ∧ c < u'.heap.size))
    (hok:∀ e ∈ es,∀ x,(MemAct.ofEvent e).touch? = some x → (ShB (fun c=>S c ∨ c = Wg) x.loc ∧ x.kind ≠ .plain) ∨ (OfBlock M' x.loc ∨ (OfBlock K x.loc ∧ x.write = false)))
    (hnr:∀ e ∈ es,e.loc ≠ .mark (.release (stA Wg))) (hlow:∀ e ∈ es,(MemAct.ofEvent e).low u'.heap.size) (hV:¬ W V)
    (hcs':CS Q ty Wg V nV K gE An nW off vals tag' j f' (deafBehind d0 es) g' u' M') (hlu:WgLive ty Wg u) (hwg':WgAt ty Wg u' st' sm') (hmode':ConcN.Mode j D tag' st' sm')
    (hdec:(lvl tag' = lvl tag ∧ (∀ r,isLoc tag r = false) ∧ (∀ r,isLoc tag' r = false) ∧ (phi nW (Vc j D) tag' < phi nW (Vc j D) tag ∨ (phi nW (Vc j D) tag' = phi nW (Vc j D) tag ∧ f' < f0))) ∨
      (∃ r,r ≤ nW ∧ tag = .sp r 6 ∧ ((tag' = .sp r 6 ∧ CR2 Q ty Wg V nV nW K off vals An ⟨nW + r,1,g',u',M'⟩ ⟨nW + r,1,a,u,M₀⟩) ∨ (lvl tag' = r ∧ ∀ r,isLoc tag' r = false)))) :
    ∃ m₁ ops x',runT Q (crowd gs u sl) 0 = (.next m₁,ops) ∧
      VR2 Q ty Wg V nV nW K off vals An x' (cv nW base u₀ tag j lv M M₀ gs u,(phi nW (Vc j D) tag + Ssum j D,f0 + 2 * Fsum j D + 2 * sumTo (base + 1) q)) ∧
      PInv Q ty S Wg V nV base nW K off vals zero u₀ gE An x' m₁ (t ++ ops):=by
  have hsz:=h.size
  have hrun:=runT_crowd_go (P:=Q) (sl:=sl) (i:=0) ha (by simpa using hgo)
  have hPI:=h.starter G (g:=a) (g':=g') (fn:=a.frame.fn) (pos:=a.frame.place) he hKW hMW hW0 hM1 hok hnr hlow hV hlu ⟨_,_,hwg'⟩
  have ha':((gs.map (woken Q a g' u')).setIfInBounds 0 g')[0]? = some g':=get_map_set_same _ _ _ (by omega)
  refine ⟨_,_,(cv nW base u₀ tag' j lv M M' ((gs.map (woken Q a g' u')).setIfInBounds 0 g') u',(phi nW (Vc j D) tag' + Ssum j D,f' + 2 * Fsum j D + 2 * sumTo (base + 1) q)),hrun,?_,
    _,u',sl,j,D,lv,M,M',q,tag',f',deafBehind d0 es,g',st',sm',rfl,ha',hcs',hPI,hwg',hmode',hjn,rfl⟩
  have hw:∀ k,k < nW → k < j → lv k = true → ((((gs.map (woken Q a g' u')).setIfInBounds 0 g')[base + 1 + k]?).getD ph0 = (gs[base + 1 + k]?).getD ph0 ∧ M k = M k ∧ Rely K (M k) u u'):=fun k hk hkj _=>by
    obtain ⟨gk,hgk,hwk⟩:=h.wk k hkj
    refine ⟨?_,rfl,he.rely hKW (hMW k hkj)⟩
    rw [get_map_set _ _ _ _ (by omega),hgk]
    simp [hwk.woken hlu]
  have hlow:∀ k,k < nW → CMov K (cv nW base u₀ tag' j lv M M' ((gs.map (woken Q a g' u')).setIfInBounds 0 g') u' k) (cv nW base u₀ tag j lv M M₀ gs u k):=fun k hk =>
    cvMov (fun _ hkj=>⟨rfl,hw k hk hkj⟩) fun h=>absurd hk h
  rcases hdec with ⟨h1,h2,h3,h4⟩ | ⟨r,hr,rfl,h1⟩
  · refine ⟨fun k hk=>.inl (cvMov (fun hkn hkj=>⟨rfl,hw k hkn hkj⟩) fun _=>⟨h1,by rw [h2,h3],fun hh=>by rw [h2] at hh; cases hh⟩),.inr ?_⟩
    rcases h4 with h4 | ⟨h4,h5⟩
    · exact Prod.Lex.left _ _ (by omega)
    · rw [h4]; exact Prod.Lex.right _ (by omega)
  · have hold:∀ k,¬ k < nW → cv nW base u₀ (.sp r 6) j lv M M₀ gs u k = if k - nW < r then ⟨k,2,ph0,u₀,fun _=>False⟩ else if k - nW = r then ⟨k,1,a,u,M₀⟩ else ⟨k,0,ph0,u₀,fun _=>False⟩:=fun k hk=>by
      unfold cv
      rw [if_neg hk,ha]
      simp [lvl,isLoc]
    rcases h1 with ⟨rfl,hcr⟩ | ⟨h1,h2⟩
    · have hnew:∀ k,¬ k < nW → cv nW base u₀ (.sp r 6) j lv M M' ((gs.map (woken Q a g' u')).setIfInBounds 0 g') u' k = if k - nW < r then ⟨k,2,ph0,u₀,fun _=>False⟩ else if k - nW = r then ⟨k,1,g',u',M'⟩ else ⟨k,0,ph0,u₀,fun _=>False⟩:=fun k hk=>by
        unfold cv
        rw [if_neg hk,ha']
        simp [lvl,isLoc]
      have hc:CR2 Q ty Wg V nV nW K off vals An (cv nW base u₀ (.sp r 6) j lv M M' ((gs.map (woken Q a g' u')).setIfInBounds 0 g') u' (nW + r)) (cv nW base u₀ (.sp r 6) j lv M M₀ gs u (nW + r)):=by
        rw [hold (nW + r) (by omega),hnew (nW + r) (by omega),Nat.add_sub_cancel_left,if_neg (Nat.lt_irrefl r),if_neg (Nat.lt_irrefl r),if_pos rfl,if_pos rfl]
        exact hcr
      refine ⟨fun k hk=>?_,.inl ⟨nW + r,by omega,hc⟩⟩
      by_cases hkn:k < nW
      · exact .inl (hlow k hkn)
      · by_cases hkr:k = nW + r
        · subst hkr; exact .inr hc
        · refine .inl (.inl ?_)
          show cv _ _ _ _ _ _ _ _ _ _ k = cv _ _ _ _ _ _ _ _ _ _ k
          rw [hold k hkn,hnew k hkn]
          by_cases hlt:k - nW < r
          · rw [if_pos hlt,if_pos hlt]
          · rw [if_neg hlt,if_neg hlt,if_neg (by omega),if_neg (by omega)]
    · have hnew:∀ k,¬ k < nW → cv nW base u₀ tag' j lv M M' ((gs.map (woken Q a g' u')).setIfInBounds 0 g') u' k = if k - nW < r then ⟨k,2,ph0,u₀,fun _=>False⟩ else ⟨k,0,ph0,u₀,fun _=>False⟩:=fun k hk=>by
        unfold cv
        rw [if_neg hk,h1,h2]
        simp
      have hc:CR2 Q ty Wg V nV nW K off vals An (cv nW base u₀ tag' j lv M M' ((gs.map (woken Q a g' u')).setIfInBounds 0 g') u' (nW + r)) (cv nW base u₀ (.sp r 6) j lv M M₀ gs u (nW + r)):=by
        rw [hold (nW + r) (by omega),hnew (nW + r) (by omega),Nat.add_sub_cancel_left,if_neg (Nat.lt_irrefl r),if_neg (Nat.lt_irrefl r),if_pos rfl]
        exact ⟨rfl,.inr (.inr (.inl ⟨rfl,rfl⟩))⟩
      refine ⟨fun k hk=>?_,.inl ⟨nW + r,by omega,hc⟩⟩
      by_cases hkn:k < nW
      · exact .inl (hlow k hkn)
      · by_cases hkr:k = nW + r
        · subst hkr; exact .inr hc
        · refine .inl (.inl ?_)
          show cv _ _ _ _ _ _ _ _ _ _ k = cv _ _ _ _ _ _ _ _ _ _ k
          rw [hold k hkn,hnew k hkn]
          by_cases hlt:k - nW < r
          · rw [if_pos hlt,if_pos hlt]
          · rw [if_neg hlt,if_neg hlt,if_neg (by omega)]
theorem lStep (G:GeoP nV nW off vals) (hAr:∀ g w,An g w → g.status = .running) (ha:gs[0]? = some a) (hcs:CS Q ty Wg V nV K gE An nW off vals tag j f0 d0 a u M₀) (h:PI Q ty S Wg V nV base nW K off vals zero u₀ j gs u t D lv M M₀ q d0) (hjn:j ≤ nW)
    (hwg:WgAt ty Wg u st sm) (hmode:ConcN.Mode j D tag st sm) {i:Nat} (i1:0 < i) (ib:i ≤ base) {g:Goroutine} (hg:gs[i]? = some g) (hrg:g.status = .running) :
    ∃ m₁ ops x',runT Q (crowd gs u sl) i = (.next m₁,ops) ∧
      VR2 Q ty Wg V nV nW K off vals An x' (cv nW base u₀ tag j lv M M₀ gs u,(phi nW (Vc j D) tag + Ssum j D,f0 + 2 * Fsum j D + 2 * sumTo (base + 1) q)) ∧
      PInv Q ty S Wg V nV base nW K off vals zero u₀ gE An x' m₁ (t ++ ops):=by
  have hq:=h.old i g i1 ib hg
  have hsz:=h.size
  have hlu:WgLive ty Wg u:=⟨_,_,hwg⟩
  cases hqi:q i with
  | zero=>rw [hqi] at hq; rw [hq.1] at hrg; cases hrg
  | succ k =>
    rw [hqi] at hq
    rcases hq with ⟨hf,_⟩ | ⟨_,g',es,hm,hstp,hq'⟩
    · rw [hf] at hrg; cases hrg
    have hi0:(i == 0) = false:=by simp; omega
    have hrun:=runT_crowd_go (P:=Q) (sl:=sl) (i:=i) hg (by rw [hi0]; exact hstp u)
    obtain ⟨tag',f',hcs',hf',htag,hwkn⟩:=hcs.wokenBy hAr (Rely.refl K M₀ u) ⟨_,_,hwg⟩ g g'
    have htag2:tag' = tag ∨ (tag = .blk ∧ tag' = .w3):=htag.imp (fun x=>x.1) id
    have ha':((gs.map (woken Q g g' u)).setIfInBounds i g')[0]? = some (woken Q g g' u a):=by rw [get_map_set _ _ _ _ (by omega),ha]; rfl
    have hsum:sumTo (base + 1) (upd q i k) + (k + 1) = sumTo (base + 1) q + k:=by
      have:=sumTo_upd q k id (show i < base + 1 by omega)
      simpa [hqi] using this
    refine ⟨_,_,(cv nW base u₀ tag' j lv M M₀ ((gs.map (woken Q g g' u)).setIfInBounds i g') u,(phi nW (Vc j D) tag' + Ssum j D,f' + 2 * Fsum j D + 2 * sumTo (base + 1) (upd q i k))),hrun,⟨fun c hc=>.inl (cvMov (fun hk hkj=>⟨rfl,fun hl=>⟨?_,rfl,Rely.refl _ _ _⟩⟩) fun hk=>?_),.inr ?_⟩,
      _,u,sl,j,D,lv,M,M₀,upd q i k,tag',f',d0,woken Q g g' u a,st,sm,rfl,ha',hcs',h.slip G i1 ib hm hq' hlu,hwg,hmode.retag htag2,hjn,rfl⟩
    · obtain ⟨gk,hgk,hwk⟩:=h.wk c hkj
      rw [get_map_set _ _ _ _ (by omega),hgk]
      simp [hwk.woken hlu]
    · rcases htag with ⟨rfl,ea⟩ | ⟨rfl,rfl⟩
      · refine ⟨rfl,rfl,fun _=>⟨?_,rfl,Rely.refl _ _ _⟩⟩
        rw [ha',ha,ea]
      · exact ⟨rfl,rfl,fun hh=>by cases hh⟩
    · rw [phi_retag nW _ htag2]
      exact Prod.Lex.right _ (by omega)
end
end Go.Proofs.YtojoafcnijajmaaGreatDoor
