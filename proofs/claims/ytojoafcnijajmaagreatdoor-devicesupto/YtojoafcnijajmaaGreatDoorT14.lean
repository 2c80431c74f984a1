/- Part 14 of the proof that Devices answers true and leaves its input as it was, for input of bulk at most the bound of its row: XB XL XN XO. -/
import Derived.Test.YtojoafcnijajmaaGreatDoorT13
import Derived.Conc.WalkWords
import Derived.Test.YtojoafcnijajmaaGreatDoorT8
import Derived.Conc.DeferLaws
namespace Go.Proofs.YtojoafcnijajmaaGreatDoor
open Go Go.Conc Go.ConcN
open Go.ConcR (KK wgBlock WgAt stA smA rd wr mk Payload DC0 Bk g_of_ofEvents again_blocked bk_of_mute ofEvent_loc_mark ofEvent_mk)
theorem run_acc2 {P:Program} {α:Type} {r:α → α → Prop} (Inv:α → Machine → Trace → Prop) (Goal:Machine → Trace → Prop)
    (h:∀ μ m t,Inv μ m t → (∃ m' ops,stepT P m = (.next m',ops) ∧ Goal m' (t ++ ops)) ∨ ∃ m' ops μ',stepT P m = (.next m',ops) ∧ r μ' μ ∧ Inv μ' m' (t ++ ops)) :
    ∀ μ,Acc r μ → ∀ m t,Inv μ m t → ∃ n m' t',runNT P n m t = (.next m',t') ∧ Goal m' t':=by
  intro μ hμ
  induction hμ with
  | intro μ _ ih =>
    intro m t hI
    rcases h μ m t hI with ⟨m',ops,hs,hg⟩ | ⟨m',ops,μ',hs,hr,hI'⟩
    · exact ⟨1,m',t ++ ops,by rw [runNT_succ_next hs]; rfl,hg⟩
    · obtain ⟨n,m'',t',h1,h2⟩:=ih μ' hr m' (t ++ ops) hI'
      exact ⟨n + 1,m'',t',by rw [runNT_succ_next hs]; exact h1,h2⟩
section
variable [Payload]
variable {Q:Program} {ty:TypeId} {S:Nat → Prop} {Wg V nV base nW:Nat} {K:Nat → Prop} {off:Nat → Nat} {vals:Nat → List Value} {zero:Nat → Value} {u₀ u:World} {j:Nat} {M:Nat → Nat → Prop} {M₀:Nat → Prop} {t:Trace}
  {gs:Array Goroutine} {D:Nat → WD} {lv:Nat → Bool} {q:Nat → Nat} {d0:Nat} {gE:Goroutine → Prop} {An:Goroutine → World → Prop} {tag:CTag} {f0:Nat} {a:Goroutine} {st sm:Int} {sl:Option (Nat × Nat)}
theorem Wk.awake {o:Nat} {vs:List Value} {l:Bool} {d:WD} {N:Nat → Prop} {g:Goroutine} (hlu:WgLive ty Wg u) (h:Wk Q ty Wg V nV K o vs l d N g u) (hs:d.stage ≠ 1):g.status = .running:=by
  rcases h with ⟨_,_,_,h⟩ | ⟨_,_,_,h⟩ | ⟨_,_,h⟩
  · rcases h.cases with h | h
    · exact (h u (Rely.refl _ _ _)).1
    · exact h.1
  · exact Goes.running (fun _ _ x=>x.1) u hlu h
  · exact h.running_of hs
theorem someone (hAr:∀ g w,An g w → g.status = .running) (ha:gs[0]? = some a) (hcs:CS Q ty Wg V nV K gE An nW off vals tag j f0 d0 a u M₀) (h:PI Q ty S Wg V nV base nW K off vals zero u₀ j gs u t D lv M M₀ q d0) (hlu:WgLive ty Wg u) (hmode:ConcN.Mode j D tag st sm) :
    ∃ (i:Nat) (g:Goroutine),gs[i]? = some g ∧ g.status = .running:=by
  rcases hcs.status hAr hlu with ⟨hs,_⟩ | ⟨_,rfl⟩
  · exact ⟨0,a,ha,hs⟩
  · have key:∀ i,i < j → (D i).stage ≠ 1 → ∃ (i:Nat) (g:Goroutine),gs[i]? = some g ∧ g.status = .running:=fun i hi hs=>by
      obtain ⟨g,hg,hw⟩:=h.wk i hi
      exact ⟨_,g,hg,hw.awake hlu hs⟩
    cases hmode with
    | opn h1 _ _=>exact h1.elim
    | reg _ _ h3 =>
      obtain ⟨i,hi,h5⟩:=exists_counted h3
      exact key i hi (by omega)
    | last L _ h2 h3 _=>exact key L h2 (by omega)
    | fin h1 _=>exact h1.elim
theorem all_up (hAr:∀ g w,An g w → g.status = .running) (ha:gs[0]? = some a) (hcs:CS Q ty Wg V nV K gE An nW off vals tag j f0 d0 a u M₀) (h:PI Q ty S Wg V nV base nW K off vals zero u₀ j gs u t D lv M M₀ q d0) (hlu:WgLive ty Wg u):∀ g ∈ gs,awake g:=by
  intro g hg
  obtain ⟨i,hi⟩:=Array.mem_iff_getElem?.1 hg
  have hlt:i < gs.size:=(Array.getElem?_eq_some_iff.1 hi).1
  have hsz:=h.size
  rcases Nat.eq_zero_or_pos i with rfl | hpos
  · rw [ha] at hi; cases hi
    rcases hcs.status hAr hlu with ⟨hs,_⟩ | ⟨hs,_⟩ <;> (intro tm; rw [hs]; simp)
  · by_cases hb:i ≤ base
    · exact awake_of ((h.old i g hpos hb hi).status.elim .inl fun x=>.inr (.inr x))
    · obtain ⟨k,rfl⟩ : ∃ k,i = base + 1 + k:=⟨i - base - 1,by omega⟩
      obtain ⟨g',hg',hw⟩:=h.wk k (by omega)
      rw [hi] at hg'; cases hg'
      exact awake_of ((hw.running hlu).elim .inl fun x=>.inr (.inr x))
theorem phase_step (G:GeoP nV nW off vals) (hAr:∀ g w,An g w → g.status = .running) (hAn:∀ g w,WgLive ty Wg w → An g w → ∃ m,Goes Q true (RL ty Wg) DC0 (TW1 Q ty Wg gE An) m g w) :
    ∀ x m t,PInv Q ty S Wg V nV base nW K off vals zero u₀ gE An x m t → (∃ m' ops,stepT Q m = (.next m',ops) ∧ PGoal Q ty S Wg V nV nW off vals zero u₀ gE m' (t ++ ops)) ∨
      ∃ m' ops x',stepT Q m = (.next m',ops) ∧ VR2 Q ty Wg V nV nW K off vals An x' x ∧ PInv Q ty S Wg V nV base nW K off vals zero u₀ gE An x' m' (t ++ ops):=by
  rintro x m t ⟨gs,u,sl,j,D,lv,M,M₀,q,tag,f0,d0,a,st,sm,rfl,ha,hcs,h,hwg,hmode,hjn,rfl⟩
  have hlu:WgLive ty Wg u:=⟨_,_,hwg⟩
  obtain ⟨i,g,d,sl',hg,hrun,hstep⟩:=crowd_pick (P:=Q) (w:=u) (sl:=sl) (all_up hAr ha hcs h hlu) (someone hAr ha hcs h hlu hmode)
  rw [hstep]
  have hr:∀ N,Rely K N u (u.at d):=fun N=>⟨rfl,rfl,rfl,Nat.le_refl _,fun _ _ _=>rfl⟩
  have hcs':=hcs.rely (hr M₀) (show WgLive ty Wg (u.at d) from hlu)
  have h':=h.at hlu d
  have hwg':WgAt ty Wg (u.at d) st sm:=hwg
  have conv:∀ x',VR2 Q ty Wg V nV nW K off vals An x' (cv nW base u₀ tag j lv M M₀ gs (u.at d),(phi nW (Vc j D) tag + Ssum j D,f0 + 2 * Fsum j D + 2 * sumTo (base + 1) q)) →
      VR2 Q ty Wg V nV nW K off vals An x' (cv nW base u₀ tag j lv M M₀ gs u,(phi nW (Vc j D) tag + Ssum j D,f0 + 2 * Fsum j D + 2 * sumTo (base + 1) q)):=by
    intro x' hx
    have hm:∀ k,CMov K (cv nW base u₀ tag j lv M M₀ gs (u.at d) k) (cv nW base u₀ tag j lv M M₀ gs u k):=fun k =>
      cvMov (fun _ _=>⟨rfl,fun _=>⟨rfl,rfl,hr _⟩⟩) fun _=>⟨rfl,rfl,fun _=>⟨rfl,rfl,hr _⟩⟩
    have tr:∀ {x y z:Cmp},CMov K z y → CMov K y x → CMov K z x:=by
      rintro x y z (rfl | ⟨a1,a2,a3,a4,a5⟩) h2
      · exact h2
      · rcases h2 with rfl | ⟨b1,b2,b3,b4,b5⟩
        · exact .inr ⟨a1,a2,a3,a4,a5⟩
        · exact .inr ⟨a1.trans b1,a2.trans b2,a3.trans b3,a4.trans b4,b5.trans (by rw [b4] at a5; exact a5)⟩
    exact ⟨fun k hk=>(hx.1 k hk).imp (fun e=>tr e (hm k)) fun r=>CMov.down _ _ _ (hm k) r,hx.2.imp (fun ⟨k,hk,r⟩=>⟨k,hk,CMov.down _ _ _ (hm k) r⟩) id⟩
  rcases Nat.eq_zero_or_pos i with rfl | hpos
  · rw [ha] at hg; cases hg
    rcases starterMoves (sl:=sl') G hAn ha hcs' h' hjn hwg' hmode hrun with hh | ⟨m₁,ops,x',h1,h2,h3⟩
    · exact .inl hh
    · exact .inr ⟨m₁,ops,x',h1,conv x' h2,h3⟩
  · by_cases hb:i ≤ base
    · obtain ⟨m₁,ops,x',h1,h2,h3⟩:=lStep (sl:=sl') G hAr ha hcs' h' hjn hwg' hmode hpos hb hg hrun
      exact .inr ⟨m₁,ops,x',h1,conv x' h2,h3⟩
    · obtain ⟨k,rfl⟩ : ∃ k,i = base + 1 + k:=⟨i - base - 1,by omega⟩
      have hlt:base + 1 + k < gs.size:=(Array.getElem?_eq_some_iff.1 hg).1
      have hsz:=h.size
      obtain ⟨m₁,ops,x',h1,h2,h3⟩:=workerMoves (sl:=sl') G hAr ha hcs' h' hjn hwg' hmode (i:=k) (by omega) hg hrun
      exact .inr ⟨m₁,ops,x',h1,conv x' h2,h3⟩
theorem phaseP {B:Nat} (G:GeoP nV nW off vals) (hAr:∀ g w,An g w → g.status = .running) (hAn:∀ g w,WgLive ty Wg w → An g w → ∃ m,Goes Q true (RL ty Wg) DC0 (TW1 Q ty Wg gE An) m g w)
    (hF:Fr0 Q S gs B t q) (h0:gs[0]? = some a) (hS:Sr Q ty Wg V nV K An nW off vals nW a u (fun _=>False)) (hB:B ≤ Wg) (hWg:Wg < u.heap.size) (hV:V < u.heap.size) (hVW:V ≠ Wg) (hSV:¬ S V)
    (hK:∀ c,K c → c < u.heap.size ∧ c ≠ V ∧ c ≠ Wg ∧ ¬ S c) (hwg:WgAt ty Wg u 0 0) {cs:Array Value} (hc1:u.heap[V]? = some (.cells cs Payload.ety)) (hc2:cs.size = nV) (hc3:∀ x,x < nV → cs[x]? = some (zero x)) :
    ∃ N m' t',runNT Q N (crowd gs u sl) t = (.next m',t') ∧ PGoal Q ty S Wg V nV nW off vals zero u gE m' t':=by
  obtain ⟨base,hbase⟩ : ∃ base,gs.size = base + 1:=⟨gs.size - 1,by have:=hF.pos; omega⟩
  have hct:=hF.ct
  rw [hbase,Nat.add_sub_cancel] at hct
  have fresh:∀ i x,touchAt t i = some x → ∀ ad,x.loc = .cell ad → ad.block < B:=fun i x hx ad hl=>by
    obtain ⟨op,hop,hopx⟩:=touch_of hx
    obtain ⟨c,hc,rfl⟩:=touched_low (N:=fun c=>c = ad.block) (hF.low op (mem_of_getElem? hop)) hopx ⟨_,.inr ⟨ad,hl,rfl⟩,rfl⟩
    exact hc
  have hsub:∀ l,ShB S l → ShB (fun c=>S c ∨ c = Wg) l:=fun l ⟨ad,h1,h2⟩=>⟨ad,h1,.inl h2⟩
  have hct':CT (ShB fun c=>S c ∨ c = Wg) (OwnF base V nW off vals (fun _ _=>False)) (RdF base K) t (base + 0):=by
    refine CT.fam (CT.shun hct hsub fun l hl=>?_) (fun k _ kb l hl=>absurd hl.1 (by omega)) (fun k _ _ l hl=>hl.elim) (fun k _ kb l=>⟨fun hl=>absurd hl.1 (by omega),fun hl=>hl.elim⟩)
    obtain ⟨ad,rfl,h2 | h2⟩:=hl
    · exact .inl ⟨ad,rfl,h2⟩
    · refine .inr fun i x hx hl=>?_
      have:=fresh i x hx ad hl
      omega
  have hPI:PI Q ty S Wg V nV base nW K off vals zero u 0 gs u t (fun _=>⟨0,0,0⟩) (fun _=>false) (fun _ _=>False) (fun _=>False) q 0:=by
    refine ⟨hbase,⟨hct',⟨fun i x hx hs=>.inl (hct'.free x.loc hs (fun k _ kb=>⟨fun h=>absurd h.1 (by omega),fun h=>absurd h.1 (by omega)⟩) i x hx rfl),fun i g hg hne hc=>.inl (hF.over i g hg hne hc),fun i e=>?_,fun op hop=>MemAct.low_mono (by omega) (hF.low op hop)⟩⟩,
      ⟨rfl,rfl,rfl,Nat.le_refl _,fun _ _ _ _=>rfl,hV,hWg,hVW,hK,fun c hc=>⟨by have:=hF.sh c hc; omega,fun e=>hSV (e ▸ hc),by have:=hF.sh c hc; omega⟩,fun i hi=>absurd hi (Nat.not_lt_zero _),fun c hc=>hc.elim,fun i i' hi=>absurd hi (Nat.not_lt_zero _),fun i hi=>absurd hi (Nat.not_lt_zero _),fun _ _ _ h=>h⟩,
      ⟨cs,hc1,hc2,fun i hi=>absurd hi (Nat.not_lt_zero _),fun x hx _=>hc3 x hx⟩,fun i g i1 _ hg=>hF.old i g i1 hg,hF.hears,fun i hi=>absurd hi (Nat.not_lt_zero _),fun i hi=>absurd hi (Nat.not_lt_zero _),fun i hi=>absurd hi (Nat.not_lt_zero _)⟩
    obtain ⟨op,hop,hoa⟩:=Option.map_eq_some_iff.1 (show (t[i]?).map (·.act) = _ from e)
    have hlo:=hF.low op (mem_of_getElem? hop)
    rw [hoa] at hlo
    have:Wg < B:=hlo
    omega
  have hm:ConcN.Mode 0 (fun _=>(⟨0,0,0⟩ : WD)) (.sp nW 6) 0 0:=by
    have:=ConcN.Mode.opn (j:=0) (D:=fun _=>(⟨0,0,0⟩ : WD)) (tag:=.sp nW 6) trivial (fun i hi=>absurd hi (Nat.not_lt_zero _)) (by simp)
    simpa [Vc,sumTo,pend] using this
  have hcs:CS Q ty Wg V nV K gE An nW off vals (.sp nW 6) 0 0 0 a u (fun _=>False):=by
    have:nW ≤ nW ∧ 0 = nW - nW ∧ 0 = 0 ∧ 0 = 0 ∧ Sr Q ty Wg V nV K An nW off vals nW a u (fun _=>False):=⟨Nat.le_refl _,by omega,rfl,rfl,hS⟩
    cases nW <;> exact this
  have hI:PInv Q ty S Wg V nV base nW K off vals zero u gE An (cv nW base u (.sp nW 6) 0 (fun _=>false) (fun _ _=>False) (fun _=>False) gs u,(phi nW (Vc 0 fun _=>(⟨0,0,0⟩ : WD)) (.sp nW 6) + Ssum 0 fun _=>(⟨0,0,0⟩ : WD),0 + 2 * Fsum 0 (fun _=>(⟨0,0,0⟩ : WD)) + 2 * sumTo (base + 1) q)) (crowd gs u sl) t :=
    ⟨gs,u,sl,0,_,_,_,_,q,.sp nW 6,0,0,a,0,0,rfl,h0,hcs,hPI,hwg,hm,Nat.zero_le _,rfl⟩
  refine run_acc2 (r:=VR2 Q ty Wg V nV nW K off vals An) (PInv Q ty S Wg V nV base nW K off vals zero u gE An) (PGoal Q ty S Wg V nV nW off vals zero u gE) (phase_step G hAr hAn) _ (acc_vec (Prod.lex Nat.lt_wfRel Nat.lt_wfRel).wf CMov.down _ _ fun k hk=>?_) _ _ hI
  show Acc _ (cv nW base u (.sp nW 6) 0 (fun _=>false) (fun _ _=>False) (fun _=>False) gs u k)
  unfold cv
  by_cases hkn:k < nW
  · rw [if_pos hkn,if_pos (Nat.zero_le _)]
    exact acc_new _ rfl
  · rw [if_neg hkn]
    by_cases hkl:k - nW < nW
    · rw [if_pos (show k - nW < lvl (.sp nW 6) from hkl)]
      exact acc_new _ rfl
    · obtain rfl:k = nW + nW:=by omega
      rw [if_neg (show ¬ nW + nW - nW < lvl (.sp nW 6) from hkl),Nat.add_sub_cancel_left,if_pos (show isLoc (.sp nW 6) nW = true by simp [isLoc]),h0]
      refine acc_live _ rfl ?_
      show Owned Q (mainOf nW (nW + nW)) K (stopOf Q ty Wg V nV nW K off vals An (nW + nW)) a u (fun _=>False)
      have e1:mainOf nW (nW + nW) = true:=decide_eq_true (by omega)
      have e2:stopOf Q ty Wg V nV nW K off vals An (nW + nW) = SrS Q ty Wg V nV K An nW off vals nW:=by unfold stopOf; rw [if_neg hkn,Nat.add_sub_cancel_left]
      rw [e1,e2]
      cases nW <;> exact hS
end
end Go.Proofs.YtojoafcnijajmaaGreatDoor

namespace Go.Proofs.YtojoafcnijajmaaGreatDoor
open Go Go.Conc Go.ConcN
open Go.ConcR (DC0)
section
variable {Q:Program} {main:Bool} {K:Nat → Prop} {S:Goroutine → World → (Nat → Prop) → Prop} {g g':Goroutine} {u:World} {M:Nat → Prop}
theorem Grow.self (M:Nat → Prop) (u:World):Grow M u u = M:=by
  funext c
  exact propext ⟨fun h=>h.elim id fun h=>absurd h.2 (by omega),.inl⟩
theorem Does.none (K M:Nat → Prop) (u:World):Does K M u u #[]:=⟨rfl,rfl,rfl,Nat.le_refl _,fun _ _ _=>rfl,fun e he=>by simp at he⟩
theorem Does.sub {u':World} {es fs:Array Event} (h:Does K M u u' es) (hs:∀ e ∈ fs,e ∈ es):Does K M u u' fs:=⟨h.tape,h.os,h.output,h.size,h.keep,fun e he=>h.evs e (hs e he)⟩
theorem Owned.ctl (hs:g.status = .running) (h:∀ u₁,stepG Q main g u₁ = .go g' u₁ #[]) (k:Owned Q main K S g' u M):Owned Q main K S g u M :=
  Owned.step hs fun u₁ h₁=>⟨g',u₁,#[],h u₁,Does.none _ _ _,by rw [Grow.self]; exact k.rely h₁⟩
section
variable {b:Frame} {a:Act} {k:List Item} {cs:List Frame} {ops:Array Oper} {i:Nat} {rest:List Nat} {o:Oper}
theorem Owned.op (ho:ops[i]? = some o) (hw:Region.wanted o (yielded ops a.tmps) = true) (hk:b.kind ≠ .early)
    (h:∀ u₁,Rely K M u u₁ → ∃ v u',(execOp a.eval o).run Q u₁ = .ok (.value v) u' ∧ Does K M u₁ u' ((execOp a.eval o).events Q u₁ #[]) ∧ Owned Q main K S (G (b.at (a.put o.dst v) (.inRegion ops rest :: k)) cs) u' (Grow M u₁ u')) :
    Owned Q main K S (G (b.at a (.inRegion ops (i :: rest) :: k)) cs) u M :=
  Owned.step rfl fun u₁ h₁=>by
    obtain ⟨v,u',e1,e2,e3⟩:=h u₁ h₁
    exact ⟨_,u',_,stepG_value ho hw hk e1,e2.sub fun e he=>seen_mem e he,e3⟩
theorem Owned.opSkip (ho:ops[i]? = some o) (hw:Region.wanted o (yielded ops a.tmps) = true) (hk:b.kind ≠ .early)
    (h:∀ u₁,Rely K M u u₁ → ∃ u',(execOp a.eval o).run Q u₁ = .ok .skip u' ∧ Does K M u₁ u' ((execOp a.eval o).events Q u₁ #[]) ∧ Owned Q main K S (G (b.at (a.put o.dst undef) (.inRegion ops rest :: k)) cs) u' (Grow M u₁ u')) :
    Owned Q main K S (G (b.at a (.inRegion ops (i :: rest) :: k)) cs) u M :=
  Owned.step rfl fun u₁ h₁=>by
    obtain ⟨u',e1,e2,e3⟩:=h u₁ h₁
    exact ⟨_,u',_,stepG_none ho hw hk e1,e2.sub fun e he=>seen_mem e he,e3⟩
theorem Owned.pure (v:Value) (ho:ops[i]? = some o) (hw:Region.wanted o (yielded ops a.tmps) = true) (hk:b.kind ≠ .early)
    (h:∀ u₁,(execOp a.eval o).run Q u₁ = .ok (.value v) u₁) (he:∀ u₁,(execOp a.eval o).events Q u₁ #[] = #[]) (hc:Owned Q main K S (G (b.at (a.put o.dst v) (.inRegion ops rest :: k)) cs) u M) :
    Owned Q main K S (G (b.at a (.inRegion ops (i :: rest) :: k)) cs) u M :=
  Owned.op ho hw hk fun u₁ h₁=>⟨v,u₁,h u₁,by rw [he]; exact Does.none _ _ _,by rw [Grow.self]; exact hc.rely h₁⟩
end
theorem evP_ofM {S:Nat → Prop} {B:Nat} {N:Nat → Prop} {e:Event} (he:EvM K N e) (hN:∀ c,N c ∨ K c → c < B ∧ ¬ S c):EvP S B e:=by
  rcases he with ⟨c,hl,hs,hp⟩ | rfl
  · have hc:=hN c (hp.imp id And.left)
    obtain ⟨loc,wr,sy⟩:=e
    simp only at hs hl
    subst hs
    rcases hl with rfl | ⟨a,rfl,rfl⟩
    · refine ⟨fun x hx=>?_,by simp,by simp,?_⟩
      · rintro ⟨a,h1,h2⟩
        simp only [MemAct.ofEvent,MemAct.touch?,Option.some.injEq] at hx
        subst hx
        cases h1
      · simp only [MemAct.ofEvent,MemAct.low]; exact hc.1
    · refine ⟨fun x hx=>?_,by simp,by simp,?_⟩
      · rintro ⟨a',h1,h2⟩
        simp only [MemAct.ofEvent,MemAct.touch?,Option.some.injEq] at hx
        subst hx
        cases h1
        exact hc.2 h2
      · simp only [MemAct.ofEvent,MemAct.low]; exact hc.1
  · refine ⟨fun x hx=>?_,by simp,by simp,?_⟩
    · simp [MemAct.ofEvent,MemAct.touch?] at hx
    · simp [MemAct.ofEvent,MemAct.low]
structure Left (M M':Nat → Prop) (u u':World):Prop where
  tape:u'.tape = u.tape
  os:u'.os = u.os
  output:u'.output = u.output
  size:u.heap.size ≤ u'.heap.size
  keep:∀ c,c < u.heap.size → ¬ M c → u'.heap[c]? = u.heap[c]?
  mine:∀ c,M' c → M c ∨ (u.heap.size ≤ c ∧ c < u'.heap.size)
theorem Left.refl (M:Nat → Prop) (u:World):Left M M u u:=⟨rfl,rfl,rfl,Nat.le_refl _,fun _ _ _=>rfl,fun _ h=>.inl h⟩
theorem Left.trans {M M' M'':Nat → Prop} {u u' u'':World} (h:Left M M' u u') (k:Left M' M'' u' u''):Left M M'' u u'' :=
  ⟨k.tape.trans h.tape,k.os.trans h.os,k.output.trans h.output,Nat.le_trans h.size k.size,fun c hc hm=>(k.keep c (Nat.lt_of_lt_of_le hc h.size) fun hm'=>(h.mine c hm').elim hm fun x=>absurd x.1 (by omega)).trans (h.keep c hc hm),
    fun c hc=>(k.mine c hc).elim (fun x=>(h.mine c x).imp id fun y=>⟨y.1,Nat.lt_of_lt_of_le y.2 k.size⟩) fun x=>.inr ⟨Nat.le_trans h.size x.1,x.2⟩⟩
theorem drive0 {B0:Nat → Prop} {St:Goroutine → World → (Nat → Prop) → Prop} {g:Goroutine} {u:World} {M:Nat → Prop} (h:Owned Q true K St g u M) :
    ∀ (gs:Array Goroutine) (sl:Option (Nat × Nat)) (t:Trace) (q:Nat → Nat),Fr0 Q B0 gs u.heap.size t q → gs[0]? = some g → (∀ c,M c ∨ K c → c < u.heap.size ∧ ¬ B0 c) →
      ∃ (N:Nat) (gs':Array Goroutine) (g':Goroutine) (u':World) (sl':Option (Nat × Nat)) (t':Trace) (q':Nat → Nat) (M':Nat → Prop),
        runNT Q N (crowd gs u sl) t = (.next (crowd gs' u' sl'),t') ∧ gs'[0]? = some g' ∧ St g' u' M' ∧ Fr0 Q B0 gs' u'.heap.size t' q' ∧ Left M M' u u':=by
  refine h (fun g u M=>∀ (gs:Array Goroutine) (sl:Option (Nat × Nat)) (t:Trace) (q:Nat → Nat),Fr0 Q B0 gs u.heap.size t q → gs[0]? = some g → (∀ c,M c ∨ K c → c < u.heap.size ∧ ¬ B0 c) →
      ∃ (N:Nat) (gs':Array Goroutine) (g':Goroutine) (u':World) (sl':Option (Nat × Nat)) (t':Trace) (q':Nat → Nat) (M':Nat → Prop),
        runNT Q N (crowd gs u sl) t = (.next (crowd gs' u' sl'),t') ∧ gs'[0]? = some g' ∧ St g' u' M' ∧ Fr0 Q B0 gs' u'.heap.size t' q' ∧ Left M M' u u') ?_
  intro g u M hn gs sl t q hF h0 hM
  rcases hn with hst | ⟨hr,hn⟩
  · exact ⟨0,gs,g,u,sl,t,q,M,rfl,h0,hst u (Rely.refl _ _ _),hF,Left.refl _ _⟩
  · have hr1:∀ d,Rely K M u (u.at d):=fun d=>⟨rfl,rfl,rfl,Nat.le_refl _,fun _ _ _=>rfl⟩
    obtain ⟨N,gs1,g1,u1,sl1,t1,q1,B1,r1,r2,r3,⟨M1,rfl,hl,hk⟩,r5⟩:=own0 (sl:=sl) (Stop:=fun g' u' B'=>∃ M',B' = u'.heap.size ∧ Left M M' u u' ∧ ∀ (gs:Array Goroutine) (sl:Option (Nat × Nat)) (t:Trace) (q:Nat → Nat),Fr0 Q B0 gs u'.heap.size t q → gs[0]? = some g' → (∀ c,M' c ∨ K c → c < u'.heap.size ∧ ¬ B0 c) →
      ∃ (N:Nat) (gs':Array Goroutine) (g'':Goroutine) (u'':World) (sl':Option (Nat × Nat)) (t':Trace) (q':Nat → Nat) (M'':Nat → Prop),
        runNT Q N (crowd gs u' sl) t = (.next (crowd gs' u'' sl'),t') ∧ gs'[0]? = some g'' ∧ St g'' u'' M'' ∧ Fr0 Q B0 gs' u''.heap.size t' q' ∧ Left M' M'' u' u'') hF h0 hr fun d=>by
      obtain ⟨g',u',es,e1,e2,e3⟩:=hn (u.at d) (hr1 d)
      have hl:Left M (Grow M (u.at d) u') u u':=⟨e2.tape,e2.os,e2.output,e2.size,e2.keep,fun _ x=>x⟩
      refine ⟨g',u',es,u'.heap.size,e1,e2.size,fun e he=>evP_ofM (e2.evs e he) fun c hc=>?_,_,rfl,hl,e3⟩
      rcases hc with hc | hc
      · rcases hc with hc | hc
        · exact ⟨Nat.lt_of_lt_of_le (hM c (.inl hc)).1 e2.size,(hM c (.inl hc)).2⟩
        · refine ⟨hc.2,fun hs=>?_⟩
          have:=hF.sh c hs
          have hc1:u.heap.size ≤ c:=hc.1
          omega
      · exact ⟨Nat.lt_of_lt_of_le (hM c (.inr hc)).1 e2.size,(hM c (.inr hc)).2⟩
    obtain ⟨N2,gs2,g2,u2,sl2,t2,q2,M2,s1,s2,s3,s4,s5⟩:=hk gs1 sl1 t1 q1 r5 r3 fun c hc=>by
      rcases hc with hc | hc
      · rcases hl.mine c hc with hc | hc
        · exact ⟨Nat.lt_of_lt_of_le (hM c (.inl hc)).1 hl.size,(hM c (.inl hc)).2⟩
        · refine ⟨hc.2,fun hs=>?_⟩
          have:=hF.sh c hs
          omega
      · exact ⟨Nat.lt_of_lt_of_le (hM c (.inr hc)).1 hl.size,(hM c (.inr hc)).2⟩
    exact ⟨N + N2,gs2,g2,u2,sl2,t2,q2,M2,by rw [runNT_add,r1]; exact s1,s2,s3,s4,hl.trans s5⟩
theorem goes0 {B0:Nat → Prop} {R:World → World → Prop} (hR:∀ w d,R w (w.at d)) {St:Goroutine → World → Prop} :
    ∀ (m:Nat) (g:Goroutine) (u:World) (gs:Array Goroutine) (sl:Option (Nat × Nat)) (t:Trace) (q:Nat → Nat),Goes Q true R DC0 St m g u → Fr0 Q B0 gs u.heap.size t q → gs[0]? = some g →
      ∃ (N:Nat) (gs':Array Goroutine) (g':Goroutine) (d:Nat) (sl':Option (Nat × Nat)) (t':Trace) (q':Nat → Nat),
        runNT Q N (crowd gs u sl) t = (.next (crowd gs' (u.at d) sl'),t') ∧ gs'[0]? = some g' ∧ St g' (u.at d) ∧ Fr0 Q B0 gs' u.heap.size t' q':=by
  intro m
  induction m with
  | zero=>exact fun g u gs sl t q h hF h0=>⟨0,gs,g,u.drawn,sl,t,q,rfl,h0,h _ (hR u _),hF⟩
  | succ m ih =>
    intro g u gs sl t q h hF h0
    rcases h with h | ⟨hr,h⟩
    · exact ⟨0,gs,g,u.drawn,sl,t,q,rfl,h0,h _ (hR u _),hF⟩
    · obtain ⟨N,gs1,g1,u1,sl1,t1,q1,B1,r1,r2,r3,⟨d,rfl,rfl,hk⟩,r5⟩:=own0 (sl:=sl) (Stop:=fun g' u' B'=>∃ d,u' = u.at d ∧ B' = u.heap.size ∧ Goes Q true R DC0 St m g' u') hF h0 hr fun d=>by
        obtain ⟨g',w',es,e1,⟨rfl,rfl⟩,h4⟩:=goes_elim (h (u.at d) (hR u d))
        exact ⟨g',_,_,u.heap.size,e1,Nat.le_refl _,fun e he=>by simp at he,d,rfl,rfl,h4⟩
      obtain ⟨N2,gs2,g2,d2,sl2,t2,q2,s1,s2,s3,s4⟩:=ih g1 (u.at d) gs1 sl1 t1 q1 hk r5 r3
      exact ⟨N + N2,gs2,g2,d2,sl2,t2,q2,by rw [runNT_add,r1]; exact s1,s2,s3,s4⟩
end
end Go.Proofs.YtojoafcnijajmaaGreatDoor

namespace Go.Proofs.YtojoafcnijajmaaGreatDoor
open Go Go.Conc
def regOps (c:Code):Array Oper:=match c with
  | .region _ ops _=>ops
  | _=>#[]
def split4 (c:Code):Code × Code × Code × Code:=match c with
  | .seq a (.seq b (.seq c d))=>(a,b,c,d)
  | c=>(c,c,c,c)
def O0 (f:Func):Array Oper:=regOps (split4 (f.body.getD .skip)).1
def O1 (f:Func):Array Oper:=regOps (split4 (f.body.getD .skip)).2.1
def O2 (f:Func):Array Oper:=regOps (split4 (f.body.getD .skip)).2.2.1
def O3 (f:Func):Array Oper:=regOps (split4 (f.body.getD .skip)).2.2.2
def H3 (f:Func):Array Oper:=(hands (O3 f).toList).toArray
abbrev R1 (f:Func):Code:=.region 1 (O1 f) true
abbrev R2 (f:Func):Code:=.region 2 (O2 f) true
abbrev R3 (f:Func):Code:=.region 3 (H3 f) true
abbrev RQ (f:Func):Code:=.region 3 (O3 f) true
theorem worker_body:Tryz.f52.body = some (.seq (.region 0 (O0 Tryz.f52) false) (.seq (R1 Tryz.f52) (.seq (R2 Tryz.f52) (RQ Tryz.f52)))):=by kernel_rfl
theorem worker_lone:(workerS Tryz.f52).body = some (.seq (R1 Tryz.f52) (.seq (R2 Tryz.f52) (R3 Tryz.f52))):=by kernel_rfl
def endsOk (l:List Nat):Bool:=match l.reverse with
  | 7 :: 6 :: p=>p.contains 0 && !p.contains 6 && !p.contains 7
  | _=>false
def allEnd (md:Region.Mode) (ops:Array Oper):Nat → Array Bool → List Nat → Bool
  | 0,_,acc=>endsOk acc.reverse
  | n + 1,listed,acc=>if (Region.ready md ops listed).isEmpty then endsOk acc.reverse else (Region.ready md ops listed).all fun i=>allEnd md ops n (listed.setIfInBounds i true) (i :: acc)
theorem allEnd_ok {md:Region.Mode} {ops:Array Oper}:∀ (n t:Nat) (listed:Array Bool) (acc:List Nat),allEnd md ops n listed acc = true → endsOk (Region.linearise.go md ops n t listed acc) = true
  | 0,_,_,_,h=>h
  | n + 1,t,listed,acc,h=>by
    simp only [Region.linearise.go]
    change endsOk (match (Region.ready md ops listed)[t % (Region.ready md ops listed).length]? with
      | some i=>Region.linearise.go md ops n (t / (Region.ready md ops listed).length) (listed.setIfInBounds i true) (i :: acc)
      | none=>acc.reverse) = true
    unfold allEnd at h
    cases hi:(Region.ready md ops listed)[t % (Region.ready md ops listed).length]? with
    | none =>
      have hnil:Region.ready md ops listed = []:=by
        cases hr:Region.ready md ops listed with
        | nil=>rfl
        | cons x xs =>
          rw [hr] at hi
          have hlt:t % (x :: xs).length < (x :: xs).length:=Nat.mod_lt _ (by simp)
          rw [List.getElem?_eq_none_iff] at hi
          omega
      rw [hnil] at h
      simpa using h
    | some i =>
      have hm:=List.mem_of_getElem? hi
      have hne:(Region.ready md ops listed).isEmpty = false:=by
        cases hr:Region.ready md ops listed with
        | nil=>rw [hr] at hm; cases hm
        | cons x xs=>rfl
      rw [hne] at h
      simp only [Bool.false_eq_true,if_false,List.all_eq_true] at h
      exact allEnd_ok n _ _ _ (h i hm)
theorem ends3 (md:Region.Mode):allEnd md (H3 Tryz.f52) 8 (Array.replicate 8 false) [] = true:=by
  cases md <;> kernel_rfl
def Last (l:List Nat):Prop:=∃ p,l = p ++ [6,7] ∧ 0 ∈ p ∧ 6 ∉ p ∧ 7 ∉ p
theorem last_of {l:List Nat} (h:endsOk l = true):Last l:=by
  unfold endsOk at h
  split at h
  · rename_i p hp
    have e:l = p.reverse ++ [6,7]:=by
      have:=congrArg List.reverse hp
      simpa using this
    simp only [Bool.and_eq_true,List.contains_eq_mem,decide_eq_true_eq,Bool.not_eq_true',decide_eq_false_iff_not] at h
    exact ⟨_,e,by simpa using h.1.1,by simpa using h.1.2,by simpa using h.2⟩
  · cases h
theorem size3:(H3 Tryz.f52).size = 8:=by kernel_rfl
theorem schedule3 (m:Bool) (t:Nat):Last (Region.schedule m (H3 Tryz.f52) t):=by
  have key:∀ md t,Last (Region.linearise md (H3 Tryz.f52) t):=fun md t=>by
    unfold Region.linearise
    rw [size3]
    exact last_of (allEnd_ok _ _ _ _ (ends3 md))
  unfold Region.schedule
  split
  · exact key _ _
  · split <;> exact key _ _
def okW (f:Func) (y0 y4 sl:Value) (x:List Item) (y:Array Value):Prop :=
  (y.size = 26 ∧ y.getD 0 undef = y0 ∧ y.getD 4 undef = y4) ∧
  (x = [.code (.seq (R1 f) (.seq (R2 f) (R3 f)))] ∨ x = [.code (R1 f),.code (.seq (R2 f) (R3 f))] ∨ (∃ l,x = [.inRegion (O1 f) l,.code (.seq (R2 f) (R3 f))]) ∨ x = [.code (.seq (R2 f) (R3 f))] ∨ x = [.code (R2 f),.code (R3 f)] ∨ (∃ l,x = [.inRegion (O2 f) l,.code (R3 f)]) ∨ x = [.code (R3 f)] ∨
    ∃ l pre,x = [.inRegion (H3 f) l] ∧ Last (pre ++ l) ∧ 6 ∈ l ∧ (0 ∉ l → y.getD 19 undef = sl))
def pvW (i:Nat):Bool:=i == 0 || i == 4 || i == 19 || i == 25
theorem okW_clos {y0 y4 sl:Value} {x x':List Item} {y:Array Value} (h:okW Tryz.f52 y0 y4 sl x y) (ht:Tr x x'):okW Tryz.f52 y0 y4 sl x' y:=by
  obtain ⟨h0,h⟩:=h
  refine ⟨h0,?_⟩
  rcases h with rfl | rfl | ⟨l,rfl⟩ | rfl | rfl | ⟨l,rfl⟩ | rfl | ⟨l,pre,rfl,h1,h2,h3⟩
  · exact .inr (.inl ht)
  · obtain ⟨m,t,rfl⟩:=ht; exact .inr (.inr (.inl ⟨_,rfl⟩))
  · cases l with
    | nil=>exact .inr (.inr (.inr (.inl ht)))
    | cons i l=>exact ht.elim
  · exact .inr (.inr (.inr (.inr (.inl ht))))
  · obtain ⟨m,t,rfl⟩:=ht; exact .inr (.inr (.inr (.inr (.inr (.inl ⟨_,rfl⟩)))))
  · cases l with
    | nil=>exact .inr (.inr (.inr (.inr (.inr (.inr (.inl ht))))))
    | cons i l=>exact ht.elim
  · obtain ⟨m,t,rfl⟩:=ht
    obtain ⟨p,e1,e2,e3,e4⟩:=schedule3 m t
    refine .inr (.inr (.inr (.inr (.inr (.inr (.inr ⟨_,[],rfl,⟨p,by simpa using e1,e2,e3,e4⟩,?_,fun hn=>?_⟩))))))
    · rw [e1]; simp
    · exact absurd (by rw [e1]; simp [e2]) hn
  · cases l with
    | nil=>cases h2
    | cons i l=>exact ht.elim
theorem mark3 {i:Nat} (hi:i = 0 ∨ i = 6):∃ o,(H3 Tryz.f52)[i]? = some o ∧ markW o = true:=by
  rcases hi with rfl | rfl
  · exact ⟨_,rfl,by kernel_rfl⟩
  · exact ⟨_,rfl,by kernel_rfl⟩
theorem okW_pop {y0 y4 sl:Value} {ops:Array Oper} {i:Nat} {rest:List Nat} {k:List Item} {y y':Array Value} (hm:∀ o,ops[i]? = some o → markW o = false) (h:okW Tryz.f52 y0 y4 sl (.inRegion ops (i :: rest) :: k) y)
    (hy:y' = y ∨ ∃ d v,pvW d = false ∧ y' = y.setIfInBounds d v):okW Tryz.f52 y0 y4 sl (.inRegion ops rest :: k) y':=by
  have hk:∀ j,pvW j = true → y'.getD j undef = y.getD j undef:=fun j hj=>by
    rcases hy with rfl | ⟨d,v,hd,rfl⟩
    · rfl
    · exact getD_set_ne fun e=>by rw [e,hj] at hd; cases hd
  obtain ⟨h0,h⟩:=h
  have hz:y'.size = y.size:=by
    rcases hy with rfl | ⟨d,v,hd,rfl⟩
    · rfl
    · simp
  refine ⟨⟨hz.trans h0.1,(hk 0 rfl).trans h0.2.1,(hk 4 rfl).trans h0.2.2⟩,?_⟩
  rcases h with h | h | ⟨l,h⟩ | h | h | ⟨l,h⟩ | h | ⟨l,pre,h,h1,h2,h3⟩
  · cases h
  · cases h
  · simp only [List.cons.injEq,Item.inRegion.injEq] at h
    obtain ⟨⟨rfl,rfl⟩,rfl⟩:=h
    exact .inr (.inr (.inl ⟨_,rfl⟩))
  · cases h
  · cases h
  · simp only [List.cons.injEq,Item.inRegion.injEq] at h
    obtain ⟨⟨rfl,rfl⟩,rfl⟩:=h
    exact .inr (.inr (.inr (.inr (.inr (.inl ⟨_,rfl⟩)))))
  · cases h
  · simp only [List.cons.injEq,Item.inRegion.injEq] at h
    obtain ⟨⟨rfl,rfl⟩,rfl⟩:=h
    have n0:i ≠ 0:=fun e=>by
      obtain ⟨o,e1,e2⟩:=mark3 (i:=i) (.inl e)
      rw [hm o e1] at e2; cases e2
    have n6:i ≠ 6:=fun e=>by
      obtain ⟨o,e1,e2⟩:=mark3 (i:=i) (.inr e)
      rw [hm o e1] at e2; cases e2
    refine .inr (.inr (.inr (.inr (.inr (.inr (.inr ⟨rest,pre ++ [i],rfl,by simpa using h1,?_,fun hn=>?_⟩))))))
    · exact (List.mem_cons.1 h2).resolve_left (Ne.symm n6)
    · exact (hk 19 rfl).trans (h3 fun hx=>(List.mem_cons.1 hx).elim (fun e=>n0 e.symm) hn)
def cfgW (f:Func) (y0 y4 sl:Value):Cfg :=
  { fns:=fnsW,sp:=[],mark:=markW,sg:=sgW,root:=52,rt:=25,atRoot:=true,dd:=[dcall 53 #[y0]],kd:=.deferred,pv:=pvW,okF:=okW f y0 y4 sl }
theorem sgW_fields (o:Oper):(sgW o).dst = o.dst ∧ (sgW o).after = o.after ∧ (sgW o).guard = o.guard:=by
  unfold sgW
  split <;> exact ⟨rfl,rfl,rfl⟩
end Go.Proofs.YtojoafcnijajmaaGreatDoor

namespace Go.Proofs.YtojoafcnijajmaaGreatDoor
open Go Go.Conc
theorem cfgW_ok (y0 y4 sl:Value):CfgOk (cfgW Tryz.f52 y0 y4 sl) where
  idle o h:=by
    have h':markW o = false:=h
    show sgW o = o
    unfold sgW
    rw [h']
    rfl
  dst o:=(sgW_fields o).1
  after o:=(sgW_fields o).2.1
  guard o:=(sgW_fields o).2.2
  free o h:=by
    have h':markW o = true:=h
    simp only [markW,Bool.and_eq_true,Option.isNone_iff_eq_none] at h'
    exact h'.1
  clos x x' y h ht:=okW_clos h ht
  pop ops i rest k y y' hm h hy:=okW_pop hm h hy
theorem pbW (y0 y4 sl:Value):∀ g ∈ fnsW,PB (cfgW Tryz.f52 y0 y4 sl) (patch shutL Tryz.prog) Tryz.prog g :=
  all_cons ⟨_,_,pf Tryz.func55 (by rfl),by kernel_rfl,rfl,Tryz.func55,by kernel_rfl⟩ <|
  all_cons ⟨_,_,pf Tryz.func126 (by rfl),by kernel_rfl,rfl,Tryz.func126,by kernel_rfl⟩ <|
  all_cons ⟨_,_,pf Tryz.func190 (by rfl),by kernel_rfl,rfl,Tryz.func190,by kernel_rfl⟩ <|
  all_cons ⟨_,_,pf Tryz.func225 (by rfl),by kernel_rfl,rfl,Tryz.func225,by kernel_rfl⟩ <|
  all_cons ⟨_,_,pf Tryz.func54 (by rfl),by kernel_rfl,rfl,Tryz.func54,by kernel_rfl⟩ <|
  all_cons ⟨_,_,pf Tryz.func125 (by rfl),by kernel_rfl,rfl,Tryz.func125,by kernel_rfl⟩ <|
  all_cons ⟨_,_,pf Tryz.func56 (by rfl),by kernel_rfl,rfl,Tryz.func56,by kernel_rfl⟩ <|
  all_cons ⟨_,_,pf Tryz.func128 (by rfl),by kernel_rfl,rfl,Tryz.func128,by kernel_rfl⟩ <|
  all_cons ⟨_,_,pf Tryz.func129 (by rfl),by kernel_rfl,rfl,Tryz.func129,by kernel_rfl⟩ <|
  all_cons ⟨_,_,pf Tryz.func193 (by rfl),by kernel_rfl,rfl,Tryz.func193,by kernel_rfl⟩ <|
  all_cons ⟨_,_,pf Tryz.func194 (by rfl),by kernel_rfl,rfl,Tryz.func194,by kernel_rfl⟩ <|
  all_cons ⟨_,_,pf Tryz.func192 (by rfl),by kernel_rfl,rfl,Tryz.func192,by kernel_rfl⟩ <|
  all_cons ⟨_,_,pf Tryz.func226 (by rfl),by kernel_rfl,rfl,Tryz.func226,by kernel_rfl⟩ <|
  all_cons ⟨_,_,pf Tryz.func127 (by rfl),by kernel_rfl,rfl,Tryz.func127,by kernel_rfl⟩ <|
  all_cons ⟨_,_,pf Tryz.func191 (by rfl),by kernel_rfl,rfl,Tryz.func191,by kernel_rfl⟩ <|
  all_cons ⟨_,_,pf Tryz.func57 (by rfl),by kernel_rfl,rfl,Tryz.func57,by kernel_rfl⟩ <|
  all_cons ⟨_,_,pf Tryz.func130 (by rfl),by kernel_rfl,rfl,Tryz.func130,by kernel_rfl⟩ <|
  all_cons ⟨_,_,pf Tryz.func131 (by rfl),by kernel_rfl,rfl,Tryz.func131,by kernel_rfl⟩ <|
  all_cons ⟨_,_,pf Tryz.func195 (by rfl),by kernel_rfl,rfl,Tryz.func195,by kernel_rfl⟩ <|
  all_cons ⟨_,_,pf Tryz.func227 (by rfl),by kernel_rfl,rfl,Tryz.func227,by kernel_rfl⟩ <|
  all_cons ⟨_,_,pf Tryz.func251 (by rfl),by kernel_rfl,rfl,Tryz.func251,by kernel_rfl⟩ <|
  all_cons ⟨_,_,pf Tryz.func252 (by rfl),by kernel_rfl,rfl,Tryz.func252,by kernel_rfl⟩ <|
  all_cons ⟨_,_,pf Tryz.func132 (by rfl),by kernel_rfl,rfl,Tryz.func132,by kernel_rfl⟩ <|
  all_cons ⟨_,_,pf Tryz.func196 (by rfl),by kernel_rfl,rfl,Tryz.func196,by kernel_rfl⟩ <|
  all_nil
theorem plainW (y0 y4 sl:Value):PlainBodies (cfgW Tryz.f52 y0 y4 sl) (patch shutL Tryz.prog) Tryz.prog :=
  PlainBodies.of (cfgW_ok y0 y4 sl) (fun g hg=>of_decide_eq_true (show decide (g ∈ fnsW) = true by
    simp only [valList,List.mem_cons,List.not_mem_nil,or_false] at hg
    rcases hg with rfl | rfl <;> kernel_rfl)) fnsW (fun g=>⟨.inl,fun h=>h.elim id fun h=>by cases h⟩) (fun g hg=>by cases hg) (fun g hg e=>by
    subst e
    exact absurd hg (of_decide_eq_true (show decide (¬ 52 ∈ fnsW) = true by kernel_rfl))) (pbW y0 y4 sl) (fun g hg=>by cases hg)
end Go.Proofs.YtojoafcnijajmaaGreatDoor
