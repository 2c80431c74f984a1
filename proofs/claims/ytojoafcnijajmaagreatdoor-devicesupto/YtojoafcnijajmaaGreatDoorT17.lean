/- Part 17 of the proof that Devices answers true and leaves its input as it was, for input of bulk at most the bound of its row: WJ XH. -/
import Derived.Test.YtojoafcnijajmaaGreatDoorT7
import Derived.Test.YtojoafcnijajmaaGreatDoorT9
namespace Go.Proofs.YtojoafcnijajmaaGreatDoor
open Go
section
variable {P Q:Program} {K:Nat → Prop} {p:Nat → Nat → Prop} {C:Cfg}
def RJ (R:Value → World → Prop) (A:List PanicEntry → World → Prop):Ending → World → Prop
  | .returned v,w=>R v w
  | .panicked ch,w=>A ch w
  | .outgrown,_=>False
theorem left_run {fr:Frame} {w':World} {e:Ending} (hl:fr.leaving P w' e) (he:e ≠ .outgrown):∀ (n:Nat) (fr2 x:Frame) (cs:List Frame) (w2:World),runN P (n + 1) (lone fr [stop P] w') ≠ .next (lone fr2 (x :: cs) w2):=by
  intro n fr2 x cs w2 h
  have hs:∃ c,step P (lone fr [stop P] w') = .next (lone c [] w') ∧ ∃ o,step P (lone c [] w') = .ended o w':=by
    cases e with
    | returned v=>exact ⟨_,step_leave_returned hl,_,step_lone_ended rfl⟩
    | panicked ch=>exact ⟨_,step_leave_panicked hl,stop_raised ch w'⟩
    | outgrown=>exact absurd rfl he
  obtain ⟨c,h1,o,h2⟩:=hs
  simp only [runN,h1] at h
  cases n with
  | zero =>
    simp only [runN,Stepped.next.injEq] at h
    simp [lone] at h
  | succ n =>
    simp only [runN,h2] at h
    cases h
theorem alarm_run {R:Value → World → Prop} {A:List PanicEntry → World → Prop} {J:Prop} {f:FuncId} {x:Array Value} {w1 w':World} {az:List Frame} {fr:Frame} {e:Ending} {d:Nat}
    (hal:Calls P f x w1 fun e w'=>∃ ch,e = .panicked ch ∧ (A ch w' → J)) (has:az ≠ []) (hok:∀ y ∈ az,y.mode = .run ∧ y.defers = [] ∧ ∃ fn,P.funcs[y.fn]? = some fn)
    (hn:runN P d (lone (Frame.enter P f x .normal) (az ++ [stop P]) w1) = .next (lone fr [stop P] w')) (hl:fr.leaving P w' e) (hR:RJ R A e w'):J:=by
  obtain ⟨e1,w2,fr2,⟨ch,rfl,himp⟩,hc,_,hl2⟩:=hal (az ++ [stop P])
  obtain ⟨n1,h1⟩ : ∃ n,runN P n (lone (Frame.enter P f x .normal) (az ++ [stop P]) w1) = .next (lone fr2 (az ++ [stop P]) w2):=hc
  have hne:e ≠ .outgrown:=fun h=>by rw [h] at hR; exact hR
  by_cases hd:n1 ≤ d
  · obtain ⟨d',rfl⟩ : ∃ d',d = n1 + d':=⟨d - n1,by omega⟩
    rw [runN_add,h1] at hn
    obtain ⟨fr3,cs3,e3,e4⟩:=doomed_run d' fr2 az w2 ⟨hl2.1,hl2.2.1,hl2.2.2,hok⟩ _ hn
    simp only [lone,Machine.mk.injEq] at e3
    obtain ⟨rfl,e5,_⟩:=e3
    have e6:({ frame:=fr,callers:=[stop P],status:=.running,dying:=none }:Goroutine) = { frame:=fr3,callers:=cs3,status:=.running,dying:=none }:=by simpa using e5
    cases e6
    cases e with
    | returned v=>rw [hl.1] at e4; cases e4
    | outgrown=>exact absurd rfl hne
    | panicked ch' =>
      rw [hl.1] at e4
      cases e4
      exact himp hR
  · exfalso
    obtain ⟨j,rfl⟩ : ∃ j,n1 = d + (j + 1):=⟨n1 - d - 1,by omega⟩
    rw [runN_add,hn] at h1
    cases az with
    | nil=>exact has rfl
    | cons y ys=>exact left_run hl hne j _ _ _ _ h1
def NodeJ (P:Program) (C:Cfg) (R:Value → World → Prop) (J:FuncId → Array Value → World → Prop) (X:Frame → List Frame → World → Prop) (a:Frame) (az:List Frame) (w:World):Prop :=
  Leaf P R a az w ∨ (¬ (a.mode = .returning ∧ az = []) ∧ ∀ T,(∃ a' as' w' es,stepG P true (gor a (az ++ [stop P])) (taped w T) = .go (gor a' (as' ++ [stop P])) w' es ∧ (a'.mode = .run ∨ a'.mode = .returning) ∧ X a' as' w') ∨
    ∃ f x as' w' es,f ∈ C.sp ∧ stepG P true (gor a (az ++ [stop P])) (taped w T) = .go (gor (Frame.enter P f x .normal) (as' ++ [stop P])) w' es ∧ J f x w' ∧ as' ≠ [] ∧ ∀ y ∈ as',y.mode = .run ∧ y.defers = [] ∧ ∃ fn,P.funcs[y.fn]? = some fn)
def TreeJ (P:Program) (C:Cfg) (R:Value → World → Prop) (J:FuncId → Array Value → World → Prop) (a:Frame) (az:List Frame) (w:World):Prop :=
  ∀ X:Frame → List Frame → World → Prop,(∀ a az w,NodeJ P C R J X a az w → X a az w) → X a az w
theorem NodeJ.mono {R:Value → World → Prop} {J:FuncId → Array Value → World → Prop} {X Y:Frame → List Frame → World → Prop} (hXY:∀ a az w,X a az w → Y a az w) {a:Frame} {az:List Frame} {w:World} (h:NodeJ P C R J X a az w):NodeJ P C R J Y a az w :=
  h.imp id fun ⟨h1,h2⟩=>⟨h1,fun T=>(h2 T).imp (fun ⟨a',as',w',es,e1,e2,e3⟩=>⟨a',as',w',es,e1,e2,hXY _ _ _ e3⟩) id⟩
theorem TreeJ.of {R:Value → World → Prop} {J:FuncId → Array Value → World → Prop} {a:Frame} {az:List Frame} {w:World} (h:NodeJ P C R J (TreeJ P C R J) a az w):TreeJ P C R J a az w:=fun X hX =>
  hX _ _ _ (h.mono fun _ _ _ h=>h X hX)
theorem TreeJ.step {R:Value → World → Prop} {J:FuncId → Array Value → World → Prop} {a:Frame} {az:List Frame} {w:World} (h:TreeJ P C R J a az w):NodeJ P C R J (TreeJ P C R J) a az w :=
  h (fun a az w=>NodeJ P C R J (TreeJ P C R J) a az w) fun _ _ _ hn=>hn.mono fun _ _ _ h=>TreeJ.of h
def BadJ (C:Cfg) (P:Program) (K:Nat → Prop) (R:Value → World → Prop) (J:FuncId → Array Value → World → Prop) (s:StG):Prop:=Comp C P K s ∧ ¬ TreeJ P C R J s.a s.az s.w
def NRelJ (C:Cfg) (P:Program) (K:Nat → Prop) (R:Value → World → Prop) (J:FuncId → Array Value → World → Prop) (s:StG) (T:Nat → Question → Nat) (s':StG):Prop :=
  s.w.drawn ≤ s'.w.drawn ∧ BadJ C P K R J s' ∧ ∀ T',(∀ j q,s.w.drawn ≤ j → j < s'.w.drawn → T' j q = T j q) → ∃ es,stp P s T' = .go (gor s'.a (s'.az ++ [stop P])) (taped s'.w T') es
def ARel (C:Cfg) (P:Program) (J:FuncId → Array Value → World → Prop) (s:StG) (T:Nat → Question → Nat):Prop :=
  ∀ T',(∀ j q,s.w.drawn ≤ j → T' j q = T j q) → ∃ f x as' w' es,f ∈ C.sp ∧ stp P s T' = .go (gor (Frame.enter P f x .normal) (as' ++ [stop P])) w' es ∧ ¬ J f x w' ∧ as' ≠ [] ∧ ∀ y ∈ as',y.mode = .run ∧ y.defers = [] ∧ ∃ fn,P.funcs[y.fn]? = some fn
theorem badJ_cases (hz:ZeroOk P) (hp:PlainBodies C P Q) (tw:Twin P Q) (hm0:∀ o,C.mark o = false) {R:Value → World → Prop} {J:FuncId → Array Value → World → Prop} (hJ:∀ f x w T,J f x (taped w T) → J f x w) {s:StG} (h:BadJ C P K R J s) :
    Fin s ∨ ∃ T,BRel P s T ∨ ARel C P J s T ∨ ∃ s',NRelJ C P K R J s T s':=by
  classical
  obtain ⟨⟨q,b,bs,u,hl,hw⟩,hT⟩:=h
  by_cases hf:Fin s
  · exact .inl hf
  refine .inr ?_
  have hr:s.a.mode = .returning → s.az ≠ []:=fun h1 h2=>hf ⟨h1,h2⟩
  obtain ⟨T,hn⟩:=Classical.not_forall.1 fun h=>hT (TreeJ.of (.inr ⟨hf,h⟩))
  refine ⟨T,?_⟩
  have hw':=hw.tapes T (fun j q=>T (s.w.drawn + (j - u.drawn)) q)
  have ht:=WR.follow (w:=s.w) (u:=u) T
  have hA:=step_alike (m:=true) (m':=true) (cs:=[stop P]) (ds:=[]) hz hp tw hl (fun _ ⟨_,_,_,_,o,_,_,_,h⟩=>by rw [hm0 o] at h; cases h) hr hw' ht
  have hL:=step_local (m:=true) (cs:=[stop P]) hz hp tw hl hr hw' ht
  rcases hA with hA | ⟨q',a',as',b',bs',w',u',es,new,e1,e2,hl',hw1,ht1,hg,_⟩ | ⟨q',f,x,y,a',as',b',bs',w',u',es,new,hf1,hsp,e1,e2,hxy,hcr,_⟩
  · refine .inl fun T' hT'=>?_
    rcases hL with ⟨g,w',es,e1,d1,_,e2⟩ | ⟨o,w',es,e1,d1,_,e2⟩
    · have:=e2 T' fun j q x _=>hT' j q x
      rw [taped_taped] at this
      rcases hA with ⟨o,w2,es2,e3⟩ | ⟨fr,az,w2,es2,e3,hd⟩
      · cases e1.symm.trans e3
      · cases e1.symm.trans e3
        exact .inr ⟨fr,az,_,_,this,hd⟩
    · have:=e2 T' fun j q x _=>hT' j q x
      rw [taped_taped] at this
      exact .inl ⟨_,_,_,this⟩
  · refine .inr (.inr ⟨⟨a',as',w'⟩,?_⟩)
    have hbad:BadJ C P K R J ⟨a',as',w'⟩:=⟨⟨q',b',bs',u',hl',hw1⟩,fun ht2=>hn (.inl ⟨a',as',w',es,e1,hl'.mode,ht2⟩)⟩
    rcases hL with ⟨g,w2,es2,e3,d1,_,e4⟩ | ⟨o,w2,es2,e3,d1,_,e4⟩
    · cases e1.symm.trans e3
      exact ⟨d1,hbad,fun T' hT'=>⟨es,e4 T' hT'⟩⟩
    · cases e1.symm.trans e3
  · refine .inr (.inl fun T' hT'=>?_)
    have hnj:¬ J f x w':=fun hj=>hn (.inr ⟨f,x,a' :: as',w',es,hsp,by simpa using e1,hj,by simp,hcr.left⟩)
    rcases hL with ⟨g,w2,es2,e3,d1,_,e4⟩ | ⟨o,w2,es2,e3,d1,_,e4⟩
    · cases e1.symm.trans e3
      have e5:=e4 T' fun j q x _=>hT' j q x
      rw [taped_taped] at e5
      refine ⟨f,x,a' :: as',_,es,hsp,e5,fun hj=>hnj (hJ _ _ _ _ hj),by simp,hcr.left⟩
    · cases e1.symm.trans e3
theorem treeJ_of_calls (hz:ZeroOk P) (hp:PlainBodies C P Q) (tw:Twin P Q) (hm0:∀ o,C.mark o = false) {R:Value → World → Prop} {A:List PanicEntry → World → Prop} {J:FuncId → Array Value → World → Prop} (hJ:∀ f x w T,J f x (taped w T) → J f x w)
    (hA:∀ ch w,A ch w → ∃ e ∈ ch,¬ noPtr e.v) (hal:∀ f x w,f ∈ C.sp → Calls P f x w fun e w'=>∃ ch,e = .panicked ch ∧ (A ch w' → J f x w)) {f:FuncId} {args:Array Value} {w:World}
    (hc:Comp C P K ⟨Frame.enter P f args .normal,[],w⟩) (h:∀ T,Calls P f args (taped w T) (RJ R A)):TreeJ P C R J (Frame.enter P f args .normal) [] w:=by
  classical
  apply Classical.byContradiction
  intro hT
  have hch:∀ s:StG,∃ x:(Nat → Question → Nat) × StG,BadJ C P K R J s → Fin s ∨ BRel P s x.1 ∨ ARel C P J s x.1 ∨ NRelJ C P K R J s x.1 x.2:=by
    intro s
    by_cases hb:BadJ C P K R J s
    · rcases badJ_cases hz hp tw hm0 hJ hb with h1 | ⟨T,h1 | h1 | ⟨s',h1⟩⟩
      · exact ⟨⟨fun _ _=>0,s⟩,fun _=>.inl h1⟩
      · exact ⟨⟨T,s⟩,fun _=>.inr (.inl h1)⟩
      · exact ⟨⟨T,s⟩,fun _=>.inr (.inr (.inl h1))⟩
      · exact ⟨⟨T,s'⟩,fun _=>.inr (.inr (.inr h1))⟩
    · exact ⟨⟨fun _ _=>0,s⟩,fun h=>absurd h hb⟩
  obtain ⟨F,hF⟩:=Classical.axiomOfChoice hch
  let s0:StG:=⟨Frame.enter P f args .normal,[],w⟩
  let sq:Nat → StG:=iter (fun s=>(F s).2) s0
  let N:Nat → Prop:=fun k=>NRelJ C P K R J (sq k) (F (sq k)).1 (sq (k + 1))
  have hbad:∀ k,(∀ i,i < k → N i) → BadJ C P K R J (sq k):=by
    intro k hk
    cases k with
    | zero=>exact ⟨hc,hT⟩
    | succ k=>exact (hk k (Nat.lt_succ_self _)).2.1
  have hmono:∀ k i,i ≤ k → (∀ j,j < k → N j) → (sq i).w.drawn ≤ (sq k).w.drawn:=by
    intro k
    induction k with
    | zero => intro i hi _; obtain rfl : i = 0 := by omega
              exact Nat.le_refl _
    | succ k ih =>
      intro i hi hN
      by_cases hik:i = k + 1
      · rw [hik]; exact Nat.le_refl _
      · exact Nat.le_trans (ih i (by omega) fun j hj=>hN j (by omega)) (hN k (Nat.lt_succ_self _)).1
  let At:Nat → Nat → Prop:=fun j k=>(∀ i,i < k → N i ∧ (sq (i + 1)).w.drawn ≤ j) ∧ (N k → j < (sq (k + 1)).w.drawn)
  have hAt:∀ j k k',At j k → At j k' → k = k':=by
    intro j k k' h1 h2
    rcases Nat.lt_trichotomy k k' with hlt | heq | hlt
    · have:=h2.1 k hlt
      have:=h1.2 this.1
      omega
    · exact heq
    · have:=h1.1 k' hlt
      have:=h2.2 this.1
      omega
  let TT:Nat → Question → Nat:=fun j q=>if hx:∃ k,At j k then (F (sq (Classical.choose hx))).1 j q else 0
  have hTT:∀ j q k,At j k → TT j q = (F (sq k)).1 j q:=by
    intro j q k hk
    have hx:∃ k,At j k:=⟨k,hk⟩
    have e:Classical.choose hx = k:=hAt j _ _ (Classical.choose_spec hx) hk
    show (if hx:∃ k,At j k then (F (sq (Classical.choose hx))).1 j q else 0) = _
    rw [dif_pos hx,e]
  have hat:∀ k j,(∀ i,i < k → N i) → (sq k).w.drawn ≤ j → (N k → j < (sq (k + 1)).w.drawn) → At j k:=by
    intro k j hN hj hk
    exact ⟨fun i hi=>⟨hN i hi,Nat.le_trans (hmono k (i + 1) (by omega) hN) hj⟩,hk⟩
  have hrun:∀ k,(∀ i,i < k → N i) → runN P k (lone s0.a (s0.az ++ [stop P]) (taped s0.w TT)) = .next (lone (sq k).a ((sq k).az ++ [stop P]) (taped (sq k).w TT)):=by
    intro k
    induction k with
    | zero=>intro _; rfl
    | succ k ih =>
      intro hN
      have hk:=hN k (Nat.lt_succ_self _)
      obtain ⟨es,e1⟩:=hk.2.2 TT fun j q x y=>hTT j q k (hat k j (fun i hi=>hN i (by omega)) x fun _=>y)
      rw [runN_add,ih fun i hi=>hN i (by omega)]
      have e2:step P (lone (sq k).a ((sq k).az ++ [stop P]) (taped (sq k).w TT)) = .next (lone (sq (k + 1)).a ((sq (k + 1)).az ++ [stop P]) (taped (sq (k + 1)).w TT)):=by
        refine step_lone_go ?_
        have e3:stepG P true (gor (sq k).a ((sq k).az ++ [stop P])) (taped (sq k).w TT) = _:=e1
        rw [e3]
        rfl
      simp only [runN,e2]
  obtain ⟨e,w',fr,hR,hcomes,hfn,hleave⟩:=h TT [stop P]
  have hne:e ≠ .outgrown:=fun h=>by rw [h] at hR; exact hR
  obtain ⟨n,hn⟩ : ∃ n,runN P n (lone s0.a (s0.az ++ [stop P]) (taped s0.w TT)) = .next (lone fr [stop P] w'):=by
    cases e with
    | returned v=>exact hcomes
    | panicked ch=>exact hcomes
    | outgrown=>exact absurd rfl hne
  have key:(∀ i,i < n → N i) ∨ ∃ k,k < n ∧ (∀ i,i < k → N i) ∧ ¬ N k:=by
    have:∀ m,m ≤ n → (∀ i,i < m → N i) ∨ ∃ k,k < n ∧ (∀ i,i < k → N i) ∧ ¬ N k:=by
      intro m
      induction m with
      | zero=>intro _; exact .inl fun i hi=>absurd hi (Nat.not_lt_zero _)
      | succ m ih =>
        intro hm
        rcases ih (by omega) with h1 | h1
        · by_cases hNm:N m
          · refine .inl fun i hi=>?_
            rcases Nat.lt_succ_iff_lt_or_eq.1 hi with hi | rfl
            · exact h1 i hi
            · exact hNm
          · exact .inr ⟨m,by omega,h1,hNm⟩
        · exact .inr h1
    exact this n (Nat.le_refl _)
  rcases key with hall | ⟨k,hk,hall,hnk⟩
  · have e1:=hrun n hall
    rw [hn] at e1
    have e2:fr = (sq n).a ∧ [stop P] = (sq n).az ++ [stop P] ∧ w' = taped (sq n).w TT:=by
      simp only [lone,Stepped.next.injEq,Machine.mk.injEq] at e1
      obtain ⟨x1,x2,_⟩:=e1
      have x3:({ frame:=fr,callers:=[stop P],status:=.running,dying:=none }:Goroutine) = { frame:=(sq n).a,callers:=(sq n).az ++ [stop P],status:=.running,dying:=none }:=by simpa using x2
      simp only [Goroutine.mk.injEq] at x3
      exact ⟨x3.1,x3.2.1,x1⟩
    obtain ⟨rfl,e3,rfl⟩:=e2
    have e4:(sq n).az = []:=by
      cases hs:(sq n).az with
      | nil=>rfl
      | cons x xs =>
        rw [hs] at e3
        have:=congrArg List.length e3
        simp at this
    obtain ⟨⟨q,b,bs,u,hl,_⟩,hnt⟩:=hbad n hall
    cases e with
    | outgrown=>exact hne rfl
    | panicked ch =>
      have:=hleave.1
      rcases hl.mode with h1 | h1 <;> · rw [h1] at this; cases this
    | returned v =>
      obtain ⟨hmode,hdef,hkind,fnn,hfnn,hres⟩:=hleave
      exact hnt (TreeJ.of (.inl ⟨hmode,e4,⟨hdef,hkind⟩,fnn,TT,v,hfnn,hres,hR⟩))
  · have e1:=hrun k hall
    obtain ⟨d,rfl⟩ : ∃ d,n = k + (d + 1):=⟨n - k - 1,by omega⟩
    rw [runN_add,e1] at hn
    simp only at hn
    obtain ⟨⟨q,b,bs,u,hl,_⟩,_⟩:=hbad k hall
    have hfree:∀ j q,(sq k).w.drawn ≤ j → TT j q = (F (sq k)).1 j q:=fun j q x=>hTT j q k (hat k j hall x fun hh=>absurd hh hnk)
    have hgo:∀ {fr':Frame} {as':List Frame} {w1:World} {es:Array Event},stp P (sq k) TT = .go (gor fr' (as' ++ [stop P])) w1 es → runN P d (lone fr' (as' ++ [stop P]) w1) = .next (lone fr [stop P] w'):=fun {fr' as' w1 es} h2=>by
      have:step P (lone (sq k).a ((sq k).az ++ [stop P]) (taped (sq k).w TT)) = .next (lone fr' (as' ++ [stop P]) w1):=by
        refine step_lone_go ?_
        have e3:stepG P true (gor (sq k).a ((sq k).az ++ [stop P])) (taped (sq k).w TT) = _:=h2
        rw [e3]; rfl
      simpa only [runN,this] using hn
    rcases hF (sq k) (hbad k hall) with h1 | h1 | h1 | h1
    · have hm1:(sq k).a.mode = .returning:=h1.1
      rw [h1.2] at hn
      exact final_run hm1 hl.fr.da hl.fr.ka hl.fr.known d _ _ _ _ (by simp) hn
    · have hx:BadStep P (stp P (sq k) TT) [stop P]:=h1 TT hfree
      rcases hx with ⟨o,w1,es,h2⟩ | ⟨fr',as',w1,es,h2,ch0,hno,hd⟩
      · have:step P (lone (sq k).a ((sq k).az ++ [stop P]) (taped (sq k).w TT)) = .ended o w1:=by
          refine step_lone_ended ?_
          have e3:stepG P true (gor (sq k).a ((sq k).az ++ [stop P])) (taped (sq k).w TT) = _:=h2
          rw [e3]; rfl
        simp only [runN,this] at hn
        cases hn
      · obtain ⟨fr2,cs2,e4,hch⟩:=doomed_run d fr' as' w1 hd _ (hgo h2)
        simp only [lone,Machine.mk.injEq] at e4
        have x3:({ frame:=fr,callers:=[stop P],status:=.running,dying:=none }:Goroutine) = { frame:=fr2,callers:=cs2,status:=.running,dying:=none }:=by simpa using e4.2.1
        cases x3
        cases e with
        | outgrown=>exact hne rfl
        | returned v=>rw [hleave.1] at hch; cases hch
        | panicked ch =>
          rw [hleave.1] at hch
          cases hch
          obtain ⟨en,h3,h4⟩:=hA _ _ hR
          exact h4 (hno en h3)
    · obtain ⟨f',x,as',w1,es,hsp,h2,hnj,has,hok⟩:=h1 TT hfree
      exact hnj (alarm_run (hal f' x w1 hsp) has hok (hgo h2) hleave hR)
    · exact hnk h1
end
end Go.Proofs.YtojoafcnijajmaaGreatDoor

namespace Go.Proofs.YtojoafcnijajmaaGreatDoor
open Go Go.Conc Go.ConcN
section
variable {P Q:Program} {K:Nat → Prop} {C C0:Cfg} {R:Value → World → Prop} {J:FuncId → Array Value → World → Prop}
def Down (P:Program) (C0:Cfg):Nat → StG → StG → Prop
  | 0,s,s'=>s = s'
  | n + 1,s,s'=>¬ (s.a.mode = .returning ∧ s.az = []) ∧ ∃ T s1 es,stepG P true (gor s.a (s.az ++ [stop P])) (taped s.w T) = .go (gor s1.a (s1.az ++ [stop P])) s1.w es ∧ (∀ f x,f ∈ C0.sp → s1.a ≠ Frame.enter P f x .normal) ∧ Down P C0 n s1 s'
def Runs (C:Cfg) (P Q:Program) (K:Nat → Prop) (Iv:(Nat → Nat → Prop) → World → Prop) (s:StG) (m:Machine) (t:Trace):Prop :=
  ∃ (p:Nat → Nat → Prop) (b:Frame) (bs:List Frame) (gs:Array Goroutine) (u:World) (sl:Option (Nat × Nat)) (q:Nat → Nat) (S:Nat → Prop),m = crowd gs u sl ∧ gs[0]? = some (gor b bs) ∧ Live C P p s.a s.az b bs ∧ WR P.globals.size K p s.w u ∧ Fr0 Q S gs u.heap.size t q ∧ (∀ b c,p b c → ¬ S c) ∧ Iv p u
def Ends (Q:Program) (Post:Value → World → Prop) (m:Machine) (t:Trace):Prop :=
  ∃ N last o w' t',runNT Q (N + 1) m t = (.ended o w',t') ∧ runN Q N m = .next last ∧ step Q last = .ended o w' ∧ Conc.Good Q Post last o w' t'
theorem Ends.run {Post:Value → World → Prop} {m m':Machine} {t t':Trace} {n:Nat} (h:Ends Q Post m' t') (hr:runNT Q n m t = (.next m',t')):Ends Q Post m t:=by
  obtain ⟨N,last,o,w',t2,h1,h2,h3,h4⟩:=h
  refine ⟨n + N,last,o,w',t2,?_,?_,h3,h4⟩
  · rw [Nat.add_assoc,runNT_add,hr]; exact h1
  · rw [runN_add,← runNT_fst Q n m t,hr]; exact h2
theorem evP_of {S:Nat → Prop} {q:Nat → Nat → Prop} {w' u':World} {G:Nat} (hw:WR G K q w' u') (hS:∀ b c,q b c → ¬ S c) {e:Event} (he:EvOk K q e):EvP S u'.heap.size e:=by
  rcases he with ⟨c,b,hl,hp,hs,_⟩ | rfl
  · have hc:=(hw.lt hp).2
    obtain ⟨loc,wr,sy⟩:=e
    simp only at hs hl
    subst hs
    rcases hl with rfl | ⟨a,rfl,rfl⟩
    · refine ⟨fun x hx=>?_,by simp,by simp,?_⟩
      · rintro ⟨a,h1,h2⟩
        simp only [MemAct.ofEvent,MemAct.touch?,Option.some.injEq] at hx
        subst hx
        cases h1
      · simp only [MemAct.ofEvent,MemAct.low]; exact hc
    · refine ⟨fun x hx=>?_,by simp,by simp,?_⟩
      · rintro ⟨a',h1,h2⟩
        simp only [MemAct.ofEvent,MemAct.touch?,Option.some.injEq] at hx
        subst hx
        cases h1
        exact hS _ _ hp h2
      · simp only [MemAct.ofEvent,MemAct.low]; exact hc
  · refine ⟨fun x hx=>?_,by simp,by simp,?_⟩
    · simp [MemAct.ofEvent,MemAct.touch?] at hx
    · simp [MemAct.ofEvent,MemAct.low]
theorem WR.at {G:Nat} {q:Nat → Nat → Prop} {w u:World} (h:WR G K q w u) (d:Nat):WR G K q w (u.at d):=⟨h.fit,h.rows,h.kin,h.low,h.big⟩
theorem driver {Iv:(Nat → Nat → Prop) → World → Prop} (hI1:∀ p u d,Iv p u → Iv p (u.at d)) (hI2:∀ p q u u',Iv p u → Guar K p q u u' → Iv q u') (hz:ZeroOk P) (hp:PlainBodies C P Q) (tw:Twin P Q) (hm0:∀ o,C.mark o = false) (hdis:∀ f,f ∈ C.sp → f ∉ C0.sp) (hen:∀ f x,(Frame.enter P f x .normal).fn = f) (hem:∀ f x,(Frame.enter P f x .normal).mode = .run)
    (hna:∀ f x,f ∈ C0.sp → ¬ plainTodo C P (Frame.enter P f x .normal).fn (Frame.enter P f x .normal).todo) (hat:C.atRoot = true) (hdd:C.dd = []) (hkd:C.kd = .normal) (hpv:∀ i,C.pv i = false) (hni:Q.inits.idxOf? C.root = none)
    (hroot:∀ fn,P.funcs[C.root]? = some fn → ∃ fn',Q.funcs[C.root]? = some fn' ∧ fn'.results = fn.results) {Post:Value → World → Prop} (hpost:∀ p v v' w T u,R v (taped w T) → VR p v v' → WR P.globals.size K p (taped w T) u → Iv p u → Post v' u) (hpure:∀ fn,P.funcs[C.root]? = some fn → ∃ k,fn.results = #[.tmp k])
    (hEdge:∀ f x y a az b bs w u gs sl t q S p,f ∈ C.sp → TreeJ P C0 R J (Frame.enter P f x .normal) (a :: az) w → (AllR (VR p) x y ∧ (f = 22 → x.size = 2)) → CR C P p (a :: az) (b :: bs) → WR P.globals.size K p w u → Fr0 Q S gs u.heap.size t q →
      gs[0]? = some (gor (Frame.enter Q f y .normal) (b :: bs)) → (∀ b c,p b c → ¬ S c) → Iv p u → ∃ N m' t' n s',runNT Q N (crowd gs u sl) t = (.next m',t') ∧ Down P C0 n ⟨Frame.enter P f x .normal,a :: az,w⟩ s' ∧ Runs C P Q K Iv s' m' t')
    {a:Frame} {az:List Frame} {w:World} (ht:TreeJ P C0 R J a az w):∀ m t,Runs C P Q K Iv ⟨a,az,w⟩ m t → Ends Q Post m t:=by
  classical
  let Y:StG → Prop:=fun s=>∀ n s',Down P C0 n s s' → TreeJ P C0 R J s'.a s'.az s'.w ∧ ∀ m t,Runs C P Q K Iv s' m t → Ends Q Post m t
  suffices h:Y ⟨a,az,w⟩ from (h 0 _ rfl).2
  refine ht (fun a az w=>Y ⟨a,az,w⟩) ?_
  intro a az w hn
  have hT:TreeJ P C0 R J a az w:=TreeJ.of (hn.mono fun a az w h=>(h 0 ⟨a,az,w⟩ rfl).1)
  intro n s' hd
  cases n with
  | succ n =>
    obtain ⟨hnl,T,s1,es,e1,hno,hd⟩:=hd
    rcases hn with ⟨h1,h2,_⟩ | ⟨_,hn⟩
    · exact absurd ⟨h1,h2⟩ hnl
    · rcases hn T with ⟨a',as',w',es',e2,_,hY⟩ | ⟨f,x,as',w',es',hf,e2,_,_⟩
      · rw [e1] at e2
        simp only [GStep.go.injEq,Goroutine.mk.injEq] at e2
        obtain ⟨⟨e3,e4,_⟩,e5,_⟩:=e2
        have e6:s1.az = as':=List.append_cancel_right e4
        obtain ⟨a1,as1,w1⟩:=s1
        simp only at e3 e5 e6
        subst e3 e5 e6
        exact hY n s' hd
      · rw [e1] at e2
        simp only [GStep.go.injEq,Goroutine.mk.injEq] at e2
        exact absurd e2.1.1 (hno f x hf)
  | zero =>
    cases hd
    refine ⟨hT,?_⟩
    rintro m t ⟨p,b,bs,gs,u,sl,q,S,rfl,h0,hl,hw,hF,hS,hIv⟩
    simp only at hl hw
    rcases hn with ⟨h1,h2,_,fn,T,v,f1,f2,f3⟩ | ⟨hnf,hn⟩
    ·
      subst h2
      cases bs with
      | cons x xs=>exact hl.cs.elim
      | nil =>
      obtain ⟨hbd,hbk,hbr⟩:=hl.deep.2 rfl
      have har:=hbr hat
      have hmb:b.mode = .returning:=hl.fr.mode.trans h1
      have kb:b.kind = .normal:=hbk.trans hkd
      have hbf:b.fn = C.root:=hl.fr.fn.trans har
      rw [har] at f1
      obtain ⟨fn',g1,g2⟩:=hroot fn f1
      have hres:results fn' b.tmps = results fn b.tmps:=by unfold results; rw [g2]
      obtain ⟨k,hk⟩:=hpure fn f1
      have hval:∀ (P:Program) (x:Array Value) (w:World),(results fn x).runT P w #[] = (.ok (x.getD k undef) w,#[]):=fun P x w=>by
        rw [Sem.runT_eq,results_tmp hk,events_results_tmp hk]
      have hv:v = a.tmps.getD k undef:=by
        rw [← Sem.runT_fst _ _ _ #[],hval] at f2
        cases f2
        rfl
      refine end0 (B':=u.heap.size) hF h0 rfl fun d=>⟨b.tmps.getD k undef,u.at d,seen Q b.fn #[],?_,fun e he=>?_,Nat.le_refl _,hpost p v _ w T (u.at d) f3 (by rw [hv]; exact (hl.fr.tmps.get k).resolve_left fun h=>by rw [hpv k] at h; cases h.2) ((hw.at d).tapes T (u.at d).tape) (hI1 _ _ _ hIv)⟩
      · have hni':Q.inits.idxOf? b.fn = none:=by rw [hbf]; exact hni
        have g1':Q.funcs[b.fn]? = some fn':=by rw [hbf]; exact g1
        simp only [stepG,unwind,hmb,hbd,hdd,g1',hres,hval,doReturn,kb,hni',GStep.after]
        simp
      · exact absurd (seen_mem e he) (by simp)
    ·
      have hr:a.mode = .returning → az ≠ []:=fun h1 h2=>hnf ⟨h1,h2⟩
      obtain ⟨N,gs',a',u',sl',t',q',B',r1,r2,r3,⟨hB,r4⟩,r5⟩:=own0 (sl:=sl) (Stop:=fun a' u' B'=>B' = u'.heap.size ∧
          ((∃ s1:StG,Y s1 ∧ ∃ p' b' bs',a' = gor b' bs' ∧ Live C P p' s1.a s1.az b' bs' ∧ WR P.globals.size K p' s1.w u' ∧ (∀ b c,p' b c → ¬ S c) ∧ Iv p' u') ∨
            ∃ f x y a2 as2 w2 b2 bs2 p',f ∈ C.sp ∧ Y ⟨Frame.enter P f x .normal,a2 :: as2,w2⟩ ∧ a' = gor (Frame.enter Q f y .normal) (b2 :: bs2) ∧ (AllR (VR p') x y ∧ (f = 22 → x.size = 2)) ∧ CR C P p' (a2 :: as2) (b2 :: bs2) ∧ WR P.globals.size K p' w2 u' ∧ (∀ b c,p' b c → ¬ S c) ∧ Iv p' u')) hF h0 rfl fun d=>by
        let T':Nat → Question → Nat:=fun j q=>(u.at d).tape ((u.at d).drawn + (j - w.drawn)) q
        have htr:TR (taped w T') (u.at d):=fun i q=>by
          show (u.at d).tape ((u.at d).drawn + (w.drawn + i - w.drawn)) q = _
          rw [Nat.add_sub_cancel_left]
        have hw2:WR P.globals.size K p (taped w T') (u.at d):=(hw.at d).tapes T' (u.at d).tape
        have hfresh:∀ {p':Nat → Nat → Prop} {u':World},Guar K p p' (u.at d) u' → ∀ b c,p' b c → ¬ S c:=fun {p' u'} hg b c hb hs=>by
          by_cases hpb:p b c
          · exact hS b c hpb hs
          · have:=hg.fresh b c hb hpb
            have:=hF.sh c hs
            have e:(u.at d).heap.size = u.heap.size:=rfl
            omega
        rcases step_alike (m:=true) (m':=true) (cs:=[stop P]) (ds:=[]) hz hp tw hl (fun _ ⟨_,_,_,_,o,_,_,_,h⟩=>by rw [hm0 o] at h; cases h) hr hw2 htr with hA | ⟨p',a2,as2,b',bs',w2,u',es2,new,e2,e3,hl',hw',ht',hg,he⟩ | ⟨p',f,x,y,a2,as2,b2,bs2,w2,u',es2,new,hf1,hsp,e2,e3,hxy,hcr,hw',ht',hg,he⟩
        · exfalso
          rcases hn T' with ⟨a',as',w',es,e1,hmode,_⟩ | ⟨f,x,as',w',es,hf,e1,_⟩
          · rcases hA with ⟨o,w3,es3,e4⟩ | ⟨fr,as3,w3,es3,e4,ch,_,hch,_⟩
            · rw [e1] at e4; cases e4
            · rw [e1] at e4
              simp only [GStep.go.injEq,Goroutine.mk.injEq] at e4
              rw [e4.1.1,hch] at hmode
              rcases hmode with h | h <;> cases h
          · rcases hA with ⟨o,w3,es3,e4⟩ | ⟨fr,as3,w3,es3,e4,ch,_,hch,_⟩
            · rw [e1] at e4; cases e4
            · rw [e1] at e4
              simp only [GStep.go.injEq,Goroutine.mk.injEq] at e4
              rw [← e4.1.1,hem] at hch
              cases hch
        · rw [List.append_nil] at e3
          refine ⟨_,u',new,u'.heap.size,e3,hg.size,fun e he'=>evP_of hw' (hfresh hg) (he e he'),rfl,.inl ?_⟩
          rcases hn T' with ⟨a',as',w',es,e1,hmode,hY⟩ | ⟨f,x,as',w',es,hf,e1,_⟩
          · rw [e1] at e2
            simp only [GStep.go.injEq,Goroutine.mk.injEq] at e2
            obtain ⟨⟨e4,e5,_⟩,e6,_⟩:=e2
            have e7:as' = as2:=List.append_cancel_right e5
            subst e4 e6 e7
            exact ⟨⟨_,_,_⟩,hY,p',b',bs',by simp,hl',hw',hfresh hg,hI2 _ _ _ _ (hI1 _ _ d hIv) hg⟩
          · exfalso
            rw [e1] at e2
            simp only [GStep.go.injEq,Goroutine.mk.injEq] at e2
            have:=hl'.fr.plain
            rw [← e2.1.1] at this
            exact hna f x hf this
        · rw [List.append_nil] at e3
          refine ⟨_,u',new,u'.heap.size,e3,hg.size,fun e he'=>evP_of hw' (hfresh hg) (he e he'),rfl,.inr ?_⟩
          rcases hn T' with ⟨a',as',w',es,e1,hmode,hY⟩ | ⟨f',x',as',w',es,hf,e1,_⟩
          · rw [e1] at e2
            simp only [GStep.go.injEq,Goroutine.mk.injEq] at e2
            obtain ⟨⟨e4,e5,_⟩,e6,_⟩:=e2
            have e7:as' = a2 :: as2:=List.append_cancel_right e5
            subst e4 e6 e7
            exact ⟨f,x,y,a2,as2,_,b2,bs2,p',hsp,hY,by simp,hxy,hcr,hw',hfresh hg,hI2 _ _ _ _ (hI1 _ _ d hIv) hg⟩
          · exfalso
            rw [e1] at e2
            simp only [GStep.go.injEq,Goroutine.mk.injEq] at e2
            have:=congrArg Frame.fn e2.1.1
            rw [hen,hen] at this
            rw [this] at hf
            exact hdis f hsp hf
      subst hB
      rcases r4 with ⟨s1,hY,p',b',bs',rfl,hl',hw',hS',hIv'⟩ | ⟨f,x,y,a2,as2,w2,b2,bs2,p',hsp,hY,rfl,hxy,hcr,hw',hS',hIv'⟩
      · exact ((hY 0 s1 rfl).2 _ _ ⟨p',b',bs',gs',u',sl',q',S,rfl,r3,hl',hw',r5,hS',hIv'⟩).run r1
      · obtain ⟨N2,m2,t2,n2,s2,r6,r7,r8⟩:=hEdge f x y a2 as2 b2 bs2 w2 u' gs' sl' t' q' S p' hsp (hY 0 _ rfl).1 hxy hcr hw' r5 r3 hS' hIv'
        exact (((hY n2 s2 r7).2 _ _ r8).run r6).run r1
end
end Go.Proofs.YtojoafcnijajmaaGreatDoor
