/- Part 7 of the proof that Devices answers true and leaves its input as it was, for input of bulk at most the bound of its row: WF WG WH XG XI. -/
import Derived.Test.YtojoafcnijajmaaGreatDoorT6
import Derived.Calls
import Derived.Test.YtojoafcnijajmaaGreatDoorChecked
import Derived.WalkKit
set_option linter.unusedVariables false
namespace Go.Proofs.YtojoafcnijajmaaGreatDoor
open Go
section
variable {P Q:Program} {K:Nat → Prop} {p:Nat → Nat → Prop} {C:Cfg}
def stop (P:Program):Frame:={ fn:=P.funcs.size,tmps:=#[],todo:=[.code (.refuse "")],defers:=[{ target:=.nil,args:=#[] }],mode:=.run,kind:=.normal }
theorem stop_ends (w:World):∃ o,step P (lone (stop P) [] w) = .ended o w:=⟨_,step_lone_ended rfl⟩
theorem stop_raised (ch:List PanicEntry) (w:World):∃ o,step P (lone ((stop P).raise ch) [] w) = .ended o w:=⟨_,step_lone_ended rfl⟩
theorem doomed_run {ch:List PanicEntry}:∀ (n:Nat) (fr:Frame) (az:List Frame) (w:World),DoomedBy P ch fr az → ∀ m,runN P n (lone fr (az ++ [stop P]) w) = .next m → ∃ fr' cs',m = lone fr' cs' w ∧ fr'.mode = .panicking ch
  | 0,fr,az,w,h,m,hm=>by
    simp only [runN,Stepped.next.injEq] at hm
    exact ⟨fr,_,hm.symm,h.1⟩
  | n + 1,fr,az,w,h,m,hm=>by
    obtain ⟨hch,hd,hf,has⟩:=h
    obtain ⟨fn,f1⟩:=hf
    have hstep:∀ x xs,az ++ [stop P] = x :: xs → step P (lone fr (az ++ [stop P]) w) = .next (lone (x.raise ch) xs w):=fun x xs e=>by
      rw [e]
      refine step_lone_go ?_
      simp only [stepG,unwind,hch,hd,Frame.catches,f1]
      rfl
    have hraise:∀ x:Frame,x.mode = .run → (x.raise ch).mode = .panicking ch ∧ (x.raise ch).defers = x.defers ∧ (x.raise ch).fn = x.fn:=fun x hx=>by
      unfold Frame.raise
      rw [hx]
      exact ⟨rfl,rfl,rfl⟩
    simp only [runN] at hm
    cases az with
    | nil =>
      rw [hstep (stop P) [] rfl] at hm
      simp only at hm
      cases n with
      | zero =>
        simp only [runN,Stepped.next.injEq] at hm
        exact ⟨_,_,hm.symm,(hraise _ rfl).1⟩
      | succ n =>
        obtain ⟨o,ho⟩:=stop_raised (P:=P) ch w
        simp only [runN,ho] at hm
        cases hm
    | cons x az =>
      rw [hstep x (az ++ [stop P]) rfl] at hm
      simp only at hm
      obtain ⟨x1,x2,x3⟩:=has x (by simp)
      obtain ⟨r1,r2,r3⟩:=hraise x x1
      exact doomed_run n (x.raise ch) az w ⟨r1,by rw [r2]; exact x2,by rw [r3]; exact x3,fun y hy=>has y (by simp [hy])⟩ m hm
theorem final_run {a:Frame} (hm:a.mode = .returning) (hd:a.defers = []) (hk:a.kind = .normal) (hf:∃ fn,P.funcs[a.fn]? = some fn):∀ (n:Nat) (w:World) (fr:Frame) (w':World),∀ (cs:List Frame),cs ≠ [] → runN P (n + 1) (lone a [stop P] w) ≠ .next (lone fr cs w'):=by
  intro n w fr w' cs hcs h
  obtain ⟨fn,f1⟩:=hf
  have hs:(∃ o w1,step P (lone a [stop P] w) = .ended o w1) ∨ ∃ w1,step P (lone a [stop P] w) = .next (lone (stop P) [] w1):=by
    cases hr:(results fn a.tmps).runT P w #[] with
    | mk r es =>
      cases r with
      | ok v w1=>exact .inr ⟨w1,step_lone_go (by simp only [stepG,unwind,hm,hd,f1,hr,doReturn,hk]; rfl)⟩
      | halt hh w1 =>
        refine .inl ?_
        cases hh <;> exact ⟨_,w1,step_lone_ended (by simp only [stepG,unwind,hm,hd,f1,hr]; rfl)⟩
  rcases hs with ⟨o,w1,hs⟩ | ⟨w1,hs⟩
  · simp only [runN,hs] at h
    cases h
  · simp only [runN,hs] at h
    cases n with
    | zero =>
      simp only [runN,Stepped.next.injEq] at h
      simp only [lone,Machine.mk.injEq] at h
      have hg:({ frame:=stop P,callers:=[],status:=.running,dying:=none }:Goroutine) = { frame:=fr,callers:=cs,status:=.running,dying:=none }:=by simpa using h.2.1
      simp only [Goroutine.mk.injEq] at hg
      exact hcs hg.2.1.symm
    | succ n =>
      obtain ⟨o,ho⟩:=stop_ends (P:=P) w1
      simp only [runN,ho] at h
      cases h
def Leaf (P:Program) (R:Value → World → Prop) (a:Frame) (az:List Frame) (w:World):Prop :=
  a.mode = .returning ∧ az = [] ∧ (a.defers = [] ∧ a.kind = .normal) ∧ ∃ fn T v,P.funcs[a.fn]? = some fn ∧ (results fn a.tmps).run P (taped w T) = .ok v (taped w T) ∧ R v (taped w T)
def Node (P:Program) (R:Value → World → Prop) (X:Frame → List Frame → World → Prop) (a:Frame) (az:List Frame) (w:World):Prop :=
  Leaf P R a az w ∨ (¬ (a.mode = .returning ∧ az = []) ∧ ∀ T,∃ a' as' w' es,stepG P true (gor a (az ++ [stop P])) (taped w T) = .go (gor a' (as' ++ [stop P])) w' es ∧ (a'.mode = .run ∨ a'.mode = .returning) ∧ X a' as' w')
def Tree (P:Program) (R:Value → World → Prop) (a:Frame) (az:List Frame) (w:World):Prop :=
  ∀ X:Frame → List Frame → World → Prop,(∀ a az w,Node P R X a az w → X a az w) → X a az w
theorem Tree.of {R:Value → World → Prop} {a:Frame} {az:List Frame} {w:World} (h:Node P R (Tree P R) a az w):Tree P R a az w:=fun X hX=>by
  refine hX _ _ _ (h.imp id fun ⟨h1,h2⟩=>⟨h1,fun T=>?_⟩)
  obtain ⟨a',as',w',es,h3,h4,h5⟩:=h2 T
  exact ⟨a',as',w',es,h3,h4,h5 X hX⟩
end
end Go.Proofs.YtojoafcnijajmaaGreatDoor

namespace Go.Proofs.YtojoafcnijajmaaGreatDoor
open Go
section
variable {P Q:Program} {K:Nat → Prop} {p:Nat → Nat → Prop} {C:Cfg}
structure StG where
  a:Frame
  az:List Frame
  w:World
def Comp (C:Cfg) (P:Program) (K:Nat → Prop) (s:StG):Prop:=∃ q b bs u,Live C P q s.a s.az b bs ∧ WR P.globals.size K q s.w u
def Fin (s:StG):Prop:=s.a.mode = .returning ∧ s.az = []
def Bad (C:Cfg) (P:Program) (K:Nat → Prop) (R:Value → World → Prop) (s:StG):Prop:=Comp C P K s ∧ ¬ Tree P R s.a s.az s.w
def stp (P:Program) (s:StG) (T:Nat → Question → Nat):GStep:=stepG P true (gor s.a (s.az ++ [stop P])) (taped s.w T)
def NRel (C:Cfg) (P:Program) (K:Nat → Prop) (R:Value → World → Prop) (s:StG) (T:Nat → Question → Nat) (s':StG):Prop :=
  s.w.drawn ≤ s'.w.drawn ∧ Bad C P K R s' ∧ ∀ T',(∀ j q,s.w.drawn ≤ j → j < s'.w.drawn → T' j q = T j q) → ∃ es,stp P s T' = .go (gor s'.a (s'.az ++ [stop P])) (taped s'.w T') es
def BRel (P:Program) (s:StG) (T:Nat → Question → Nat):Prop :=
  ∀ T',(∀ j q,s.w.drawn ≤ j → T' j q = T j q) → BadStep P (stp P s T') [stop P]
theorem taped_taped (w:World) (T T':Nat → Question → Nat):taped (taped w T) T' = taped w T':=rfl
theorem WR.tapes {G:Nat} {w u:World} (h:WR G K p w u) (T T':Nat → Question → Nat):WR G K p (taped w T) (taped u T'):=⟨h.fit,h.rows,h.kin,h.low,h.big⟩
theorem WR.follow {w u:World} (T:Nat → Question → Nat):TR (taped w T) (taped u fun j q=>T (w.drawn + (j - u.drawn)) q):=fun i q=>by
  show T (w.drawn + i) q = T (w.drawn + (u.drawn + i - u.drawn)) q
  rw [Nat.add_sub_cancel_left]
theorem bad_cases (hz:ZeroOk P) (hp:PlainBodies C P Q) (tw:Twin P Q) (hs0:C.sp = []) (hm0:∀ o,C.mark o = false) {R:Value → World → Prop} {s:StG} (h:Bad C P K R s):Fin s ∨ ∃ T,BRel P s T ∨ ∃ s',NRel C P K R s T s':=by
  classical
  obtain ⟨⟨q,b,bs,u,hl,hw⟩,hT⟩:=h
  by_cases hf:Fin s
  · exact .inl hf
  refine .inr ?_
  have hr:s.a.mode = .returning → s.az ≠ []:=fun h1 h2=>hf ⟨h1,h2⟩
  have hn:¬ ∀ T,∃ a' as' w' es,stepG P true (gor s.a (s.az ++ [stop P])) (taped s.w T) = .go (gor a' (as' ++ [stop P])) w' es ∧ (a'.mode = .run ∨ a'.mode = .returning) ∧ Tree P R a' as' w' :=
    fun h=>hT (Tree.of (.inr ⟨hf,h⟩))
  obtain ⟨T,hn⟩:=Classical.not_forall.1 hn
  refine ⟨T,?_⟩
  have hw':=hw.tapes T (fun j q=>T (s.w.drawn + (j - u.drawn)) q)
  have ht:=WR.follow (w:=s.w) (u:=u) T
  have hA:=step_alike (m:=true) (m':=true) (cs:=[stop P]) (ds:=[]) hz hp tw hl (fun _ ⟨_,_,_,_,o,_,_,_,h⟩=>by rw [hm0 o] at h; cases h) hr hw' ht
  have hL:=step_local (m:=true) (cs:=[stop P]) hz hp tw hl hr hw' ht
  rcases hA with hA | ⟨q',a',as',b',bs',w',u',es,new,e1,e2,hl',hw1,ht1,hg,_⟩ | ⟨_,f,_,_,_,_,_,_,_,_,_,_,_,hsp,_⟩
  · refine .inl fun T' hT'=>?_
    rcases hL with ⟨g,w',es,e1,d1,_,e2⟩ | ⟨o,w',es,e1,d1,_,e2⟩
    · have:=e2 T' fun j q x _=>hT' j q x
      rw [taped_taped] at this
      rcases hA with ⟨o,w2,es2,e3⟩ | ⟨fr,az,w2,es2,e3,hd⟩
      · cases e1.symm.trans e3
      · cases e1.symm.trans e3
        exact .inr ⟨fr,az,_,_,this,hd⟩
    · have:=e2 T' fun j q x _=>hT' j q x
      rw [taped_taped] at this
      exact .inl ⟨_,_,_,this⟩
  · refine .inr ⟨⟨a',as',w'⟩,?_⟩
    have hbad:Bad C P K R ⟨a',as',w'⟩:=⟨⟨q',b',bs',u',hl',hw1⟩,fun ht2=>hn ⟨a',as',w',es,e1,hl'.mode,ht2⟩⟩
    rcases hL with ⟨g,w2,es2,e3,d1,_,e4⟩ | ⟨o,w2,es2,e3,d1,_,e4⟩
    · cases e1.symm.trans e3
      exact ⟨d1,hbad,fun T' hT'=>⟨es,e4 T' hT'⟩⟩
    · cases e1.symm.trans e3
  · rw [hs0] at hsp; cases hsp
def iter (f:StG → StG) (s:StG):Nat → StG
  | 0=>s
  | k + 1=>f (iter f s k)
theorem tree_of_calls (hz:ZeroOk P) (hp:PlainBodies C P Q) (tw:Twin P Q) (hs0:C.sp = []) (hm0:∀ o,C.mark o = false) {R:Value → World → Prop} {f:FuncId} {args:Array Value} {w:World}
    (hc:Comp C P K ⟨Frame.enter P f args .normal,[],w⟩)
    (h:∀ T,Calls P f args (taped w T) fun | .returned v,w'=>R v w' | _,_=>False):Tree P R (Frame.enter P f args .normal) [] w:=by
  classical
  apply Classical.byContradiction
  intro hT
  have hch:∀ s:StG,∃ x:(Nat → Question → Nat) × StG,Bad C P K R s → Fin s ∨ BRel P s x.1 ∨ NRel C P K R s x.1 x.2:=by
    intro s
    by_cases hb:Bad C P K R s
    · rcases bad_cases hz hp tw hs0 hm0 hb with h1 | ⟨T,h1 | ⟨s',h1⟩⟩
      · exact ⟨⟨fun _ _=>0,s⟩,fun _=>.inl h1⟩
      · exact ⟨⟨T,s⟩,fun _=>.inr (.inl h1)⟩
      · exact ⟨⟨T,s'⟩,fun _=>.inr (.inr h1)⟩
    · exact ⟨⟨fun _ _=>0,s⟩,fun h=>absurd h hb⟩
  obtain ⟨F,hF⟩:=Classical.axiomOfChoice hch
  let s0:StG:=⟨Frame.enter P f args .normal,[],w⟩
  let sq:Nat → StG:=iter (fun s=>(F s).2) s0
  have sq0:sq 0 = s0:=rfl
  have sqS:∀ k,sq (k + 1) = (F (sq k)).2:=fun _=>rfl
  let N:Nat → Prop:=fun k=>NRel C P K R (sq k) (F (sq k)).1 (sq (k + 1))
  have hbad:∀ k,(∀ i,i < k → N i) → Bad C P K R (sq k):=by
    intro k hk
    cases k with
    | zero=>exact ⟨hc,hT⟩
    | succ k=>exact (hk k (Nat.lt_succ_self _)).2.1
  have hmono:∀ k i,i ≤ k → (∀ j,j < k → N j) → (sq i).w.drawn ≤ (sq k).w.drawn:=by
    intro k
    induction k with
    | zero => intro i hi _; obtain rfl : i = 0 := by omega
              exact Nat.le_refl _
    | succ k ih =>
      intro i hi hN
      by_cases hik:i = k + 1
      · rw [hik]; exact Nat.le_refl _
      · exact Nat.le_trans (ih i (by omega) fun j hj=>hN j (by omega)) (hN k (Nat.lt_succ_self _)).1
  let At:Nat → Nat → Prop:=fun j k=>(∀ i,i < k → N i ∧ (sq (i + 1)).w.drawn ≤ j) ∧ (N k → j < (sq (k + 1)).w.drawn)
  have hAt:∀ j k k',At j k → At j k' → k = k':=by
    intro j k k' h1 h2
    rcases Nat.lt_trichotomy k k' with hlt | heq | hlt
    · have:=h2.1 k hlt
      have:=h1.2 this.1
      omega
    · exact heq
    · have:=h1.1 k' hlt
      have:=h2.2 this.1
      omega
  let TT:Nat → Question → Nat:=fun j q=>if hx:∃ k,At j k then (F (sq (Classical.choose hx))).1 j q else 0
  have hTT:∀ j q k,At j k → TT j q = (F (sq k)).1 j q:=by
    intro j q k hk
    have hx:∃ k,At j k:=⟨k,hk⟩
    have e:Classical.choose hx = k:=hAt j _ _ (Classical.choose_spec hx) hk
    show (if hx:∃ k,At j k then (F (sq (Classical.choose hx))).1 j q else 0) = _
    rw [dif_pos hx,e]
  have hat:∀ k j,(∀ i,i < k → N i) → (sq k).w.drawn ≤ j → (N k → j < (sq (k + 1)).w.drawn) → At j k:=by
    intro k j hN hj hk
    exact ⟨fun i hi=>⟨hN i hi,Nat.le_trans (hmono k (i + 1) (by omega) hN) hj⟩,hk⟩
  have hrun:∀ k,(∀ i,i < k → N i) → runN P k (lone s0.a (s0.az ++ [stop P]) (taped s0.w TT)) = .next (lone (sq k).a ((sq k).az ++ [stop P]) (taped (sq k).w TT)):=by
    intro k
    induction k with
    | zero=>intro _; rfl
    | succ k ih =>
      intro hN
      have hk:=hN k (Nat.lt_succ_self _)
      obtain ⟨es,e1⟩:=hk.2.2 TT fun j q x y=>hTT j q k (hat k j (fun i hi=>hN i (by omega)) x fun _=>y)
      rw [runN_add,ih fun i hi=>hN i (by omega)]
      have e2:step P (lone (sq k).a ((sq k).az ++ [stop P]) (taped (sq k).w TT)) = .next (lone (sq (k + 1)).a ((sq (k + 1)).az ++ [stop P]) (taped (sq (k + 1)).w TT)):=by
        refine step_lone_go ?_
        have e3:stepG P true (gor (sq k).a ((sq k).az ++ [stop P])) (taped (sq k).w TT) = _:=e1
        rw [e3]
        rfl
      simp only [runN,e2]
  obtain ⟨e,w',fr,hR,hcomes,hfn,hleave⟩:=h TT [stop P]
  cases e with
  | panicked ch=>exact hR
  | outgrown=>exact hR
  | returned v =>
    obtain ⟨n,hn⟩ : ∃ n,runN P n (lone s0.a (s0.az ++ [stop P]) (taped s0.w TT)) = .next (lone fr [stop P] w'):=hcomes
    obtain ⟨hmode,hdef,hkind,fnn,hfnn,hres⟩:=hleave
    have key:(∀ i,i < n → N i) ∨ ∃ k,k < n ∧ (∀ i,i < k → N i) ∧ ¬ N k:=by
      have:∀ m,m ≤ n → (∀ i,i < m → N i) ∨ ∃ k,k < n ∧ (∀ i,i < k → N i) ∧ ¬ N k:=by
        intro m
        induction m with
        | zero=>intro _; exact .inl fun i hi=>absurd hi (Nat.not_lt_zero _)
        | succ m ih =>
          intro hm
          rcases ih (by omega) with h1 | h1
          · by_cases hNm:N m
            · refine .inl fun i hi=>?_
              rcases Nat.lt_succ_iff_lt_or_eq.1 hi with hi | rfl
              · exact h1 i hi
              · exact hNm
            · exact .inr ⟨m,by omega,h1,hNm⟩
          · exact .inr h1
      exact this n (Nat.le_refl _)
    rcases key with hall | ⟨k,hk,hall,hnk⟩
    · have e1:=hrun n hall
      rw [hn] at e1
      have e2:fr = (sq n).a ∧ [stop P] = (sq n).az ++ [stop P] ∧ w' = taped (sq n).w TT:=by
        simp only [lone,Stepped.next.injEq,Machine.mk.injEq] at e1
        obtain ⟨x1,x2,_⟩:=e1
        have x3:({ frame:=fr,callers:=[stop P],status:=.running,dying:=none }:Goroutine) = { frame:=(sq n).a,callers:=(sq n).az ++ [stop P],status:=.running,dying:=none }:=by simpa using x2
        simp only [Goroutine.mk.injEq] at x3
        exact ⟨x3.1,x3.2.1,x1⟩
      obtain ⟨rfl,e3,rfl⟩:=e2
      have e4:(sq n).az = []:=by
        cases hs:(sq n).az with
        | nil=>rfl
        | cons x xs =>
          rw [hs] at e3
          have:=congrArg List.length e3
          simp at this
      refine (hbad n hall).2 (Tree.of (.inl ⟨hmode,e4,⟨hdef,hkind⟩,fnn,TT,v,hfnn,hres,hR⟩))
    · have e1:=hrun k hall
      obtain ⟨d,rfl⟩ : ∃ d,n = k + (d + 1):=⟨n - k - 1,by omega⟩
      rw [runN_add,e1] at hn
      simp only at hn
      have hb:=hbad k hall
      obtain ⟨⟨q,b,bs,u,hl,_⟩,_⟩:=hb
      rcases hF (sq k) (hbad k hall) with h1 | h1 | h1
      · have hm1:(sq k).a.mode = .returning:=h1.1
        rw [h1.2] at hn
        exact final_run hm1 hl.fr.da hl.fr.ka hl.fr.known d _ _ _ _ (by simp) hn
      · have hx:BadStep P (stp P (sq k) TT) [stop P]:=h1 TT fun j q x=>hTT j q k (hat k j hall x fun hh=>absurd hh hnk)
        rcases hx with ⟨o,w1,es,h2⟩ | ⟨fr',as',w1,es,h2,hd⟩
        · have:step P (lone (sq k).a ((sq k).az ++ [stop P]) (taped (sq k).w TT)) = .ended o w1:=by
            refine step_lone_ended ?_
            have e3:stepG P true (gor (sq k).a ((sq k).az ++ [stop P])) (taped (sq k).w TT) = _:=h2
            rw [e3]; rfl
          simp only [runN,this] at hn
          cases hn
        · have:step P (lone (sq k).a ((sq k).az ++ [stop P]) (taped (sq k).w TT)) = .next (lone fr' (as' ++ [stop P]) w1):=by
            refine step_lone_go ?_
            have e3:stepG P true (gor (sq k).a ((sq k).az ++ [stop P])) (taped (sq k).w TT) = _:=h2
            rw [e3]; rfl
          simp only [runN,this] at hn
          obtain ⟨ch,_,hd⟩:=hd
          obtain ⟨fr2,cs2,e4,hch⟩:=doomed_run d fr' as' w1 hd _ hn
          simp only [lone,Machine.mk.injEq] at e4
          have x3:({ frame:=fr,callers:=[stop P],status:=.running,dying:=none }:Goroutine) = { frame:=fr2,callers:=cs2,status:=.running,dying:=none }:=by simpa using e4.2.1
          cases x3
          rw [hmode] at hch
          cases hch
      · exact hnk h1
end
end Go.Proofs.YtojoafcnijajmaaGreatDoor

namespace Go.Proofs.YtojoafcnijajmaaGreatDoor
open Go
section
variable {P Q:Program} {K:Nat → Prop} {p:Nat → Nat → Prop} {C:Cfg}
structure Rely (K M:Nat → Prop) (u u₁:World):Prop where
  tape:u₁.tape = u.tape
  os:u₁.os = u.os
  output:u₁.output = u.output
  size:u.heap.size ≤ u₁.heap.size
  keep:∀ c,(M c ∨ K c) → c < u.heap.size → u₁.heap[c]? = u.heap[c]?
theorem Rely.refl (K M:Nat → Prop) (u:World):Rely K M u u:=⟨rfl,rfl,rfl,Nat.le_refl _,fun _ _ _=>rfl⟩
theorem Rely.trans {K M:Nat → Prop} {u v w:World} (h:Rely K M u v) (k:Rely K M v w):Rely K M u w :=
  ⟨k.tape.trans h.tape,k.os.trans h.os,k.output.trans h.output,Nat.le_trans h.size k.size,fun c hc hl=>(k.keep c hc (Nat.lt_of_lt_of_le hl h.size)).trans (h.keep c hc hl)⟩
theorem Rely.mono {K M N:Nat → Prop} {u v:World} (h:Rely K N u v) (hm:∀ c,M c → N c):Rely K M u v:=⟨h.tape,h.os,h.output,h.size,fun c hc=>h.keep c (hc.imp (hm c) id)⟩
theorem Rely.monoK {K K' M:Nat → Prop} {u v:World} (h:Rely K' M u v) (hk:∀ c,K c → K' c):Rely K M u v:=⟨h.tape,h.os,h.output,h.size,fun c hc=>h.keep c (hc.imp id (hk c))⟩
def Grow (M:Nat → Prop) (u u':World):Nat → Prop:=fun c=>M c ∨ (u.heap.size ≤ c ∧ c < u'.heap.size)
def EvM (K M:Nat → Prop) (e:Event):Prop :=
  (∃ c,(e.loc = .obj c ∨ ∃ a,e.loc = .cell a ∧ a.block = c) ∧ e.sync = false ∧ (M c ∨ (K c ∧ e.write = false))) ∨ e = ⟨.mark .noRoom,false,true⟩
structure Does (K M:Nat → Prop) (u u':World) (es:Array Event):Prop where
  tape:u'.tape = u.tape
  os:u'.os = u.os
  output:u'.output = u.output
  size:u.heap.size ≤ u'.heap.size
  keep:∀ c,c < u.heap.size → ¬ M c → u'.heap[c]? = u.heap[c]?
  evs:∀ e ∈ es,EvM K (Grow M u u') e
theorem Does.monoK {K K' M:Nat → Prop} {u u':World} {es:Array Event} (h:Does K M u u' es) (hk:∀ c,K c → K' c):Does K' M u u' es :=
  ⟨h.tape,h.os,h.output,h.size,h.keep,fun e he=>(h.evs e he).imp (fun ⟨c,h1,h2,h3⟩=>⟨c,h1,h2,h3.imp id fun x=>⟨hk c x.1,x.2⟩⟩) id⟩
def Owned (P:Program) (main:Bool) (K:Nat → Prop) (S:Goroutine → World → (Nat → Prop) → Prop) (g:Goroutine) (u:World) (M:Nat → Prop):Prop :=
  ∀ X:Goroutine → World → (Nat → Prop) → Prop,
    (∀ g u M,((∀ u₁,Rely K M u u₁ → S g u₁ M) ∨ (g.status = .running ∧ ∀ u₁,Rely K M u u₁ → ∃ g' u' es,stepG P main g u₁ = .go g' u' es ∧ Does K M u₁ u' es ∧ X g' u' (Grow M u₁ u'))) → X g u M) → X g u M
section
variable {main:Bool} {S:Goroutine → World → (Nat → Prop) → Prop} {g:Goroutine} {u:World} {M:Nat → Prop}
theorem Owned.stop (h:∀ u₁,Rely K M u u₁ → S g u₁ M):Owned P main K S g u M:=fun X hX=>hX _ _ _ (.inl h)
theorem Owned.step (hs:g.status = .running) (h:∀ u₁,Rely K M u u₁ → ∃ g' u' es,stepG P main g u₁ = .go g' u' es ∧ Does K M u₁ u' es ∧ Owned P main K S g' u' (Grow M u₁ u')):Owned P main K S g u M:=fun X hX =>
  hX _ _ _ (.inr ⟨hs,fun u₁ h₁=>let ⟨g',u',es,a,b,c⟩:=h u₁ h₁; ⟨g',u',es,a,b,c X hX⟩⟩)
theorem Owned.cases (h:Owned P main K S g u M):(∀ u₁,Rely K M u u₁ → S g u₁ M) ∨ (g.status = .running ∧ ∀ u₁,Rely K M u u₁ → ∃ g' u' es,stepG P main g u₁ = .go g' u' es ∧ Does K M u₁ u' es ∧ Owned P main K S g' u' (Grow M u₁ u')):=by
  refine h (fun g u M=>(∀ u₁,Rely K M u u₁ → S g u₁ M) ∨ (g.status = .running ∧ ∀ u₁,Rely K M u u₁ → ∃ g' u' es,stepG P main g u₁ = .go g' u' es ∧ Does K M u₁ u' es ∧ Owned P main K S g' u' (Grow M u₁ u'))) ?_
  intro g u M hn
  refine hn.imp id fun ⟨hs,hn⟩=>⟨hs,fun u₁ h₁=>?_⟩
  obtain ⟨g',u',es,a,b,c⟩:=hn u₁ h₁
  exact ⟨g',u',es,a,b,c.elim Owned.stop fun ⟨x,y⟩=>Owned.step x y⟩
theorem Owned.rely {u':World} (h:Owned P main K S g u M) (hr:Rely K M u u'):Owned P main K S g u' M:=by
  rcases h.cases with h | ⟨hs,h⟩
  · exact Owned.stop fun u₁ h₁=>h u₁ (hr.trans h₁)
  · exact Owned.step hs fun u₁ h₁=>h u₁ (hr.trans h₁)
end
theorem WR.rely {G:Nat} {w u u₁:World} {M:Nat → Prop} (h:WR G K p w u) (hM:∀ b c,p b c → ¬ K c → M c) (hr:Rely K M u u₁):WR G K p w u₁:=by
  classical
  refine ⟨h.fit,fun b c hbc=>?_,h.kin,h.low,⟨h.big.1,Nat.le_trans h.big.2 hr.size⟩⟩
  have hlt:=(h.lt hbc).2
  have hk:u₁.heap[c]? = u.heap[c]?:=hr.keep c (by
    by_cases hK:K c
    · exact .inr hK
    · exact .inl (hM b c hbc hK)) hlt
  obtain ⟨xs,ys,e,f,g,h1,h2,h3⟩ | ⟨a,a',l,h1,h2,h3⟩:=h.rows b c hbc
  · exact .inl ⟨xs,ys,e,f,g,h1,hk.trans h2,h3⟩
  · exact .inr ⟨a,a',l,h1,hk.trans h2,h3⟩
theorem does_of {q:Nat → Nat → Prop} {M:Nat → Prop} {w' u u':World} {es:Array Event} (hM:∀ b c,p b c → ¬ K c → M c) (hw:WR P.globals.size K q w' u') (hg:Guar K p q u u') (he:∀ e ∈ es,EvOk K q e) :
    Does K M u u' es ∧ ∀ b c,q b c → ¬ K c → Grow M u u' c:=by
  classical
  have hq:∀ b c,q b c → ¬ K c → Grow M u u' c:=fun b c hqc hK=>by
    by_cases hp:p b c
    · exact .inl (hM b c hp hK)
    · exact .inr ⟨hg.fresh b c hqc hp,(hw.lt hqc).2⟩
  refine ⟨⟨hg.tape,hg.os,hg.output,hg.size,fun c hc hm=>hg.keep c hc fun b hb=>?_,fun e hm=>?_⟩,hq⟩
  · apply Classical.byContradiction
    intro hK
    exact hm (hM b c hb hK)
  · rcases he e hm with ⟨c,b,h1,h2,h3,h4⟩ | h1
    · refine .inl ⟨c,h1,h3,?_⟩
      by_cases hK:K c
      · refine .inr ⟨hK,?_⟩
        cases hx:e.write with
        | false=>rfl
        | true=>exact absurd hK (h4 hx)
      · exact .inl (hq b c h2 hK)
    · exact .inr h1
theorem Tree.step {R:Value → World → Prop} {a:Frame} {az:List Frame} {w:World} (h:Tree P R a az w):Node P R (Tree P R) a az w:=by
  refine h (fun a az w=>Node P R (Tree P R) a az w) fun a az w hn=>hn.imp id fun ⟨h1,h2⟩=>⟨h1,fun T=>?_⟩
  obtain ⟨a',as',w',es,e1,e2,e3⟩:=h2 T
  exact ⟨a',as',w',es,e1,e2,Tree.of e3⟩
theorem owned_of_tree {K':Nat → Prop} (hKK:∀ c,K c → K' c) (hz:ZeroOk P) (hp:PlainBodies C P Q) (tw:Twin P Q) (hs0:C.sp = []) {R:Value → World → Prop} {main:Bool} {S:Goroutine → World → (Nat → Prop) → Prop} {cs:List Frame} {p₀:Nat → Nat → Prop} {M₀:Nat → Prop} {Iv:World → (Nat → Prop) → Prop} (hIr:∀ u u₁ M,Iv u M → Rely K' M u u₁ → Iv u₁ M) (hId:∀ u u' M es,Iv u M → Does K' M u u' es → Iv u' (Grow M u u'))
    (hend:∀ (p:Nat → Nat → Prop) (a b:Frame) (w u:World) (M:Nat → Prop),Live C P p a [] b [] → WR P.globals.size K p w u → (∀ b c,p b c → ¬ K c → M c) → Ext p₀ p → (∀ x,M₀ x → M x) → Iv u M → Leaf P R a [] w → Owned Q main K' S (gor b cs) u M)
    (hmk:∀ (p:Nat → Nat → Prop) (a b:Frame) (az bs:List Frame) (w u:World) (M:Nat → Prop),a.mode = .run → Marked C a → Tree P R a az w →
      (∀ T,∃ a' as' w' es,stepG P true (gor a (az ++ [stop P])) (taped w T) = .go (gor a' (as' ++ [stop P])) w' es ∧ (a'.mode = .run ∨ a'.mode = .returning) ∧ Tree P R a' as' w' ∧
        ∀ (p:Nat → Nat → Prop) (b:Frame) (bs:List Frame) (u:World) (M:Nat → Prop),Live C P p a' as' b bs → WR P.globals.size K p w' u → (∀ b c,p b c → ¬ K c → M c) → Ext p₀ p → (∀ x,M₀ x → M x) → Iv u M → Owned Q main K' S (gor b (bs ++ cs)) u M) → Live C P p a az b bs → WR P.globals.size K p w u → (∀ b c,p b c → ¬ K c → M c) → Ext p₀ p → (∀ x,M₀ x → M x) → Iv u M → Owned Q main K' S (gor b (bs ++ cs)) u M)
    {a:Frame} {az:List Frame} {w:World} (ht:Tree P R a az w) :
    ∀ (p:Nat → Nat → Prop) (b:Frame) (bs:List Frame) (u:World) (M:Nat → Prop),Live C P p a az b bs → WR P.globals.size K p w u → (∀ b c,p b c → ¬ K c → M c) → Ext p₀ p → (∀ x,M₀ x → M x) → Iv u M →
      Owned Q main K' S (gor b (bs ++ cs)) u M:=by
  classical
  refine ht (fun a az w=>Tree P R a az w ∧ ∀ (p:Nat → Nat → Prop) (b:Frame) (bs:List Frame) (u:World) (M:Nat → Prop),Live C P p a az b bs → WR P.globals.size K p w u → (∀ b c,p b c → ¬ K c → M c) → Ext p₀ p → (∀ x,M₀ x → M x) → Iv u M →
      Owned Q main K' S (gor b (bs ++ cs)) u M) ?_ |>.2
  intro a az w hn0
  have hTree:Tree P R a az w:=Tree.of (hn0.imp id fun ⟨h1,h2⟩=>⟨h1,fun T=>let ⟨a',as',w',es,e1,e2,e3⟩:=h2 T; ⟨a',as',w',es,e1,e2,e3.1⟩⟩)
  refine ⟨hTree,fun p b bs u M hl hw hM hE hM0 hI=>?_⟩
  by_cases hmark:a.mode = .run ∧ Marked C a
  · rcases hn0 with ⟨h1,_⟩ | ⟨_,hn⟩
    · rw [hmark.1] at h1; cases h1
    exact hmk p a b az bs w u M hmark.1 hmark.2 hTree hn hl hw hM hE hM0 hI
  rcases hn0 with hlf | ⟨hnf,hn⟩
  · obtain rfl:=hlf.2.1
    cases bs with
    | cons x xs=>exact hl.cs.elim
    | nil=>exact hend p a b w u M hl hw hM hE hM0 hI hlf
  refine Owned.step rfl fun u₁ h₁=>?_
  have hw1:=hw.rely hM (h₁.monoK hKK)
  have hr:a.mode = .returning → az ≠ []:=fun h1 h2=>hnf ⟨h1,h2⟩
  let T':Nat → Question → Nat:=fun j q=>u₁.tape (u₁.drawn + (j - w.drawn)) q
  have htr:TR (taped w T') u₁:=fun i q=>by
    show u₁.tape (u₁.drawn + (w.drawn + i - w.drawn)) q = _
    rw [Nat.add_sub_cancel_left]
  have hw2:WR P.globals.size K p (taped w T') u₁:=hw1.tapes T' u₁.tape
  obtain ⟨a',as',w',es,e1,hmode,hX⟩:=hn T'
  rcases step_alike (m:=true) (m':=main) (cs:=[stop P]) (ds:=cs) hz hp tw hl (fun h1 h2=>hmark ⟨h1,h2⟩) hr hw2 htr with hA | ⟨q',a2,as2,b',bs',w2,u',es2,new,e2,e3,hl',hw',ht',hg,he⟩ | ⟨_,f,_,_,_,_,_,_,_,_,_,_,_,hsp,_⟩
  · rcases hA with ⟨o,w3,es3,e4⟩ | ⟨fr,as3,w3,es3,e4,ch,_,hch,_⟩
    · rw [e1] at e4; cases e4
    · rw [e1] at e4
      simp only [GStep.go.injEq,Goroutine.mk.injEq] at e4
      rw [e4.1.1,hch] at hmode
      rcases hmode with h | h <;> cases h
  · rw [e1] at e2
    simp only [GStep.go.injEq,Goroutine.mk.injEq] at e2
    obtain ⟨⟨rfl,e5,_⟩,rfl,rfl⟩:=e2
    obtain rfl:as' = as2:=List.append_cancel_right e5
    obtain ⟨hd,hMq⟩:=does_of hM hw' hg he
    exact ⟨_,u',new,e3,hd.monoK hKK,hX.2 q' b' bs' u' _ hl' hw' hMq (hE.trans hg.ext) (fun x hx=>.inl (hM0 x hx)) (hId _ _ _ _ (hIr _ _ _ hI h₁) (hd.monoK hKK))⟩
  · rw [hs0] at hsp; cases hsp
end
end Go.Proofs.YtojoafcnijajmaaGreatDoor

namespace Go.Proofs.YtojoafcnijajmaaGreatDoor
open Go
section
variable (T:Tables) (f g:Array Func)
theorem same_underlying (t:TypeId):(Program.mk T g).underlying t = (Program.mk T f).underlying t:=rfl
theorem same_depth:(Program.mk T g).depth = (Program.mk T f).depth:=rfl
theorem same_byteOfCell:∀ (d:Nat) (t:TypeId) (o:Nat),byteOfCell (Program.mk T g) d t o = byteOfCell (Program.mk T f) d t o
  | 0,_,_=>rfl
  | d + 1,t,o=>by
    unfold byteOfCell
    rw [same_underlying T f g]
    simp only [same_byteOfCell d]
    rfl
theorem same_cellOfByte:∀ (d:Nat) (t:TypeId) (o:Nat),cellOfByte (Program.mk T g) d t o = cellOfByte (Program.mk T f) d t o
  | 0,_,_=>rfl
  | d + 1,t,o=>by
    unfold cellOfByte
    rw [same_underlying T f g]
    simp only [same_cellOfByte d]
    rfl
theorem same_cellAtBytes (d:Nat):cellAtBytes (Program.mk T g) d = cellAtBytes (Program.mk T f) d:=by
  funext e c o b
  unfold cellAtBytes
  simp only [same_byteOfCell T f g,same_cellOfByte T f g]
  rfl
theorem same_eqGuardType:∀ (d:Nat) (t:TypeId),(Program.mk T g).eqGuardType d t = (Program.mk T f).eqGuardType d t
  | 0,_=>rfl
  | d + 1,t=>by
    unfold Program.eqGuardType
    rw [same_underlying T f g]
    simp only [same_eqGuardType d]
theorem same_alike:∀ (d:Nat) (t u:TypeId),(Program.mk T g).alikeButTags d t u = (Program.mk T f).alikeButTags d t u
  | 0,_,_=>rfl
  | d + 1,t,u=>by
    unfold Program.alikeButTags
    simp only [same_alike d]
theorem same_stoodInAs (t:TypeId):(Program.mk T g).stoodInAs t = (Program.mk T f).stoodInAs t:=by
  unfold Program.stoodInAs
  rw [same_underlying T f g,same_depth T f g]
  simp only [same_alike T f g]
  rfl
theorem same_stoodInHeld (t:TypeId):(Program.mk T g).stoodInHeld t = (Program.mk T f).stoodInHeld t:=by
  unfold Program.stoodInHeld
  rw [same_stoodInAs T f g]
theorem twin_of_tables:Twin (Program.mk T f) (Program.mk T g) where
  underlying _:=rfl
  info _:=rfl
  globals:=rfl
  cellsOf:=rfl
  bytesOf:=rfl
  byteOfCell:=by funext t o; exact same_byteOfCell T f g _ t o
  cellAtBytes:=same_cellAtBytes T f g _
  stoodInHeld:=by funext t; exact same_stoodInHeld T f g t
  eqGuardType:=by funext t; exact same_eqGuardType T f g _ t
  mixed:=rfl
end
end Go.Proofs.YtojoafcnijajmaaGreatDoor

namespace Go.Proofs.YtojoafcnijajmaaGreatDoor
open Go
def opOf (dst:Option Nat) (op:Op):Oper:={ dst:=dst,op:=op,type:=0,pos := "",after:=#[],guard:=none }
def callOf (g:Nat) (args:Array Operand):Op:=.call { callee:=.value (.func g),args:=args,argTypes:=#[] }
def shut (f:Func):Func:={ f with body:=some (.exit 0) }
def flag (n:Int):Op:=.move (.const (.int .i64 (160160160160000 + n)))
def hands (l:List Oper):List Oper :=
  match l with
  | [a,b,c,d,e,f,g,h]=>[{ a with op:=flag 0 },b,c,d,e,f,{ g with op:=flag 6 },{ h with op:=flag 7 }]
  | l=>l
def workerBody (c:Code):Code :=
  match c with
  | .seq _ (.seq r1 (.seq r2 (.region n ops d)))=>.seq r1 (.seq r2 (.region n (hands ops.toList).toArray d))
  | c=>c
def workerS (f:Func):Func:={ f with body:=f.body.map workerBody,results:=#[.tmp 24,.tmp 20,.tmp 25] }
def coin (n t:Nat):Code:=.region n #[opOf (some t) (.move (.const (.bool true))),opOf (some t) (.move (.const (.bool false)))] true
def judgeBody (al:Nat) (c:Code):Code :=
  match c with
  | .seq r0 (.seq r1 (.seq r2 (.seq (.seq r3 (.block i0 (.loop (.seq r4 (.seq c1 (.seq (.block i1 (.seq r5 (.seq (.seq r6 c2) (.seq _ _)))) r9)))))) (.seq _ (.seq r11 .ret))))) =>
    .seq (coin 90 22) (.seq (.cond (.tmp 22) (.region 91 #[opOf none (callOf al #[.tmp 0])] false) .skip)
      (.seq (coin 92 23) (.seq (.cond (.tmp 23) (.region 93 #[opOf none (callOf (al + 1) #[.tmp 1])] false) .skip)
        (.seq r0 (.seq r1 (.seq r2 (.seq (.seq r3 (.block i0 (.loop (.seq r4 (.seq c1 (.seq (.block i1 (.seq r5 (.seq (.seq r6 c2)
          (.region 94 #[opOf (some 24) (callOf 52 #[.tmp 6,.tmp 2,.tmp 7,.tmp 8,.tmp 5]),opOf (some 25) (.extract (.tmp 24) 0),opOf (some 26) (.extract (.tmp 24) 1),opOf (some 27) (.indexAddr 82 (.tmp 9) (.tmp 26)),opOf none (.store 86 (.tmp 27) (.tmp 25))] false)))) r9))))))
          (.seq r11 .ret))))))))
  | c=>c
def judgeS (al:Nat) (f:Func):Func:={ f with body:=f.body.map (judgeBody al),ntmps:=28 }
def alarm (t:TypeId) (name:String):Func :=
  { name:=name,origin := "",params:=#[t],resultTypes:=#[],nfree:=0,ntmps:=2,results:=#[],norace:=false,
    body:=some (.region 0 #[opOf (some 1) (.makeInterface t (.tmp 0)),opOf none (.panic (.tmp 1))] false),tmpNames:=#[] }
def alarmBox (t:TypeId) (name:String):Func :=
  { name:=name,origin := "",params:=#[t],resultTypes:=#[],nfree:=0,ntmps:=3,results:=#[],norace:=false,
    body:=some (.region 0 #[opOf (some 1) (.box t (.tmp 0)),opOf (some 2) (.makeInterface t (.tmp 1)),opOf none (.panic (.tmp 2))] false),tmpNames:=#[] }
def swap (shutL:List Nat) (al n:Nat) (f:Func):Func:=if n = 22 then judgeS al f else if n = 52 then workerS f else if shutL.contains n then shut f else f
def patch (shutL:List Nat) (P:Program):Program :=
  { P with funcs:=((P.funcs.mapIdx (swap shutL P.funcs.size)).push (alarm 34 "alarm")).push (alarmBox 40 "alarm2") }
section
variable (L:List Nat) (P:Program)
theorem patch_func {n:Nat} {f:Func} (h:P.funcs[n]? = some f):(patch L P).funcs[n]? = some (swap L P.funcs.size n f):=by
  have hn:n < P.funcs.size:=(Array.getElem?_eq_some_iff.1 h).1
  show (((P.funcs.mapIdx (swap L P.funcs.size)).push _).push _)[n]? = _
  rw [Array.getElem?_push,if_neg (by simp; omega),Array.getElem?_push,if_neg (by simp; omega),Array.getElem?_mapIdx,h]
  rfl
theorem patch_alarm:(patch L P).funcs[P.funcs.size]? = some (alarm 34 "alarm"):=by
  show (((P.funcs.mapIdx (swap L P.funcs.size)).push _).push _)[P.funcs.size]? = _
  rw [Array.getElem?_push,if_neg (by simp),Array.getElem?_push,if_pos (by simp)]
theorem patch_alarm2:(patch L P).funcs[P.funcs.size + 1]? = some (alarmBox 40 "alarm2"):=by
  show (((P.funcs.mapIdx (swap L P.funcs.size)).push _).push _)[P.funcs.size + 1]? = _
  rw [Array.getElem?_push,if_pos (by simp)]
theorem patch_twin:Twin (patch L P) P:=twin_of_tables P.toTables _ P.funcs
theorem patch_twin':Twin (patch L P) (patch L P):=twin_of_tables P.toTables _ _
theorem pf {L:List Nat} {P:Program} {n:Nat} {f:Func} (h:P.funcs[n]? = some f) (hs:(n == 22 || n == 52 || L.contains n) = false):(patch L P).funcs[n]? = some f:=by
  rw [patch_func L P h]
  unfold swap
  simp only [Bool.or_eq_false_iff,beq_eq_false_iff_ne] at hs
  rw [if_neg hs.1.1,if_neg hs.1.2,hs.2]
  rfl
theorem swap_name (L:List Nat) (al n:Nat) (f:Func):(swap L al n f).name = f.name:=by
  unfold swap
  split
  · rfl
  · split
    · rfl
    · split <;> rfl
theorem swap_body {L:List Nat} {al n:Nat} {f:Func} (h:f.body.isNone = false):(swap L al n f).body.isNone = false:=by
  unfold swap
  split
  · simpa [judgeS] using h
  · split
    · simpa [workerS] using h
    · split
      · rfl
      · exact h
theorem patch_enter {L:List Nat} {P:Program} {n:Nat} {f:Func} (h:P.funcs[n]? = some f) (hn:(f.name == "runtime.NumGoroutine") = false) (hb:f.body.isNone = false) (args:Array Value) (w:World) :
    Sem.run (patch L P) (callFunc n args) w = .ok (.enter n args) w:=by
  have e1:=swap_name L P.funcs.size n f
  have e2:=swap_body (L:=L) (al:=P.funcs.size) (n:=n) hb
  simp only [callFunc,Sem.run_bind,run_program,Result.andThen_ok,patch_func L P h,e1,hn,e2,Bool.false_eq_true,if_false]
  simp
@[go_sem] theorem patch_underlying (t:TypeId):(patch L P).underlying t = P.underlying t:=rfl
@[go_sem] theorem patch_info (t:TypeId):(patch L P).info? t = P.info? t:=rfl
@[go_sem] theorem patch_types:(patch L P).types = P.types:=rfl
@[go_sem ↓] theorem patch_typeAt (t:Nat):(patch L P).types[t]? = P.types[t]?:=rfl
@[go_sem] theorem patch_globals:(patch L P).globals = P.globals:=rfl
@[go_sem] theorem patch_depth:(patch L P).depth = P.depth:=rfl
@[go_sem] theorem patch_eqGuardType (d t:Nat):(patch L P).eqGuardType d t = P.eqGuardType d t:=same_eqGuardType P.toTables P.funcs _ d t
@[go_sem] theorem patch_stoodInHeld (t:TypeId):(patch L P).stoodInHeld t = P.stoodInHeld t:=same_stoodInHeld P.toTables P.funcs _ t
@[go_sem] theorem patch_runUnderlying (t:TypeId) (w:World):Sem.run (patch L P) (underlying t) w = Sem.run P (underlying t) w:=by
  simp only [underlying,Sem.run_bind,run_program,Result.andThen_ok,patch_underlying]
  cases P.underlying t <;> simp [stuck]
@[go_sem] theorem patch_typeInfo (t:TypeId) (w:World):Sem.run (patch L P) (typeInfo t) w = Sem.run P (typeInfo t) w:=by
  simp only [typeInfo,Sem.run_bind,run_program,Result.andThen_ok,patch_info]
  cases P.info? t <;> simp [stuck]
@[go_sem] theorem patch_sizeOf (t:TypeId) (w:World):Sem.run (patch L P) (Go.sizeOf t) w = Sem.run P (Go.sizeOf t) w:=by
  simp only [Go.sizeOf,Sem.run_bind,patch_typeInfo]
  cases Sem.run P (typeInfo t) w <;> simp
@[go_sem] theorem patch_zeroValue (t:TypeId) (w:World):Sem.run (patch L P) (zeroValue t) w = Sem.run P (zeroValue t) w:=by
  simp only [zeroValue,Sem.run_bind,patch_typeInfo]
  cases Sem.run P (typeInfo t) w with
  | halt h w=>simp
  | ok i w=>simp only [Result.andThen]; cases i.zero <;> simp [unsupported]
@[go_sem] theorem patch_isAgg (t:TypeId) (w:World):Sem.run (patch L P) (isAgg t) w = Sem.run P (isAgg t) w:=by
  simp only [isAgg,Sem.run_bind,patch_runUnderlying]
  cases Sem.run P (underlying t) w with
  | halt h w=>simp
  | ok i w=>simp only [Result.andThen]; cases i <;> simp
end
end Go.Proofs.YtojoafcnijajmaaGreatDoor
