/- Part 18 of the proof that Devices answers true and leaves its input as it was, for input of bulk at most the bound of its row: WK XT Y1. -/
import Derived.Test.YtojoafcnijajmaaGreatDoorT17
import Derived.Test.YtojoafcnijajmaaGreatDoorT16
set_option linter.unusedVariables false
namespace Go.Proofs.YtojoafcnijajmaaGreatDoor
open Go
section
variable {P:Program} {C0:Cfg} {R:Value → World → Prop} {J:FuncId → Array Value → World → Prop}
theorem treeJ_go2 {a a':Frame} {az as':List Frame} {w w':World} {es:Array Event} (T:Nat → Question → Nat) (h:TreeJ P C0 R J a az w) (hm:a.mode = .run) (hn:∀ f x,f ∈ C0.sp → a' ≠ Frame.enter P f x .normal)
    (hs:stepG P true (gor a (az ++ [stop P])) (taped w T) = .go (gor a' (as' ++ [stop P])) w' es):TreeJ P C0 R J a' as' w' ∧ (a'.mode = .run ∨ a'.mode = .returning):=by
  rcases h.step with h1 | ⟨_,h1⟩
  · rw [h1.1] at hm; cases hm
  · rcases h1 T with ⟨a2,as2,w2,es2,e1,em,e3⟩ | ⟨f,x,as2,w2,es2,hf,e1,_⟩
    · rw [hs] at e1
      simp only [GStep.go.injEq,Goroutine.mk.injEq] at e1
      obtain ⟨⟨rfl,e4,_⟩,rfl,_⟩:=e1
      rw [List.append_cancel_right e4]
      exact ⟨e3,em⟩
    · rw [hs] at e1
      simp only [GStep.go.injEq,Goroutine.mk.injEq] at e1
      exact absurd e1.1.1 (hn f x hf)
theorem treeJ_go {a a':Frame} {az as':List Frame} {w w':World} {es:Array Event} (T:Nat → Question → Nat) (h:TreeJ P C0 R J a az w) (hm:a.mode = .run) (hn:∀ f x,f ∈ C0.sp → a' ≠ Frame.enter P f x .normal)
    (hs:stepG P true (gor a (az ++ [stop P])) (taped w T) = .go (gor a' (as' ++ [stop P])) w' es):TreeJ P C0 R J a' as' w':=(treeJ_go2 T h hm hn hs).1
def Raises (P:Program) (f:FuncId) (x:Array Value) (w:World):Prop :=
  ∃ (k:Nat) (st:Nat → Frame) (wd:Nat → World),st 0 = Frame.enter P f x .normal ∧ wd 0 = w ∧ (∀ d,d < k → (st d).mode = .run ∧ (∀ f x,st (d + 1) ≠ Frame.enter P f x .normal) ∧ ∀ main cs T,∃ es,stepG P main (gor (st d) cs) (taped (wd d) T) = .go (gor (st (d + 1)) cs) (taped (wd (d + 1)) T) es) ∧
    ∃ ch,(st k).mode = .panicking ch ∧ (st k).defers = [] ∧ ∃ fn,P.funcs[(st k).fn]? = some fn
theorem Raises.no_tree {f:FuncId} {x:Array Value} {w:World} (h:Raises P f x w) (az:List Frame):¬ TreeJ P C0 R J (Frame.enter P f x .normal) az w:=by
  intro ht
  obtain ⟨k,st,wd,h0,hw0,hst,ch,h1,_⟩:=h
  have key:∀ d,d ≤ k → TreeJ P C0 R J (st d) az (taped (wd d) w.tape) ∧ (1 ≤ d → (st d).mode = .run ∨ (st d).mode = .returning):=by
    intro d
    induction d with
    | zero=>intro _; rw [h0,hw0]; exact ⟨ht,fun h=>by omega⟩
    | succ d ih =>
      intro hd
      obtain ⟨m1,m2,m3⟩:=hst d (by omega)
      obtain ⟨es,e⟩:=m3 true (az ++ [stop P]) w.tape
      have:=treeJ_go2 w.tape (ih (by omega)).1 m1 (fun f x _=>m2 f x) e
      exact ⟨this.1,fun _=>this.2⟩
  cases k with
  | zero=>rw [h0] at h1; cases h1
  | succ k=>rcases (key (k + 1) (Nat.le_refl _)).2 (by omega) with h | h <;> · rw [h1] at h; cases h
theorem Raises.lost {f:FuncId} {x:Array Value} {w:World} (h:Raises P f x w) (az:List Frame) (hok:∀ y ∈ az,y.mode = .run ∧ y.defers = [] ∧ ∃ fn,P.funcs[y.fn]? = some fn) {cs:List Frame} {w':World} {n:Nat} {fr:Frame}
    (hn:runN P n (lone (Frame.enter P f x .normal) (az ++ [stop P]) w) = .next (lone fr cs w')):fr.mode ≠ .returning:=by
  obtain ⟨k,st,wd,h0,hw0,hst,ch,h1,h2,h3⟩:=h
  have run:∀ d,d ≤ k → runN P d (lone (Frame.enter P f x .normal) (az ++ [stop P]) w) = .next (lone (st d) (az ++ [stop P]) (taped (wd d) w.tape)):=by
    intro d
    induction d with
    | zero=>intro _; rw [h0,hw0]; rfl
    | succ d ih =>
      intro hd
      obtain ⟨es,e⟩:=(hst d (by omega)).2.2 true (az ++ [stop P]) w.tape
      have e2:step P (lone (st d) (az ++ [stop P]) (taped (wd d) w.tape)) = .next (lone (st (d + 1)) (az ++ [stop P]) (taped (wd (d + 1)) w.tape)):=step_lone_go (by
        have e':stepG P true (gor (st d) (az ++ [stop P])) (taped (wd d) w.tape) = _:=e
        rw [e']; rfl)
      rw [runN_add,ih (by omega)]
      simp only [runN,e2]
  have same:∀ {a b:Frame} {cs ds:List Frame} {u v:World},Stepped.next (lone a cs u) = Stepped.next (lone b ds v) → a = b:=fun {a b cs ds u v} e=>by
    simp only [Stepped.next.injEq] at e
    simp only [lone,Machine.mk.injEq] at e
    have hg:({ frame:=a,callers:=cs,status:=.running,dying:=none }:Goroutine) = { frame:=b,callers:=ds,status:=.running,dying:=none }:=by simpa using e.2.1
    simp only [Goroutine.mk.injEq] at hg
    exact hg.1
  intro hr
  by_cases hk:n < k
  · rw [run n (by omega)] at hn
    have:=same hn
    rw [← this,(hst n hk).1] at hr
    cases hr
  · obtain ⟨d,rfl⟩ : ∃ d,n = k + d:=⟨n - k,by omega⟩
    rw [runN_add,run k (Nat.le_refl _)] at hn
    obtain ⟨fr',cs',e1,e2⟩:=doomed_run d (st k) az (taped (wd k) w.tape) ⟨h1,h2,h3,hok⟩ _ hn
    have e3:fr = fr':=by
      have:=congrArg Stepped.next e1
      exact same this
    rw [e3,e2] at hr
    cases hr
theorem treeJ_alarm {a:Frame} {az as':List Frame} {f:FuncId} {x:Array Value} {w w':World} {es:Array Event} (T:Nat → Question → Nat) (h:TreeJ P C0 R J a az w) (hm:a.mode = .run) (hx:∀ az w,¬ TreeJ P C0 R J (Frame.enter P f x .normal) az w)
    (hi:∀ f' x',Frame.enter P f' x' .normal = Frame.enter P f x .normal → J f' x' w' → J f x w')
    (hs:stepG P true (gor a (az ++ [stop P])) (taped w T) = .go (gor (Frame.enter P f x .normal) (as' ++ [stop P])) w' es):J f x w':=by
  rcases h.step with h1 | ⟨_,h1⟩
  · rw [h1.1] at hm; cases hm
  · rcases h1 T with ⟨a2,as2,w2,es2,e1,_,e3⟩ | ⟨f',x',as2,w2,es2,hf,e1,e3,_⟩
    · rw [hs] at e1
      simp only [GStep.go.injEq,Goroutine.mk.injEq] at e1
      obtain ⟨⟨rfl,e4,_⟩,rfl,_⟩:=e1
      exact absurd e3 (hx _ _)
    · rw [hs] at e1
      simp only [GStep.go.injEq,Goroutine.mk.injEq] at e1
      obtain ⟨⟨e4,_,_⟩,rfl,_⟩:=e1
      exact hi f' x' e4.symm e3
theorem down_run (hal1:∀ f x az w,f ∈ C0.sp → ¬ TreeJ P C0 R J (Frame.enter P f x .normal) az w)
    (hal2:∀ f x az cs w n fr w',f ∈ C0.sp → (∀ y ∈ az,y.mode = .run ∧ y.defers = [] ∧ ∃ fn,P.funcs[y.fn]? = some fn) → runN P n (lone (Frame.enter P f x .normal) (az ++ [stop P]) w) = .next (lone fr cs w') → fr.mode ≠ .returning)
    {fr:Frame} {pre:List Frame} {w':World} (hpre:pre ≠ []) (hfr:fr.mode = .returning) :
    ∀ (n:Nat) (s:StG) (T:Nat → Question → Nat),TreeJ P C0 R J s.a s.az s.w → runN P (n + 1) (lone s.a (s.az ++ [stop P]) (taped s.w T)) = .next (lone fr (pre ++ [stop P]) w') → Down P C0 (n + 1) s ⟨fr,pre,w'⟩ ∧ TreeJ P C0 R J fr pre w':=by
  intro n
  induction n with
  | zero =>
    intro s T ht hn
    rcases ht.step with ⟨l1,l2,⟨l3,l4⟩,fn,T2,v,l5,_⟩ | ⟨hnl,h1⟩
    · exfalso
      rw [l2] at hn
      exact final_run l1 l3 l4 ⟨fn,l5⟩ 0 _ _ _ _ (by simp) hn
    · rcases h1 T with ⟨a2,as2,w2,es2,e1,_,e3⟩ | ⟨f,x,as2,w2,es2,hf,e1,_,_,hok⟩
      · have e2:step P (lone s.a (s.az ++ [stop P]) (taped s.w T)) = .next (lone a2 (as2 ++ [stop P]) w2):=step_lone_go (by
          have e:stepG P true (gor s.a (s.az ++ [stop P])) (taped s.w T) = _:=e1
          rw [e]; rfl)
        simp only [runN,e2,Stepped.next.injEq] at hn
        simp only [lone,Machine.mk.injEq] at hn
        obtain ⟨rfl,hg,_⟩:=hn
        have hg':({ frame:=a2,callers:=as2 ++ [stop P],status:=.running,dying:=none }:Goroutine) = { frame:=fr,callers:=pre ++ [stop P],status:=.running,dying:=none }:=by simpa using hg
        simp only [Goroutine.mk.injEq] at hg'
        obtain ⟨rfl,h5,_⟩:=hg'
        obtain rfl:=List.append_cancel_right h5
        refine ⟨⟨hnl,T,⟨a2,as2,w2⟩,es2,e1,fun f x hf he=>?_,rfl⟩,e3⟩
        simp only at he
        rw [he] at e3
        exact hal1 f x _ _ hf e3
      · exfalso
        have e2:step P (lone s.a (s.az ++ [stop P]) (taped s.w T)) = .next (lone (Frame.enter P f x .normal) (as2 ++ [stop P]) w2):=step_lone_go (by
          have e:stepG P true (gor s.a (s.az ++ [stop P])) (taped s.w T) = _:=e1
          rw [e]; rfl)
        simp only [runN,e2] at hn
        exact hal2 f x as2 _ w2 0 fr w' hf hok hn hfr
  | succ n ih =>
    intro s T ht hn
    rcases ht.step with ⟨l1,l2,⟨l3,l4⟩,fn,T2,v,l5,_⟩ | ⟨hnl,h1⟩
    · exfalso
      rw [l2] at hn
      exact final_run l1 l3 l4 ⟨fn,l5⟩ (n + 1) _ _ _ _ (by simp) hn
    · rcases h1 T with ⟨a2,as2,w2,es2,e1,_,e3⟩ | ⟨f,x,as2,w2,es2,hf,e1,_,_,hok⟩
      · have e2:step P (lone s.a (s.az ++ [stop P]) (taped s.w T)) = .next (lone a2 (as2 ++ [stop P]) w2):=step_lone_go (by
          have e:stepG P true (gor s.a (s.az ++ [stop P])) (taped s.w T) = _:=e1
          rw [e]; rfl)
        have hn':runN P (n + 1) (lone a2 (as2 ++ [stop P]) w2) = .next (lone fr (pre ++ [stop P]) w'):=by
          rw [show n + 1 + 1 = 1 + (n + 1) by omega,runN_add] at hn
          simpa only [runN,e2] using hn
        obtain ⟨d1,d2⟩:=ih ⟨a2,as2,w2⟩ w2.tape e3 hn'
        refine ⟨⟨hnl,T,⟨a2,as2,w2⟩,es2,e1,fun f x hf he=>?_,d1⟩,d2⟩
        simp only at he
        rw [he] at e3
        exact hal1 f x _ _ hf e3
      · exfalso
        have e2:step P (lone s.a (s.az ++ [stop P]) (taped s.w T)) = .next (lone (Frame.enter P f x .normal) (as2 ++ [stop P]) w2):=step_lone_go (by
          have e:stepG P true (gor s.a (s.az ++ [stop P])) (taped s.w T) = _:=e1
          rw [e]; rfl)
        rw [show n + 1 + 1 = 1 + (n + 1) by omega,runN_add] at hn
        simp only [runN,e2] at hn
        exact hal2 f x as2 _ w2 (n + 1) fr w' hf hok hn hfr
theorem down_add:∀ (n m:Nat) (s s1 s2:StG),Down P C0 n s s1 → Down P C0 m s1 s2 → Down P C0 (n + m) s s2
  | 0,m,s,s1,s2,h,k=>by cases h; rw [Nat.zero_add]; exact k
  | n + 1,m,s,s1,s2,⟨h1,T,s3,es,h2,h3,h4⟩,k=>by
    rw [show n + 1 + m = (n + m) + 1 by omega]
    exact ⟨h1,T,s3,es,h2,h3,down_add n m s3 s1 s2 h4 k⟩
theorem down_calls (hal1:∀ f x az w,f ∈ C0.sp → ¬ TreeJ P C0 R J (Frame.enter P f x .normal) az w)
    (hal2:∀ f x az cs w n fr w',f ∈ C0.sp → (∀ y ∈ az,y.mode = .run ∧ y.defers = [] ∧ ∃ fn,P.funcs[y.fn]? = some fn) → runN P n (lone (Frame.enter P f x .normal) (az ++ [stop P]) w) = .next (lone fr cs w') → fr.mode ≠ .returning)
    {f:FuncId} {args:Array Value} {w:World} {a:Frame} {az:List Frame} {T:Nat → Question → Nat} {Post:Value → World → Prop} (ht:TreeJ P C0 R J (Frame.enter P f args .normal) (a :: az) w)
    (hm:(Frame.enter P f args .normal).mode = .run) (hfin:∀ v f x,f ∈ C0.sp → a.finish v ≠ Frame.enter P f x .normal)
    (hc:Calls P f args (taped w T) fun | .returned v,w'=>Post v w' | _,_=>False) :
    ∃ n v w',Post v w' ∧ Down P C0 n ⟨Frame.enter P f args .normal,a :: az,w⟩ ⟨a.finish v,az,w'⟩:=by
  obtain ⟨e,w',fr,hR,hcomes,hfn,hleave⟩:=hc ((a :: az) ++ [stop P])
  cases e with
  | panicked ch=>exact hR.elim
  | outgrown=>exact hR.elim
  | returned v =>
    obtain ⟨n,hn⟩ : ∃ n,runN P n (lone (Frame.enter P f args .normal) ((a :: az) ++ [stop P]) (taped w T)) = .next (lone fr ((a :: az) ++ [stop P]) w'):=hcomes
    cases n with
    | zero =>
      exfalso
      simp only [runN,Stepped.next.injEq] at hn
      simp only [lone,Machine.mk.injEq] at hn
      have hg:({ frame:=Frame.enter P f args .normal,callers:=(a :: az) ++ [stop P],status:=.running,dying:=none }:Goroutine) = { frame:=fr,callers:=(a :: az) ++ [stop P],status:=.running,dying:=none }:=by simpa using hn.2.1
      simp only [Goroutine.mk.injEq] at hg
      have:=hleave.1
      rw [← hg.1,hm] at this
      cases this
    | succ n =>
      obtain ⟨d1,d2⟩:=down_run hal1 hal2 (by simp) hleave.1 n ⟨Frame.enter P f args .normal,a :: az,w⟩ T ht hn
      have hs:=step_leave_returned (c:=a) (cs:=az ++ [stop P]) hleave
      have hs2:∃ es,stepG P true (gor fr ((a :: az) ++ [stop P])) (taped w' w'.tape) = .go (gor (a.finish v) (az ++ [stop P])) w' es:=by
        obtain ⟨hm1,hd,hk,fn,hf,hr⟩:=hleave
        rcases hrt:(results fn fr.tmps).runT P w' #[] with ⟨r,es⟩
        have:r = .ok v w':=by rw [← hr,← Sem.runT_fst P _ w' #[],hrt]
        subst this
        refine ⟨seen P fr.fn es ++ #[],?_⟩
        show stepG P true (gor fr (a :: az ++ [stop P])) w' = _
        simp only [stepG,unwind,hm1,hd,hf,hrt,doReturn,hk,GStep.after,List.cons_append]
      obtain ⟨es,hs2⟩:=hs2
      have d3:Down P C0 1 ⟨fr,a :: az,w'⟩ ⟨a.finish v,az,w'⟩:=by
        refine ⟨fun h=>?_,w'.tape,⟨a.finish v,az,w'⟩,es,hs2,fun f x hf=>hfin v f x hf,rfl⟩
        exact absurd h.2 (by simp)
      exact ⟨n + 1 + 1,v,w',hR,down_add (n + 1) 1 _ _ _ d1 d3⟩
end
end Go.Proofs.YtojoafcnijajmaaGreatDoor

namespace Go.Proofs.YtojoafcnijajmaaGreatDoor
open Go Go.Conc Go.RowKit
theorem enter_todo {P:Program} {f:FuncId} {x:Array Value}:(Frame.enter P f x .normal).mode = .run ∧ ∃ c,(Frame.enter P f x .normal).todo = [.code c]:=⟨rfl,_,rfl⟩
theorem not_enter {P:Program} {a:Frame} (h:a.mode ≠ .run ∨ ∃ ops l k,a.todo = .inRegion ops l :: k) (f:FuncId) (x:Array Value):a ≠ Frame.enter P f x .normal:=fun e=>by
  rcases h with h | ⟨ops,l,k,h⟩
  · rw [e] at h; exact h rfl
  · rw [e] at h
    obtain ⟨c,hc⟩:=(enter_todo (P:=P) (f:=f) (x:=x)).2
    rw [hc] at h
    cases h
theorem step_panic {P:Program} {main:Bool} {b:Frame} {a:Act} {ops:Array Oper} {i:Nat} {rest:List Nat} {k:List Item} {cs:List Frame} {o:Oper} {x:Operand} {t:TypeId} {v:Value} (w:World) (ho:ops[i]? = some o) (hg:o.guard = none) (hop:o.op = .panic x) (hk:b.kind ≠ .early) (hx:a.eval x = .iface t v) :
    ∃ es,stepG P main (G (b.at a (.inRegion ops (i :: rest) :: k)) cs) w = .go (G { b.at a (.inRegion ops (i :: rest) :: k) with mode:=.panicking [{ v:=.iface t v,recovered:=false }] } cs) w es:=by
  have hr:(execOp a.eval o).run P w = .halt (.panic (.iface t v)) w:=by
    unfold execOp
    simp [hop,hx,Instr.panic,goPanic]
  rw [stepG_oper ho (wanted_free hg _)]
  have hr2:((execOp a.eval o).runT P w #[]).1 = .halt (.panic (.iface t v)) w:=by rw [Sem.runT_fst]; exact hr
  rcases hrt:(execOp a.eval o).runT P w #[] with ⟨r,es⟩
  rw [hrt] at hr2
  simp only at hr2
  subst hr2
  have hk':(b.kind == CallKind.early) = false:=by simpa using hk
  refine ⟨seen P b.fn es ++ #[],?_⟩
  simp only [stepG.apply,hrt,GStep.after,G,Frame.at,Frame.raise,if_true,hk',Bool.false_eq_true,if_false]
theorem size_pad (x:Array Value) (n i:Nat) (h:i < n):i < (x ++ Array.replicate (n - x.size) undef).size:=by simp; omega
theorem raises_alarm (x:Array Value) (w:World):Raises (patch shutL Tryz.prog) 417 x w:=by
  have he:=enter_at (P:=(patch shutL Tryz.prog)) (f:=417) (fn:=alarm 34 "alarm") (c:=.region 0 #[opOf (some 1) (.makeInterface 34 (.tmp 0)),opOf none (.panic (.tmp 1))] false) x (pal shutL) rfl
  have hs:1 < (x ++ Array.replicate ((alarm 34 "alarm").ntmps - x.size) undef).size:=size_pad x 2 1 (by omega)
  obtain ⟨T,hT⟩ : ∃ T,T = x ++ Array.replicate ((alarm 34 "alarm").ntmps - x.size) undef:=⟨_,rfl⟩
  rw [← hT] at he hs
  obtain ⟨ops,hops⟩ : ∃ ops,ops = #[opOf (some 1) (.makeInterface 34 (.tmp 0)),opOf none (.panic (.tmp 1))]:=⟨_,rfl⟩
  rw [← hops] at he
  have h2:ops.size = 2:=by rw [hops]; rfl
  obtain ⟨v,hv⟩ : ∃ v,v = T.getD 0 undef:=⟨_,rfl⟩
  refine ⟨3,fun | 0=>(base 417).at ⟨T,[]⟩ [.code (.region 0 ops false)] | 1=>(base 417).at ⟨T,[]⟩ [.inRegion ops [0,1]] | 2=>(base 417).at ⟨T.setIfInBounds 1 (.iface 34 v),[]⟩ [.inRegion ops [1]] | _=>{ (base 417).at ⟨T.setIfInBounds 1 (.iface 34 v),[]⟩ [.inRegion ops [1]] with mode:=.panicking [{ v:=.iface 34 v,recovered:=false }] },fun _=>w,he.symm,rfl,fun d hd=>?_,_,rfl,rfl,⟨_,pal shutL⟩⟩
  obtain rfl | rfl | rfl:d = 0 ∨ d = 1 ∨ d = 2:=by omega
  · refine ⟨rfl,not_enter (.inr ⟨_,_,_,rfl⟩),fun main cs T=>⟨#[],?_⟩⟩
    show stepG (patch shutL Tryz.prog) main (G ((base 417).at _ [.code (.region 0 ops false)]) cs) _ = _
    rw [stepG_region,h2]
    rfl
  · refine ⟨rfl,not_enter (.inr ⟨_,_,_,rfl⟩),fun main cs T'=>?_⟩
    show ∃ es,stepG (patch shutL Tryz.prog) main (G ((base 417).at _ [.inRegion ops [0,1]]) cs) _ = _
    rw [stepG_value (o:=opOf (some 1) (.makeInterface 34 (.tmp 0))) (v:=.iface 34 v) (w':=taped w T') (by rw [hops]; rfl) (wanted_free rfl _) (by decide) (by unfold execOp; simp [opOf,Act.eval,hv,go_sem])]
    exact ⟨_,rfl⟩
  · refine ⟨rfl,not_enter (.inl (by simp)),fun main cs T'=>?_⟩
    exact step_panic (o:=opOf none (.panic (.tmp 1))) _ (by rw [hops]; rfl) rfl rfl (by decide) (getD_set_self hs)
theorem raises_alarm2 (x:Array Value) (w:World):Raises (patch shutL Tryz.prog) 418 x w:=by
  have he:=enter_at (P:=(patch shutL Tryz.prog)) (f:=418) (fn:=alarmBox 40 "alarm2") (c:=.region 0 #[opOf (some 1) (.box 40 (.tmp 0)),opOf (some 2) (.makeInterface 40 (.tmp 1)),opOf none (.panic (.tmp 2))] false) x (pal2 shutL) rfl
  have hs:2 < (x ++ Array.replicate ((alarmBox 40 "alarm2").ntmps - x.size) undef).size:=size_pad x 3 2 (by omega)
  obtain ⟨T,hT⟩ : ∃ T,T = x ++ Array.replicate ((alarmBox 40 "alarm2").ntmps - x.size) undef:=⟨_,rfl⟩
  rw [← hT] at he hs
  obtain ⟨ops,hops⟩ : ∃ ops,ops = #[opOf (some 1) (.box 40 (.tmp 0)),opOf (some 2) (.makeInterface 40 (.tmp 1)),opOf none (.panic (.tmp 2))]:=⟨_,rfl⟩
  rw [← hops] at he
  have h3:ops.size = 3:=by rw [hops]; rfl
  obtain ⟨v,hv⟩ : ∃ v,v = T.getD 0 undef:=⟨_,rfl⟩
  obtain ⟨q,hq⟩ : ∃ q,q = Value.pointer (some ⟨w.heap.size,0,none⟩):=⟨_,rfl⟩
  obtain ⟨T1,hT1⟩ : ∃ T1,T1 = T.setIfInBounds 1 q:=⟨_,rfl⟩
  obtain ⟨T2,hT2⟩ : ∃ T2,T2 = T1.setIfInBounds 2 (.iface 40 q):=⟨_,rfl⟩
  have h11:T1.getD 1 undef = q:=by rw [hT1]; exact getD_set_self (by omega)
  have h22:T2.getD 2 undef = .iface 40 q:=by rw [hT2]; exact getD_set_self (by rw [hT1,Array.size_setIfInBounds]; exact hs)
  refine ⟨4,fun | 0=>(base 418).at ⟨T,[]⟩ [.code (.region 0 ops false)] | 1=>(base 418).at ⟨T,[]⟩ [.inRegion ops [0,1,2]] | 2=>(base 418).at ⟨T1,[]⟩ [.inRegion ops [1,2]] | 3=>(base 418).at ⟨T2,[]⟩ [.inRegion ops [2]] | _=>{ (base 418).at ⟨T2,[]⟩ [.inRegion ops [2]] with mode:=.panicking [{ v:=.iface 40 q,recovered:=false }] },
    fun | 0=>w | 1=>w | _=>w.alloc (.cells v.cells 40),he.symm,rfl,fun d hd=>?_,_,rfl,rfl,⟨_,pal2 shutL⟩⟩
  obtain rfl | rfl | rfl | rfl:d = 0 ∨ d = 1 ∨ d = 2 ∨ d = 3:=by omega
  · refine ⟨rfl,not_enter (.inr ⟨_,_,_,rfl⟩),fun main cs T=>⟨#[],?_⟩⟩
    show stepG (patch shutL Tryz.prog) main (G ((base 418).at _ [.code (.region 0 ops false)]) cs) _ = _
    rw [stepG_region,h3]
    rfl
  · refine ⟨rfl,not_enter (.inr ⟨_,_,_,rfl⟩),fun main cs T'=>?_⟩
    show ∃ es,stepG (patch shutL Tryz.prog) main (G ((base 418).at _ [.inRegion ops [0,1,2]]) cs) _ = _
    rw [stepG_value (o:=opOf (some 1) (.box 40 (.tmp 0))) (v:=q) (w':=taped (w.alloc (.cells v.cells 40)) T') (by rw [hops]; rfl) (wanted_free rfl _) (by decide) (by
      rw [hq]
      have e:(execOp (Act.mk T []).eval (opOf (some 1) (.box 40 (.tmp 0)))) = (do Pure.pure (Next.value (← Instr.box 40 v))):=by rw [hv]; rfl
      rw [e,Sem.run_bind,run_box]
      rfl)]
    rw [hT1]
    exact ⟨_,rfl⟩
  · refine ⟨rfl,not_enter (.inr ⟨_,_,_,rfl⟩),fun main cs T'=>?_⟩
    show ∃ es,stepG (patch shutL Tryz.prog) main (G ((base 418).at _ [.inRegion ops [1,2]]) cs) _ = _
    rw [stepG_value (o:=opOf (some 2) (.makeInterface 40 (.tmp 1))) (v:=.iface 40 q) (w':=taped (w.alloc (.cells v.cells 40)) T') (by rw [hops]; rfl) (wanted_free rfl _) (by decide) (by unfold execOp; simp [opOf,Act.eval,h11,go_sem])]
    rw [hT2]
    exact ⟨_,rfl⟩
  · refine ⟨rfl,not_enter (.inl (by simp)),fun main cs T'=>?_⟩
    exact step_panic (o:=opOf none (.panic (.tmp 2))) _ (by rw [hops]; rfl) rfl rfl (by decide) h22
end Go.Proofs.YtojoafcnijajmaaGreatDoor

namespace Go.Proofs.YtojoafcnijajmaaGreatDoor
open Go Go.Conc Go.ConcN Go.RowKit Go.Conc.Lib
open Go.ConcR (KK wgBlock WgAt stA smA rd wr mk Payload DC0)
def Holds (K:Nat → Prop) (L:List (Nat × Obj)) (u:World) (M:Nat → Prop):Prop:=∀ x ∈ L,(M x.1 ∨ K x.1) ∧ x.1 < u.heap.size ∧ u.heap[x.1]? = some x.2
section
variable {Q:Program} {main:Bool} {K M:Nat → Prop} {S:Goroutine → World → (Nat → Prop) → Prop} {u u₁:World} {L:List (Nat × Obj)} {b:Frame} {a:Act} {k:List Item} {cs:List Frame} {ops:Array Oper} {i:Nat} {rest:List Nat} {o:Oper}
theorem Holds.nil:Holds K [] u M:=fun x hx=>by cases hx
theorem Holds.rely (h:Holds K L u M) (r:Rely K M u u₁):Holds K L u₁ M:=fun x hx=>by
  obtain ⟨h1,h2,h3⟩:=h x hx
  exact ⟨h1,Nat.lt_of_lt_of_le h2 r.size,(r.keep _ h1 h2).trans h3⟩
theorem Holds.sub {L':List (Nat × Obj)} (h:Holds K L u M) (hs:∀ x ∈ L',x ∈ L):Holds K L' u M:=fun x hx=>h x (hs x hx)
theorem alloc_old (w:World) (ob:Obj) {c:Nat} (hc:c < w.heap.size):(w.alloc ob).heap[c]? = w.heap[c]?:=by
  show (w.heap.push ob)[c]? = _
  rw [Array.getElem?_push,if_neg (by omega)]
theorem alloc_new (w:World) (ob:Obj):(w.alloc ob).heap[w.heap.size]? = some ob:=by
  show (w.heap.push ob)[w.heap.size]? = _
  rw [Array.getElem?_push,if_pos rfl]
theorem alloc_size (w:World) (ob:Obj):(w.alloc ob).heap.size = w.heap.size + 1:=by
  show (w.heap.push ob).size = _
  rw [Array.size_push]
theorem Holds.new (h:Holds K L u M) (ob:Obj):Holds K ((u.heap.size,ob) :: L) (u.alloc ob) (Grow M u (u.alloc ob)):=fun x hx=>by
  rcases List.mem_cons.1 hx with rfl | hx
  · exact ⟨.inl (.inr ⟨Nat.le_refl _,by rw [alloc_size]; omega⟩),by rw [alloc_size]; omega,alloc_new _ _⟩
  · obtain ⟨h1,h2,h3⟩:=h x hx
    exact ⟨h1.imp .inl id,by rw [alloc_size]; omega,(alloc_old _ _ h2).trans h3⟩
theorem Does.alloc (u:World) (ob:Obj):Does K M u (u.alloc ob) #[]:=⟨rfl,rfl,rfl,by rw [alloc_size]; omega,fun c hc _=>alloc_old _ _ hc,fun e he=>by simp at he⟩
theorem Owned.make (hKM:∀ c,K c → ¬ M c) (hL:Holds K L u M) (ho:ops[i]? = some o) (hg:o.guard = none) (hk:b.kind ≠ .early) (v:Nat → Value) (ob:Obj)
    (hr:∀ u₁,(execOp a.eval o).runT Q u₁ #[] = (.ok (.value (v u₁.heap.size)) (u₁.alloc ob),#[]))
    (hc:∀ n u' M',u.heap.size ≤ n → Holds K ((n,ob) :: L) u' M' → M' n → (∀ c,M c → M' c) → (∀ c,M' c → M c ∨ (u.heap.size ≤ c ∧ c < u'.heap.size)) → n < u'.heap.size → u.heap.size ≤ u'.heap.size → Rely K (fun _=>False) u u' → Owned Q main K S (G (b.at (a.put o.dst (v n)) (.inRegion ops rest :: k)) cs) u' M') :
    Owned Q main K S (G (b.at a (.inRegion ops (i :: rest) :: k)) cs) u M :=
  Owned.op ho (wanted_free hg _) hk fun u₁ h₁=>by
    have e:=hr u₁
    rw [Sem.runT_eq,Prod.mk.injEq] at e
    refine ⟨_,_,e.1,by rw [e.2]; exact Does.alloc u₁ ob,?_⟩
    refine hc u₁.heap.size _ _ h₁.size ((hL.rely h₁).new ob) (.inr ⟨Nat.le_refl _,by rw [alloc_size]; omega⟩) (fun c h=>.inl h) (fun c h=>h.imp id fun x=>⟨Nat.le_trans h₁.size x.1,x.2⟩) (by rw [alloc_size]; omega) (by have:=h₁.size; rw [alloc_size]; omega) ?_
    exact ⟨h₁.tape,h₁.os,h₁.output,by have:=h₁.size; rw [alloc_size]; omega,fun d hd hl=>(alloc_old _ _ (Nat.lt_of_lt_of_le hl h₁.size)).trans (h₁.keep d (hd.elim (fun h=>h.elim) .inr) hl)⟩
theorem Owned.look (hL:Holds K L u M) (ho:ops[i]? = some o) (hg:o.guard = none) (hk:b.kind ≠ .early) (v:Value)
    (hr:∀ u₁,Holds K L u₁ M → ∃ es,(execOp a.eval o).runT Q u₁ #[] = (.ok (.value v) u₁,es) ∧ ∀ e ∈ es,EvM K M e)
    (hc:Owned Q main K S (G (b.at (a.put o.dst v) (.inRegion ops rest :: k)) cs) u M):Owned Q main K S (G (b.at a (.inRegion ops (i :: rest) :: k)) cs) u M :=
  Owned.op ho (wanted_free hg _) hk fun u₁ h₁=>by
    obtain ⟨es,e,he⟩:=hr u₁ (hL.rely h₁)
    rw [Sem.runT_eq,Prod.mk.injEq] at e
    refine ⟨_,_,e.1,⟨rfl,rfl,rfl,Nat.le_refl _,fun _ _ _=>rfl,fun e' h'=>?_⟩,by rw [Grow.self]; exact hc.rely h₁⟩
    rw [e.2] at h'
    rw [Grow.self]
    exact he e' h'
theorem Owned.write {c:Nat} {old new:Array Value} {t:TypeId} (hKM:∀ c,K c → ¬ M c) (hL:Holds K L u M) (hm:M c) (hin:(c,.cells old t) ∈ L) (ho:ops[i]? = some o) (hg:o.guard = none) (hk:b.kind ≠ .early)
    (hr:∀ u₁,u₁.heap[c]? = some (.cells old t) → ∃ es,(execOp a.eval o).runT Q u₁ #[] = (.ok .skip (u₁.setRow c new),es) ∧ ∀ e ∈ es,(∃ x,e = ⟨.cell ⟨c,x,none⟩,true,false⟩))
    (hc:∀ u',Holds K ((c,.cells new t) :: L.filter fun x=>x.1 != c) u' M → u.heap.size ≤ u'.heap.size → Rely K (fun _=>False) u u' → Owned Q main K S (G (b.at (a.put o.dst undef) (.inRegion ops rest :: k)) cs) u' M) :
    Owned Q main K S (G (b.at a (.inRegion ops (i :: rest) :: k)) cs) u M :=
  Owned.opSkip ho (wanted_free hg _) hk fun u₁ h₁=>by
    have hL1:=hL.rely h₁
    obtain ⟨h1,h2,h3⟩:=hL1 _ hin
    obtain ⟨es,e,he⟩:=hr u₁ h3
    rw [Sem.runT_eq,Prod.mk.injEq] at e
    have hgr:Grow M u₁ (u₁.setRow c new) = M:=by
      funext d
      exact propext ⟨fun h=>h.elim id fun h=>absurd h.2 (by rw [setRow_size]; omega),.inl⟩
    refine ⟨_,e.1,⟨rfl,rfl,rfl,by rw [setRow_size]; exact Nat.le_refl _,fun d hd hn=>setRow_other _ _ _ _ fun e=>hn (by rw [e]; exact hm),fun e' h'=>?_⟩,?_⟩
    · rw [e.2] at h'
      obtain ⟨x,rfl⟩:=he e' h'
      rw [hgr]
      exact .inl ⟨c,.inr ⟨_,rfl,rfl⟩,rfl,.inl hm⟩
    · rw [hgr]
      refine hc _ (fun x hx=>?_) (by rw [setRow_size]; exact h₁.size) ⟨h₁.tape,h₁.os,h₁.output,by rw [setRow_size]; exact h₁.size,fun d hd hl=>(setRow_other _ _ _ _ fun e=>hd.elim id fun h=>hKM d h (by rw [e]; exact hm)).trans (h₁.keep d (hd.elim (fun h=>h.elim) .inr) hl)⟩
      rcases List.mem_cons.1 hx with rfl | hx
      · exact ⟨.inl hm,by rw [setRow_size]; exact h2,setRow_heap _ _ _ _ _ _ h3⟩
      · obtain ⟨hx1,hx2⟩:=List.mem_filter.1 hx
        obtain ⟨k1,k2,k3⟩:=hL1 x hx1
        exact ⟨k1,by rw [setRow_size]; exact k2,(setRow_other _ _ _ _ (by simpa using hx2)).trans k3⟩
end
def regs:Code → List (Array Oper)
  | .region _ ops _=>[ops]
  | .seq a b=>regs a ++ regs b
  | .cond _ a b=>regs a ++ regs b
  | .block _ a | .loop a=>regs a
  | _=>[]
def AJ (f:Func) (k:Nat):Array Oper:=(regs (f.body.getD .skip))[k]?.getD #[]
abbrev RJg (f:Func) (k:Nat):Code:=.region k (AJ f k) false
abbrev loopJ (f:Func):Code:=.seq (RJg f 4) (.seq (.cond (.tmp 12) .skip (.exit 0)) (.seq (.block 1 (.seq (RJg f 5) (.seq (.seq (RJg f 6) (.cond (.tmp 16) (.exit 1) .skip)) (.seq (RJg f 7) (RJg f 8))))) (RJg f 9)))
theorem judge_code:Func.body Tryz.f22 = some (.seq (RJg Tryz.f22 0) (.seq (RJg Tryz.f22 1) (.seq (RJg Tryz.f22 2) (.seq (.seq (RJg Tryz.f22 3) (.block 0 (.loop (loopJ Tryz.f22)))) (.seq (RJg Tryz.f22 10) (.seq (RJg Tryz.f22 11) .ret)))))):=by kernel_rfl
def opIs (ops:Array Oper) (i:Nat) (x:Op) (d:Option Nat):Prop:=∃ o,ops[i]? = some o ∧ o.op = x ∧ o.dst = d ∧ o.guard = none
theorem opIs_of {ops:Array Oper} {i:Nat} {x:Op} {d:Option Nat} (h:(ops[i]?).map (fun o=>(o.op,o.dst,o.guard)) = some (x,d,none)):opIs ops i x d:=by
  obtain ⟨o,h1,h2⟩:=Option.map_eq_some_iff.1 h
  simp only [Prod.mk.injEq] at h2
  exact ⟨o,h1,h2⟩
theorem j00:opIs (AJ Tryz.f22 0) 0 (.box 34 (.tmp 0)) (some 2):=opIs_of (by kernel_rfl)
theorem j01:opIs (AJ Tryz.f22 0) 1 (.box 40 (.tmp 1)) (some 3):=opIs_of (by kernel_rfl)
theorem j02:opIs (AJ Tryz.f22 0) 2 (.assign (.const (.slice none 0 0))) (some 4):=opIs_of (by kernel_rfl)
theorem j10:opIs (AJ Tryz.f22 1) 0 (.makeSlice 82 (.const (.int .i64 4)) (.const (.int .i64 4))) (some 9):=opIs_of (by kernel_rfl)
theorem j11:opIs (AJ Tryz.f22 1) 1 (.alloc 82) (some 5):=opIs_of (by kernel_rfl)
theorem j12:opIs (AJ Tryz.f22 1) 2 (.store 82 (.tmp 5) (.tmp 9)) none:=opIs_of (by kernel_rfl)
theorem j20:opIs (AJ Tryz.f22 2) 0 (.alloc 118) (some 6):=opIs_of (by kernel_rfl)
theorem j30:opIs (AJ Tryz.f22 3) 0 (.load 40 (.tmp 3)) (some 10):=opIs_of (by kernel_rfl)
theorem j31:opIs (AJ Tryz.f22 3) 1 (.move (.const (.int .i64 0))) (some 11):=opIs_of (by kernel_rfl)
theorem j40:opIs (AJ Tryz.f22 4) 0 (.binOp .lss 3 (.tmp 11) (.const (.int .i64 4)) 3) (some 12):=opIs_of (by kernel_rfl)
theorem j50:opIs (AJ Tryz.f22 5) 0 (.move (.tmp 11)) (some 13):=opIs_of (by kernel_rfl)
theorem j51:opIs (AJ Tryz.f22 5) 1 (.index 40 (.tmp 10) (.tmp 11)) (some 14):=opIs_of (by kernel_rfl)
theorem j52:opIs (AJ Tryz.f22 5) 2 (.alloc 3) (some 7):=opIs_of (by kernel_rfl)
theorem j53:opIs (AJ Tryz.f22 5) 3 (.alloc 3) (some 8):=opIs_of (by kernel_rfl)
theorem j54:opIs (AJ Tryz.f22 5) 4 (.store 3 (.tmp 7) (.tmp 13)) none:=opIs_of (by kernel_rfl)
theorem j55:opIs (AJ Tryz.f22 5) 5 (.store 3 (.tmp 8) (.tmp 14)) none:=opIs_of (by kernel_rfl)
theorem j60:opIs (AJ Tryz.f22 6) 0 (.load 3 (.tmp 8)) (some 15):=opIs_of (by kernel_rfl)
theorem j61:opIs (AJ Tryz.f22 6) 1 (.binOp .leq 3 (.tmp 15) (.const (.int .i64 0)) 3) (some 16):=opIs_of (by kernel_rfl)
theorem j70:opIs (AJ Tryz.f22 7) 0 (.call { callee:=.value (.func 51),args:=#[.tmp 6,.const (.int .i64 1)],argTypes:=#[118,3] }) (some 17):=opIs_of (by kernel_rfl)
theorem j80:opIs (AJ Tryz.f22 8) 0 (.makeFunc (.func 52) #[] #[.tmp 6,.tmp 2,.tmp 7,.tmp 8,.tmp 5]) (some 18):=opIs_of (by kernel_rfl)
theorem j81:opIs (AJ Tryz.f22 8) 1 (.go { callee:=.value (.tmp 18),args:=#[],argTypes:=#[] }) none:=opIs_of (by kernel_rfl)
theorem j90:opIs (AJ Tryz.f22 9) 0 (.binOp .add 3 (.tmp 11) (.const (.int .i64 1)) 3) (some 19):=opIs_of (by kernel_rfl)
theorem j91:opIs (AJ Tryz.f22 9) 1 (.move (.tmp 19)) (some 11):=opIs_of (by kernel_rfl)
theorem jA0:opIs (AJ Tryz.f22 10) 0 (.call { callee:=.value (.func 58),args:=#[.tmp 6],argTypes:=#[118] }) (some 20):=opIs_of (by kernel_rfl)
theorem jB0:opIs (AJ Tryz.f22 11) 0 (.load 82 (.tmp 5)) (some 21):=opIs_of (by kernel_rfl)
theorem jB1:opIs (AJ Tryz.f22 11) 1 (.assign (.tmp 21)) (some 4):=opIs_of (by kernel_rfl)
theorem sizesJ:((List.range 12).map fun k=>(AJ Tryz.f22 k).size) = [3,3,1,2,1,6,2,1,2,2,1,2]:=by kernel_rfl
theorem ntmpsJ:Func.ntmps Tryz.f22 = 22:=by kernel_rfl
theorem nameJ:(Func.name Tryz.f22 == "runtime.NumGoroutine") = false:=by kernel_rfl
theorem fn_judge:Tryz.prog.funcs[22]? = some Tryz.f22:=Tryz.func22
end Go.Proofs.YtojoafcnijajmaaGreatDoor
