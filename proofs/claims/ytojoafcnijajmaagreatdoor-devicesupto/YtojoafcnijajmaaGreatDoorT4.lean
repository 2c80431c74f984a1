/- Part 4 of the proof that Devices answers true and leaves its input as it was, for input of bulk at most the bound of its row: V5 W8. -/
import Derived.Test.YtojoafcnijajmaaGreatDoorT2
import Derived.Test.YtojoafcnijajmaaGreatDoorT3
set_option linter.unusedSimpArgs false
namespace Go.Proofs.YtojoafcnijajmaaGreatDoor
open Go
section
variable {α β γ δ:Type} {P Q:Program} {K:Nat → Prop} {p:Nat → Nat → Prop}
def flatT (P:Program):Nat → TypeId → Bool
  | 0,_=>false
  | d + 1,t=>match P.underlying t with
    | some (.int _) | some .bool | some .string=>true
    | some (.struct fields)=>!P.stoodInHeld t && fields.all fun f=>flatT P d f.type
    | some (.array _ e)=>flatT P d e
    | _=>false
theorem Sim.forList {ρ σ:Type} (f g:ρ → σ → Sem (ForInStep σ)) (p₀:Nat → Nat → Prop):∀ (l:List ρ) (s:σ) {p:Nat → Nat → Prop},Ext p₀ p → (∀ q r s,r ∈ l → Ext p₀ q → Sim P Q K q (f r s) (g r s) (fun _ a b=>a = b)) → Sim P Q K p (forIn l s f) (forIn l s g) (fun _ a b=>a = b)
  | [],s,p,_,_=>by simp only [List.forIn_nil]; exact Sim.pure rfl
  | r :: l,s,p,hp,h=>by
    simp only [List.forIn_cons]
    refine Sim.bind (h p r s (by simp) hp) fun q a b hq e=>?_
    subst e
    cases a with
    | done s=>exact Sim.pure rfl
    | yield s=>exact Sim.forList f g p₀ l s (hp.trans hq) fun q r s hr=>h q r s (by simp [hr])
theorem Sim.equalFlat:∀ (d n:Nat) (t:TypeId) {p:Nat → Nat → Prop} {x y v u:Value},flatT P d t = true → VR p x v → VR p y u → Sim P Q K p (Op.equalIn n t x y) (Op.equalIn n t v u) (fun _ a b=>a = b)
  | 0,_,_,_,_,_,_,_,hf,_,_=>by cases hf
  | d + 1,0,_,_,_,_,_,_,_,_,_=>Sim.halt
  | d + 1,n + 1,t,p,x,y,v,u,hf,h,k=>by
    unfold flatT at hf
    split at hf
    · rename_i k' ht; exact Sim.equalInt _ t ht h k
    · rename_i ht; exact Sim.equalBool _ t ht h k
    · rename_i ht
      unfold Op.equalIn
      refine Sim.bind (Sim.underlying t) fun q dd d' hq e=>?_
      obtain ⟨rfl,hd⟩:=e
      rw [ht] at hd
      cases hd
      have hx:=(h.ext hq).cases
      have hy:=(k.ext hq).cases
      cases x <;> cases v <;> first
        | exact hx.elim
        | exact Bool.noConfusion hx
        | (cases y <;> cases u <;> first
            | exact hy.elim
            | exact Bool.noConfusion hy
            | (obtain rfl:_ = _:=hx; obtain rfl:_ = _:=hy; exact Sim.pure rfl)
            | exact Sim.halt)
    · rename_i fields ht
      rw [Bool.and_eq_true] at hf
      obtain ⟨hs,hf⟩:=hf
      have hs':P.stoodInHeld t = false:=by simpa using hs
      unfold Op.equalIn
      refine Sim.bind (Sim.underlying t) fun q dd d' hq e=>?_
      obtain ⟨rfl,hd⟩:=e
      rw [ht] at hd
      cases hd
      have hx:=(h.ext hq).cases
      have hy:=(k.ext hq).cases
      cases x <;> cases v <;> first
        | exact hx.elim
        | exact Bool.noConfusion hx
        | exact Sim.halt
        | (cases y <;> cases u <;> first | exact hy.elim | exact Bool.noConfusion hy | exact Sim.halt | skip)
      rename_i xs vs ys us
      refine Sim.twin fun tw=>Sim.bind Sim.program fun q1 s s' hq1 e=>?_
      rw [e.1,e.2,tw.stoodInHeld,hs']
      simp only [Bool.false_eq_true,if_false,pure_bind]
      refine Sim.bind (A:=fun _ a b=>a = b) ?_ fun q2 a b hq2 e=>?_
      · rw [← Array.forIn_toList,← Array.forIn_toList]
        refine Sim.forList _ _ q1 _ _ (Ext.refl _) fun q2 f s hfm hq2=>?_
        have hft:flatT P d f.type = true:=by
          have:=Array.all_eq_true'.1 hf f (by simpa using hfm)
          exact this
        by_cases hn:f.name ≠ "_"
        · simp only [if_pos hn]
          refine Sim.bind (Sim.part f.type (hx.ext (hq1.trans hq2)) f.offset) fun q3 a b hq3 e1=>?_
          refine Sim.bind (Sim.part f.type (hy.ext (hq1.trans (hq2.trans hq3))) f.offset) fun q4 a' b' hq4 e2=>?_
          refine Sim.bind (Sim.equalFlat d n f.type hft (e1.ext hq4) e2) fun q5 r r' hq5 e3=>?_
          subst e3
          cases r <;> exact Sim.pure rfl
        · simp only [if_neg hn]
          exact Sim.pure rfl
      · subst e
        obtain ⟨r,s⟩:=a
        cases r <;> exact Sim.pure rfl
    · rename_i len elem ht
      unfold Op.equalIn
      refine Sim.bind (Sim.underlying t) fun q dd d' hq e=>?_
      obtain ⟨rfl,hd⟩:=e
      rw [ht] at hd
      cases hd
      have hx:=(h.ext hq).cases
      have hy:=(k.ext hq).cases
      cases x <;> cases v <;> first
        | exact hx.elim
        | exact Bool.noConfusion hx
        | exact Sim.halt
        | (cases y <;> cases u <;> first | exact hy.elim | exact Bool.noConfusion hy | exact Sim.halt | skip)
      rename_i xs vs ys us
      refine Sim.bind (Sim.sizeOf elem) fun q1 s s' hq1 e=>?_
      subst e
      refine Sim.bind (A:=fun _ a b=>a = b) ?_ fun q2 a b hq2 e=>?_
      · simp only [Std.Legacy.Range.forIn_eq_forIn_range']
        refine Sim.forList _ _ q1 _ _ (Ext.refl _) fun q2 i st hfm hq2=>?_
        refine Sim.bind (Sim.part elem (hx.ext (hq1.trans hq2)) _) fun q3 a b hq3 e1=>?_
        refine Sim.bind (Sim.part elem (hy.ext (hq1.trans (hq2.trans hq3))) _) fun q4 a' b' hq4 e2=>?_
        refine Sim.bind (Sim.equalFlat d n elem hf (e1.ext hq4) e2) fun q5 r r' hq5 e3=>?_
        subst e3
        cases r <;> exact Sim.pure rfl
      · subst e
        obtain ⟨r,s⟩:=a
        cases r <;> exact Sim.pure rfl
    · cases hf
theorem Sim.eqGuardNil (n:Nat) (t:TypeId):Sim P Q K p (Op.eqGuardIn n t .nilIface .nilIface) (Op.eqGuardIn n t .nilIface .nilIface) (fun _ a b=>a = b):=by
  cases n with
  | zero=>exact Sim.halt
  | succ n =>
    unfold Op.eqGuardIn
    refine Sim.bind (Sim.underlying t) fun q d d' hq e=>?_
    obtain ⟨rfl,hd⟩:=e
    cases d <;> exact Sim.pure rfl
theorem Sim.eqGuardFlat {x y v u:Value} (op:BinOp) (t:TypeId) (a b:Operand) (ht:P.eqGuardType P.depth t = false) (h:VR p x v) (k:VR p y u):Sim P Q K p (Go.eqGuard op t a b x y) (Go.eqGuard op t a b v u) (fun _ _ _=>True):=by
  have hx:=h.cases
  have hy:=k.cases
  unfold Go.eqGuard
  have nilnil:∀ {q:Nat → Nat → Prop} (c:Bool),Sim P Q K q
      (if c then (Pure.pure ():Sem Unit) else do
        if ← Op.eqGuardIn Op.maxDepth t .nilIface .nilIface then unsupported (.noEntry "binop/eql: two nil values of an interface type with methods, neither of them the literal nil"))
      (if c then (Pure.pure ():Sem Unit) else do
        if ← Op.eqGuardIn Op.maxDepth t .nilIface .nilIface then unsupported (.noEntry "binop/eql: two nil values of an interface type with methods, neither of them the literal nil")) (fun _ _ _=>True):=by
    intro q c
    cases c with
    | true=>exact Sim.pure trivial
    | false =>
      refine Sim.bind (Sim.eqGuardNil _ t) fun q' c d _ e=>?_
      subst e
      cases c with
      | true=>exact Sim.halt
      | false=>exact Sim.pure trivial
  have aggagg:∀ {q:Nat → Nat → Prop} (xs ys vs us:Array Value),Sim P Q K q
      (do if !(← Go.program).eqGuardType (← Go.program).depth t then return
          if ← Op.eqGuardIn Op.maxDepth t (.agg xs) (.agg ys) then unsupported (.noEntry "binop/eql: two nil values of an interface type with methods, in a part of a struct or an array"))
      (do if !(← Go.program).eqGuardType (← Go.program).depth t then return
          if ← Op.eqGuardIn Op.maxDepth t (.agg vs) (.agg us) then unsupported (.noEntry "binop/eql: two nil values of an interface type with methods, in a part of a struct or an array")) (fun _ _ _=>True):=by
    intro q xs ys vs us
    refine Sim.twin fun tw=>Sim.bind Sim.program fun q s s' _ e=>?_
    rw [e.1,e.2]
    refine Sim.bind Sim.program fun q s s' _ e=>?_
    rw [e.1,e.2,tw.eqGuardType,ht]
    exact Sim.pure trivial
  cases op <;> first
    | exact Sim.pure trivial
    | (cases x <;> cases v <;> first
        | exact hx.elim
        | exact Bool.noConfusion hx
        | (cases y <;> cases u <;> first
            | exact hy.elim
            | exact Bool.noConfusion hy
            | exact Sim.pure trivial
            | exact nilnil _
            | exact aggagg _ _ _ _))
theorem never_equalFlat (d n:Nat) (t:TypeId) {x y:Value} (hf:flatT P d t = true) (h:isIface x):Never P (Op.equalIn n t x y):=by
  cases d with
  | zero=>cases hf
  | succ d =>
    cases n with
    | zero=>exact Never.halt _
    | succ n =>
      unfold flatT at hf
      split at hf
      · rename_i k' ht; exact never_equalIn _ t (.inl ⟨_,ht⟩) h
      · rename_i ht; exact never_equalIn _ t (.inr (.inl ht)) h
      · rename_i ht
        unfold Op.equalIn
        refine Never.type ht ?_
        cases x <;> first | exact h.elim | (cases y <;> exact Never.halt _)
      · rename_i fields ht
        unfold Op.equalIn
        refine Never.type ht ?_
        cases x <;> first | exact h.elim | (cases y <;> exact Never.halt _)
      · rename_i len elem ht
        unfold Op.equalIn
        refine Never.type ht ?_
        cases x <;> first | exact h.elim | (cases y <;> exact Never.halt _)
      · cases hf
theorem never_binFlat {x y:Value} (d:Nat) (op:BinOp) (t:TypeId) (ht:flatT P d t = true) (h:isIface x):Never P (binOp op t x y):=by
  have hne:∀ y,Never P (do Pure.pure (.bool (← Op.equal t x y)):Sem Value):=fun y=>Never.left (never_equalFlat d _ t ht h)
  have hnn:∀ y,Never P (do Pure.pure (.bool (!(← Op.equal t x y))):Sem Value):=fun y=>Never.left (never_equalFlat d _ t ht h)
  cases x <;> first | exact h.elim | skip
  cases y <;> cases op <;> first | exact Never.halt _ | exact hne _ | exact hnn _
theorem Sim.binFlat {x y v u:Value} (d:Nat) (op:BinOp) (t:TypeId) (ho:op = .eql ∨ op = .neq) (ht:flatT P d t = true) (h:VR p x v) (hk:VR p y u):Sim P Q K p (binOp op t x y) (binOp op t v u) (fun q a b=>VR q a b):=by
  have hx:=h.cases
  have hyc:=hk.cases
  have eqv:Sim P Q K p (do Pure.pure (.bool (← Op.equal t x y))) (do Pure.pure (.bool (← Op.equal t v u))) (fun q a b=>VR q a b) :=
    Sim.bind (A:=fun _ a b=>a = b) (Sim.equalFlat d _ t ht h hk) fun q a b _ e=>by subst e; exact Sim.pure (VR.bool _)
  have nev:Sim P Q K p (do Pure.pure (.bool (!(← Op.equal t x y)))) (do Pure.pure (.bool (!(← Op.equal t v u)))) (fun q a b=>VR q a b) :=
    Sim.bind (A:=fun _ a b=>a = b) (Sim.equalFlat d _ t ht h hk) fun q a b _ e=>by subst e; exact Sim.pure (VR.bool _)
  have int2:∀ (k1 k2:IntKind) (a b:Int),Sim P Q K p (binOp op t (.int k1 a) (.int k2 b)) (binOp op t (.int k1 a) (.int k2 b)) (fun q a b=>VR q a b):=by
    intro k1 k2 a b
    by_cases hk:k1 ≠ k2
    · rcases ho with rfl | rfl <;> (simp only [binOp,if_pos hk]; exact Sim.halt)
    · rcases ho with rfl | rfl <;> (simp only [binOp,if_neg hk]; exact Sim.intCmp _ _ _)
  have str2:∀ (a b:ByteArray),Sim P Q K p (binOp op t (.string a) (.string b)) (binOp op t (.string a) (.string b)) (fun q a b=>VR q a b):=by
    intro a b
    rcases ho with rfl | rfl <;> (simp only [binOp,Op.stringOp]; exact Sim.pure (VR.bool _))
  have nev0:isIface x → Sim P Q K p (binOp op t x y) (binOp op t v u) (fun q a b=>VR q a b):=fun hi=>Never.sim (never_binFlat d op t ht hi)
  cases x <;> cases v <;> first
    | exact hx.elim
    | exact nev0 trivial
    | exact Bool.noConfusion hx
    | (cases y <;> cases u <;> first
        | exact hyc.elim
        | exact Bool.noConfusion hyc
        | (obtain ⟨rfl,rfl⟩:=hx; obtain ⟨rfl,rfl⟩:=hyc; exact int2 _ _ _ _)
        | (obtain rfl:_ = _:=hx; obtain rfl:_ = _:=hyc; exact str2 _ _)
        | (rcases ho with rfl | rfl
           · exact eqv
           · exact nev))
end
end Go.Proofs.YtojoafcnijajmaaGreatDoor

namespace Go.Proofs.YtojoafcnijajmaaGreatDoor
open Go
section
variable {α β γ δ:Type} {P Q:Program} {K:Nat → Prop} {p:Nat → Nat → Prop}
theorem PartsR.ext {q:Nat → Nat → Prop} (hq:Ext p q) {l m:List (Nat × Value)} (h:PartsR p l m):PartsR q l m:=⟨h.1,fun i x y hx hy=>(h.2 i x y hx hy).ext hq⟩
theorem mapM_places (P Q:Program):∀ (l:List Field) (acc:Array (Nat × Nat)) {p:Nat → Nat → Prop},Sim P Q K p (l.foldlM (init:=acc) fun acc f=>do Pure.pure (acc.push (f.offset,← Go.sizeOf f.type))) (l.foldlM (init:=acc) fun acc f=>do Pure.pure (acc.push (f.offset,← Go.sizeOf f.type))) (fun _ a b=>a = b)
  | [],acc,p=>by simp only [List.foldlM_nil]; exact Sim.pure rfl
  | f :: l,acc,p=>by
    simp only [List.foldlM_cons]
    refine Sim.bind (A:=fun _ a b=>a = b) ?_ fun q a b _ e=>by subst e; exact mapM_places P Q l a
    refine Sim.bind (Sim.sizeOf f.type) fun q a b _ e=>?_
    subst e
    exact Sim.pure rfl
theorem Sim.places (fields:Array Field):Sim P Q K p (fields.mapM fun f=>do Pure.pure (f.offset,← Go.sizeOf f.type)) (fields.mapM fun f=>do Pure.pure (f.offset,← Go.sizeOf f.type)) (fun _ a b=>a = b):=by
  rw [Array.mapM_eq_foldlM]
  simp only [bind_pure_comp]
  rw [← Array.foldlM_toList]
  have:=mapM_places (K:=K) P Q fields.toList #[] (p:=p)
  simpa [bind_pure_comp] using this
theorem Sim.build {l m:Array (Nat × Value)} (t:TypeId) (hz:ZeroAt P t) (h:PartsR p l.toList m.toList):Sim P Q K p (Instr.build t l) (Instr.build t m) (fun q a b=>VR q a b):=by
  unfold Instr.build
  refine Sim.bind (Sim.zeroValue t hz) fun q z z' hq e=>?_
  obtain ⟨rfl,hzv⟩:=e
  refine Sim.bind (Sim.underlying t) fun q1 d d' hq1 e=>?_
  obtain ⟨rfl,hd⟩:=e
  cases d with
  | struct fields =>
    simp only
    refine Sim.bind (Sim.places fields) fun q2 pl pl' hq2 e=>?_
    subst e
    have hf:=fill_rel (pl[·]?) l.toList m.toList (h.ext (hq.trans (hq1.trans hq2))) ((AllR.cells hzv).ext (hq1.trans hq2))
    revert hf
    cases Instr.fill (pl[·]?) z.cells l.toList <;> cases Instr.fill (pl[·]?) z.cells m.toList <;> intro hf <;> first
      | exact hf.elim
      | exact Bool.noConfusion hf
      | exact Sim.halt
      | exact Sim.pure (VR.agg hf)
  | array n elem =>
    simp only
    refine Sim.bind (Sim.sizeOf elem) fun q2 s s' hq2 e=>?_
    subst e
    have hf:=fill_rel (fun i=>some (i * s,s)) l.toList m.toList (h.ext (hq.trans (hq1.trans hq2))) ((AllR.cells hzv).ext (hq1.trans hq2))
    revert hf
    cases Instr.fill (fun i=>some (i * s,s)) z.cells l.toList <;> cases Instr.fill (fun i=>some (i * s,s)) z.cells m.toList <;> intro hf <;> first
      | exact hf.elim
      | exact Bool.noConfusion hf
      | exact Sim.halt
      | exact Sim.pure (VR.agg hf)
  | _=>exact Sim.halt
theorem Sim.buildSlice {l m:Array (Nat × Value)} (t:TypeId) (n:Nat) (hz:ZeroEl P t) (h:PartsR p l.toList m.toList):Sim P Q K p (Instr.buildSlice t n l) (Instr.buildSlice t n m) (fun q a b=>VR q a b):=by
  unfold Instr.buildSlice
  refine Sim.bind (Sim.underlying t) fun q d d' hq e=>?_
  obtain ⟨rfl,hd⟩:=e
  cases d with
  | slice elem =>
    simp only
    refine Sim.bind (Sim.sizeOf elem) fun q1 s s' hq1 e=>?_
    subst e
    have fin:∀ {q2:Nat → Nat → Prop} (z:Array Value),Ext q1 q2 → AllR (VR q2) z z → Sim P Q K q2
        (do let some cells:=Instr.fill (fun i=>some (i * s,s)) ((Array.range (n * s)).map (z[· % z.size]!)) l.toList | stuck "buildSlice: a part of the wrong size"
            Pure.pure (.slice (some (← Go.newRow elem cells)) n n))
        (do let some cells:=Instr.fill (fun i=>some (i * s,s)) ((Array.range (n * s)).map (z[· % z.size]!)) m.toList | stuck "buildSlice: a part of the wrong size"
            Pure.pure (.slice (some (← Go.newRow elem cells)) n n)) (fun q a b=>VR q a b):=by
      intro q2 z hq2 hzz
      have hf:=fill_rel (fun i=>some (i * s,s)) l.toList m.toList (h.ext (hq.trans (hq1.trans hq2))) (AllR.mod' hzz (n * s))
      revert hf
      cases Instr.fill (fun i=>some (i * s,s)) ((Array.range (n * s)).map (z[· % z.size]!)) l.toList <;> cases Instr.fill (fun i=>some (i * s,s)) ((Array.range (n * s)).map (z[· % z.size]!)) m.toList <;> intro hf <;> first
        | exact hf.elim
        | exact Bool.noConfusion hf
        | exact Sim.halt
        | exact Sim.bind (Sim.newRowA elem hf) fun q r r' _ hr=>Sim.pure (VR.slice hr.1)
    split
    · exact (Never.left (Never.halt _)).sim
    · split
      · simp only [pure_bind]
        exact fin _ (Ext.refl _) AllR.empty
      · simp only [pure_bind]
        refine Sim.bind (Sim.zeroValue elem (hz elem hd)) fun q2 z z' hq2 e=>?_
        obtain ⟨rfl,hzv⟩:=e
        exact fin _ hq2 (AllR.cells hzv)
  | _=>exact Sim.halt
def PlainFns (fns:List Nat) (P Q:Program):Prop:=(∀ g ∈ valList,g ∈ fns) ∧ ∀ g ∈ fns,(∃ fn,P.funcs[g]? = some fn ∧ (fn.name == "runtime.NumGoroutine") = false ∧ fn.body.isNone = false) ∧ ∃ fn,Q.funcs[g]? = some fn ∧ (fn.name == "runtime.NumGoroutine") = false ∧ fn.body.isNone = false
def NR (fns:List Nat) (p:Nat → Nat → Prop):Next → Next → Prop
  | .value v,.value u=>VR p v u
  | .skip,.skip=>True
  | .enter f a,.enter g b=>f = g ∧ f ∈ fns ∧ AllR (VR p) a b ∧ (f = 22 → a.size = 2)
  | _,_=>False
theorem Sim.callFunc {fns:List Nat} {f:FuncId} {a b:Array Value} (hf:f ∈ fns) (hs:f = 22 → a.size = 2) (hp:PlainFns fns P Q) (h:AllR (VR p) a b):Sim P Q K p (callFunc f a) (callFunc f b) (NR fns):=by
  unfold Go.callFunc
  refine Sim.bind Sim.program fun q s s' hq e=>?_
  rw [e.1,e.2]
  obtain ⟨⟨fn,h1,h2,h3⟩,fn',h1',h2',h3'⟩:=hp.2 f hf
  rw [h1,h1']
  simp only [h2,h3,h2',h3',Bool.false_eq_true,if_false]
  exact Sim.pure ⟨rfl,hf,h.ext hq,hs⟩
theorem Sim.invokeValue {fns:List Nat} {x v:Value} {a b:Array Value} (hp:PlainFns fns P Q) (h:VR p x v) (hab:AllR (VR p) a b) :
    Sim P Q K p (do let d ← Deferred.ofValue x a; invoke d.target d.args) (do let d ← Deferred.ofValue v b; invoke d.target d.args) (NR fns):=by
  have hx:=h.cases
  cases x with
  | func f y c =>
    obtain ⟨hf,y',c',rfl,hy,hc⟩:=h.func_inv
    cases f with
    | func f =>
      refine Sim.bind (A:=fun q d e=>d.target = .fn (.func f) c ∧ d.args = y ++ a ∧ e.target = .fn (.func f) c' ∧ e.args = y' ++ b) (Sim.pure ⟨rfl,rfl,rfl,rfl⟩) fun q d e hq he=>?_
      obtain ⟨e1,e2,e3,e4⟩:=he
      rw [e1,e2,e3,e4]
      exact Sim.callFunc (hp.1 f hf) (fun e=>absurd (show f ∈ valList from hf) (by rw [e]; decide)) hp (((hy.append hab).append hc).ext hq)
    | _=>exact hf.elim
  | nilFunc =>
    cases v <;> first
      | exact hx.elim
      | exact Bool.noConfusion hx
      | (refine Never.sim ?_
         have e:(do let d ← Deferred.ofValue .nilFunc a; invoke d.target d.args) = (runtimePanic .nilDeref:Sem Next):=rfl
         rw [e]
         exact Never.runtimePanic _)
  | _=>cases v <;> first | exact hx.elim | exact Bool.noConfusion hx | exact Never.sim (Never.left (Never.halt _))
theorem Sim.invokeDirect {fns:List Nat} {f:FuncId} {a b:Array Value} (hf:f ∈ fns) (hs:f = 22 → a.size = 2) (hp:PlainFns fns P Q) (hab:AllR (VR p) a b) :
    Sim P Q K p (do let d ← Deferred.ofValue (.func (.func f) #[] #[]) a; invoke d.target d.args) (do let d ← Deferred.ofValue (.func (.func f) #[] #[]) b; invoke d.target d.args) (NR fns):=by
  refine Sim.bind (A:=fun q d e=>d.target = .fn (.func f) #[] ∧ d.args = #[] ++ a ∧ e.target = .fn (.func f) #[] ∧ e.args = #[] ++ b) (Sim.pure ⟨rfl,rfl,rfl,rfl⟩) fun q d e hq he=>?_
  obtain ⟨e1,e2,e3,e4⟩:=he
  rw [e1,e2,e3,e4]
  exact Sim.callFunc hf (fun e=>by simpa using hs e) hp (((AllR.empty.append hab).append AllR.empty).ext hq)
def flatV:Value → Bool
  | .bool _ | .int _ _ | .string _ | .pointer none | .slice none _ _ | .nilFunc | .nilIface=>true
  | .tuple vs=>vs.size == 0
  | _=>false
theorem flatV_VR {v:Value} (h:flatV v = true):VR p v v:=by
  cases v with
  | bool b=>exact VR.bool _
  | int k n=>exact VR.int _ _
  | string s=>exact VR.string _
  | pointer o=>cases o with
    | none=>exact VR.ptr trivial
    | some a=>cases h
  | slice o l c=>cases o with
    | none=>exact VR.slice trivial
    | some a=>cases h
  | nilFunc=>exact ⟨1,rfl⟩
  | nilIface=>exact ⟨1,trivial⟩
  | tuple vs =>
    have:vs.size = 0:=by simpa [flatV] using h
    obtain rfl:vs = #[]:=Array.eq_empty_of_size_eq_zero this
    exact VR.tuple AllR.empty
  | _=>cases h
def okOperand:Operand → Bool
  | .tmp _=>true
  | .const v=>flatV v
  | .func f=>valList.contains f
  | .global _=>false
def isInt (P:Program) (t:TypeId):Bool:=match P.underlying t with | some (.int _)=>true | _=>false
def isStr (P:Program) (t:TypeId):Bool:=match P.underlying t with | some .string=>true | _=>false
def isBytes (P:Program) (t:TypeId):Bool:=match P.underlying t with
  | some (.slice e)=>(match P.underlying e with | some (.int .u8)=>true | _=>false)
  | _=>false
def isBool (P:Program) (t:TypeId):Bool:=match P.underlying t with | some .bool=>true | _=>false
def isSlice (P:Program) (t:TypeId):Bool:=match P.underlying t with | some (.slice _)=>true | _=>false
def isPtr (P:Program) (t:TypeId):Bool:=match P.underlying t with | some (.pointer _)=>true | _=>false
def nilConst (P:Program) (t:TypeId):Operand → Bool
  | .const (.slice none 0 0)=>isSlice P t
  | .const (.pointer none)=>isPtr P t
  | _=>false
def flatEq (P:Program) (t:TypeId):Bool:=flatT P 6 t && !P.eqGuardType P.depth t
def isEq:BinOp → Bool
  | .eql | .neq=>true
  | _=>false
def okCall (P:Program) (fns:List Nat) (c:Call):Bool :=
  c.args.all okOperand && match c.callee with
  | .value (.func f)=>fns.contains f && (f != 22 || c.args.size == 2)
  | .value f=>okOperand f
  | .builtin .len=>c.args.size == 1 && c.argTypes.size == 1 && c.argTypes.all fun t=>match P.underlying t with | some (.map _ _) | some (.chan _ _)=>false | _=>true
  | .builtin .append=>c.args.size == 2 && c.argTypes.size == 2 && c.argTypes.all fun t=>!isInt P t && elT P t
  | .builtin .copy=>c.args.size == 2 && c.argTypes.size == 2
  | .builtin .clear=>c.args.size == 1 && c.argTypes.size == 1 && c.argTypes.all (elT P)
  | _=>false
def plainOp (P:Program) (fns:List Nat) (o:Oper):Bool:=match o.op with
  | .move x | .assign x | .box _ x | .load _ x | .nilCheck x | .unOp _ _ x | .fieldAddr _ x _ | .field _ x _ | .extract x _=>okOperand x
  | .pick c a b=>okOperand c && okOperand a && okOperand b
  | .alloc t=>zeroT P t
  | .build t parts=>zeroT P t && parts.all fun x=>okOperand x.2
  | .buildSlice t _ parts=>elT P t && parts.all fun x=>okOperand x.2
  | .makeSlice t a x=>elT P t && (okOperand a && okOperand x)
  | .store _ a x | .indexAddr _ a x | .index _ a x=>okOperand a && okOperand x
  | .binOp op t x y _=>okOperand x && okOperand y && (isInt P t || (isEq op && (isBool P t || nilConst P t y || flatEq P t)))
  | .convert s t x=>okOperand x && ((isInt P s && isInt P t) || (isBytes P s && isStr P t))
  | .makeFunc (.func f) a b=>valList.contains f && a.all okOperand && b.all okOperand
  | .slice t x lo hi none=>okOperand x && (lo.map okOperand).getD true && (hi.map okOperand).getD true && !isPtr P t
  | .call c=>okCall P fns c
  | _=>false
end
end Go.Proofs.YtojoafcnijajmaaGreatDoor
