/- Part 2 of the proof that Devices answers true and leaves its input as it was, for input of bulk at most the bound of its row: W4 W5. -/
import Derived.Test.YtojoafcnijajmaaGreatDoorT1
import Derived.Laws.Entries
namespace Go.Proofs.YtojoafcnijajmaaGreatDoor
open Go
section
variable {α β γ δ:Type} {P Q:Program} {K:Nat → Prop} {p:Nat → Nat → Prop}
theorem AR.same_block {w u:World} {G:Nat} (hw:WR G K p w u) {a b c d:Addr} (h:AR p a c) (k:AR p b d):(a.block == b.block) = (c.block == d.block):=by
  have:=hw.fit _ _ _ _ h.1 k.1
  rw [Bool.eq_iff_iff]
  simp [this]
theorem Sim.given {s:Sem α} {t:Sem β} {A:(Nat → Nat → Prop) → α → β → Prop} (h:(∃ w u,WR P.globals.size K p w u) → Sim P Q K p s t A):Sim P Q K p s t A :=
  fun tw w u es fs hw ht=>h ⟨w,u,hw⟩ tw w u es fs hw ht
theorem Sim.twoPlaces {a b c d:Addr} (h:AR p a c) (k:AR p b d):Sim P Q K p (Op.twoPlaces a b) (Op.twoPlaces c d) (fun _ x y=>x = y):=by
  refine Sim.given fun ⟨w,u,hw⟩=>?_
  have e1:=AR.same_block hw h k
  unfold Op.twoPlaces
  refine Sim.twin fun tw=>Sim.bind Sim.program fun q s t hq e=>?_
  rw [e.1,e.2,tw.globals]
  have e2:(a.block != b.block || decide (a.block ≥ P.globals.size)) = (c.block != d.block || decide (c.block ≥ P.globals.size)):=by
    have e3:(a.block != b.block) = (c.block != d.block):=by simp only [bne,e1]
    rw [e3]
    by_cases hac:a.block = c.block
    · rw [hac]
    · obtain ⟨l1,l2⟩:=hw.low _ _ h.1 hac
      have e4:decide (a.block ≥ P.globals.size) = true:=by simp [l1]
      have e5:decide (c.block ≥ P.globals.size) = true:=by simp [l2]
      rw [e4,e5]
  rw [e2]
  split
  · exact Never.sim (fun w es=>by refine ⟨⟨_,_,_,?_,rfl⟩,Nat.le_refl _,rfl,fun T' _=>rfl⟩; trivial)
  · refine Sim.bind (Sim.byteOf (h.mono hq)) fun q' x y hq' e=>?_
    subst e
    refine Sim.bind (Sim.byteOf ((k.mono hq).mono hq')) fun q'' x y _ e=>?_
    subst e
    exact Sim.pure rfl
theorem Sim.addrSub {a b c d:Addr} (k:IntKind) (h:AR p a c) (h':AR p b d):Sim P Q K p (Op.addrSub k a b) (Op.addrSub k c d) (fun q x y=>VR q x y):=by
  unfold Op.addrSub
  refine Sim.bind (Sim.twoPlaces h h') fun q x y _ e=>?_
  subst e
  exact Sim.pure (VR.int _ _)
theorem Sim.addrCmp {a b c d:Addr} (op:BinOp) (h:AR p a c) (h':AR p b d):Sim P Q K p (Op.addrCmp op a b) (Op.addrCmp op c d) (fun q x y=>VR q x y):=by
  unfold Op.addrCmp
  refine Sim.bind (Sim.twoPlaces h h') fun q x y _ e=>?_
  subst e
  cases op <;> first | exact Sim.halt | exact Sim.pure (VR.bool _)
theorem Sim.addrMod {a c:Addr} (k:IntKind) (n:Int) (h:AR p a c):Sim P Q K p (Op.addrMod k a n) (Op.addrMod k c n) (fun q x y=>VR q x y):=by
  unfold Op.addrMod
  refine Sim.bind (Sim.shape h.1) fun q x y hq e=>?_
  subst e
  cases x with
  | none=>exact Sim.halt
  | some x =>
    simp only
    refine Sim.bind (Sim.typeInfo x.1) fun q' i j hq' e=>?_
    obtain ⟨rfl,_⟩:=e
    split
    · exact Never.sim (fun w es=>by refine ⟨⟨_,_,_,?_,rfl⟩,Nat.le_refl _,rfl,fun T' _=>rfl⟩; trivial)
    · refine Sim.bind (Sim.byteOf (h.mono (hq.trans hq'))) fun q'' x y _ e=>?_
      subst e
      exact Sim.pure (VR.int _ _)
theorem Sim.intArith (op:BinOp) (k:IntKind) (x y:Int):Sim P Q K p (Op.intArith op k x y) (Op.intArith op k x y) (fun q a b=>VR q a b):=by
  unfold Op.intArith
  cases op <;> first | exact Sim.pure (VR.int _ _) | exact Sim.halt
theorem Sim.intDiv (op:BinOp) (k:IntKind) (x y:Int):Sim P Q K p (Op.intDiv op k x y) (Op.intDiv op k x y) (fun q a b=>VR q a b):=by
  unfold Op.intDiv
  split
  · exact (Never.runtimePanic _).sim
  · cases op <;> first | exact Sim.pure (VR.int _ _) | exact Sim.halt
theorem Sim.intBits (op:BinOp) (k:IntKind) (x y:Int):Sim P Q K p (Op.intBits op k x y) (Op.intBits op k x y) (fun q a b=>VR q a b):=by
  unfold Op.intBits
  cases op <;> first | exact Sim.pure (VR.int _ _) | exact Sim.halt
theorem Sim.intCmp (op:BinOp) (x y:Int):Sim P Q K p (Op.intCmp op x y) (Op.intCmp op x y) (fun q a b=>VR q a b):=by
  unfold Op.intCmp
  cases op <;> first | exact Sim.pure (VR.bool _) | exact Sim.halt
theorem Sim.shift (op:BinOp) (k:IntKind) (x:Int) (j:IntKind) (y:Int):Sim P Q K p (Op.shift op k x j y) (Op.shift op k x j y) (fun q a b=>VR q a b):=by
  unfold Op.shift
  split
  · exact (Never.runtimePanic _).sim
  · cases op <;> first | exact Sim.pure (VR.int _ _) | exact Sim.halt
theorem AR.eq_iff {w u:World} {G:Nat} (hw:WR G K p w u) {a b c d:Addr} (h:AR p a c) (k:AR p b d):(a == b) = (c == d):=by
  rw [Bool.eq_iff_iff]
  simp only [beq_iff_eq]
  have:=hw.fit _ _ _ _ h.1 k.1
  constructor
  · rintro rfl
    obtain ⟨c1,c2,c3⟩:=c
    obtain ⟨d1,d2,d3⟩:=d
    have e1:=this.1 rfl
    simp only at e1
    have e2:c2 = d2:=h.2.1.symm.trans k.2.1
    have e3:c3 = d3:=h.2.2.symm.trans k.2.2
    rw [e1,e2,e3]
  · rintro rfl
    obtain ⟨a1,a2,a3⟩:=a
    obtain ⟨b1,b2,b3⟩:=b
    have e1:=this.2 rfl
    simp only at e1
    have e2:a2 = b2:=h.2.1.trans k.2.1.symm
    have e3:a3 = b3:=h.2.2.trans k.2.2.symm
    rw [e1,e2,e3]
theorem Sim.equalInt {x y v u:Value} (n:Nat) (t:TypeId) {k:IntKind} (ht:P.underlying t = some (.int k)) (h:VR p x v) (k':VR p y u):Sim P Q K p (Op.equalIn n t x y) (Op.equalIn n t v u) (fun _ a b=>a = b):=by
  cases n with
  | zero=>exact Sim.halt
  | succ n =>
    unfold Op.equalIn
    refine Sim.bind (Sim.underlying t) fun q d d' hq e=>?_
    obtain ⟨rfl,hd⟩:=e
    rw [ht] at hd
    cases hd
    have hx:=h.ext hq
    have hy:=k'.ext hq
    have hxc:=hx.cases
    have hyc:=hy.cases
    cases x with
    | int k1 a =>
      rw [hx.int_inv]
      cases y with
      | int k2 b =>
        rw [hy.int_inv]
        simp only
        split
        · exact Sim.pure rfl
        · exact Sim.halt
      | pointer o =>
        obtain ⟨o',rfl,ho⟩:=hy.ptr_inv
        cases o with
        | none =>
          obtain rfl:=ho.none_inv
          cases a with
          | ofNat m=>cases m <;> exact Sim.halt
          | negSucc m=>exact Sim.halt
        | some o =>
          obtain ⟨o2,rfl,_⟩:=ho.some_inv
          cases a with
          | ofNat m=>cases m with
            | zero=>exact Sim.pure rfl
            | succ m=>exact Sim.halt
          | negSucc m=>exact Sim.halt
      | _=>first | exact hyc.elim | exact Bool.noConfusion hyc | (cases u <;> first | exact hyc.elim | exact Bool.noConfusion hyc | exact Sim.halt)
    | pointer o =>
      obtain ⟨o',rfl,ho⟩:=hx.ptr_inv
      cases o with
      | none=>cases y <;> cases u <;> first | exact hyc.elim | exact Bool.noConfusion hyc | exact Sim.halt
      | some o =>
        obtain ⟨o2,rfl,ho2⟩:=ho.some_inv
        cases y with
        | int k2 b =>
          rw [hy.int_inv]
          cases b with
          | ofNat m=>cases m with
            | zero=>exact Sim.pure rfl
            | succ m=>exact Sim.halt
          | negSucc m=>exact Sim.halt
        | pointer r =>
          obtain ⟨r',rfl,hr⟩:=hy.ptr_inv
          cases r with
          | none=>obtain rfl:=hr.none_inv; exact Sim.halt
          | some r =>
            obtain ⟨r2,rfl,hr2⟩:=hr.some_inv
            refine Sim.bind (Sim.behindNumber ho2) fun q1 z z' hq1 e=>?_
            obtain ⟨z1,z2⟩:=z
            obtain ⟨y1,y2⟩:=z'
            obtain ⟨e1,rfl⟩ : AR q1 z1 y1 ∧ z2 = y2:=e
            refine Sim.bind (Sim.behindNumber (hr2.mono hq1)) fun q2 v v' hq2 e=>?_
            obtain ⟨v1,v2⟩:=v
            obtain ⟨u1,u2⟩:=v'
            obtain ⟨e2,rfl⟩ : AR q2 v1 u1 ∧ v2 = u2:=e
            have e1':=e1.mono hq2
            refine Sim.twin fun tw=>Sim.bind Sim.program fun q3 s s' hq3 e=>?_
            rw [e.1,e.2,tw.globals]
            refine Sim.given fun ⟨w,u,hw⟩=>?_
            have f1:=AR.same_block hw (e1'.mono hq3) (e2.mono hq3)
            have f2:=AR.eq_iff hw (e1'.mono hq3) (e2.mono hq3)
            have f3:(z1.block == v1.block && decide (z1.block < P.globals.size)) = (y1.block == u1.block && decide (y1.block < P.globals.size)):=by
              rw [f1]
              by_cases hac:z1.block = y1.block
              · rw [hac]
              · obtain ⟨l1,l2⟩:=hw.low _ _ ((e1'.mono hq3).1) hac
                have e4:decide (z1.block < P.globals.size) = false:=by simp [l1]
                have e5:decide (y1.block < P.globals.size) = false:=by simp [l2]
                rw [e4,e5]
            simp only [f3]
            split
            · refine Sim.bind (Sim.byteOf (e1'.mono hq3)) fun q4 b b' hq4 e=>?_
              subst e
              refine Sim.bind (Sim.byteOf ((e2.mono hq3).mono hq4)) fun q5 b b' hq5 e=>?_
              subst e
              exact Sim.pure rfl
            · refine Sim.bind (Sim.typeInfo t) fun q4 i j hq4 e=>?_
              obtain ⟨rfl,_⟩:=e
              rw [f2]
              split
              · split
                · exact Sim.pure rfl
                · exact Sim.halt
              · exact Sim.halt
        | _=>first | exact hyc.elim | exact Bool.noConfusion hyc | (cases u <;> first | exact hyc.elim | exact Bool.noConfusion hyc | exact Sim.halt)
    | _=>cases v <;> first | exact hxc.elim | exact Bool.noConfusion hxc | (cases y <;> cases u <;> first | exact hyc.elim | exact Bool.noConfusion hyc | exact Sim.halt)
end
end Go.Proofs.YtojoafcnijajmaaGreatDoor

namespace Go.Proofs.YtojoafcnijajmaaGreatDoor
open Go
section
variable {α β γ δ:Type} {P Q:Program} {K:Nat → Prop} {p:Nat → Nat → Prop}
theorem Never.type {t:TypeId} {d:TypeDesc} (ht:P.underlying t = some d) {f:TypeDesc → Sem γ} (h:Never P (f d)):Never P (Go.underlying t >>= f):=fun w es=>by
  obtain ⟨r,es1,hr⟩ : ∃ r es1,(Go.underlying t).runT P w es = (r,es1):=⟨_,_,rfl⟩
  have h0:r = .ok d w:=by
    have:=congrArg Prod.fst hr
    rw [Sem.runT_fst,run_underlying ht] at this
    exact this.symm
  subst h0
  refine ⟨?_,Local.bind ((Soft.underlying t) w es).2 fun a w' es' hr'=>?_⟩
  · have e:(Go.underlying t >>= f).runT P w es = ((Go.underlying t).bind f).runT P w es:=rfl
    rw [e,Sem.runT_bind',hr]
    exact (h w es1).1
  · rw [hr] at hr'
    cases hr'
    exact (h w es1).2
def isIface:Value → Prop
  | .nilFunc=>True
  | _=>False
theorem never_equalIn {x y:Value} (n:Nat) (t:TypeId) (ht:(∃ k,P.underlying t = some (.int k)) ∨ P.underlying t = some .bool ∨ (∃ e,P.underlying t = some (.slice e)) ∨ (∃ e,P.underlying t = some (.pointer e))) (h:isIface x):Never P (Op.equalIn n t x y):=by
  cases n with
  | zero=>exact Never.halt _
  | succ n =>
    unfold Op.equalIn
    cases x <;> first | exact h.elim | skip
    rcases ht with ⟨k,ht⟩ | ht | ⟨e,ht⟩ | ⟨e,ht⟩
    all_goals refine Never.type ht ?_
    all_goals cases y <;> first | exact Never.halt _ | (rename_i o; cases o <;> exact Never.halt _) | (rename_i o l c; cases o <;> exact Never.halt _)
theorem never_binOp {x y:Value} (op:BinOp) (t:TypeId) (ht:(∃ k,P.underlying t = some (.int k)) ∨ P.underlying t = some .bool ∨ (∃ e,P.underlying t = some (.slice e)) ∨ (∃ e,P.underlying t = some (.pointer e))) (h:isIface x):Never P (binOp op t x y):=by
  have hne:∀ y,Never P (do Pure.pure (.bool (← Op.equal t x y)):Sem Value):=fun y=>Never.left (never_equalIn _ t ht h)
  have hnn:∀ y,Never P (do Pure.pure (.bool (!(← Op.equal t x y))):Sem Value):=fun y=>Never.left (never_equalIn _ t ht h)
  cases x <;> first | exact h.elim | skip
  cases y <;> cases op <;> first | exact Never.halt _ | exact hne _ | exact hnn _
theorem Sim.equalBool {x y v u:Value} (n:Nat) (t:TypeId) (ht:P.underlying t = some .bool) (h:VR p x v) (k':VR p y u):Sim P Q K p (Op.equalIn n t x y) (Op.equalIn n t v u) (fun _ a b=>a = b):=by
  cases n with
  | zero=>exact Sim.halt
  | succ n =>
    unfold Op.equalIn
    refine Sim.bind (Sim.underlying t) fun q d d' hq e=>?_
    obtain ⟨rfl,hd⟩:=e
    rw [ht] at hd
    cases hd
    have hx:=(h.ext hq).cases
    have hy:=(k'.ext hq).cases
    cases x <;> cases v <;> first
      | exact hx.elim
      | exact Bool.noConfusion hx
      | (cases y <;> cases u <;> first
          | exact hy.elim
          | exact Bool.noConfusion hy
          | (obtain rfl:_ = _:=hx; obtain rfl:_ = _:=hy; exact Sim.pure rfl)
          | exact Sim.halt)
theorem Sim.equalNil {x v:Value} {y:Value} (n:Nat) (t:TypeId) (ht:(∃ e,P.underlying t = some (.slice e) ∧ y = .slice none 0 0) ∨ (∃ e,P.underlying t = some (.pointer e) ∧ y = .pointer none)) (h:VR p x v):Sim P Q K p (Op.equalIn n t x y) (Op.equalIn n t v y) (fun _ a b=>a = b):=by
  cases n with
  | zero=>exact Sim.halt
  | succ n =>
    unfold Op.equalIn
    refine Sim.bind (Sim.underlying t) fun q d d' hq e=>?_
    obtain ⟨rfl,hd⟩:=e
    have hx:=(h.ext hq).cases
    rcases ht with ⟨e,ht,rfl⟩ | ⟨e,ht,rfl⟩ <;> rw [ht] at hd <;> cases hd
    · cases x <;> cases v <;> first
        | exact hx.elim
        | exact Bool.noConfusion hx
        | exact Sim.halt
        | (rename_i a1 l1 c1 a2 l2 c2
           obtain ⟨h1,rfl,rfl⟩:=hx
           cases a1 <;> cases a2 <;> first | exact Sim.pure rfl | exact h1.elim)
    · cases x <;> cases v <;> first
        | exact hx.elim
        | exact Bool.noConfusion hx
        | exact Sim.halt
        | (rename_i a1 a2
           cases a1 <;> cases a2 <;> first | exact Sim.pure rfl | exact (hx:False).elim)
theorem Sim.eqGuardIn {x y v u:Value} (n:Nat) (t:TypeId) (ht:(∃ k,P.underlying t = some (.int k)) ∨ P.underlying t = some .bool ∨ (∃ e,P.underlying t = some (.slice e)) ∨ (∃ e,P.underlying t = some (.pointer e))):Sim P Q K p (Op.eqGuardIn n t x y) (Op.eqGuardIn n t v u) (fun _ a b=>a = b):=by
  cases n with
  | zero=>exact Sim.halt
  | succ n =>
    unfold Op.eqGuardIn
    refine Sim.bind (Sim.underlying t) fun q d d' hq e=>?_
    obtain ⟨rfl,hd⟩:=e
    rcases ht with ⟨k,ht⟩ | ht | ⟨e,ht⟩ | ⟨e,ht⟩ <;> rw [ht] at hd <;> cases hd <;> exact Sim.pure rfl
theorem Sim.eqGuard {x y v u:Value} (op:BinOp) (t:TypeId) (a b:Operand) (ht:(∃ k,P.underlying t = some (.int k)) ∨ P.underlying t = some .bool ∨ (∃ e,P.underlying t = some (.slice e)) ∨ (∃ e,P.underlying t = some (.pointer e))) (h:VR p x v) (k:VR p y u):Sim P Q K p (eqGuard op t a b x y) (eqGuard op t a b v u) (fun _ _ _=>True):=by
  have hx:=h.cases
  have hy:=k.cases
  unfold Go.eqGuard
  have nilnil:∀ {q:Nat → Nat → Prop} (c:Bool),Sim P Q K q
      (if c then (Pure.pure ():Sem Unit) else do
        if ← Op.eqGuardIn Op.maxDepth t .nilIface .nilIface then unsupported (.noEntry "binop/eql: two nil values of an interface type with methods, neither of them the literal nil"))
      (if c then (Pure.pure ():Sem Unit) else do
        if ← Op.eqGuardIn Op.maxDepth t .nilIface .nilIface then unsupported (.noEntry "binop/eql: two nil values of an interface type with methods, neither of them the literal nil")) (fun _ _ _=>True):=by
    intro q c
    cases c with
    | true=>exact Sim.pure trivial
    | false =>
      refine Sim.bind (Sim.eqGuardIn _ t ht) fun q' c d _ e=>?_
      subst e
      cases c with
      | true=>exact Sim.halt
      | false=>exact Sim.pure trivial
  have aggagg:∀ {q:Nat → Nat → Prop} (xs ys vs us:Array Value),Sim P Q K q
      (do if !(← Go.program).eqGuardType (← Go.program).depth t then return
          if ← Op.eqGuardIn Op.maxDepth t (.agg xs) (.agg ys) then unsupported (.noEntry "binop/eql: two nil values of an interface type with methods, in a part of a struct or an array"))
      (do if !(← Go.program).eqGuardType (← Go.program).depth t then return
          if ← Op.eqGuardIn Op.maxDepth t (.agg vs) (.agg us) then unsupported (.noEntry "binop/eql: two nil values of an interface type with methods, in a part of a struct or an array")) (fun _ _ _=>True):=by
    intro q xs ys vs us
    refine Sim.twin fun tw=>Sim.bind Sim.program fun q s s' _ e=>?_
    rw [e.1,e.2]
    refine Sim.bind Sim.program fun q s s' _ e=>?_
    rw [e.1,e.2,tw.eqGuardType]
    split
    · exact Sim.pure trivial
    · refine Sim.bind (Sim.eqGuardIn _ t ht) fun q' c d _ e=>?_
      subst e
      cases c with
      | true=>exact Sim.halt
      | false=>exact Sim.pure trivial
  cases op <;> first
    | exact Sim.pure trivial
    | (cases x <;> cases v <;> first
        | exact hx.elim
        | exact Bool.noConfusion hx
        | (cases y <;> cases u <;> first
            | exact hy.elim
            | exact Bool.noConfusion hy
            | exact Sim.pure trivial
            | exact nilnil _
            | exact aggagg _ _ _ _))
set_option maxHeartbeats 4000000 in
theorem Sim.binInt {x y v u:Value} (op:BinOp) (t:TypeId) {k:IntKind} (ht:P.underlying t = some (.int k)) (h:VR p x v) (h':VR p y u):Sim P Q K p (binOp op t x y) (binOp op t v u) (fun q a b=>VR q a b):=by
  have hx:=h.cases
  have hy:=h'.cases
  have eqv:∀ {a b c d:Value},VR p a c → VR p b d → Sim P Q K p (do Pure.pure (.bool (← Op.equal t a b))) (do Pure.pure (.bool (← Op.equal t c d))) (fun q a b=>VR q a b):=fun h1 h2 =>
    Sim.bind (Sim.equalInt _ t ht h1 h2) fun q a b _ e=>by subst e; exact Sim.pure (VR.bool _)
  have nev:∀ {a b c d:Value},VR p a c → VR p b d → Sim P Q K p (do Pure.pure (.bool (!(← Op.equal t a b)))) (do Pure.pure (.bool (!(← Op.equal t c d)))) (fun q a b=>VR q a b):=fun h1 h2 =>
    Sim.bind (Sim.equalInt _ t ht h1 h2) fun q a b _ e=>by subst e; exact Sim.pure (VR.bool _)
  have cmp:∀ {a b c d:Addr} (op:BinOp),AR p a c → AR p b d → Sim P Q K p (do Op.addrCmp op (← Go.behindNumber a).1 (← Go.behindNumber b).1) (do Op.addrCmp op (← Go.behindNumber c).1 (← Go.behindNumber d).1) (fun q a b=>VR q a b):=fun op h1 h2 =>
    Sim.bind (Sim.behindNumber h1) fun q1 z z' hq1 e=>Sim.bind (Sim.behindNumber (h2.mono hq1)) fun q2 v v' hq2 e2=>Sim.addrCmp op (e.1.mono hq2) e2.1
  have mod:∀ {a c:Addr} (k:IntKind) (n:Int),AR p a c → Sim P Q K p (do Op.addrMod k (← Go.behindNumber a).1 n) (do Op.addrMod k (← Go.behindNumber c).1 n) (fun q a b=>VR q a b):=fun k n h1 =>
    Sim.bind (Sim.behindNumber h1) fun q1 z z' hq1 e=>Sim.addrMod k n e.1
  have str:∀ (op:BinOp) (a b:ByteArray),Sim P Q K p (Op.stringOp op a b) (Op.stringOp op a b) (fun q a b=>VR q a b):=by
    intro op a b
    unfold Op.stringOp
    cases op <;> first
      | exact Sim.pure (VR.bool _)
      | exact Sim.halt
      | (simp only; split
         · exact Sim.halt
         · exact Sim.pure (VR.string _))
  cases x with
  | int k1 a =>
    obtain rfl:=h.int_inv
    cases y with
    | int k2 b =>
      obtain rfl:=h'.int_inv
      cases op with
      | shl=>simp only [binOp]; exact Sim.shift _ _ _ _ _
      | shr=>simp only [binOp]; exact Sim.shift _ _ _ _ _
      | _ =>
        by_cases hk:k1 ≠ k2
        · simp only [binOp,if_pos hk]; exact Sim.halt
        · simp only [binOp,if_neg hk]
          first | exact Sim.intArith _ _ _ _ | exact Sim.intDiv _ _ _ _ | exact Sim.intBits _ _ _ _ | exact Sim.intCmp _ _ _
    | pointer o =>
      obtain ⟨o',rfl,ho⟩:=h'.ptr_inv
      cases o with
      | none =>
        obtain rfl:=ho.none_inv
        cases op with
        | eql=>exact eqv h h'
        | neq=>exact nev h h'
        | add=>exact Sim.movedNumber t h' h ⟨_,rfl⟩
        | _=>exact Sim.halt
      | some o =>
        obtain ⟨o2,rfl,ho2⟩:=ho.some_inv
        cases op with
        | eql=>exact eqv h h'
        | neq=>exact nev h h'
        | add=>exact Sim.movedNumber t h' h ⟨_,rfl⟩
        | and=>exact mod _ _ ho2
        | _=>exact Sim.halt
    | _=>cases u <;> first
        | exact hy.elim
        | exact Bool.noConfusion hy
        | (cases op with
            | eql=>exact eqv h h'
            | neq=>exact nev h h'
            | _=>exact Sim.halt)
  | pointer o =>
    obtain ⟨o',rfl,ho⟩:=h.ptr_inv
    have addp:∀ {y u:Value},VR p y u → Sim P Q K p (do if (← Go.underlying t) matches .unsafePointer then movedPointer t (.pointer o) y else Go.movedNumber t (.pointer o) y)
        (do if (← Go.underlying t) matches .unsafePointer then movedPointer t (.pointer o') u else Go.movedNumber t (.pointer o') u) (fun q a b=>VR q a b):=by
      intro y u hyu
      refine Sim.bind (Sim.underlying t) fun q d d' hq e=>?_
      obtain ⟨rfl,hd⟩:=e
      rw [ht] at hd
      cases hd
      exact Sim.movedNumber t (h.ext hq) (hyu.ext hq) ⟨_,rfl⟩
    cases y with
    | int k2 b =>
      obtain rfl:=h'.int_inv
      cases o with
      | none =>
        obtain rfl:=ho.none_inv
        cases op with
        | eql=>exact eqv h h'
        | neq=>exact nev h h'
        | add=>exact addp h'
        | sub=>exact Sim.movedNumber t h (VR.int _ _) ⟨_,rfl⟩
        | _=>exact Sim.halt
      | some o =>
        obtain ⟨o2,rfl,ho2⟩:=ho.some_inv
        cases op with
        | eql=>exact eqv h h'
        | neq=>exact nev h h'
        | add=>exact addp h'
        | sub=>exact Sim.movedNumber t h (VR.int _ _) ⟨_,rfl⟩
        | rem=>exact mod _ _ ho2
        | and=>exact mod _ _ ho2
        | _=>exact Sim.halt
    | pointer r =>
      obtain ⟨r',rfl,hr⟩:=h'.ptr_inv
      cases o with
      | none =>
        obtain rfl:=ho.none_inv
        cases op with
        | eql=>exact eqv h h'
        | neq=>exact nev h h'
        | _=>cases r <;> cases r' <;> first | exact Sim.halt | exact hr.elim
      | some o =>
        obtain ⟨o2,rfl,ho2⟩:=ho.some_inv
        cases r with
        | none =>
          obtain rfl:=hr.none_inv
          cases op with
          | eql=>exact eqv h h'
          | neq=>exact nev h h'
          | _=>exact Sim.halt
        | some r =>
          obtain ⟨r2,rfl,hr2⟩:=hr.some_inv
          cases op with
          | eql=>exact eqv h h'
          | neq=>exact nev h h'
          | sub=>exact Sim.bind (Sim.behindNumber ho2) fun q1 z z' hq1 e=>Sim.bind (Sim.behindNumber (hr2.mono hq1)) fun q2 v v' hq2 e2=>Sim.addrSub _ (e.1.mono hq2) e2.1
          | lss=>exact cmp _ ho2 hr2
          | leq=>exact cmp _ ho2 hr2
          | gtr=>exact cmp _ ho2 hr2
          | geq=>exact cmp _ ho2 hr2
          | _=>exact Sim.halt
    | _=>cases u <;> first
        | exact hy.elim
        | exact Bool.noConfusion hy
        | (cases op with
            | eql=>exact eqv h h'
            | neq=>exact nev h h'
            | _=>cases o <;> cases o' <;> first | exact Sim.halt | exact ho.elim)
  | string a =>
    obtain rfl:=h.string_inv
    cases y with
    | string b =>
      obtain rfl:=h'.string_inv
      cases op <;> (simp only [binOp]; exact str _ _ _)
    | _=>cases u <;> first
        | exact hy.elim
        | exact Bool.noConfusion hy
        | (cases op with
            | eql=>exact eqv h h'
            | neq=>exact nev h h'
            | _=>exact Sim.halt)
  | nilFunc=>exact Never.sim (never_binOp op t (.inl ⟨_,ht⟩) trivial)
  | _=>cases v <;> first
      | exact hx.elim
      | exact Bool.noConfusion hx
      | (cases y <;> cases u <;> first
          | exact hy.elim
          | exact Bool.noConfusion hy
          | (cases op with
              | eql=>exact eqv h h'
              | neq=>exact nev h h'
              | _=>exact Sim.halt))
theorem Sim.binEq {x y v u:Value} (op:BinOp) (t:TypeId) (ho:op = .eql ∨ op = .neq) (h:VR p x v)
    (ht:(P.underlying t = some .bool ∧ VR p y u) ∨ (u = y ∧ ((∃ e,P.underlying t = some (.slice e) ∧ y = .slice none 0 0) ∨ (∃ e,P.underlying t = some (.pointer e) ∧ y = .pointer none)))):Sim P Q K p (binOp op t x y) (binOp op t v u) (fun q a b=>VR q a b):=by
  have hx:=h.cases
  have eqv:Sim P Q K p (do Pure.pure (.bool (← Op.equal t x y))) (do Pure.pure (.bool (← Op.equal t v u))) (fun q a b=>VR q a b):=by
    refine Sim.bind (A:=fun _ a b=>a = b) ?_ fun q a b _ e=>by subst e; exact Sim.pure (VR.bool _)
    rcases ht with ⟨ht,h'⟩ | ⟨rfl,ht⟩
    · exact Sim.equalBool _ t ht h h'
    · exact Sim.equalNil _ t ht h
  have nev:Sim P Q K p (do Pure.pure (.bool (!(← Op.equal t x y)))) (do Pure.pure (.bool (!(← Op.equal t v u)))) (fun q a b=>VR q a b):=by
    refine Sim.bind (A:=fun _ a b=>a = b) ?_ fun q a b _ e=>by subst e; exact Sim.pure (VR.bool _)
    rcases ht with ⟨ht,h'⟩ | ⟨rfl,ht⟩
    · exact Sim.equalBool _ t ht h h'
    · exact Sim.equalNil _ t ht h
  have hy:(∃ a,y = .slice a 0 0 ∧ u = y) ∨ (y = .pointer none ∧ u = y) ∨ VR p y u:=by
    rcases ht with ⟨_,h'⟩ | ⟨rfl,⟨e,_,rfl⟩ | ⟨e,_,rfl⟩⟩
    · exact .inr (.inr h')
    · exact .inl ⟨_,rfl,rfl⟩
    · exact .inr (.inl ⟨rfl,rfl⟩)
  have hyc:VR p y u:=by
    rcases ht with ⟨_,h'⟩ | ⟨rfl,⟨e,_,rfl⟩ | ⟨e,_,rfl⟩⟩
    · exact h'
    · exact VR.slice trivial
    · exact VR.ptr trivial
  have hyc':=hyc.cases
  have int2:∀ (k1 k2:IntKind) (a b:Int),Sim P Q K p (binOp op t (.int k1 a) (.int k2 b)) (binOp op t (.int k1 a) (.int k2 b)) (fun q a b=>VR q a b):=by
    intro k1 k2 a b
    by_cases hk:k1 ≠ k2
    · rcases ho with rfl | rfl <;> (simp only [binOp,if_pos hk]; exact Sim.halt)
    · rcases ho with rfl | rfl <;> (simp only [binOp,if_neg hk]; exact Sim.intCmp _ _ _)
  have str2:∀ (a b:ByteArray),Sim P Q K p (binOp op t (.string a) (.string b)) (binOp op t (.string a) (.string b)) (fun q a b=>VR q a b):=by
    intro a b
    rcases ho with rfl | rfl <;> (simp only [binOp,Op.stringOp]; exact Sim.pure (VR.bool _))
  have nev0:isIface x → Sim P Q K p (binOp op t x y) (binOp op t v u) (fun q a b=>VR q a b):=fun hi=>Never.sim (never_binOp op t (by
    rcases ht with ⟨ht,_⟩ | ⟨_,⟨e,ht,_⟩ | ⟨e,ht,_⟩⟩
    · exact .inr (.inl ht)
    · exact .inr (.inr (.inl ⟨e,ht⟩))
    · exact .inr (.inr (.inr ⟨e,ht⟩))) hi)
  clear ht hy
  cases x <;> cases v <;> first
    | exact hx.elim
    | exact nev0 trivial
    | exact Bool.noConfusion hx
    | (cases y <;> cases u <;> first
        | exact hyc'.elim
        | exact Bool.noConfusion hyc'
        | (obtain ⟨rfl,rfl⟩:=hx; obtain ⟨rfl,rfl⟩:=hyc'; exact int2 _ _ _ _)
        | (obtain rfl:_ = _:=hx; obtain rfl:_ = _:=hyc'; exact str2 _ _)
        | (rcases ho with rfl | rfl
           · exact eqv
           · exact nev))
end
end Go.Proofs.YtojoafcnijajmaaGreatDoor
