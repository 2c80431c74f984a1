/- Part 5 of the proof that Devices answers true and leaves its input as it was, for input of bulk at most the bound of its row: W9 WA. -/
import Derived.Test.YtojoafcnijajmaaGreatDoorT4
import Derived.Orders
set_option linter.unusedVariables false
namespace Go.Proofs.YtojoafcnijajmaaGreatDoor
open Go
section
variable {fns:List Nat} {α β γ δ:Type} {P Q:Program} {K:Nat → Prop} {p:Nat → Nat → Prop}
theorem Sim.toNext {s:Sem Value} {t:Sem Value} (h:Sim P Q K p s t (fun q a b=>VR q a b)):Sim P Q K p (do Pure.pure (Next.value (← s))) (do Pure.pure (Next.value (← t))) (NR fns) :=
  Sim.bind h fun _ _ _ _ e=>Sim.pure e
theorem Sim.toSkip {s t:Sem Unit} (h:Sim P Q K p s t (fun _ _ _=>True)):Sim P Q K p (do s; Pure.pure Next.skip) (do t; Pure.pure Next.skip) (NR fns) :=
  Sim.bind h fun _ _ _ _ _=>Sim.pure trivial
theorem AllR.mapOk {ops:Array Operand} {f g:Operand → Value} (h:∀ x,okOperand x = true → VR p (f x) (g x)) (ho:ops.all okOperand = true):AllR (VR p) (ops.map f) (ops.map g):=by
  refine ⟨by simp,fun i x y hx hy=>?_⟩
  rw [Array.getElem?_map] at hx hy
  cases hi:ops[i]? with
  | none=>rw [hi] at hx; cases hx
  | some o =>
    rw [hi] at hx hy
    cases hx; cases hy
    refine h o ?_
    have hm:=Array.mem_of_getElem? hi
    exact (Array.all_eq_true'.1 ho) o hm
theorem PartsR.mapOk {parts:Array (Nat × Operand)} {f g:Operand → Value} (h:∀ x,okOperand x = true → VR p (f x) (g x)) (ho:(parts.all fun x=>okOperand x.2) = true) :
    PartsR p (parts.map fun (i,x)=>(i,f x)).toList (parts.map fun (i,x)=>(i,g x)).toList:=by
  refine ⟨by simp,fun i x y hx hy=>?_⟩
  simp only [Array.toList_map,List.getElem?_map,Array.getElem?_toList] at hx hy
  cases hi:parts[i]? with
  | none=>rw [hi] at hx; cases hx
  | some o =>
    rw [hi] at hx hy
    cases hx; cases hy
    exact h o.2 ((Array.all_eq_true'.1 ho) o (Array.mem_of_getElem? hi))
theorem OV.mapOk {o:Option Operand} {f g:Operand → Value} (h:∀ x,okOperand x = true → VR p (f x) (g x)) (ho:(o.map okOperand).getD true = true):OV p (o.map f) (o.map g):=by
  cases o with
  | none=>trivial
  | some x=>exact h x ho
theorem array1 {A:Type} {a:Array A} (h:a.size = 1):∃ x,a = #[x]:=by
  obtain ⟨l⟩:=a
  match l,h with
  | [x],_=>exact ⟨x,rfl⟩
theorem array2 {A:Type} {a:Array A} (h:a.size = 2):∃ x y,a = #[x,y]:=by
  obtain ⟨l⟩:=a
  match l,h with
  | [x,y],_=>exact ⟨x,y,rfl⟩
theorem Sim.call (hz:ZeroOk P) (hp:PlainFns fns P Q) {r s:Operand → Value} (c:Call) (t:TypeId) (ho:okCall P fns c = true) (h:∀ x,okOperand x = true → VR p (r x) (s x)) (hkf:∀ g,r (.func g) = .func (.func g) #[] #[] ∧ s (.func g) = .func (.func g) #[] #[]) :
    Sim P Q K p (do let d ← resolve r c t; invoke d.target d.args) (do let d ← resolve s c t; invoke d.target d.args) (NR fns):=by
  obtain ⟨callee,args,argTypes⟩:=c
  unfold okCall at ho
  rw [Bool.and_eq_true] at ho
  obtain ⟨h1,h2⟩:=ho
  have hargs:=AllR.mapOk h h1
  cases callee with
  | value f =>
    cases f with
    | func g =>
      rw [Bool.and_eq_true,Bool.or_eq_true] at h2
      have hg:g ∈ fns:=by simpa using h2.1
      have hs2:g = 22 → (args.map r).size = 2:=fun e=>by
        have:=h2.2.resolve_left (by simp [e])
        simpa using this
      have e:∀ r:Operand → Value,(do let d ← resolve r ⟨.value (.func g),args,argTypes⟩ t; invoke d.target d.args) = (do let d ← Deferred.ofValue (r (.func g)) (args.map r); invoke d.target d.args):=fun _=>rfl
      rw [e r,e s,(hkf g).1,(hkf g).2]
      exact Sim.invokeDirect hg hs2 hp hargs
    | _=>exact Sim.invokeValue (K:=K) hp (h _ h2) hargs
  | builtin b =>
    have e:∀ (r:Operand → Value),(do let d ← resolve r ⟨.builtin b,args,argTypes⟩ t; invoke d.target d.args) = builtin b argTypes t (args.map fun | .const _=>true | _=>false) (args.map r):=fun r=>rfl
    rw [e r,e s]
    cases b with
    | len =>
      simp only [Bool.and_eq_true,beq_iff_eq] at h2
      obtain ⟨⟨h3,h4⟩,h5⟩:=h2
      obtain ⟨a,rfl⟩:=array1 h3
      obtain ⟨ty,rfl⟩:=array1 h4
      have hv:VR p (r a) (s a):=h a (by simpa using h1)
      have m1:∀ f:Operand → Value,(#[a]:Array Operand).map f = #[f a]:=fun f=>by simp
      rw [m1 r,m1 s]
      refine Sim.toNext (Sim.len ty t ⟨fun k e hk=>?_,fun k e hk=>?_⟩ hv)
      · simp [hk] at h5
      · simp [hk] at h5
    | append =>
      simp only [Bool.and_eq_true,beq_iff_eq] at h2
      obtain ⟨⟨h3,h4⟩,h5⟩:=h2
      obtain ⟨a,b,rfl⟩:=array2 h3
      obtain ⟨ty,tu,rfl⟩:=array2 h4
      have h1':okOperand a = true ∧ okOperand b = true:=by simpa using h1
      have hv:=h a h1'.1
      have hu:=h b h1'.2
      have m2:∀ f:Operand → Value,(#[a,b]:Array Operand).map f = #[f a,f b]:=fun f=>by simp
      rw [m2 r,m2 s]
      have h6:(isInt P ty = false ∧ elT P ty = true) ∧ (isInt P tu = false ∧ elT P tu = true):=by simpa using h5
      refine Sim.toNext (Sim.append ty tu t (elT_ok h6.1.2) (fun k hk=>?_) hv hu)
      have:=h6.2.1
      simp [isInt,hk] at this
    | copy =>
      simp only [Bool.and_eq_true,beq_iff_eq] at h2
      obtain ⟨h3,h4⟩:=h2
      obtain ⟨a,b,rfl⟩:=array2 h3
      obtain ⟨ty,tu,rfl⟩:=array2 h4
      have h1':okOperand a = true ∧ okOperand b = true:=by simpa using h1
      have m2:∀ f:Operand → Value,(#[a,b]:Array Operand).map f = #[f a,f b]:=fun f=>by simp
      rw [m2 r,m2 s]
      exact Sim.toNext (Sim.copy ty tu t (h a h1'.1) (h b h1'.2))
    | clear =>
      simp only [Bool.and_eq_true,beq_iff_eq] at h2
      obtain ⟨⟨h3,h4⟩,h5⟩:=h2
      obtain ⟨a,rfl⟩:=array1 h3
      obtain ⟨ty,rfl⟩:=array1 h4
      have m1:∀ f:Operand → Value,(#[a]:Array Operand).map f = #[f a]:=fun f=>by simp
      rw [m1 r,m1 s]
      exact Sim.toNext (Sim.clear ty t (elT_ok (by simpa using h5)) (h a (by simpa using h1)))
    | _=>cases h2
  | invoke a b=>cases h2
theorem Sim.execOp (hz:ZeroOk P) (hp:PlainFns fns P Q) {r s:Operand → Value} (o:Oper) (ho:plainOp P fns o = true) (h:∀ x,okOperand x = true → VR p (r x) (s x)) (hk:∀ v,r (.const v) = v ∧ s (.const v) = v) (hkf:∀ g,r (.func g) = .func (.func g) #[] #[] ∧ s (.func g) = .func (.func g) #[] #[]):Sim P Q K p (execOp r o) (execOp s o) (NR fns):=by
  obtain ⟨dst,op,type,pos,after,guard⟩:=o
  unfold Go.execOp
  cases op with
  | move x=>exact Sim.pure (h x ho)
  | assign x=>exact Sim.pure (h x ho)
  | pick c a b =>
    simp only [plainOp,Bool.and_eq_true] at ho
    refine Sim.bind (Sim.asBool (h c ho.1.1)) fun q x y hq e=>?_
    subst e
    refine Sim.pure ?_
    cases x with
    | true=>exact (h a ho.1.2).ext hq
    | false=>exact (h b ho.2).ext hq
  | alloc e=>exact Sim.toNext (Sim.alloc e (zeroT_ok ho))
  | box e x=>exact Sim.toNext (Sim.box e (h x ho))
  | build t parts =>
    simp only [plainOp,Bool.and_eq_true] at ho
    exact Sim.toNext (Sim.build t (zeroT_ok ho.1) (PartsR.mapOk h ho.2))
  | buildSlice t n parts =>
    simp only [plainOp,Bool.and_eq_true] at ho
    exact Sim.toNext (Sim.buildSlice t n (elT_ok ho.1) (PartsR.mapOk h ho.2))
  | load t a=>exact Sim.toNext (Sim.loadAt t (h a ho))
  | store t a x =>
    simp only [plainOp,Bool.and_eq_true] at ho
    exact Sim.toSkip (Sim.storeAt t (h a ho.1) (h x ho.2))
  | nilCheck x =>
    have hx:=h x ho
    have hc:=hx.cases
    simp only
    revert hx hc
    generalize r x = v
    generalize s x = u
    intro hx hc
    cases v with
    | pointer a =>
      obtain ⟨b,rfl,hb⟩:=hx.ptr_inv
      cases a with
      | none=>exact (Never.runtimePanic _).sim
      | some a =>
        obtain ⟨b,rfl,_⟩:=hb.some_inv
        exact Sim.pure hx
    | nilIface=>exact (Never.runtimePanic _).sim
    | nilFunc=>exact (Never.runtimePanic _).sim
    | func f y c =>
      obtain ⟨hf,y',c',rfl,_,_⟩:=hx.func_inv
      cases f with
      | func f=>exact Sim.pure hx
      | _=>exact hf.elim
    | _=>cases u <;> first | exact hc.elim | exact Bool.noConfusion hc | exact Sim.pure hx
  | binOp op t x y yt =>
    simp only [plainOp,Bool.and_eq_true,Bool.or_eq_true] at ho
    obtain ⟨⟨h1,h2⟩,h3⟩:=ho
    have hx:=h x h1
    have hy:=h y h2
    by_cases hfl:isEq op = true ∧ flatEq P t = true
    · obtain ⟨hop,hfl⟩:=hfl
      have he:op = .eql ∨ op = .neq:=by cases op <;> first | exact .inl rfl | exact .inr rfl | cases hop
      simp only [flatEq,Bool.and_eq_true] at hfl
      have hg:P.eqGuardType P.depth t = false:=by simpa using hfl.2
      exact Sim.toNext (Sim.bind (Sim.eqGuardFlat op t x y hg hx hy) fun q _ _ hq _=>Sim.binFlat 6 op t he hfl.1 (hx.ext hq) (hy.ext hq))
    replace h3:isInt P t = true ∨ (isEq op = true ∧ (isBool P t = true ∨ nilConst P t y = true)):=by
      rcases h3 with h3 | ⟨h4,h3 | h3⟩
      · exact .inl h3
      · exact .inr ⟨h4,h3⟩
      · exact absurd ⟨h4,h3⟩ hfl
    have ht:(∃ k,P.underlying t = some (.int k)) ∨ P.underlying t = some .bool ∨ (∃ e,P.underlying t = some (.slice e)) ∨ (∃ e,P.underlying t = some (.pointer e)):=by
      rcases h3 with h3 | ⟨_,h3 | h3⟩
      · unfold isInt at h3
        split at h3
        · rename_i k e; exact .inl ⟨k,e⟩
        · cases h3
      · unfold isBool at h3
        split at h3
        · rename_i e; exact .inr (.inl e)
        · cases h3
      · unfold nilConst at h3
        split at h3
        · unfold isSlice at h3
          split at h3
          · rename_i e; exact .inr (.inr (.inl ⟨_,e⟩))
          · cases h3
        · unfold isPtr at h3
          split at h3
          · rename_i e; exact .inr (.inr (.inr ⟨_,e⟩))
          · cases h3
        · cases h3
    refine Sim.toNext (Sim.bind (Sim.eqGuard op t x y ht hx hy) fun q _ _ hq _=>?_)
    have hx':=hx.ext hq
    have hy':=hy.ext hq
    rcases h3 with h3 | ⟨h4,h3⟩
    · unfold isInt at h3
      split at h3
      · rename_i k e; exact Sim.binInt op t e hx' hy'
      · cases h3
    · have he:op = .eql ∨ op = .neq:=by cases op <;> first | exact .inl rfl | exact .inr rfl | cases h4
      rcases h3 with h3 | h3
      · unfold isBool at h3
        split at h3
        · rename_i e; exact Sim.binEq op t he hx' (.inl ⟨e,hy'⟩)
        · cases h3
      · unfold nilConst at h3
        split at h3
        · unfold isSlice at h3
          split at h3
          · rename_i e
            refine Sim.binEq op t he hx' (.inr ⟨?_,.inl ⟨_,e,(hk _).1⟩⟩)
            rw [(hk _).1,(hk _).2]
          · cases h3
        · unfold isPtr at h3
          split at h3
          · rename_i e
            refine Sim.binEq op t he hx' (.inr ⟨?_,.inr ⟨_,e,(hk _).1⟩⟩)
            rw [(hk _).1,(hk _).2]
          · cases h3
        · cases h3
  | unOp op t x=>exact Sim.toNext (Sim.unary op (h x ho))
  | convert a b x =>
    simp only [plainOp,Bool.and_eq_true,Bool.or_eq_true] at ho
    obtain ⟨h1,⟨h2,h3⟩ | ⟨h2,h3⟩⟩:=ho
    · unfold isInt at h2 h3
      split at h2
      · rename_i k e
        split at h3
        · rename_i k' e'; exact Sim.toNext (Sim.convertInt a b e e' (h x h1))
        · cases h3
      · cases h2
    · unfold isBytes at h2
      unfold isStr at h3
      split at h2
      · rename_i el e
        split at h2
        · rename_i e2
          split at h3
          · rename_i e3; exact Sim.toNext (Sim.convertBytes a b el e e2 e3 (h x h1))
          · cases h3
        · cases h2
      · cases h2
  | makeFunc f a b =>
    cases f with
    | func f =>
      simp only [plainOp,Bool.and_eq_true] at ho
      obtain ⟨⟨h1,h2⟩,h3⟩:=ho
      exact Sim.toNext (Sim.pure (VR.func (show FnOk (.func f) from (show f ∈ valList by simpa using h1)) (AllR.mapOk h h2) (AllR.mapOk h h3)))
    | _=>cases ho
  | makeSlice t a b =>
    simp only [plainOp,Bool.and_eq_true] at ho
    exact Sim.toNext (Sim.makeSlice t (elT_ok ho.1) (h a ho.2.1) (h b ho.2.2))
  | slice t x lo hi mx =>
    cases mx with
    | some m=>cases ho
    | none =>
      simp only [plainOp,Bool.and_eq_true] at ho
      obtain ⟨⟨⟨h1,h2⟩,h3⟩,h4⟩:=ho
      refine Sim.toNext (Sim.sliceAt t (h x h1) (OV.mapOk h h2) (OV.mapOk h h3) fun e he=>?_)
      simp [isPtr,he] at h4
  | fieldAddr t x f=>exact Sim.toNext (Sim.fieldAt t (h x ho) f)
  | field t x f=>exact Sim.toNext (Sim.field t (h x ho) f)
  | indexAddr t x i =>
    simp only [plainOp,Bool.and_eq_true] at ho
    exact Sim.toNext (Sim.indexAt t (h x ho.1) (h i ho.2))
  | index t x i =>
    simp only [plainOp,Bool.and_eq_true] at ho
    exact Sim.toNext (Sim.index t (h x ho.1) (h i ho.2))
  | extract x i=>exact Sim.toNext (Sim.extract (h x ho) i)
  | call c=>exact Sim.call hz hp c _ ho h hkf
  | _=>cases ho
theorem Sim.execOpOn (hz:ZeroOk P) (hp:PlainFns fns P Q) {r s:Operand → Value} (o:Oper) (ho:plainOp P fns o = true) (h:∀ x ∈ o.op.operands,okOperand x = true → VR p (r x) (s x)) (hk:∀ v,r (.const v) = v ∧ s (.const v) = v) (hkf:∀ g,r (.func g) = .func (.func g) #[] #[] ∧ s (.func g) = .func (.func g) #[] #[]):Sim P Q K p (Go.execOp r o) (Go.execOp s o) (NR fns):=by
  classical
  have hs:∀ cs b,o.op ≠ .select cs b:=fun cs b e=>by
    obtain ⟨dst,op,type,pos,after,guard⟩:=o
    simp only at e
    subst e
    cases ho
  let cut:(Operand → Value) → Operand → Value:=fun f x=>match x with
    | .tmp t=>if Operand.tmp t ∈ o.op.operands then f (.tmp t) else undef
    | x=>f x
  have e:∀ f:Operand → Value,Go.execOp f o = Go.execOp (cut f) o:=fun f=>execOp_congr o hs fun x hx=>by
    cases x with
    | tmp t=>simp only [cut,if_pos hx]
    | _=>rfl
  rw [e r,e s]
  refine Sim.execOp hz hp o ho (fun x hx=>?_) (fun v=>hk v) fun g=>hkf g
  cases x with
  | tmp t =>
    by_cases ht:Operand.tmp t ∈ o.op.operands
    · simp only [cut,ht,if_true]; exact h _ ht hx
    · simp only [cut,ht,if_false]; exact VR.undef
  | const v =>
    simp only [cut,(hk v).1,(hk v).2]
    exact flatV_VR hx
  | global g=>cases hx
  | func f =>
    simp only [cut,(hkf f).1,(hkf f).2]
    exact VR.func (show FnOk (.func f) from (show f ∈ valList by simpa [okOperand] using hx)) AllR.empty AllR.empty
end
end Go.Proofs.YtojoafcnijajmaaGreatDoor

namespace Go.Proofs.YtojoafcnijajmaaGreatDoor
open Go
structure Cfg where
  fns:List Nat
  sp:List Nat
  mark:Oper → Bool
  sg:Oper → Oper
  root:Nat
  rt:Nat
  atRoot:Bool
  dd:List Deferred
  kd:CallKind
  pv:Nat → Bool
  okF:List Item → Array Value → Prop
def Tr:List Item → List Item → Prop
  | .inBlock _ :: k,y=>y = k
  | .inLoop c :: k,y=>y = .code c :: .inLoop c :: k
  | .inRegion _ [] :: k,y=>y = k
  | .code .skip :: k,y=>y = k
  | .code (.label _) :: k,y=>y = k
  | .code (.seq a b) :: k,y=>y = .code a :: .code b :: k
  | .code (.block id c) :: k,y=>y = .code c :: .inBlock id :: k
  | .code (.loop c) :: k,y=>y = .code c :: .inLoop c :: k
  | .code (.cond _ a b) :: k,y=>y = .code a :: k ∨ y = .code b :: k
  | .code (.exit id) :: k,y=>exitTo id k = some y
  | .code (.region _ ops false) :: k,y=>y = .inRegion ops (List.range ops.size) :: k
  | .code (.region _ ops true) :: k,y=>∃ m t,y = .inRegion ops (Region.schedule m ops t) :: k
  | _,_=>False
structure CfgOk (C:Cfg):Prop where
  idle:∀ o,C.mark o = false → C.sg o = o
  dst:∀ o,(C.sg o).dst = o.dst
  after:∀ o,(C.sg o).after = o.after
  guard:∀ o,(C.sg o).guard = o.guard
  free:∀ o,C.mark o = true → o.guard = none
  clos:∀ x x' y,C.okF x y → Tr x x' → C.okF x' y
  pop:∀ ops i rest k y y',(∀ o,ops[i]? = some o → C.mark o = false) → C.okF (.inRegion ops (i :: rest) :: k) y → (y' = y ∨ ∃ d v,C.pv d = false ∧ y' = y.setIfInBounds d v) → C.okF (.inRegion ops rest :: k) y'
def sgC (C:Cfg):Code → Code
  | .region id ops d=>.region id (ops.map C.sg) d
  | .seq a b=>.seq (sgC C a) (sgC C b)
  | .cond c a b=>.cond c (sgC C a) (sgC C b)
  | .block id a=>.block id (sgC C a)
  | .loop a=>.loop (sgC C a)
  | c=>c
def sgI (C:Cfg):Item → Item
  | .code c=>.code (sgC C c)
  | .inLoop c=>.inLoop (sgC C c)
  | .inRegion ops l=>.inRegion (ops.map C.sg) l
  | x=>x
section
variable {α β γ δ:Type} {P Q:Program} {K:Nat → Prop} {p:Nat → Nat → Prop} {C:Cfg}
def openTo (C:Cfg):Operand → Bool
  | .tmp t=>!C.pv t
  | _=>true
def okOp (C:Cfg) (P:Program) (f:Nat) (o:Oper):Bool :=
  plainOp P C.fns o && (f != C.root || (o.op.operands.all (openTo C) && (C.mark o || (o.dst != some C.rt && (o.dst.all fun d=>!C.pv d) && o.guard.isNone)))) && (!C.mark o || f == C.root)
def plainCode (C:Cfg) (P:Program) (f:Nat):Code → Bool
  | .skip | .ret | .exit _ | .label _=>true
  | .seq a b=>plainCode C P f a && plainCode C P f b
  | .cond c a b=>(okOperand c && (f != C.root || openTo C c)) && plainCode C P f a && plainCode C P f b
  | .block _ a | .loop a=>plainCode C P f a
  | .region _ ops _=>ops.all (okOp C P f)
  | _=>false
def plainItem (C:Cfg) (P:Program) (f:Nat):Item → Bool
  | .code c | .inLoop c=>plainCode C P f c
  | .inBlock _=>true
  | .inRegion ops _=>ops.all (okOp C P f)
  | _=>false
def plainTodo (C:Cfg) (P:Program) (f:Nat) (l:List Item):Prop:=∀ x ∈ l,plainItem C P f x = true
theorem plainTodo.cons {f:Nat} {x:Item} {l:List Item} (h:plainTodo C P f (x :: l)):plainItem C P f x = true ∧ plainTodo C P f l:=⟨h x (by simp),fun y hy=>h y (by simp [hy])⟩
theorem plainTodo.of {f:Nat} {x:Item} {l:List Item} (hx:plainItem C P f x = true) (h:plainTodo C P f l):plainTodo C P f (x :: l):=fun y hy=>by
  rcases List.mem_cons.1 hy with rfl | hy
  · exact hx
  · exact h y hy
structure PlainBodies (C:Cfg) (P Q:Program):Prop where
  cfg:CfgOk C
  vals:∀ g ∈ valList,g ∈ C.fns
  body:∀ g ∈ C.fns,∃ fn c fn',P.funcs[g]? = some fn ∧ (fn.name == "runtime.NumGoroutine") = false ∧ fn.body = some c ∧ Q.funcs[g]? = some fn' ∧ (fn'.name == "runtime.NumGoroutine") = false ∧ fn'.body.isNone = false ∧
    (g ∉ C.sp → plainCode C P g c = true ∧ fn'.body = some (sgC C c) ∧ fn'.ntmps = fn.ntmps ∧ fn'.results = fn.results)
  root:∀ g ∈ C.fns,g ∉ C.sp → g ≠ C.root
theorem PlainBodies.get (h:PlainBodies C P Q) {g:Nat} (hg:g ∈ C.fns) (hs:g ∉ C.sp):∃ fn c fn',P.funcs[g]? = some fn ∧ (fn.name == "runtime.NumGoroutine") = false ∧ fn.body = some c ∧ plainCode C P g c = true ∧
    Q.funcs[g]? = some fn' ∧ (fn'.name == "runtime.NumGoroutine") = false ∧ fn'.body = some (sgC C c) ∧ fn'.ntmps = fn.ntmps ∧ fn'.results = fn.results:=by
  obtain ⟨fn,c,fn',h1,h2,h3,h4,h5,_,h6⟩:=h.body g hg
  obtain ⟨h7,h8,h9,h10⟩:=h6 hs
  exact ⟨fn,c,fn',h1,h2,h3,h7,h4,h5,h8,h9,h10⟩
theorem PlainBodies.pfns (h:PlainBodies C P Q):PlainFns C.fns P Q:=⟨h.vals,fun g hg=>by
  obtain ⟨fn,c,fn',h1,h2,h3,h4,h5,h6,_⟩:=h.body g hg
  exact ⟨⟨fn,h1,h2,by rw [h3]; rfl⟩,fn',h4,h5,h6⟩⟩
def Marked (C:Cfg) (a:Frame):Prop:=∃ ops i rest k o,a.todo = .inRegion ops (i :: rest) :: k ∧ ops[i]? = some o ∧ Region.wanted o (yielded ops a.tmps) = true ∧ C.mark o = true
def HeadOk (C:Cfg) (a:Frame):Prop:=∀ ops i rest k,a.todo = .inRegion ops (i :: rest) :: k → (∀ o,ops[i]? = some o → C.mark o = false) ∧ (a.fn = C.root → (ops[i]?).bind (·.dst) ≠ some C.rt ∧ ∀ d,(ops[i]?).bind (·.dst) = some d → C.pv d = false)
theorem okOp.parts {f:Nat} {o:Oper} (h:okOp C P f o = true):plainOp P C.fns o = true ∧ (C.mark o = true → f = C.root) ∧ (f = C.root → ∀ x ∈ o.op.operands,openTo C x = true) ∧
    (f = C.root → C.mark o = false → o.dst ≠ some C.rt ∧ (∀ d,o.dst = some d → C.pv d = false) ∧ o.guard = none):=by
  simp only [okOp,Bool.and_eq_true,Bool.or_eq_true,bne_iff_ne,ne_eq,beq_iff_eq,Bool.not_eq_true',Option.isNone_iff_eq_none] at h
  obtain ⟨⟨h1,h2⟩,h3⟩:=h
  refine ⟨h1,fun hm=>h3.resolve_left (by rw [hm]; simp),fun hf x hx=>?_,fun hf hm=>?_⟩
  · exact Array.all_eq_true'.1 (h2.resolve_left fun h=>h hf).1 x hx
  rcases (h2.resolve_left fun h=>h hf).2 with h2 | h2
  · rw [hm] at h2; cases h2
  · obtain ⟨⟨e1,e2⟩,e4⟩:=h2
    refine ⟨e1,fun d hd=>?_,e4⟩
    rw [hd] at e2; simpa using e2
theorem headOk_of {a:Frame} {ops:Array Oper} {i:Nat} {rest:List Nat} {k:List Item} (htd:a.todo = .inRegion ops (i :: rest) :: k) (hall:ops.all (okOp C P a.fn) = true)
    (hm:∀ o,ops[i]? = some o → C.mark o = false):HeadOk C a:=fun ops' i' rest' k' e=>by
  rw [htd] at e
  simp only [List.cons.injEq,Item.inRegion.injEq] at e
  obtain ⟨⟨rfl,rfl,rfl⟩,rfl⟩:=e
  refine ⟨hm,fun ef=>?_⟩
  cases ho:ops[i]? with
  | none=>exact ⟨fun e=>(by cases e),fun d e=>(by cases e)⟩
  | some o =>
    obtain ⟨e1,e2,_⟩:=(okOp.parts (Array.all_eq_true'.1 hall o (Array.mem_of_getElem? ho))).2.2.2 ef (hm o ho)
    exact ⟨e1,e2⟩
structure TmR (C:Cfg) (p:Nat → Nat → Prop) (f:Nat) (x y:Array Value):Prop where
  get:∀ i,(f = C.root ∧ C.pv i = true) ∨ VR p (x.getD i undef) (y.getD i undef)
  size:x.size = y.size
structure FR (C:Cfg) (P:Program) (p:Nat → Nat → Prop) (a b:Frame):Prop where
  known:∃ fn,P.funcs[a.fn]? = some fn
  tmps:TmR C p a.fn a.tmps b.tmps
  plain:plainTodo C P a.fn a.todo
  da:a.defers = []
  ka:a.kind = .normal
  ra:a.roundOf = none
  same:b = { a with tmps:=b.tmps,todo:=a.todo.map (sgI C),defers:=b.defers,kind:=b.kind }
  rt:a.fn = C.root → a.tmps.getD C.rt undef = undef
  shape:a.fn = C.root → C.okF a.todo b.tmps
  kb:b.kind ≠ .early
theorem TmR.ext {q:Nat → Nat → Prop} (hq:Ext p q) {f:Nat} {x y:Array Value} (h:TmR C p f x y):TmR C q f x y:=⟨fun i=>(h.get i).imp id fun k=>k.ext hq,h.size⟩
theorem FR.ext {q:Nat → Nat → Prop} (hq:Ext p q) {a b:Frame} (h:FR C P p a b):FR C P q a b:={ h with tmps:=h.tmps.ext hq }
theorem AllR.getD {a b:Array Value} (h:AllR (VR p) a b) (i:Nat):VR p (a.getD i undef) (b.getD i undef):=by
  by_cases hi:i < a.size
  · have hb:i < b.size:=h.1 ▸ hi
    have:=h.2 i a[i] b[i] (Array.getElem?_eq_getElem hi) (Array.getElem?_eq_getElem hb)
    simpa [Array.getD,hi,hb] using this
  · have hb:¬ i < b.size:=h.1 ▸ hi
    simpa [Array.getD,hi,hb] using VR.undef
theorem FR.eval {a b:Frame} (h:FR C P p a b) (x:Operand) (hx:okOperand x = true) (hv:a.fn = C.root → openTo C x = true):VR p (a.eval x) (b.eval x):=by
  cases x with
  | tmp t =>
    refine (h.tmps.get t).resolve_left fun ⟨h1,h2⟩=>?_
    have:=hv h1
    simp [openTo,h2] at this
  | const v=>exact flatV_VR hx
  | global g=>cases hx
  | func f=>exact VR.func (show FnOk (.func f) from (show f ∈ valList by simpa [okOperand] using hx)) AllR.empty AllR.empty
theorem getD_set_self {a:Array Value} {d:Nat} {v:Value} (h:d < a.size):(a.setIfInBounds d v).getD d undef = v:=by
  simp only [Array.getD_eq_getD_getElem?,Array.getElem?_setIfInBounds_self_of_lt h,Option.getD_some]
theorem TmR.of {f:Nat} {x y:Array Value} (h:AllR (VR p) x y):TmR C p f x y:=⟨fun i=>.inr (h.getD i),h.1⟩
theorem getD_set_ne {a:Array Value} {d k:Nat} {v:Value} (h:d ≠ k):(a.setIfInBounds d v).getD k undef = a.getD k undef:=by
  simp only [Array.getD_eq_getD_getElem?,Array.getElem?_setIfInBounds_ne h]
theorem TmR.set {f:Nat} {x y:Array Value} (h:TmR C p f x y) (d:Nat) {v u:Value} (hv:VR p v u):TmR C p f (x.setIfInBounds d v) (y.setIfInBounds d u):=by
  refine ⟨fun i=>?_,by simpa using h.size⟩
  by_cases hi:d = i
  · subst hi
    by_cases hx:d < x.size
    · rw [getD_set_self hx,getD_set_self (h.size ▸ hx)]; exact .inr hv
    · have e:∀ (z:Array Value) (v:Value),¬ d < z.size → (z.setIfInBounds d v).getD d undef = z.getD d undef:=fun z v hz=>by
        simp only [Array.setIfInBounds,hz,dite_false]
      rw [e x v hx,e y u (h.size ▸ hx)]
      exact h.get d
  · rw [getD_set_ne hi,getD_set_ne hi]; exact h.get i
theorem FR.finish {a b:Frame} (hc:CfgOk C) (h:FR C P p a b) {v u:Value} (hv:VR p v u) (hh:HeadOk C a):FR C P p (a.finish v) (b.finish u):=by
  obtain ⟨fn,tmps,todo,defers,mode,kind,ro⟩:=a
  obtain ⟨fn',tmps',todo',defers',mode',kind',ro'⟩:=b
  obtain ⟨h1,h2,h3,h4,h5,h6,h7,h8,h9,h10⟩:=h
  simp only at h2 h3 h4 h5 h6 h8 h9 h10
  simp only [Frame.mk.injEq] at h7
  obtain ⟨rfl,-,rfl,-,rfl,-,rfl⟩:=h7
  subst h4 h5 h6
  cases todo with
  | nil=>exact ⟨h1,h2,h3,rfl,rfl,rfl,rfl,h8,h9,h10⟩
  | cons x k =>
    obtain ⟨hx,hk⟩:=h3.cons
    cases x with
    | inRegion ops l =>
      cases l with
      | nil=>exact ⟨h1,h2,h3,rfl,rfl,rfl,rfl,h8,h9,h10⟩
      | cons i rest =>
        have h9':∀ y',(y' = tmps' ∨ ∃ d v,(ops[i]?).bind (·.dst) = some d ∧ y' = tmps'.setIfInBounds d v) → fn' = C.root → C.okF (.inRegion ops rest :: k) y':=fun y' hy e=>hc.pop _ _ _ _ _ _ (hh ops i rest k rfl).1 (h9 e) (hy.imp id fun ⟨d,v,h1,h2⟩=>⟨d,v,((hh ops i rest k rfl).2 e).2 d h1,h2⟩)
        have h3':plainTodo C P fn' (.inRegion ops rest :: k):=plainTodo.of hx hk
        have ed:((ops.map C.sg)[i]?).bind (·.dst) = (ops[i]?).bind (·.dst):=by
          rw [Array.getElem?_map]
          cases ho:ops[i]? with
          | none=>rfl
          | some o=>simp only [Option.map_some,Option.bind_some,hc.idle o ((hh ops i rest k rfl).1 o ho)]
        simp only [Frame.finish,List.map_cons,sgI,ed]
        cases hd:(ops[i]?).bind (·.dst) with
        | none=>exact ⟨h1,h2,h3',rfl,rfl,rfl,rfl,h8,h9' _ (.inl rfl),h10⟩
        | some d =>
          refine ⟨h1,h2.set d hv,h3',rfl,rfl,rfl,rfl,fun e=>?_,h9' _ (.inr ⟨d,_,hd,rfl⟩),h10⟩
          have:=((hh ops i rest k rfl).2 e).1
          rw [hd] at this
          show (tmps.setIfInBounds d v).getD C.rt undef = undef
          rw [getD_set_ne (fun e2=>this (by rw [e2]))]
          exact h8 e
    | code c=>exact ⟨h1,h2,h3,rfl,rfl,rfl,rfl,h8,h9,h10⟩
    | inBlock id=>exact ⟨h1,h2,h3,rfl,rfl,rfl,rfl,h8,h9,h10⟩
    | inLoop c=>exact ⟨h1,h2,h3,rfl,rfl,rfl,rfl,h8,h9,h10⟩
    | _=>cases hx
theorem finish_mode (a:Frame) (v:Value):(a.finish v).mode = a.mode:=by
  unfold Frame.finish
  split <;> rfl
theorem finish_kind (a:Frame) (v:Value):(a.finish v).kind = a.kind:=by
  unfold Frame.finish
  split <;> rfl
theorem finish_fn (a:Frame) (v:Value):(a.finish v).fn = a.fn ∧ (a.finish v).defers = a.defers:=by
  unfold Frame.finish
  split <;> exact ⟨rfl,rfl⟩
theorem FR.enter (hp:PlainBodies C P Q) {f:FuncId} (hf:f ∈ C.fns) (hs:f ∉ C.sp) {x y:Array Value} (h:AllR (VR p) x y):FR C P p (Frame.enter P f x .normal) (Frame.enter Q f y .normal):=by
  obtain ⟨fn,c,fn',h1,h2,h3,h4,h5,h6,h7,h8,h9⟩:=hp.get hf hs
  have hr:∀ n,AllR (VR p) (Array.replicate n undef) (Array.replicate n undef):=fun n=>⟨rfl,fun i s t hs ht=>by
    rw [Array.getElem?_replicate] at hs ht
    split at hs
    · rename_i hi
      rw [if_pos hi] at ht
      cases hs; cases ht
      exact VR.undef
    · cases hs⟩
  refine ⟨⟨fn,h1⟩,TmR.of ?_,?_,rfl,rfl,rfl,?_,fun e=>absurd e (hp.root f hf hs),fun e=>absurd e (hp.root f hf hs),fun e=>by cases e⟩
  · show AllR (VR p) (x ++ Array.replicate _ undef) (y ++ Array.replicate _ undef)
    rw [h1,h5,h.1]
    simp only [Option.map_some,Option.getD_some,h8]
    exact h.append (hr _)
  · refine plainTodo.of ?_ (fun _ hy=>by cases hy)
    show plainCode C P f _ = true
    rw [h1]
    simp only [Option.bind_some,h3,Option.getD_some]
    exact h4
  · simp only [Frame.enter,h1,h5,Option.bind_some,h3,h7,Option.getD_some,List.map_cons,List.map_nil,sgI]
theorem linearise_map (hc:CfgOk C) (md:Region.Mode) (ops:Array Oper):∀ (fuel t:Nat) (listed:Array Bool) (acc:List Nat),Region.linearise.go md (ops.map C.sg) fuel t listed acc = Region.linearise.go md ops fuel t listed acc
  | 0,_,_,_=>rfl
  | fuel + 1,t,listed,acc=>by
    have e:∀ i:Nat,(((ops.map C.sg)[i]?).map (·.after.all fun e=>!Region.binds md e || listed.getD e.on false)).getD false = ((ops[i]?).map (·.after.all fun e=>!Region.binds md e || listed.getD e.on false)).getD false:=fun i=>by
      rw [Array.getElem?_map]
      cases ops[i]? with
      | none=>rfl
      | some o=>simp only [Option.map_some,hc.after]
    simp only [Region.linearise.go,Array.size_map,e]
    split
    · exact linearise_map hc md ops fuel _ _ _
    · rfl
theorem schedule_map (hc:CfgOk C) (m:Bool) (ops:Array Oper) (t:Nat):Region.schedule m (ops.map C.sg) t = Region.schedule m ops t:=by
  have e1:Region.departs (ops.map C.sg) = Region.departs ops:=by
    unfold Region.departs
    rw [Array.any_map]
    congr 1
    funext o
    simp only [Function.comp,hc.after]
  have e2:∀ md t,Region.linearise md (ops.map C.sg) t = Region.linearise md ops t:=fun md t=>by
    unfold Region.linearise
    rw [Array.size_map]
    exact linearise_map hc md ops _ _ _ _
  unfold Region.schedule
  rw [e1]
  simp only [e2]
theorem yielded_map (hc:CfgOk C) {ops:Array Oper} {x:Array Value}:yielded (ops.map C.sg) x = yielded ops x:=by
  funext j
  unfold yielded
  rw [Array.getElem?_map]
  cases ho:ops[j]? with
  | none=>rfl
  | some o=>simp only [Option.map_some,Option.bind_some,hc.dst]
theorem exitTo_map (id:Nat):∀ (k:List Item),exitTo id (k.map (sgI C)) = (exitTo id k).map (·.map (sgI C))
  | []=>rfl
  | x :: k=>by
    have ih:=exitTo_map id k
    cases x with
    | inBlock id' =>
      simp only [List.map_cons,sgI,exitTo]
      split
      · rfl
      · exact ih
    | _=>simp only [List.map_cons,sgI,exitTo]; exact ih
end
end Go.Proofs.YtojoafcnijajmaaGreatDoor
