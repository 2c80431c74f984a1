/- Part 1 of the proof that Devices answers true and leaves its input as it was, for input of bulk at most the bound of its row: W2 W3. -/
import Derived.Test.YtojoafcnijajmaaGreatDoorT0
import GoSem.Dispatch
set_option linter.unusedVariables false
namespace Go.Proofs.YtojoafcnijajmaaGreatDoor
open Go
def Never {α:Type} (P:Program) (s:Sem α):Prop:=∀ (w:World) (es:Array Event),(∃ h w' es',Mild h ∧ s.runT P w es = (.halt h w',es')) ∧ Local P s w es
def Soft {α:Type} (P:Program) (s:Sem α):Prop:=∀ (w:World) (es:Array Event),((∃ a w' es',s.runT P w es = (.ok a w',es')) ∨ ∃ h w' es',Mild h ∧ s.runT P w es = (.halt h w',es')) ∧ Local P s w es
section
variable {α β γ δ:Type} {P Q:Program} {K:Nat → Prop} {p:Nat → Nat → Prop}
theorem Never.sim {A:(Nat → Nat → Prop) → α → β → Prop} {s:Sem α} {t:Sem β} (h:Never P s):Sim P Q K p s t A:=fun _ w u es fs _ _=>by
  obtain ⟨⟨hh,w1,e1,hm,h1⟩,hl⟩:=h w es
  exact ⟨⟨fun _ _ _ hr=>by rw [h1] at hr; cases hr; exact hm,hl⟩,fun _ _ _ hr=>by rw [h1] at hr; cases hr⟩
theorem Never.halt (h:Halt) (hm:Mild h:=by trivial):Never P (Sem.halt h:Sem α):=fun w es=>⟨⟨h,w,es,hm,rfl⟩,⟨Nat.le_refl _,rfl,fun T' _=>rfl⟩⟩
theorem Soft.pure (a:α):Soft P (Pure.pure a:Sem α):=fun w es=>⟨.inl ⟨a,w,es,rfl⟩,⟨Nat.le_refl _,rfl,fun T' _=>rfl⟩⟩
theorem Soft.halt (h:Halt) (hm:Mild h:=by trivial):Soft P (Sem.halt h:Sem α):=fun w es=>⟨.inr ⟨h,w,es,hm,rfl⟩,⟨Nat.le_refl _,rfl,fun T' _=>rfl⟩⟩
theorem Soft.program:Soft P program:=fun w es=>⟨.inl ⟨P,w,es,rfl⟩,⟨Nat.le_refl _,rfl,fun T' _=>rfl⟩⟩
theorem Soft.bind {s:Sem α} {f:α → Sem γ} (hs:Soft P s) (h:∀ a,Soft P (f a)):Soft P (s >>= f):=fun w es=>by
  refine ⟨?_,Local.bind (hs w es).2 fun a w' es' _=>(h a w' es').2⟩
  have e:(s >>= f).runT P w es = (s.bind f).runT P w es:=rfl
  rw [e,Sem.runT_bind']
  rcases (hs w es).1 with ⟨a,w1,e1,h1⟩ | ⟨hh,w1,e1,hm,h1⟩
  · rw [h1]; exact (h a w1 e1).1
  · rw [h1]; exact .inr ⟨hh,w1,e1,hm,rfl⟩
theorem Soft.typeInfo (t:TypeId):Soft P (typeInfo t):=by
  unfold Go.typeInfo
  refine Soft.bind Soft.program fun a=>?_
  split
  · exact Soft.pure _
  · exact Soft.halt _
theorem Soft.underlying (t:TypeId):Soft P (underlying t):=by
  unfold Go.underlying
  refine Soft.bind Soft.program fun a=>?_
  split
  · exact Soft.pure _
  · exact Soft.halt _
theorem Soft.shape (r:Nat):Soft P (shape r):=fun w es=>⟨.inl ⟨_,_,es,rfl⟩,⟨Nat.le_refl _,rfl,fun T' _=>rfl⟩⟩
theorem Soft.frozen (a:Addr):Soft P (frozen a):=fun w es=>⟨.inl ⟨_,_,es,rfl⟩,⟨Nat.le_refl _,rfl,fun T' _=>rfl⟩⟩
theorem Soft.mark (m:Mark):Soft P (mark m):=fun w es=>⟨.inl ⟨_,w,_,rfl⟩,⟨Nat.le_refl _,rfl,fun T' _=>rfl⟩⟩
theorem Soft.choose (q:Question):Soft P (choose q):=fun w es=>by
  refine ⟨?_,local_choose q w es⟩
  rw [runT_choose]
  split
  · exact .inl ⟨_,_,_,rfl⟩
  · exact .inl ⟨_,_,_,rfl⟩
theorem Soft.holdsCells (a:Addr) (n:Nat):Soft P (Builtin.holdsCells a n):=by
  unfold Builtin.holdsCells
  refine Soft.bind (Soft.shape _) fun o=>?_
  split <;> exact Soft.pure _
theorem Soft.mayShare (size sLen n:Nat) (base:Option Addr) (x:Value):Soft P (Builtin.mayShare size sLen n base x):=by
  have h:∀ there:Bool,Soft P (if !there then (Pure.pure true:Sem Bool) else match x with
      | .slice (some b) _ _=>do Pure.pure (!(← Builtin.holdsCells b (n * size)) || base.any (·.block == b.block))
      | _=>Pure.pure false):=by
    intro there
    split
    · exact Soft.pure _
    · split
      · exact Soft.bind (Soft.holdsCells _ _) fun _=>Soft.pure _
      · exact Soft.pure _
  unfold Builtin.mayShare
  cases base with
  | none=>exact Soft.bind (Soft.pure _) h
  | some a=>exact Soft.bind (s:=Builtin.holdsCells _ _) (Soft.holdsCells _ _) fun b=>Soft.bind (Soft.frozen _) fun _=>Soft.bind (Soft.pure _) h
theorem Never.left {s:Sem α} {f:α → Sem γ} (h:Never P s):Never P (s >>= f):=fun w es=>by
  obtain ⟨⟨hh,w1,e1,hm,h1⟩,hl⟩:=h w es
  refine ⟨?_,Local.bind hl fun a w' es' hr=>by rw [h1] at hr; cases hr⟩
  have e:(s >>= f).runT P w es = (s.bind f).runT P w es:=rfl
  rw [e,Sem.runT_bind',h1]
  exact ⟨hh,w1,e1,hm,rfl⟩
theorem Never.bind {s:Sem α} {f:α → Sem γ} (hs:Soft P s) (h:∀ a,Never P (f a)):Never P (s >>= f):=fun w es=>by
  refine ⟨?_,Local.bind (hs w es).2 fun a w' es' _=>(h a w' es').2⟩
  have e:(s >>= f).runT P w es = (s.bind f).runT P w es:=rfl
  rw [e,Sem.runT_bind']
  rcases (hs w es).1 with ⟨a,w1,e1,h1⟩ | ⟨hh,w1,e1,hm,h1⟩
  · rw [h1]; exact (h a w1 e1).1
  · rw [h1]; exact ⟨hh,w1,e1,hm,rfl⟩
def PlainErr:RuntimeError → Prop
  | .typeAssertion .. | .panicNil=>False
  | _=>True
theorem Never.runtimePanic (e:RuntimeError) (he:PlainErr e:=by trivial):Never P (runtimePanic e:Sem α):=by
  unfold Go.runtimePanic
  refine Never.bind Soft.program fun q=>?_
  cases e <;> first
    | exact he.elim
    | exact Never.halt _
theorem Never.boundsPanic (k:IntKind) (x y:Int) (c:BoundsCode):Never P (boundsPanic k x y c:Sem α):=by
  unfold Go.boundsPanic
  simp only
  split
  · exact Never.bind (Soft.bind (Soft.choose _) fun _=>Soft.pure _) fun _=>Never.runtimePanic _
  · exact Never.bind (Soft.pure _) fun _=>Never.runtimePanic _
theorem Sim.underlying (t:TypeId):Sim P Q K p (underlying t) (underlying t) (fun _ a b=>a = b ∧ P.underlying t = some a):=by
  unfold Go.underlying
  refine Sim.twin fun tw=>Sim.bind Sim.program fun q a b _ hab=>?_
  rw [hab.1,hab.2,tw.underlying]
  cases h:P.underlying t with
  | some d=>exact Sim.pure ⟨rfl,rfl⟩
  | none=>exact Sim.halt
theorem Sim.typeInfo (t:TypeId):Sim P Q K p (typeInfo t) (typeInfo t) (fun _ a b=>a = b ∧ P.info? t = some a):=by
  unfold Go.typeInfo
  refine Sim.twin fun tw=>Sim.bind Sim.program fun q a b _ hab=>?_
  rw [hab.1,hab.2,tw.info]
  cases h:P.info? t with
  | some d=>exact Sim.pure ⟨rfl,rfl⟩
  | none=>exact Sim.halt
theorem Sim.sizeOf (t:TypeId):Sim P Q K p (sizeOf t) (sizeOf t) (fun _ a b=>a = b):=by
  unfold Go.sizeOf
  refine Sim.bind (Sim.typeInfo t) fun q a b _ h=>?_
  obtain ⟨rfl,_⟩:=h
  exact Sim.pure rfl
theorem Sim.isAgg (t:TypeId):Sim P Q K p (isAgg t) (isAgg t) (fun _ a b=>a = b):=by
  unfold Go.isAgg
  refine Sim.bind (Sim.underlying t) fun q a b _ h=>?_
  obtain ⟨rfl,_⟩:=h
  cases a <;> exact Sim.pure rfl
theorem Sim.askRoom (n:Nat):Sim P Q K p (askRoom n) (askRoom n) (fun _ _ _=>True):=by
  unfold Go.askRoom
  split
  · exact Sim.noRoom
  · exact Sim.pure trivial
def ZeroOk (_:Program):Prop:=True
def ZeroAt (P:Program) (t:TypeId):Prop:=∀ i v,P.info? t = some i → i.zero = some v → ∀ p,VR p v v
def ZeroEl (P:Program) (t:TypeId):Prop:=∀ e,P.underlying t = some (.slice e) → ZeroAt P e
def okZ:Nat → Value → Bool
  | 0,_=>false
  | n + 1,v=>match v with
    | .bool _ | .int _ _ | .string _ | .pointer none | .slice none _ _ | .nilFunc | .nilIface=>true
    | .agg vs | .tuple vs=>vs.all (okZ n)
    | _=>false
theorem okZ_VR (p:Nat → Nat → Prop):∀ (n:Nat) (v:Value),okZ n v = true → VRn p n v v
  | 0,_,h=>by cases h
  | n + 1,v,h=>by
    have key:∀ vs:Array Value,vs.all (okZ n) = true → AllR (VRn p n) vs vs:=fun vs hv=>⟨rfl,fun i x y hx hy=>by
      rw [hx] at hy
      cases hy
      exact okZ_VR p n x (Array.all_eq_true'.1 hv x (Array.mem_of_getElem? hx))⟩
    cases v with
    | pointer a=>cases a with
      | none=>trivial
      | some a=>cases h
    | slice a l c=>cases a with
      | none=>exact ⟨trivial,rfl,rfl⟩
      | some a=>cases h
    | bool b=>rfl
    | int k m=>exact ⟨rfl,rfl⟩
    | string s=>rfl
    | nilFunc=>rfl
    | nilIface=>trivial
    | agg vs=>exact key vs h
    | tuple vs=>exact key vs h
    | _=>cases h
def zeroT (P:Program) (t:TypeId):Bool:=match P.info? t with
  | some i=>(match i.zero with
    | some v=>okZ 8 v
    | none=>true)
  | none=>true
def elT (P:Program) (t:TypeId):Bool:=match P.underlying t with
  | some (.slice e)=>zeroT P e
  | _=>true
theorem zeroT_ok {P:Program} {t:TypeId} (h:zeroT P t = true):ZeroAt P t:=fun i v hi hv p=>by
  unfold zeroT at h
  rw [hi] at h
  simp only [hv] at h
  exact ⟨_,okZ_VR p 8 v h⟩
theorem elT_ok {P:Program} {t:TypeId} (h:elT P t = true):ZeroEl P t:=fun e he=>by
  unfold elT at h
  rw [he] at h
  exact zeroT_ok h
theorem Sim.zeroValue (t:TypeId) (hz:ZeroAt P t):Sim P Q K p (zeroValue t) (zeroValue t) (fun q a b=>a = b ∧ VR q a a):=by
  unfold Go.zeroValue
  refine Sim.bind (Sim.typeInfo t) fun q a b _ h=>?_
  obtain ⟨rfl,h⟩:=h
  cases hv:a.zero with
  | some v=>exact Sim.pure ⟨rfl,hz a v h hv q⟩
  | none=>exact Sim.halt
theorem AR.mono {q:Nat → Nat → Prop} (hp:Ext p q) {a b:Addr} (h:AR p a b):AR q a b:=⟨hp _ _ h.1,h.2⟩
theorem AR.add {a b:Addr} (h:AR p a b) (n:Nat):AR p (a.add n) (b.add n):=by
  unfold Addr.add
  split
  · exact h
  · exact ⟨h.1,by simp [h.2.1],rfl⟩
theorem VR.ext {q:Nat → Nat → Prop} (hp:Ext p q) {v u:Value} (h:VR p v u):VR q v u:=h.mono hp
theorem AllR.ext {q:Nat → Nat → Prop} (hp:Ext p q) {a b:Array Value} (h:AllR (VR p) a b):AllR (VR q) a b:=h.mono fun _ _ k=>k.ext hp
theorem AllR.empty {r:Value → Value → Prop}:AllR r #[] #[]:=⟨rfl,fun i x y hx _=>by simp at hx⟩
theorem AllR.push {r:Value → Value → Prop} {a b:Array Value} (h:AllR r a b) {x y:Value} (hxy:r x y):AllR r (a.push x) (b.push y):=by
  refine ⟨by simp [h.1],fun i s t hs ht=>?_⟩
  rw [Array.getElem?_push] at hs ht
  rw [← h.1] at ht
  split at hs
  · rename_i e
    rw [if_pos e] at ht
    cases hs; cases ht
    exact hxy
  · rename_i e
    rw [if_neg e] at ht
    exact h.2 i s t hs ht
theorem AllR.cells {v u:Value} (h:VR p v u):AllR (VR p) v.cells u.cells:=by
  have hc:=h.cases
  cases v <;> cases u <;> first
    | exact hc
    | exact hc.elim
    | exact Bool.noConfusion hc
    | exact AllR.push AllR.empty h
theorem AllR.toList {r:Value → Value → Prop} {a b:Array Value} (h:AllR r a b):a.toList.length = b.toList.length ∧ ∀ (i:Nat) x y,a.toList[i]? = some x → b.toList[i]? = some y → r x y :=
  ⟨by simpa using h.1,fun i x y hx hy=>h.2 i x y (by simpa using hx) (by simpa using hy)⟩
theorem Sim.loadCellsFrom {a b:Addr}:∀ (n i:Nat) {p:Nat → Nat → Prop} {xs ys:Array Value},AR p a b → AllR (VR p) xs ys → Sim P Q K p (loadCellsFrom a i n xs) (loadCellsFrom b i n ys) (fun q x y=>AllR (VR q) x y)
  | 0,i,p,xs,ys,h,hxy=>by unfold Go.loadCellsFrom; exact Sim.pure hxy
  | n + 1,i,p,xs,ys,h,hxy=>by
    unfold Go.loadCellsFrom
    refine Sim.bind (Sim.load (h.add i)) fun q v u hq hv=>?_
    exact Sim.loadCellsFrom n (i + 1) (h.mono hq) ((hxy.ext hq).push hv)
theorem Sim.loadCells {a b:Addr} (h:AR p a b) (n:Nat):Sim P Q K p (loadCells a n) (loadCells b n) (fun q x y=>AllR (VR q) x y):=Sim.loadCellsFrom n 0 h AllR.empty
theorem Sim.loadVar {a b:Addr} (t:TypeId) (h:AR p a b):Sim P Q K p (loadVar t a) (loadVar t b) (fun q x y=>VR q x y):=by
  unfold Go.loadVar
  refine Sim.bind (Sim.isAgg t) fun q x y hq e=>?_
  subst e
  cases x with
  | true =>
    refine Sim.bind (Sim.sizeOf t) fun q' n n' hq' e=>?_
    subst e
    refine Sim.bind (Sim.loadCells (h.mono (hq.trans hq')) n) fun q'' c c' _ hc=>Sim.pure (VR.agg hc)
  | false=>exact Sim.load (h.mono hq)
theorem Sim.storeCells {a b:Addr}:∀ (vs us:List Value) (i:Nat) {p:Nat → Nat → Prop},AR p a b → vs.length = us.length → (∀ (i:Nat) x y,vs[i]? = some x → us[i]? = some y → VR p x y) → Sim P Q K p (storeCells a vs i) (storeCells b us i) (fun _ _ _=>True)
  | [],[],i,p,_,_,_=>by unfold Go.storeCells; exact Sim.pure trivial
  | [],_ :: _,i,p,_,hl,_=>by simp at hl
  | _ :: _,[],i,p,_,hl,_=>by simp at hl
  | v :: vs,u :: us,i,p,h,hl,hv=>by
    unfold Go.storeCells
    refine Sim.bind (Sim.store (h.add i) (hv 0 v u rfl rfl)) fun q _ _ hq _=>?_
    exact Sim.storeCells vs us (i + 1) (h.mono hq) (by simpa using hl) fun i x y hx hy=>(hv (i + 1) x y (by simpa using hx) (by simpa using hy)).ext hq
theorem Sim.storeVar {a b:Addr} (t:TypeId) {v u:Value} (h:AR p a b) (hv:VR p v u):Sim P Q K p (storeVar t a v) (storeVar t b u) (fun _ _ _=>True):=by
  unfold Go.storeVar
  have hc:=AllR.cells hv
  refine Sim.bind (Sim.sizeOf t) fun q n m hq e=>?_
  subst e
  rw [hc.1]
  by_cases hn:u.cells.size ≠ n
  · rw [if_pos hn,if_pos hn]
    exact Never.sim (fun w es=>by refine ⟨⟨_,_,_,?_,rfl⟩,Nat.le_refl _,rfl,fun T' _=>rfl⟩; trivial)
  · rw [if_neg hn,if_neg hn]
    exact Sim.storeCells _ _ 0 (h.mono hq) (hc.ext hq).toList.1 (hc.ext hq).toList.2
theorem Sim.newRowA {xs ys:Array Value} (e:TypeId) (h:AllR (VR p) xs ys):Sim P Q K p (Go.newRow e xs) (Go.newRow e ys) (fun q a b=>AR q a b ∧ ¬ K b.block):=by
  unfold Go.newRow
  exact Sim.bind (Sim.newRow e h) fun q r s _ hr=>Sim.pure ⟨⟨hr.1,rfl,rfl⟩,hr.2⟩
theorem Sim.newVar {v u:Value} (t:TypeId) (h:VR p v u):Sim P Q K p (Go.newVar t v) (Go.newVar t u) (fun q a b=>AR q a b ∧ ¬ K b.block):=Sim.newRowA t (AllR.cells h)
end
end Go.Proofs.YtojoafcnijajmaaGreatDoor

namespace Go.Proofs.YtojoafcnijajmaaGreatDoor
open Go
section
variable {α β γ δ:Type} {P Q:Program} {K:Nat → Prop} {p:Nat → Nat → Prop}
theorem VR.int_inv {k:IntKind} {n:Int} {u:Value} (h:VR p (.int k n) u):u = .int k n:=by
  have:=h.cases
  cases u <;> first | exact this.elim | (obtain ⟨rfl,rfl⟩:=this; rfl)
theorem VR.bool_inv {b:Bool} {u:Value} (h:VR p (.bool b) u):u = .bool b:=by
  have:=h.cases
  cases u <;> first | exact this.elim | (obtain rfl:b = _:=this; rfl)
theorem VR.string_inv {b:ByteArray} {u:Value} (h:VR p (.string b) u):u = .string b:=by
  have:=h.cases
  cases u <;> first | exact this.elim | (obtain rfl:b = _:=this; rfl)
theorem VR.ptr_inv {a:Option Addr} {u:Value} (h:VR p (.pointer a) u):∃ b,u = .pointer b ∧ OA p a b:=by
  have:=h.cases
  cases u <;> first | exact this.elim | exact ⟨_,rfl,this⟩
theorem VR.slice_inv {a:Option Addr} {l c:Nat} {u:Value} (h:VR p (.slice a l c) u):∃ b,u = .slice b l c ∧ SA p l c a b:=by
  have:=h.cases
  cases u <;> first | exact this.elim | (obtain ⟨h1,rfl,rfl⟩:=this; exact ⟨_,rfl,h1⟩)
theorem VR.agg_inv {a:Array Value} {u:Value} (h:VR p (.agg a) u):∃ b,u = .agg b ∧ AllR (VR p) a b:=by
  have:=h.cases
  cases u <;> first | exact this.elim | exact ⟨_,rfl,this⟩
theorem VR.tuple_inv {a:Array Value} {u:Value} (h:VR p (.tuple a) u):∃ b,u = .tuple b ∧ AllR (VR p) a b:=by
  have:=h.cases
  cases u <;> first | exact this.elim | exact ⟨_,rfl,this⟩
theorem VR.func_inv {f:Fn} {a c:Array Value} {u:Value} (h:VR p (.func f a c) u):FnOk f ∧ ∃ b d,u = .func f b d ∧ AllR (VR p) a b ∧ AllR (VR p) c d:=by
  have:=h.cases
  cases u <;> first | exact this.elim | (obtain ⟨⟨rfl,h0⟩,h1,h2⟩:=this; exact ⟨h0,_,_,rfl,h1,h2⟩)
theorem OA.some_inv {a:Addr} {b:Option Addr} (h:OA p (some a) b):∃ c,b = some c ∧ AR p a c:=by
  cases b with
  | none=>exact h.elim
  | some c=>exact ⟨c,rfl,h⟩
theorem OA.none_inv {b:Option Addr} (h:OA p none b):b = none:=by
  cases b with
  | none=>rfl
  | some c=>exact h.elim
theorem Sim.sureAddr {v u:Value} (h:VR p v u):Sim P Q K p (Instr.sureAddr v) (Instr.sureAddr u) (fun q a b=>AR q a b):=by
  unfold Instr.sureAddr
  cases v with
  | pointer a =>
    cases a with
    | some a =>
      obtain ⟨b,rfl,hb⟩:=h.ptr_inv
      obtain ⟨c,rfl,hc⟩:=hb.some_inv
      exact Sim.pure hc
    | none=>exact Sim.halt
  | _=>exact Sim.halt
theorem Sim.loadAt {v u:Value} (t:TypeId) (h:VR p v u):Sim P Q K p (Instr.loadAt t v) (Instr.loadAt t u) (fun q a b=>VR q a b):=by
  unfold Instr.loadAt
  exact Sim.bind (Sim.sureAddr h) fun q a b _ hab=>Sim.loadVar t hab
theorem Sim.storeAt {v u x y:Value} (t:TypeId) (h:VR p v u) (hx:VR p x y):Sim P Q K p (Instr.storeAt t v x) (Instr.storeAt t u y) (fun _ _ _=>True):=by
  unfold Instr.storeAt
  exact Sim.bind (Sim.sureAddr h) fun q a b hq hab=>Sim.storeVar t hab (hx.ext hq)
theorem Sim.alloc (t:TypeId) (hz:ZeroAt P t):Sim P Q K p (Instr.alloc t true (.tuple #[])) (Instr.alloc t true (.tuple #[])) (fun q a b=>VR q a b):=by
  unfold Instr.alloc
  refine Sim.bind (Sim.zeroValue t hz) fun q a b _ hab=>?_
  obtain ⟨rfl,hv⟩:=hab
  refine Sim.bind (Sim.newVar t hv) fun q' a b _ hab=>Sim.pure (VR.ptr hab.1)
theorem Sim.box {v u:Value} (t:TypeId) (h:VR p v u):Sim P Q K p (Instr.box t v) (Instr.box t u) (fun q a b=>VR q a b):=by
  unfold Instr.box
  exact Sim.bind (Sim.newVar t h) fun q' a b _ hab=>Sim.pure (VR.ptr hab.1)
theorem Sim.numberAt {r s:Nat} (h:p r s):Sim P Q K p (numberAt r) (numberAt s) (fun q a b=>match a,b with
    | none,none=>True
    | some a,some b=>AR q a.1 b.1 ∧ a.2 = b.2
    | _,_=>False):=by
  intro tw w u es fs hw ht
  have k1:∀ (P:Program) (w:World) (es:Array Event) (r:Nat) xs e f,w.heap[r]? = some (.cells xs e f) → (Go.numberAt r).runT P w es = (.ok none w,es):=by
    intro P w es r xs e f h
    show (Sem.bind (Go.shape r) _).runT P w es = _
    rw [Sem.runT_bind']
    have:(Go.shape r).runT P w es = (.ok (w.shape? r) w,es):=rfl
    rw [this]
    simp only [World.shape?,h]
    rfl
  have k2:∀ (P:Program) (w:World) (es:Array Event) (r:Nat) a l,w.heap[r]? = some (.number a l) → (Go.numberAt r).runT P w es = (.ok (some (a,l)) w,es.push ⟨.obj r,false,false⟩):=by
    intro P w es r a l h
    show (Sem.bind (Go.shape r) _).runT P w es = _
    rw [Sem.runT_bind']
    have:(Go.shape r).runT P w es = (.ok (w.shape? r) w,es):=rfl
    rw [this]
    simp only [World.shape?,h]
    show (Sem.bind (Go.getObj r) _).runT P w es = _
    rw [Sem.runT_bind']
    have:(Go.getObj r).runT P w es = (.ok (.number a l) w,es.push ⟨.obj r,false,false⟩):=by
      unfold Go.getObj Sem.runT
      rw [h]
      rfl
    rw [this]
    rfl
  obtain ⟨xs,ys,e,f,g,h1,h2,_⟩ | ⟨a1,a2,l,h1,h2,h3,h4⟩:=hw.rows _ _ h
  · refine ⟨⟨fun hh w' es' hr=>(by rw [k1 P w es r xs e f h1] at hr; cases hr),(by unfold Local; rw [k1 P w es r xs e f h1]; exact ⟨Nat.le_refl _,rfl,fun T' _=>(k1 P (taped w T') es r xs e f h1).trans rfl⟩)⟩,fun a w' es' hr=>?_⟩
    rw [k1 P w es r xs e f h1] at hr
    cases hr
    exact ⟨p,none,u,#[],by rw [k1 Q u fs s ys e g h2,Array.append_empty],trivial,hw,ht,Guar.refl _ _ _,fun e he=>by simp at he⟩
  · refine ⟨⟨fun hh w' es' hr=>(by rw [k2 P w es r a1 l h1] at hr; cases hr),(by unfold Local; rw [k2 P w es r a1 l h1]; exact ⟨Nat.le_refl _,rfl,fun T' _=>(k2 P (taped w T') es r a1 l h1).trans rfl⟩)⟩,fun a w' es' hr=>?_⟩
    rw [k2 P w es r a1 l h1] at hr
    cases hr
    exact ⟨p,some (a2,l),u,#[⟨.obj s,false,false⟩],by rw [k2 Q u fs s a2 l h2]; rfl,⟨h3,rfl⟩,hw,ht,Guar.refl _ _ _,fun e he=>by
      obtain rfl:e = ⟨.obj s,false,false⟩:=by simpa using he
      exact .inl ⟨s,r,.inl rfl,h,rfl,fun h=>by cases h⟩⟩
theorem Sim.viewAt {r s:Nat} (h:p r s):Sim P Q K p (viewAt r) (viewAt s) (fun _ a b=>a = none ∧ b = none):=by
  intro tw w u es fs hw ht
  have k1:∀ (P:Program) (w:World) (es:Array Event) (r:Nat) xs e f,w.heap[r]? = some (.cells xs e f) → (Go.viewAt r).runT P w es = (.ok none w,es):=by
    intro P w es r xs e f h
    show (Sem.bind (Go.shape r) _).runT P w es = _
    rw [Sem.runT_bind']
    have:(Go.shape r).runT P w es = (.ok (w.shape? r) w,es):=rfl
    rw [this]
    simp only [World.shape?,h]
    rfl
  have k2:∀ (P:Program) (w:World) (es:Array Event) (r:Nat) a l,w.heap[r]? = some (.number a l) → (Go.viewAt r).runT P w es = (.ok none w,es.push ⟨.obj r,false,false⟩):=by
    intro P w es r a l h
    show (Sem.bind (Go.shape r) _).runT P w es = _
    rw [Sem.runT_bind']
    have:(Go.shape r).runT P w es = (.ok (w.shape? r) w,es):=rfl
    rw [this]
    simp only [World.shape?,h]
    show (Sem.bind (Go.getObj r) _).runT P w es = _
    rw [Sem.runT_bind']
    have:(Go.getObj r).runT P w es = (.ok (.number a l) w,es.push ⟨.obj r,false,false⟩):=by
      unfold Go.getObj Sem.runT
      rw [h]
      rfl
    rw [this]
    rfl
  obtain ⟨xs,ys,e,f,g,h1,h2,_⟩ | ⟨a1,a2,l,h1,h2,h3,h4⟩:=hw.rows _ _ h
  · refine ⟨⟨fun hh w' es' hr=>(by rw [k1 P w es r xs e f h1] at hr; cases hr),(by unfold Local; rw [k1 P w es r xs e f h1]; exact ⟨Nat.le_refl _,rfl,fun T' _=>(k1 P (taped w T') es r xs e f h1).trans rfl⟩)⟩,fun a w' es' hr=>?_⟩
    rw [k1 P w es r xs e f h1] at hr
    cases hr
    exact ⟨p,none,u,#[],by rw [k1 Q u fs s ys e g h2,Array.append_empty],⟨rfl,rfl⟩,hw,ht,Guar.refl _ _ _,fun e he=>by simp at he⟩
  · refine ⟨⟨fun hh w' es' hr=>(by rw [k2 P w es r a1 l h1] at hr; cases hr),(by unfold Local; rw [k2 P w es r a1 l h1]; exact ⟨Nat.le_refl _,rfl,fun T' _=>(k2 P (taped w T') es r a1 l h1).trans rfl⟩)⟩,fun a w' es' hr=>?_⟩
    rw [k2 P w es r a1 l h1] at hr
    cases hr
    exact ⟨p,none,u,#[⟨.obj s,false,false⟩],by rw [k2 Q u fs s a2 l h2]; rfl,⟨rfl,rfl⟩,hw,ht,Guar.refl _ _ _,fun e he=>by
      obtain rfl:e = ⟨.obj s,false,false⟩:=by simpa using he
      exact .inl ⟨s,r,.inl rfl,h,rfl,fun h=>by cases h⟩⟩
theorem Sim.noView {a b:Addr} (h:AR p a b):Sim P Q K p (noView a) (noView b) (fun _ _ _=>True):=by
  unfold Go.noView
  refine Sim.bind (Sim.viewAt h.1) fun q x y _ e=>?_
  rw [e.1,e.2]
  exact Sim.pure trivial
theorem Sim.byteOf {a b:Addr} (h:AR p a b):Sim P Q K p (byteOf a) (byteOf b) (fun _ x y=>x = y):=by
  unfold Go.byteOf
  rw [← h.2.2]
  cases a.spot with
  | some s=>exact Sim.pure rfl
  | none =>
    simp only
    refine Sim.twin fun tw=>Sim.bind Sim.program fun q x y hq e=>?_
    rw [e.1,e.2,tw.byteOfCell,tw.cellsOf,tw.bytesOf]
    refine Sim.bind (Sim.noView (h.mono hq)) fun q' _ _ hq' _=>?_
    refine Sim.bind (Sim.shape ((hq.trans hq') _ _ h.1)) fun q'' s s' _ e=>?_
    subst e
    cases s with
    | none=>exact Sim.halt
    | some s =>
      simp only
      split
      · exact Sim.pure rfl
      · rw [← h.2.1]
        cases byteOfCell P P.depth s.1 (a.off % P.cellsOf s.1) with
        | none=>exact Sim.halt
        | some b=>exact Sim.pure rfl
theorem Sim.partAt {a b:Addr} (h:AR p a b) (c n:Nat):Sim P Q K p (partAt a c n) (partAt b c n) (fun q x y=>AR q x y):=by
  unfold Go.partAt
  refine Sim.bind (Sim.byteOf h) fun q x y hq e=>?_
  subst e
  have h1:AR q { block:=a.block,off:=a.off + c } { block:=b.block,off:=b.off + c }:=⟨hq _ _ h.1,by simp [h.2.1],rfl⟩
  refine Sim.bind (Sim.byteOf h1) fun q' x' y' hq' e=>?_
  subst e
  by_cases hx:x' = x + n
  · simp only [hx,if_true]
    exact Sim.pure (h1.mono hq')
  · simp only [hx,if_false]
    exact Sim.pure ⟨(hq.trans hq') _ _ h.1,by simp [h.2.1],rfl⟩
theorem Sim.fieldPlace {a b:Addr} (h:AR p a b) (f:Field):Sim P Q K p (fieldPlace a f) (fieldPlace b f) (fun q x y=>AR q x y):=by
  unfold Go.fieldPlace
  refine Sim.bind (Sim.sizeOf f.type) fun q x y hq e=>?_
  subst e
  by_cases hx:x = 0
  · simp only [hx,if_true]
    exact Sim.partAt (h.mono hq) _ _
  · simp only [hx,if_false]
    exact Sim.pure ((h.mono hq).add _)
theorem Sim.fieldAt {v u:Value} (s:TypeId) (h:VR p v u) (i:Nat):Sim P Q K p (Instr.fieldAt s v i) (Instr.fieldAt s u i) (fun q a b=>VR q a b):=by
  unfold Instr.fieldAt
  refine Sim.bind (Sim.underlying s) fun q x y hq e=>?_
  obtain ⟨rfl,_⟩:=e
  cases x with
  | struct fields =>
    simp only
    cases fields[i]? with
    | none=>exact Sim.halt
    | some f =>
      simp only
      refine Sim.bind (Sim.sureAddr (h.ext hq)) fun q' a b hq' hab=>?_
      exact Sim.bind (Sim.fieldPlace hab f) fun q'' a b _ hab=>Sim.pure (VR.ptr hab)
  | _=>exact Sim.halt
theorem Sim.part {xs ys:Array Value} (t:TypeId) (h:AllR (VR p) xs ys) (off:Nat):Sim P Q K p (part t xs off) (part t ys off) (fun q a b=>VR q a b):=by
  unfold Go.part
  refine Sim.bind (Sim.isAgg t) fun q x y hq e=>?_
  subst e
  have h':=h.ext hq
  cases x with
  | true =>
    simp only [if_true]
    refine Sim.bind (Sim.sizeOf t) fun q' n m hq' e=>?_
    subst e
    have h'':=h'.ext hq'
    refine Sim.pure (VR.agg ⟨by simp [h''.1],fun i x y hx hy=>?_⟩)
    rw [Array.getElem?_extract] at hx hy
    rw [← h''.1] at hy
    split at hx
    · rename_i hlt
      rw [if_pos hlt] at hy
      exact h''.2 _ x y hx hy
    · cases hx
  | false =>
    simp only [Bool.false_eq_true,if_false]
    cases hx:xs[off]? with
    | none=>exact Sim.halt
    | some v =>
      have hlt:off < ys.size:=by rw [← h.1]; exact (Array.getElem?_eq_some_iff.1 hx).1
      rw [Array.getElem?_eq_getElem hlt]
      exact Sim.pure (h'.2 off v _ hx (Array.getElem?_eq_getElem hlt))
theorem Sim.asIntOf {v u:Value} (h:VR p v u):Sim P Q K p (asIntOf v) (asIntOf u) (fun _ a b=>a = b):=by
  unfold Go.asIntOf
  cases v with
  | int k n=>rw [h.int_inv]; exact Sim.pure rfl
  | pointer a=>cases a <;> exact Sim.halt
  | _=>exact Sim.halt
theorem Sim.asInt {v u:Value} (h:VR p v u):Sim P Q K p (asInt v) (asInt u) (fun _ a b=>a = b):=by
  unfold Go.asInt
  refine Sim.bind (Sim.asIntOf h) fun q x y _ e=>?_
  subst e
  exact Sim.pure rfl
theorem Sim.asBool {v u:Value} (h:VR p v u):Sim P Q K p (asBool v) (asBool u) (fun _ a b=>a = b):=by
  unfold Go.asBool
  cases v with
  | bool b=>rw [h.bool_inv]; exact Sim.pure rfl
  | _=>exact Sim.halt
theorem Sim.asAgg {v u:Value} (h:VR p v u):Sim P Q K p (asAgg v) (asAgg u) (fun q a b=>AllR (VR q) a b):=by
  unfold Go.asAgg
  cases v with
  | agg a=>obtain ⟨b,rfl,hb⟩:=h.agg_inv; exact Sim.pure hb
  | _=>exact Sim.halt
theorem Sim.field {v u:Value} (t:TypeId) (h:VR p v u) (i:Nat):Sim P Q K p (Instr.field t v i) (Instr.field t u i) (fun q a b=>VR q a b):=by
  unfold Instr.field
  refine Sim.bind (Sim.underlying t) fun q x y hq e=>?_
  obtain ⟨rfl,_⟩:=e
  cases x with
  | struct fields =>
    simp only
    cases fields[i]? with
    | none=>exact Sim.halt
    | some f=>exact Sim.bind (Sim.asAgg (h.ext hq)) fun q' a b _ hab=>Sim.part f.type hab f.offset
  | _=>exact Sim.halt
theorem Sim.index {v u x y:Value} (t:TypeId) (h:VR p v u) (hx:VR p x y):Sim P Q K p (Instr.index t v x) (Instr.index t u y) (fun q a b=>VR q a b):=by
  unfold Instr.index
  refine Sim.bind (Sim.asIntOf hx) fun q k k' hq e=>?_
  subst e
  refine Sim.bind (Sim.underlying t) fun q' d d' hq' e=>?_
  obtain ⟨rfl,_⟩:=e
  have h':=(h.ext hq).ext hq'
  cases d with
  | array len elem =>
    cases v with
    | agg cs =>
      obtain ⟨b,rfl,hb⟩:=h'.agg_inv
      simp only
      split
      · refine Sim.bind (Sim.sizeOf elem) fun q'' n m hq'' e=>?_
        subst e
        exact Sim.part elem (hb.ext hq'') _
      · exact (Never.boundsPanic _ _ _ _).sim
    | _=>exact Sim.halt
  | string =>
    cases v with
    | string s =>
      rw [h'.string_inv]
      simp only
      split
      · exact Sim.pure (VR.int _ _)
      · exact (Never.boundsPanic _ _ _ _).sim
    | _=>exact Sim.halt
  | _=>exact Sim.halt
theorem Sim.indexAt {v u x y:Value} (t:TypeId) (h:VR p v u) (hx:VR p x y):Sim P Q K p (Instr.indexAt t v x) (Instr.indexAt t u y) (fun q a b=>VR q a b):=by
  unfold Instr.indexAt
  refine Sim.bind (Sim.asIntOf hx) fun q k k' hq e=>?_
  subst e
  refine Sim.bind (Sim.underlying t) fun q' d d' hq' e=>?_
  obtain ⟨rfl,_⟩:=e
  have h':=(h.ext hq).ext hq'
  cases d with
  | array len elem =>
    simp only
    refine Sim.bind (Sim.sureAddr h') fun q2 a c hq2 hac=>?_
    simp only [pure_bind]
    refine Sim.bind (Sim.underlying t) fun q3 d d' hq3 e=>?_
    obtain ⟨rfl,_⟩:=e
    split
    · refine Sim.bind (Sim.sizeOf elem) fun q4 n m hq4 e=>?_
      subst e
      exact Sim.pure (VR.ptr ((hac.mono (hq3.trans hq4)).add _))
    · exact Never.sim (by repeat' split
                          all_goals first | exact Never.halt _ | exact Never.boundsPanic _ _ _ _)
  | slice elem =>
    cases v with
    | slice base len cap =>
      obtain ⟨b2,rfl,hb⟩:=h'.slice_inv
      simp only [pure_bind]
      refine Sim.bind (Sim.underlying t) fun q3 d d' hq3 e=>?_
      obtain ⟨rfl,_⟩:=e
      cases base with
      | none=>exact (Never.boundsPanic _ _ _ _).sim
      | some a =>
        obtain ⟨c,rfl,hc⟩:=hb.some_inv
        simp only
        split
        · rename_i hlt
          have hc:=hc.resolve_right (fun h=>by omega)
          refine Sim.bind (Sim.sizeOf elem) fun q4 n m hq4 e=>?_
          subst e
          exact Sim.pure (VR.ptr ((hc.mono (hq3.trans hq4)).add _))
        · exact Never.sim (by repeat' split
                              all_goals first | exact Never.halt _ | exact Never.boundsPanic _ _ _ _)
    | _=>exact Sim.halt
  | _=>exact Sim.halt
theorem Sim.extract {v u:Value} (h:VR p v u) (i:Nat):Sim P Q K p (Instr.extract v i) (Instr.extract u i) (fun q a b=>VR q a b):=by
  unfold Instr.extract
  cases v with
  | tuple a =>
    obtain ⟨b,rfl,hb⟩:=h.tuple_inv
    simp only
    cases hx:a[i]? with
    | none=>exact Sim.halt
    | some x =>
      have hlt:i < b.size:=by rw [← hb.1]; exact (Array.getElem?_eq_some_iff.1 hx).1
      rw [Array.getElem?_eq_getElem hlt]
      exact Sim.pure (hb.2 i x _ hx (Array.getElem?_eq_getElem hlt))
  | _=>exact Sim.halt
theorem AllR.append {r:Value → Value → Prop} {a b c d:Array Value} (h:AllR r a b) (k:AllR r c d):AllR r (a ++ c) (b ++ d):=by
  refine ⟨by simp [h.1,k.1],fun i x y hx hy=>?_⟩
  rw [Array.getElem?_append] at hx hy
  rw [← h.1] at hy
  split at hx
  · rename_i hlt
    rw [if_pos hlt] at hy
    exact h.2 i x y hx hy
  · rename_i hlt
    rw [if_neg hlt] at hy
    exact k.2 _ x y hx hy
theorem AllR.same {a:Array Value} (h:∀ v,v ∈ a → VR p v v):AllR (VR p) a a:=⟨rfl,fun i x y hx hy=>by
  rw [hx] at hy
  cases hy
  exact h x (Array.mem_of_getElem? hx)⟩
theorem Sim.behindNumber {a b:Addr} (h:AR p a b):Sim P Q K p (behindNumber a) (behindNumber b) (fun q x y=>AR q x.1 y.1 ∧ x.2 = y.2):=by
  unfold Go.behindNumber
  refine Sim.bind (Sim.numberAt h.1) fun q x y hq e=>?_
  cases x with
  | none=>cases y with
    | none=>exact Sim.pure ⟨h.mono hq,rfl⟩
    | some y=>exact e.elim
  | some x=>cases y with
    | none=>exact e.elim
    | some y=>exact Sim.pure e
theorem Sim.asNumber {a b:Addr} (l:Bool) (h:AR p a b):Sim P Q K p (asNumber a l) (asNumber b l) (fun q x y=>VR q x y):=by
  unfold Go.asNumber
  exact Sim.bind (Sim.newNumber l h) fun q r s _ hr=>Sim.pure (VR.ptr ⟨hr.1,rfl,rfl⟩)
theorem Sim.unsafeAdd {a b:Option Addr} {x y:Value} (t:TypeId) (h:OA p a b) (hx:VR p x y):Sim P Q K p (Builtin.unsafeAdd_ #[] t #[.pointer a,x]) (Builtin.unsafeAdd_ #[] t #[.pointer b,y]) (fun q x y=>VR q x y ∧ ∃ a,x = .pointer a):=by
  unfold Builtin.unsafeAdd_
  refine Sim.bind (Sim.asInt hx) fun q n m hq e=>?_
  subst e
  cases a with
  | none =>
    obtain rfl:=h.none_inv
    refine Never.sim ?_
    simp only
    repeat' split
    all_goals first | exact Never.halt _ | exact Never.bind (by first | exact Soft.underlying _ | exact Soft.typeInfo _ | exact Soft.pure _) fun _=>Never.halt _
  | some a =>
    obtain ⟨c,rfl,hc⟩:=h.some_inv
    have hc':=hc.mono hq
    simp only
    by_cases hn:n = 0
    · simp only [hn,if_true]
      refine Sim.bind (Sim.viewAt hc'.1) fun q' s t hq' e=>?_
      rw [e.1,e.2]
      exact Sim.pure ⟨VR.ptr (hc'.mono hq'),_,rfl⟩
    · simp only [hn,if_false]
      by_cases hl:n < 0
      · simp only [hl,if_true]
        exact Never.sim (fun w es=>by refine ⟨⟨_,_,_,?_,rfl⟩,Nat.le_refl _,rfl,fun T' _=>rfl⟩; trivial)
      · simp only [hl,if_false]
        refine Sim.bind (Sim.shape hc'.1) fun q' s t hq' e=>?_
        subst e
        cases s with
        | none=>exact Sim.halt
        | some s =>
          simp only
          refine Sim.twin fun tw=>Sim.bind Sim.program fun q'' s' t' hq'' e=>?_
          rw [e.1,e.2,tw.cellAtBytes,tw.cellsOf,← hc'.2.1]
          cases cellAtBytes P P.depth s.1 (s.2 / P.cellsOf s.1) a.off n with
          | none=>exact Sim.halt
          | some off=>exact Sim.pure ⟨VR.ptr ⟨(hq'.trans hq'') _ _ hc'.1,rfl,hc'.2.2⟩,_,rfl⟩
theorem Sim.movedNumber {x y z t':Value} (t:TypeId) (h:VR p x y) (hz:VR p z t') (hp:∃ a,x = .pointer a):Sim P Q K p (movedNumber t x z) (movedNumber t y t') (fun q x y=>VR q x y):=by
  obtain ⟨a,rfl⟩:=hp
  obtain ⟨b,rfl,hb⟩:=h.ptr_inv
  unfold Go.movedNumber
  refine Sim.bind (Sim.underlying t) fun q d d' hq e=>?_
  obtain ⟨rfl,_⟩:=e
  have h1:=OA.mono hq hb
  have h2:=hz.ext hq
  cases a with
  | none =>
    obtain rfl:=h1.none_inv
    cases d <;> first
      | exact (Sim.unsafeAdd t h1 h2).mono fun _ _ _ _ h=>h.1
      | exact Never.sim (fun w es=>by refine ⟨⟨_,_,_,?_,rfl⟩,Nat.le_refl _,rfl,fun T' _=>rfl⟩; trivial)
  | some a =>
    obtain ⟨c,rfl,hc⟩:=h1.some_inv
    have main:∀ {q:Nat → Nat → Prop},AR q a c → VR q z t' → Sim P Q K q
        (do let (a,lost) ← Go.behindNumber a
            match ← Builtin.unsafeAdd_ #[] t #[.pointer (some a),z] with
            | .pointer (some b)=>Go.asNumber b lost
            | v=>Pure.pure v)
        (do let (a,lost) ← Go.behindNumber c
            match ← Builtin.unsafeAdd_ #[] t #[.pointer (some a),t'] with
            | .pointer (some b)=>Go.asNumber b lost
            | v=>Pure.pure v) (fun q x y=>VR q x y):=by
      intro q hc hz
      refine Sim.bind (Sim.behindNumber hc) fun q' x y hq' e=>?_
      obtain ⟨x1,x2⟩:=x
      obtain ⟨y1,y2⟩:=y
      obtain ⟨e1,rfl⟩ : AR q' x1 y1 ∧ x2 = y2:=e
      refine Sim.bind (Sim.unsafeAdd t (a:=some x1) (b:=some y1) e1 (hz.ext hq')) fun q'' v u _ hv=>?_
      obtain ⟨hv,o,rfl⟩:=hv
      obtain ⟨o',rfl,ho⟩:=hv.ptr_inv
      cases o with
      | none=>obtain rfl:=ho.none_inv; exact Sim.pure hv
      | some o=>obtain ⟨o2,rfl,ho2⟩:=ho.some_inv; exact Sim.asNumber x2 ho2
    cases d <;> first
      | exact main hc h2
      | exact Never.sim (fun w es=>by refine ⟨⟨_,_,_,?_,rfl⟩,Nat.le_refl _,rfl,fun T' _=>rfl⟩; trivial)
end
end Go.Proofs.YtojoafcnijajmaaGreatDoor
