/- Part 3 of the proof that Devices answers true and leaves its input as it was, for input of bulk at most the bound of its row: W6 W7. -/
import Derived.Test.YtojoafcnijajmaaGreatDoorT2
set_option linter.unusedVariables false
namespace Go.Proofs.YtojoafcnijajmaaGreatDoor
open Go
section
variable {α β γ δ:Type} {P Q:Program} {K:Nat → Prop} {p:Nat → Nat → Prop}
theorem Sim.unary {x v:Value} (op:UnOp) (h:VR p x v):Sim P Q K p (Op.unary op x) (Op.unary op v) (fun q a b=>VR q a b):=by
  have hx:=h.cases
  unfold Op.unary
  cases x with
  | int k n=>obtain rfl:=h.int_inv; cases op <;> first | exact Sim.intArith _ _ _ _ | exact Sim.intBits _ _ _ _ | exact Sim.halt
  | bool b=>obtain rfl:=h.bool_inv; cases op <;> first | exact Sim.pure (VR.bool _) | exact Sim.halt
  | pointer o=>cases v <;> first
      | exact hx.elim
      | exact Bool.noConfusion hx
      | (rename_i o'; cases op <;> cases o <;> cases o' <;> first | exact Sim.halt | exact (hx:False).elim)
  | _=>cases v <;> first | exact hx.elim | exact Bool.noConfusion hx | (cases op <;> exact Sim.halt)
theorem Sim.convertInt {x v:Value} (s t:TypeId) {j k:IntKind} (hs:P.underlying s = some (.int j)) (ht:P.underlying t = some (.int k)) (h:VR p x v):Sim P Q K p (convert s t x) (convert s t v) (fun q a b=>VR q a b):=by
  unfold Go.convert
  refine Sim.bind (Sim.underlying s) fun q d d' hq e=>?_
  obtain ⟨rfl,hd⟩:=e
  rw [hs] at hd
  cases hd
  refine Sim.bind (Sim.underlying t) fun q' d d' hq' e=>?_
  obtain ⟨rfl,hd⟩:=e
  rw [ht] at hd
  cases hd
  have h':=(h.ext hq).ext hq'
  have hx:=h'.cases
  cases x with
  | int i n=>obtain rfl:=h'.int_inv; exact Sim.pure (VR.int _ _)
  | pointer o=>cases v <;> first
      | exact hx.elim
      | exact Bool.noConfusion hx
      | (rename_i o'; cases o <;> cases o' <;> first | exact Sim.halt | exact (hx:False).elim)
  | _=>cases v <;> first | exact hx.elim | exact Bool.noConfusion hx | exact Sim.halt
theorem Sim.pushBytes:∀ (l m:List Value) (s:ByteArray) {p:Nat → Nat → Prop},l.length = m.length → (∀ (i:Nat) x y,l[i]? = some x → m[i]? = some y → VR p x y) →
    Sim P Q K p (forIn l s (fun c s=>match c with
      | .int .u8 n=>do Pure.pure PUnit.unit; Pure.pure (ForInStep.yield (s.push (UInt8.ofNat n.toNat)))
      | _ => stuck "bytesToString: byte expected")) (forIn m s (fun c s=>match c with
      | .int .u8 n=>do Pure.pure PUnit.unit; Pure.pure (ForInStep.yield (s.push (UInt8.ofNat n.toNat)))
      | _ => stuck "bytesToString: byte expected")) (fun _ a b=>a = b)
  | [],[],s,p,_,_=>by simp only [List.forIn_nil]; exact Sim.pure rfl
  | [],_ :: _,_,_,h,_=>by cases h
  | _ :: _,[],_,_,h,_=>by cases h
  | x :: l,y :: m,s,p,h,hv=>by
    simp only [List.forIn_cons]
    have hxy:=hv 0 x y rfl rfl
    refine Sim.bind (A:=fun _ a b=>a = b) ?_ fun q a b hq e=>?_
    · have hx:=hxy.cases
      cases x with
      | int k n =>
        obtain rfl:=hxy.int_inv
        cases k <;> first | exact Sim.pure rfl | exact Sim.halt
      | _=>exact Sim.halt
    · subst e
      cases a with
      | done s'=>exact Sim.pure rfl
      | yield s'=>exact Sim.pushBytes l m s' (by simpa using h) fun i x y hx hy=>(hv (i + 1) x y (by simpa using hx) (by simpa using hy)).ext hq
theorem Sim.loadCellsS {l c n:Nat} {a b:Addr} (h:AR p a b ∨ (l = 0 ∧ c = 0)) (hn:l = 0 → n = 0):Sim P Q K p (Go.loadCells a n) (Go.loadCells b n) (fun q a b=>AllR (VR q) a b):=by
  rcases h with h | h
  · exact Sim.loadCells h n
  · obtain rfl:=hn h.1
    exact Sim.pure AllR.empty
theorem Sim.bytesToString {x v:Value} (h:VR p x v):Sim P Q K p (Conv.bytesToString x) (Conv.bytesToString v) (fun q a b=>VR q a b):=by
  have hx:=h.cases
  unfold Conv.bytesToString
  cases x with
  | slice o l c =>
    obtain ⟨o',rfl,ho⟩:=h.slice_inv
    cases o with
    | none =>
      obtain rfl:=ho.none_inv
      exact Sim.pure (VR.string _)
    | some a =>
      obtain ⟨b,rfl,hab⟩:=ho.some_inv
      refine Sim.bind (Sim.loadCellsS hab fun h=>h) fun q xs ys hq hxs=>?_
      simp only [← Array.forIn_toList]
      refine Sim.bind (Sim.pushBytes xs.toList ys.toList _ hxs.toList.1 hxs.toList.2) fun q' a b _ e=>?_
      subst e
      exact Sim.pure (VR.string _)
  | _=>cases v <;> first | exact hx.elim | exact Bool.noConfusion hx | exact Sim.halt
theorem Sim.convertBytes {x v:Value} (s t e:TypeId) (hs:P.underlying s = some (.slice e)) (he:P.underlying e = some (.int .u8)) (ht:P.underlying t = some .string) (h:VR p x v):Sim P Q K p (convert s t x) (convert s t v) (fun q a b=>VR q a b):=by
  unfold Go.convert
  refine Sim.bind (Sim.underlying s) fun q d d' hq e1=>?_
  obtain ⟨rfl,hd⟩:=e1
  rw [hs] at hd
  cases hd
  refine Sim.bind (Sim.underlying t) fun q' d d' hq' e1=>?_
  obtain ⟨rfl,hd⟩:=e1
  rw [ht] at hd
  cases hd
  have h':=(h.ext hq).ext hq'
  have hx:=h'.cases
  cases x with
  | slice o l c =>
    obtain ⟨o',rfl,ho⟩:=h'.slice_inv
    refine Sim.bind (Sim.underlying e) fun q2 d d' hq2 e1=>?_
    obtain ⟨rfl,hd⟩:=e1
    rw [he] at hd
    cases hd
    exact Sim.bytesToString (h'.ext hq2)
  | int k n=>obtain rfl:=h'.int_inv; exact Sim.pure (VR.string _)
  | string b=>obtain rfl:=h'.string_inv; exact Sim.pure (VR.string _)
  | _=>cases v <;> first
    | exact hx.elim
    | exact Bool.noConfusion hx
    | (refine Sim.bind (Sim.underlying e) fun q2 d d' hq2 e1=>?_
       obtain ⟨rfl,hd⟩:=e1
       rw [he] at hd
       cases hd
       exact Sim.halt)
theorem Sim.lenOf {x v:Value} (h:VR p x v):Sim P Q K p (Builtin.lenOf x) (Builtin.lenOf v) (fun _ a b=>a = b ∧ ∀ o l c,x = .slice o l c → a = l):=by
  have hx:=h.cases
  unfold Builtin.lenOf
  cases x <;> cases v <;> first
    | exact hx.elim
    | exact Bool.noConfusion hx
    | exact Sim.halt
    | (obtain ⟨_,rfl,rfl⟩:=hx; exact Sim.pure ⟨rfl,fun _ _ _ h=>by cases h; rfl⟩)
    | (obtain rfl:_ = _:=hx; exact Sim.pure ⟨rfl,fun _ _ _ h=>by cases h⟩)
theorem Sim.len {x v:Value} (t u:TypeId) (ht:(∀ k e,P.underlying t ≠ some (.map k e)) ∧ (∀ k e,P.underlying t ≠ some (.chan k e))) (h:VR p x v):Sim P Q K p (Builtin.len_ #[t] u #[x]) (Builtin.len_ #[t] u #[v]) (fun q a b=>VR q a b):=by
  unfold Builtin.len_
  refine Sim.bind (Sim.underlying t) fun q d d' hq e=>?_
  obtain ⟨rfl,hd⟩:=e
  have h':=h.ext hq
  have hx:=h'.cases
  cases d with
  | map k e=>exact absurd hd (ht.1 _ _)
  | chan k e=>exact absurd hd (ht.2 _ _)
  | array n e=>exact Sim.pure (VR.int _ _)
  | pointer arr =>
    refine Sim.bind (Sim.underlying arr) fun q' d d' _ e=>?_
    obtain ⟨rfl,_⟩:=e
    cases d <;> first | exact Sim.pure (VR.int _ _) | exact Sim.halt
  | string=>cases x <;> cases v <;> first
      | exact hx.elim
      | exact Bool.noConfusion hx
      | exact Sim.halt
      | (obtain rfl:_ = _:=hx; exact Sim.pure (VR.int _ _))
  | slice e=>cases x <;> cases v <;> first
      | exact hx.elim
      | exact Bool.noConfusion hx
      | exact Sim.halt
      | (obtain ⟨_,rfl,rfl⟩:=hx; exact Sim.pure (VR.int _ _))
  | _=>cases x <;> cases v <;> first | exact hx.elim | exact Bool.noConfusion hx | exact Sim.halt
theorem AllR.bytes (l:ByteArray):AllR (VR p) (l.data.map fun b=>Value.int .u8 b.toNat) (l.data.map fun b=>Value.int .u8 b.toNat):=AllR.same fun v hv=>by
  obtain ⟨b,_,rfl⟩:=Array.mem_map.1 hv
  exact VR.int _ _
theorem Sim.firstCells0 {x v:Value} (size:Nat) (h:VR p x v):Sim P Q K p (Builtin.firstCells size 0 x) (Builtin.firstCells size 0 v) (fun q a b=>a = #[] ∧ b = #[]):=by
  have hx:=h.cases
  unfold Builtin.firstCells
  cases x with
  | slice a l c =>
    obtain ⟨b,rfl,hb⟩:=h.slice_inv
    cases a with
    | none=>obtain rfl:=hb.none_inv; exact Sim.pure ⟨rfl,rfl⟩
    | some a =>
      obtain ⟨c,rfl,hc⟩:=hb.some_inv
      simp only [Nat.zero_mul]
      exact Sim.pure ⟨rfl,rfl⟩
  | string s =>
    obtain rfl:=h.string_inv
    have e:(s.extract 0 0).data = #[]:=by simp
    simp only [e]
    exact Sim.pure ⟨by simp,by simp⟩
  | _=>cases v <;> first | exact hx.elim | exact Bool.noConfusion hx | exact Sim.halt
theorem Sim.firstCells {x v:Value} (size n:Nat) (h:VR p x v) (hn:∀ o l c,x = .slice o l c → n ≤ l):Sim P Q K p (Builtin.firstCells size n x) (Builtin.firstCells size n v) (fun q a b=>AllR (VR q) a b):=by
  have hx:=h.cases
  unfold Builtin.firstCells
  cases x with
  | slice a l c =>
    obtain ⟨b,rfl,hb⟩:=h.slice_inv
    cases a with
    | none=>obtain rfl:=hb.none_inv; exact Sim.pure AllR.empty
    | some a =>
      obtain ⟨c,rfl,hc⟩:=hb.some_inv
      refine Sim.loadCellsS hc fun h0=>?_
      have h1:=hn _ _ _ rfl
      have h2:n = 0:=by omega
      rw [h2,Nat.zero_mul]
  | string s=>obtain rfl:=h.string_inv; exact Sim.pure (AllR.bytes _)
  | _=>cases v <;> first | exact hx.elim | exact Bool.noConfusion hx | exact Sim.halt
theorem Sim.copy {x v y u:Value} (t e' t':TypeId) (h:VR p x v) (h':VR p y u):Sim P Q K p (Builtin.copy_ #[t,e'] t' #[x,y]) (Builtin.copy_ #[t,e'] t' #[v,u]) (fun q a b=>VR q a b):=by
  unfold Builtin.copy_
  refine Sim.bind (Sim.underlying t) fun q d d' hq e=>?_
  obtain ⟨rfl,hd⟩:=e
  cases d with
  | slice e =>
    have h1:=h.ext hq
    have hx:=h1.cases
    cases x with
    | slice a l c =>
      obtain ⟨b,rfl,hb⟩:=h1.slice_inv
      simp only
      refine Sim.bind (Sim.lenOf (h'.ext hq)) fun q1 n m hq1 e2=>?_
      obtain ⟨rfl,hlen⟩:=e2
      refine Sim.bind (Sim.sizeOf e) fun q2 s s' hq2 e2=>?_
      subst e2
      have hmin:∀ o k c',y = .slice o k c' → Nat.min n l ≤ k:=fun o k c' hy=>by rw [← hlen o k c' hy]; exact Nat.min_le_left _ _
      cases a with
      | none =>
        obtain rfl:=hb.none_inv
        refine Sim.bind (Sim.firstCells s _ ((h'.ext hq).ext (hq1.trans hq2)) hmin) fun q3 cs cs' hq3 hcs=>?_
        exact Sim.pure (VR.int _ _)
      | some a =>
        obtain ⟨c,rfl,hc⟩:=hb.some_inv
        rcases hc with hc | ⟨rfl,_⟩
        case inr =>
          have e0:Nat.min n 0 = 0:=Nat.min_zero n
          simp only [e0]
          refine Sim.bind (Sim.firstCells0 s ((h'.ext hq).ext (hq1.trans hq2))) fun q3 cs cs' hq3 hcs=>?_
          obtain ⟨rfl,rfl⟩:=hcs
          exact Sim.pure (VR.int _ _)
        refine Sim.bind (Sim.firstCells s _ ((h'.ext hq).ext (hq1.trans hq2)) hmin) fun q3 cs cs' hq3 hcs=>?_
        refine Sim.bind (Sim.storeCells _ _ 0 (hc.mono ((hq1.trans hq2).trans hq3)) hcs.toList.1 hcs.toList.2) fun q4 _ _ _ _=>Sim.pure (VR.int _ _)
    | _=>cases v <;> first | exact hx.elim | exact Bool.noConfusion hx | exact Sim.halt
  | _=>exact Sim.halt
theorem AllR.zeroCells {z:Array Value} (h:AllR (VR p) z z) (n:Nat):AllR (VR p) (Builtin.zeroCells z n) (Builtin.zeroCells z n):=by
  refine ⟨rfl,fun i x y hx hy=>?_⟩
  rw [hx] at hy
  cases hy
  unfold Builtin.zeroCells at hx
  rw [Array.getElem?_map] at hx
  cases hr:(Array.range (n * z.size))[i]? with
  | none=>rw [hr] at hx; cases hx
  | some j =>
    rw [hr] at hx
    cases hx
    have hz:0 < z.size:=by
      have:=(Array.getElem?_eq_some_iff.1 hr).1
      simp at this
      rcases Nat.eq_zero_or_pos z.size with h0 | h0
      · rw [h0] at this; omega
      · exact h0
    have hl:j % z.size < z.size:=Nat.mod_lt _ hz
    show VR p (z[j % z.size]!) (z[j % z.size]!)
    rw [getElem!_pos z _ hl]
    exact h.2 _ _ _ (Array.getElem?_eq_getElem hl) (Array.getElem?_eq_getElem hl)
theorem Sim.append {x v y u:Value} (t s t':TypeId) (hz:ZeroEl P t) (hs:∀ k,P.underlying s ≠ some (.int k)) (h:VR p x v) (h':VR p y u):Sim P Q K p (Builtin.append_ #[t,s] t' #[x,y]) (Builtin.append_ #[t,s] t' #[v,u]) (fun q a b=>VR q a b):=by
  unfold Builtin.append_
  refine Sim.bind (Sim.underlying t) fun q d d' hq e=>?_
  obtain ⟨rfl,hd⟩:=e
  cases d with
  | slice elem =>
    have h1:=h.ext hq
    have hx:=h1.cases
    cases x with
    | slice a l c =>
      obtain ⟨b,rfl,hb⟩:=h1.slice_inv
      simp only
      refine Sim.bind (Sim.sizeOf elem) fun q1 size s' hq1 e2=>?_
      subst e2
      refine Sim.bind (Sim.underlying s) fun q2 d d' hq2 e2=>?_
      obtain ⟨rfl,hd2⟩:=e2
      refine Sim.bind (A:=fun _ a b=>a = b ∧ a = false) (Sim.pure ⟨rfl,by cases d <;> first | rfl | exact absurd hd2 (hs _)⟩) fun q2' z z' hq2' e2=>?_
      obtain ⟨rfl,rfl⟩:=e2
      replace hq2:=hq2.trans hq2'
      clear hq2'
      have hy:=((h'.ext hq).ext (hq1.trans hq2))
      have hb2:=SA.mono (hq1.trans hq2) hb
      simp only [pure_bind,Bool.false_eq_true,if_false,Bool.not_false,if_true,false_or]
      refine Sim.bind (Sim.lenOf hy) fun q3 n m hq3 e2=>?_
      obtain ⟨rfl,hlen⟩:=e2
      have hmin:∀ o k c',y = .slice o k c' → n ≤ k:=fun o k c' hy=>Nat.le_of_eq (hlen o k c' hy)
      by_cases hle:l + n ≤ c
      · simp only [hle,if_true]
        cases a with
        | none =>
          obtain rfl:=hb2.none_inv
          refine Sim.bind (Sim.firstCells size n (hy.ext hq3) hmin) fun q4 new new' hq4 hnew=>?_
          exact Sim.pure (VR.slice trivial)
        | some a =>
          obtain ⟨c',rfl,hc⟩:=hb2.some_inv
          rcases hc with hc | ⟨rfl,rfl⟩
          case inr =>
            obtain rfl:n = 0:=by omega
            refine Sim.bind (Sim.firstCells0 size (hy.ext hq3)) fun q4 new new' hq4 hnew=>?_
            obtain ⟨rfl,rfl⟩:=hnew
            exact Sim.pure (VR.sliceS (.inr ⟨rfl,rfl⟩))
          refine Sim.bind (Sim.firstCells size n (hy.ext hq3) hmin) fun q4 new new' hq4 hnew=>?_
          have hc4:=hc.mono (hq3.trans hq4)
          refine Sim.bind (Sim.storeCells _ _ 0 (hc4.add _) hnew.toList.1 hnew.toList.2) fun q5 _ _ hq5 _=>Sim.pure (VR.slice (hc4.mono hq5))
      · simp only [hle,if_false]
        refine Sim.bind (Sim.typeInfo elem) fun q4 i i' hq4 e2=>?_
        obtain ⟨rfl,_⟩:=e2
        by_cases h63:((l + n:Nat):Int) > IntKind.i64.max ∧ i.bytes = 0
        · simp only [h63,and_self,if_true]
          exact (Never.left (Never.runtimePanic _)).sim
        · simp only [h63,if_false]
          have hy4:=hy.ext (hq3.trans hq4)
          have h14:=((h1.ext (hq1.trans hq2)).ext (hq3.trans hq4))
          refine Sim.bind (Sim.typeInfo elem) fun q5 i2 i' hq5 e2=>?_
          obtain ⟨rfl,_⟩:=e2
          split
          · refine (Never.left (Never.bind (Soft.mayShare _ _ _ _ _) fun b=>?_)).sim
            split
            · exact Never.bind (Soft.mark _) fun _=>Never.halt _
            · exact Never.halt _
          · refine Sim.bind (Sim.choose _) fun q6 nc nc' hq6 e2=>?_
            subst e2
            refine Sim.bind (Sim.typeInfo elem) fun q7 i3 i' hq7 e2=>?_
            obtain ⟨rfl,_⟩:=e2
            refine Sim.bind (Sim.askRoom _) fun q8 _ _ hq8 _=>?_
            have h58:=hq5.trans (hq6.trans (hq7.trans hq8))
            refine Sim.bind (Sim.firstCells size l (h14.ext h58) fun _ _ _ h=>by cases h; exact Nat.le_refl _) fun q9 old old' hq9 hold=>?_
            refine Sim.bind (Sim.firstCells size n ((hy4.ext h58).ext hq9) hmin) fun q10 new new' hq10 hnew=>?_
            refine Sim.bind (Sim.zeroValue elem (hz elem hd)) fun q11 z z' hq11 e2=>?_
            obtain ⟨rfl,hzv⟩:=e2
            refine Sim.bind (Sim.newRowA elem (((hold.ext (hq10.trans hq11)).append (hnew.ext hq11)).append (AllR.zeroCells (AllR.cells hzv) _))) fun q12 r r' hq12 hr=>?_
            exact Sim.pure (VR.slice hr.1)
    | _=>cases v <;> first | exact hx.elim | exact Bool.noConfusion hx | exact Sim.halt
  | _=>exact Sim.halt
theorem AllR.mod {z:Array Value} (h:AllR (VR p) z z) (n:Nat) (hz:n = 0 ∨ 0 < z.size):AllR (VR p) ((Array.range n).map (z[· % z.size]!)) ((Array.range n).map (z[· % z.size]!)):=by
  refine ⟨rfl,fun i x y hx hy=>?_⟩
  rw [hx] at hy
  cases hy
  rw [Array.getElem?_map] at hx
  cases hr:(Array.range n)[i]? with
  | none=>rw [hr] at hx; cases hx
  | some j =>
    rw [hr] at hx
    cases hx
    have hi:=(Array.getElem?_eq_some_iff.1 hr).1
    simp at hi
    have hz':0 < z.size:=by rcases hz with rfl | h <;> omega
    have hl:j % z.size < z.size:=Nat.mod_lt _ hz'
    show VR p (z[j % z.size]!) (z[j % z.size]!)
    rw [getElem!_pos z _ hl]
    exact h.2 _ _ _ (Array.getElem?_eq_getElem hl) (Array.getElem?_eq_getElem hl)
theorem VR.default:VR p default default:=VR.bool _
theorem AllR.mod' {z:Array Value} (h:AllR (VR p) z z) (n:Nat):AllR (VR p) ((Array.range n).map (z[· % z.size]!)) ((Array.range n).map (z[· % z.size]!)):=by
  rcases Nat.eq_zero_or_pos z.size with h0 | h0
  · refine ⟨rfl,fun i x y hx hy=>?_⟩
    rw [hx] at hy
    cases hy
    rw [Array.getElem?_map] at hx
    cases hr:(Array.range n)[i]? with
    | none=>rw [hr] at hx; cases hx
    | some j =>
      rw [hr] at hx
      cases hx
      show VR p (z[j % z.size]!) (z[j % z.size]!)
      rw [getElem!_neg z _ (by omega)]
      exact VR.default
  · exact AllR.mod h n (.inr h0)
theorem Sim.makeSlice {x v y u:Value} (t:TypeId) (hz:ZeroEl P t) (h:VR p x v) (h':VR p y u):Sim P Q K p (Instr.makeSlice t x y) (Instr.makeSlice t v u) (fun q a b=>VR q a b):=by
  unfold Instr.makeSlice
  refine Sim.bind (Sim.underlying t) fun q d d' hq e=>?_
  obtain ⟨rfl,hd⟩:=e
  cases d with
  | slice elem =>
    simp only
    refine Sim.bind (Sim.asInt (h.ext hq)) fun q1 n m hq1 e=>?_
    subst e
    refine Sim.bind (Sim.asInt ((h'.ext hq).ext hq1)) fun q2 k m hq2 e=>?_
    subst e
    refine Sim.bind (Sim.typeInfo elem) fun q3 i j hq3 e=>?_
    obtain ⟨rfl,_⟩:=e
    split
    · refine Never.sim ?_
      split
      · exact Never.left (Never.runtimePanic _)
      · split
        · exact Never.left (Never.runtimePanic _)
        · exact Never.bind (Soft.choose _) fun _=>Never.left (Never.runtimePanic _)
    · refine Sim.bind (Sim.askRoom _) fun q4 _ _ hq4 _=>?_
      refine Sim.bind (Sim.sizeOf elem) fun q5 s s' hq5 e=>?_
      subst e
      split
      · simp only [pure_bind]
        refine Sim.bind (Sim.newRowA elem (AllR.mod' AllR.empty _)) fun q6 r r' hq6 hr=>Sim.pure (VR.slice hr.1)
      · refine Sim.bind (Sim.zeroValue elem (hz elem hd)) fun q6 z z' hq6 e=>?_
        obtain ⟨rfl,hzv⟩:=e
        simp only [pure_bind]
        refine Sim.bind (Sim.newRowA elem (AllR.mod' (AllR.cells hzv) _)) fun q7 r r' hq7 hr=>Sim.pure (VR.slice hr.1)
  | _=>exact Sim.halt
end
end Go.Proofs.YtojoafcnijajmaaGreatDoor

namespace Go.Proofs.YtojoafcnijajmaaGreatDoor
open Go
section
variable {α β γ δ:Type} {P Q:Program} {K:Nat → Prop} {p:Nat → Nat → Prop}
theorem Sim.clear {x v:Value} (t t':TypeId) (hz:ZeroEl P t) (h:VR p x v):Sim P Q K p (Builtin.clear_ #[t] t' #[x]) (Builtin.clear_ #[t] t' #[v]) (fun q a b=>VR q a b):=by
  unfold Builtin.clear_
  refine Sim.bind (Sim.underlying t) fun q d d' hq e=>?_
  obtain ⟨rfl,hd⟩:=e
  have h':=h.ext hq
  have hx:=h'.cases
  have ft:∀ {q:Nat → Nat → Prop},VR q (.tuple #[]) (.tuple #[]):=VR.tuple AllR.empty
  cases x with
  | slice a l c =>
    obtain ⟨b,rfl,hb⟩:=h'.slice_inv
    cases a with
    | none=>obtain rfl:=hb.none_inv; cases d <;> exact Sim.pure ft
    | some a =>
      obtain ⟨c',rfl,hc⟩:=hb.some_inv
      cases l with
      | zero=>cases d <;> exact Sim.pure ft
      | succ l =>
        have hc:=hc.resolve_right (fun h=>by omega)
        cases d with
        | slice elem =>
          refine Sim.bind (Sim.zeroValue elem (hz elem hd)) fun q2 z z' hq2 e=>?_
          obtain ⟨rfl,hzv⟩:=e
          have hcs:=AllR.zeroCells (AllR.cells hzv) (l + 1)
          refine Sim.bind (Sim.storeCells _ _ 0 (hc.mono hq2) hcs.toList.1 hcs.toList.2) fun q3 _ _ _ _=>Sim.pure (VR.tuple AllR.empty)
        | _=>exact Never.sim (Never.left (Never.halt _))
  | _=>cases v <;> first | exact hx.elim | exact Bool.noConfusion hx | (cases d <;> exact Never.sim (Never.left (Never.halt _)))
theorem Sim.sliceBound {x v:Value} (n:Nat) (c:BoundsCode) (h:VR p x v):Sim P Q K p (Instr.sliceBound x n c) (Instr.sliceBound v n c) (fun _ a b=>a = b ∧ a ≤ n):=by
  unfold Instr.sliceBound
  refine Sim.bind (Sim.asIntOf h) fun q a b _ e=>?_
  subst e
  obtain ⟨k,i⟩:=a
  simp only
  split
  · rename_i hi
    exact Sim.pure ⟨rfl,by omega⟩
  · exact (Never.boundsPanic _ _ _ _).sim
def OV (p:Nat → Nat → Prop):Option Value → Option Value → Prop
  | none,none=>True
  | some a,some b=>VR p a b
  | _,_=>False
theorem OV.ext {q:Nat → Nat → Prop} (hq:Ext p q) {a b:Option Value} (h:OV p a b):OV q a b:=by
  cases a <;> cases b <;> first | exact h | exact VR.ext hq h
theorem Sim.sliceBounds {lo lo' hi hi':Option Value} (s:Bool) (len cap:Nat) (hl:OV p lo lo') (hh:OV p hi hi'):Sim P Q K p (Instr.sliceBounds s len cap lo hi none) (Instr.sliceBounds s len cap lo' hi' none) (fun _ a b=>a = b ∧ (a.2.1 = len ∨ a.2.1 ≤ cap) ∧ a.2.2 = cap):=by
  unfold Instr.sliceBounds
  simp only [pure_bind,Option.isSome_none,Bool.false_eq_true,if_false]
  have low:∀ {q:Nat → Nat → Prop} (h m:Nat),Ext p q → Sim P Q K q
      (do let l ← match lo with
            | some v=>Instr.sliceBound v h .sliceB
            | none=>Pure.pure 0
          Pure.pure (l,h,m))
      (do let l ← match lo' with
            | some v=>Instr.sliceBound v h .sliceB
            | none=>Pure.pure 0
          Pure.pure (l,h,m)) (fun _ a b=>a = b ∧ a.2 = (h,m)):=by
    intro q h m hq
    have hl':=hl.ext hq
    cases lo <;> cases lo' <;> first
      | exact hl'.elim
      | exact Bool.noConfusion hl'
      | exact Sim.bind (Sim.pure (A:=fun _ a b=>a = b) rfl) fun _ _ _ _ e=>by subst e; exact Sim.pure ⟨rfl,rfl⟩
      | exact Sim.bind (Sim.sliceBound _ _ hl') fun _ _ _ _ e=>by obtain ⟨rfl,_⟩:=e; exact Sim.pure ⟨rfl,rfl⟩
  cases hi <;> cases hi' <;> first
    | exact hh.elim
    | exact Bool.noConfusion hh
    | exact (low _ _ (Ext.refl _)).mono fun _ a b _ h=>by obtain ⟨rfl,h⟩:=h; exact ⟨rfl,.inl (by rw [h]),by rw [h]⟩
    | exact Sim.bind (Sim.sliceBound _ _ hh) fun q a b hq e=>by obtain ⟨rfl,he⟩:=e; exact (low _ _ hq).mono fun _ a b _ h=>by obtain ⟨rfl,h⟩:=h; exact ⟨rfl,.inr (by rw [h]; exact he),by rw [h]⟩
theorem SA.to {l c l' c':Nat} {a b:Option Addr} (h:SA p l c a b) (hz:l = 0 ∧ c = 0 → l' = 0 ∧ c' = 0):SA p l' c' a b:=by
  cases a <;> cases b <;> first | exact h | exact h.imp id hz
theorem SA.add {l c:Nat} {a b:Option Addr} (h:SA p l c a b) (n:Nat):SA p l c (a.map (·.add n)) (b.map (·.add n)):=by
  cases a <;> cases b <;> first | exact h | exact h.imp (fun h=>AR.add h n) id
theorem Sim.sliceOp {x v:Value} {lo lo' hi hi':Option Value} (t:TypeId) (h:VR p x v) (hl:OV p lo lo') (hh:OV p hi hi') (hp:∀ e,P.underlying t ≠ some (.pointer e)):Sim P Q K p (Instr.slice t x lo hi none) (Instr.slice t v lo' hi' none) (fun q a b=>VR q a b):=by
  unfold Instr.slice
  refine Sim.bind (Sim.underlying t) fun q d d' hq e=>?_
  obtain ⟨rfl,hd⟩:=e
  have h':=h.ext hq
  have hx:=h'.cases
  cases d with
  | pointer e=>exact absurd hd (hp _)
  | slice elem =>
    cases x with
    | slice a l c =>
      obtain ⟨b,rfl,hb⟩:=h'.slice_inv
      refine Sim.bind (Sim.sliceBounds true l c (hl.ext hq) (hh.ext hq)) fun q2 r r' hq2 e=>?_
      obtain ⟨rfl,hr2,hr3⟩:=e
      obtain ⟨r1,r2,r3⟩:=r
      simp only at hr2 hr3 ⊢
      refine Sim.bind (Sim.sizeOf elem) fun q3 s s' hq3 e=>?_
      subst e
      have hb':=SA.mono (hq2.trans hq3) hb
      have hz:l = 0 ∧ c = 0 → r2 - r1 = 0 ∧ r3 - r1 = 0:=fun h=>by omega
      split
      · exact Sim.pure (VR.sliceS (hb'.to hz))
      · exact Sim.pure (VR.sliceS ((hb'.to hz).add _))
    | _=>cases v <;> first | exact hx.elim | exact Bool.noConfusion hx | exact Sim.halt
  | string =>
    cases x with
    | string a =>
      obtain rfl:=h'.string_inv
      simp only [Option.isSome_none,Bool.false_eq_true,if_false]
      refine Sim.bind (Sim.sliceBounds false _ _ (hl.ext hq) (hh.ext hq)) fun q2 r r' hq2 e=>?_
      obtain ⟨rfl,_⟩:=e
      exact Sim.pure (VR.string _)
    | _=>cases v <;> first | exact hx.elim | exact Bool.noConfusion hx | exact Sim.halt
  | _=>cases x <;> cases v <;> first | exact hx.elim | exact Bool.noConfusion hx | exact Sim.halt
theorem Sim.sliceAt {x v:Value} {lo lo' hi hi':Option Value} (t:TypeId) (h:VR p x v) (hl:OV p lo lo') (hh:OV p hi hi') (hp:∀ e,P.underlying t ≠ some (.pointer e)):Sim P Q K p (Instr.sliceAt t x lo hi none) (Instr.sliceAt t v lo' hi' none) (fun q a b=>VR q a b):=by
  unfold Instr.sliceAt
  refine Sim.bind (Sim.underlying t) fun q d d' hq e=>?_
  obtain ⟨rfl,hd⟩:=e
  have h':=h.ext hq
  cases d with
  | array n elem =>
    refine Sim.bind (Sim.sureAddr h') fun q1 a b hq1 hab=>?_
    refine Sim.bind (Sim.sliceBounds false n n (hl.ext (hq.trans hq1)) (hh.ext (hq.trans hq1))) fun q2 r r' hq2 e=>?_
    obtain ⟨rfl,_⟩:=e
    obtain ⟨r1,r2,r3⟩:=r
    simp only
    refine Sim.bind (Sim.sizeOf elem) fun q3 s s' hq3 e=>?_
    subst e
    have hb':=hab.mono (hq2.trans hq3)
    refine Sim.pure (VR.slice ?_)
    split
    · exact hb'
    · exact hb'.add _
  | _=>exact Sim.sliceOp t h' (hl.ext hq) (hh.ext hq) hp
theorem AllR.set {a b:Array Value} (h:AllR (VR p) a b) (i:Nat) {x y:Value} (hxy:VR p x y):AllR (VR p) (a.setIfInBounds i x) (b.setIfInBounds i y):=by
  refine ⟨by simp [h.1],fun j s t hs ht=>?_⟩
  rw [Array.getElem?_setIfInBounds] at hs ht
  split at hs
  · rename_i e
    rw [if_pos e] at ht
    rw [← h.1] at ht
    split at hs
    · rename_i e2
      rw [if_pos e2] at ht
      cases hs; cases ht
      exact hxy
    · cases hs
  · rename_i e
    rw [if_neg e] at ht
    exact h.2 j s t hs ht
theorem AllR.foldSet (o:Nat):∀ (l m:List (Value × Nat)) {a b:Array Value},l.map (·.2) = m.map (·.2) → (∀ (i:Nat) x y,l[i]? = some x → m[i]? = some y → VR p x.1 y.1) → AllR (VR p) a b →
    AllR (VR p) (l.foldl (fun cs x=>cs.setIfInBounds (o + x.2) x.1) a) (m.foldl (fun cs x=>cs.setIfInBounds (o + x.2) x.1) b)
  | [],[],a,b,_,_,h=>h
  | [],_ :: _,_,_,hl,_,_=>by simp at hl
  | _ :: _,[],_,_,hl,_,_=>by simp at hl
  | x :: l,y :: m,a,b,hl,hv,h=>by
    simp only [List.map_cons,List.cons.injEq] at hl
    simp only [List.foldl_cons]
    rw [hl.1]
    exact AllR.foldSet o l m hl.2 (fun i s t hs ht=>hv (i + 1) s t (by simpa using hs) (by simpa using ht)) (h.set _ (hv 0 x y rfl rfl))
def PartsR (p:Nat → Nat → Prop) (l m:List (Nat × Value)):Prop:=l.map (·.1) = m.map (·.1) ∧ ∀ (i:Nat) x y,l[i]? = some x → m[i]? = some y → VR p x.2 y.2
def OAR (p:Nat → Nat → Prop):Option (Array Value) → Option (Array Value) → Prop
  | none,none=>True
  | some c,some d=>AllR (VR p) c d
  | _,_=>False
theorem fill_rel (place:Nat → Option (Nat × Nat)):∀ (l m:List (Nat × Value)) {a b:Array Value},PartsR p l m → AllR (VR p) a b → OAR p (Instr.fill place a l) (Instr.fill place b m)
  | [],[],a,b,_,h=>h
  | [],_ :: _,_,_,hl,_=>by have:=hl.1; simp at this
  | _ :: _,[],_,_,hl,_=>by have:=hl.1; simp at this
  | (i,x) :: l,(j,y) :: m,a,b,hl,h=>by
    have e1:=hl.1
    simp only [List.map_cons,List.cons.injEq] at e1
    obtain ⟨rfl,e2⟩:=e1
    have hxy:VR p x y:=hl.2 0 _ _ rfl rfl
    have hc:=AllR.cells hxy
    simp only [Instr.fill]
    cases place i with
    | none=>trivial
    | some o =>
      obtain ⟨off,size⟩:=o
      simp only
      rw [hc.1,h.1]
      by_cases hif:(decide (y.cells.size ≠ size) || decide (off + y.cells.size > b.size)) = true
      · rw [if_pos hif,if_pos hif]; trivial
      · rw [if_neg hif,if_neg hif]
        refine fill_rel place l m ⟨e2,fun k s t hs ht=>hl.2 (k + 1) s t (by simpa using hs) (by simpa using ht)⟩ ?_
        have key:∀ (c d:Array Value),AllR (VR p) c d → AllR (VR p) (c.zipIdx.foldl (fun cs x=>cs.setIfInBounds (off + x.2) x.1) a) (d.zipIdx.foldl (fun cs x=>cs.setIfInBounds (off + x.2) x.1) b):=by
          intro c d hcd
          rw [← Array.foldl_toList,← Array.foldl_toList]
          refine AllR.foldSet off _ _ ?_ ?_ h
          · simp [hcd.1]
          · intro k s t hs ht
            simp only [Array.toList_zipIdx] at hs ht
            rw [List.getElem?_zipIdx] at hs ht
            cases h1:c.toList[k]? with
            | none=>rw [h1] at hs; cases hs
            | some s1=>cases h2:d.toList[k]? with
              | none=>rw [h2] at ht; cases ht
              | some t1 =>
                rw [h1] at hs; rw [h2] at ht
                cases hs; cases ht
                exact hcd.toList.2 k _ _ h1 h2
        exact key _ _ hc
end
end Go.Proofs.YtojoafcnijajmaaGreatDoor
