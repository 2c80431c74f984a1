/- Part 19 of the proof that Devices answers true and leaves its input as it was, for input of bulk at most the bound of its row: Y2 Y3 XU Y4. -/
import Derived.Test.YtojoafcnijajmaaGreatDoorT18
import Derived.Test.YtojoafcnijajmaaGreatDoorT16
set_option linter.unusedVariables false
namespace Go.Proofs.YtojoafcnijajmaaGreatDoor
open Go Go.Conc Go.ConcN Go.RowKit Go.Conc.Lib
open Go.ConcR (KK wgBlock WgAt stA smA rd wr mk Payload DC0)
theorem runT_v {P:Program} {s:Sem Value} {u u':World} {v:Value} {es:Array Event} (h:s.runT P u #[] = (.ok v u',es)):(do Pure.pure (Next.value (← s)):Sem Next).runT P u #[] = (.ok (.value v) u',es):=by
  show (s.bind _).runT P u #[] = _
  rw [Sem.runT_bind',h]
  rfl
theorem runT_u {P:Program} {s:Sem Unit} {u u':World} {es:Array Event} (h:s.runT P u #[] = (.ok () u',es)):(do s; Pure.pure Next.skip:Sem Next).runT P u #[] = (.ok .skip u',es):=by
  show (s.bind _).runT P u #[] = _
  rw [Sem.runT_bind',h]
  rfl
theorem runT_box (P:Program) (t:TypeId) (v:Value) (w:World):(Instr.box t v).runT P w #[] = (.ok (.pointer (some ⟨w.heap.size,0,none⟩)) (w.alloc (.cells v.cells t)),#[]):=rfl
def zeroV:List Value:=.int .i64 0 :: List.replicate 16 (.bool false)
def zeroRow:Array Value:=(zeroV ++ zeroV ++ zeroV ++ zeroV).toArray
theorem runT_makeRow (w:World):(Instr.makeSlice 82 (.int .i64 4) (.int .i64 4)).runT Tryz.prog w #[] = (.ok (sl4 w.heap.size) (w.alloc (.cells zeroRow 86)),#[]):=by kernel_rfl
theorem runT_allocVV (w:World):(Instr.alloc 82 true (.tuple #[])).runT Tryz.prog w #[] = (.ok (ptr w.heap.size) (w.alloc (.cells #[.slice none 0 0] 82)),#[]):=by kernel_rfl
theorem runT_allocWg (w:World):(Instr.alloc 118 true (.tuple #[])).runT Tryz.prog w #[] = (.ok (ptr w.heap.size) (w.alloc (wgBlock 118 0 0)),#[]):=by kernel_rfl
theorem runT_allocInt (w:World):(Instr.alloc 3 true (.tuple #[])).runT Tryz.prog w #[] = (.ok (ptr w.heap.size) (w.alloc (.cells #[.int .i64 0] 3)),#[]):=by kernel_rfl
theorem runT_lss (w:World) (i:Nat) (hi:i ≤ 4) (x y:Operand):(do eqGuard .lss 3 x y (.int .i64 i) (.int .i64 4); binOp .lss 3 (.int .i64 i) (.int .i64 4):Sem Value).runT Tryz.prog w #[] = (.ok (.bool (decide (i < 4))) w,#[]):=by
  obtain rfl | rfl | rfl | rfl | rfl:i = 0 ∨ i = 1 ∨ i = 2 ∨ i = 3 ∨ i = 4:=by omega
  all_goals kernel_rfl
theorem runT_add (w:World) (i:Nat) (hi:i < 4) (x y:Operand):(do eqGuard .add 3 x y (.int .i64 i) (.int .i64 1); binOp .add 3 (.int .i64 i) (.int .i64 1):Sem Value).runT Tryz.prog w #[] = (.ok (.int .i64 ((i + 1:Nat):Int)) w,#[]):=by
  obtain rfl | rfl | rfl | rfl:i = 0 ∨ i = 1 ∨ i = 2 ∨ i = 3:=by omega
  all_goals kernel_rfl
theorem runT_leq (w:World) (n:Int) (x y:Operand):(do eqGuard .leq 3 x y (.int .i64 n) (.int .i64 0); binOp .leq 3 (.int .i64 n) (.int .i64 0):Sem Value).runT Tryz.prog w #[] = (.ok (.bool (decide (n ≤ 0))) w,#[]):=by
  kernel_rfl
theorem runT_index (w:World) (i:Nat) (hi:i < 4) (c:Nat → Int):(Instr.index 40 (.agg #[.int .i64 (c 0),.int .i64 (c 1),.int .i64 (c 2),.int .i64 (c 3)]) (.int .i64 i)).runT Tryz.prog w #[] = (.ok (.int .i64 (c i)) w,#[]):=by
  obtain rfl | rfl | rfl | rfl:i = 0 ∨ i = 1 ∨ i = 2 ∨ i = 3:=by omega
  all_goals kernel_rfl
theorem runT_load1 {ty:TypeId} {d:TypeDesc} (hu:Tryz.prog.underlying ty = some d) (hd:d.isRow = false) {w:World} {c:Nat} {v:Value} {t:TypeId} (hc:w.heap[c]? = some (.cells #[v] t)) :
    ∃ es,(Instr.loadAt ty (ptr c)).runT Tryz.prog w #[] = (.ok v w,es) ∧ ∀ e ∈ es,∃ x,e = ⟨.cell ⟨c,x,none⟩,false,false⟩:=by
  have hcell:w.cell? ⟨c,0,none⟩ = some v:=by simp [World.cell?,hc]
  obtain ⟨l1,l2⟩:=seg_loadVar (Q:=Tryz.prog) ⟨c,0,none⟩ ty w v d hu hd hcell
  refine ⟨#[⟨.cell ⟨c,0,none⟩,false,false⟩],?_,fun e he=>⟨0,by simpa using he⟩⟩
  rw [Sem.runT_eq]
  simp only [Instr.loadAt,Instr.sureAddr,ptr]
  simp [l1,l2]
theorem runT_store1 {ty:TypeId} (hi:(Tryz.prog.info? ty).map (·.size) = some 1) {w:World} {c:Nat} {x v:Value} {t:TypeId} (hc:w.heap[c]? = some (.cells #[x] t)) (hv:v.cells = #[v]) (h1:v.oneCell' = true) :
    ∃ es,(Instr.storeAt ty (ptr c) v).runT Tryz.prog w #[] = (.ok () (w.setRow c #[v]),es) ∧ ∀ e ∈ es,∃ x,e = ⟨.cell ⟨c,x,none⟩,true,false⟩:=by
  have hr:=run_storeCells_at (P:=Tryz.prog) c 0 t [v] 0 #[x] w hc (by simp) (by simpa using h1)
  have he:=seg_storeCells (Q:=Tryz.prog) c 0 t [v] 0 #[x] w #[] hc (by simp) (by simpa using h1)
  cases hq:Tryz.prog.info? ty with
  | none=>simp [hq] at hi
  | some i =>
    have hs:i.size = 1:=by simpa [hq] using hi
    have hrun:(storeVar ty ⟨c,0,none⟩ v).run Tryz.prog w = .ok () (w.setRow c #[v]):=by
      simp [storeVar,sizeOf,typeInfo,hq,hv,hs,hr]
    have hev:(storeVar ty ⟨c,0,none⟩ v).events Tryz.prog w #[] = (storeCells ⟨c,0,none⟩ [v] 0).events Tryz.prog w #[]:=by
      simp [storeVar,sizeOf,typeInfo,hq,hv,hs]
    refine ⟨(storeCells ⟨c,0,none⟩ [v] 0).events Tryz.prog w #[],?_,fun e h=>?_⟩
    · rw [Sem.runT_eq]
      simp only [Instr.storeAt,Instr.sureAddr,ptr]
      simp [hrun,hev]
    · rcases he e h with h | ⟨x,_,_,rfl⟩
      · simp at h
      · exact ⟨x,rfl⟩
theorem runT_cell1 (P:Program) (c i n:Nat) (acc:Array Value) (w:World) (es:Array Event) {v:Value} (h:w.cell? ⟨c,i,none⟩ = some v) :
    (loadCellsFrom ⟨c,0,none⟩ i (n + 1) acc).runT P w es = (loadCellsFrom ⟨c,0,none⟩ (i + 1) n (acc.push v)).runT P w (es.push ⟨.cell ⟨c,i,none⟩,false,false⟩):=by
  have hadd:(⟨c,0,none⟩ : Addr).add i = ⟨c,i,none⟩:=by
    unfold Addr.add
    by_cases h0:i = 0
    · subst h0; simp
    · simp [h0]
  simp only [loadCellsFrom]
  show ((load ((⟨c,0,none⟩ : Addr).add i)).bind _).runT P w es = _
  rw [Sem.runT_bind',hadd,runT_load _ w es h]
theorem runT_load4 {w:World} {c:Nat} {a b d e:Value} {t:TypeId} (hc:w.heap[c]? = some (.cells #[a,b,d,e] t)) :
    ∃ es,(Instr.loadAt 40 (ptr c)).runT Tryz.prog w #[] = (.ok (.agg #[a,b,d,e]) w,es) ∧ ∀ ev ∈ es,∃ x,ev = ⟨.cell ⟨c,x,none⟩,false,false⟩:=by
  have c0:w.cell? ⟨c,0,none⟩ = some a:=by simp [World.cell?,hc]
  have c1:w.cell? ⟨c,1,none⟩ = some b:=by simp [World.cell?,hc]
  have c2:w.cell? ⟨c,2,none⟩ = some d:=by simp [World.cell?,hc]
  have c3:w.cell? ⟨c,3,none⟩ = some e:=by simp [World.cell?,hc]
  have e1:(loadCells ⟨c,0,none⟩ 4).runT Tryz.prog w #[] = (.ok #[a,b,d,e] w,#[⟨.cell ⟨c,0,none⟩,false,false⟩,⟨.cell ⟨c,1,none⟩,false,false⟩,⟨.cell ⟨c,2,none⟩,false,false⟩,⟨.cell ⟨c,3,none⟩,false,false⟩]):=by
    unfold loadCells
    rw [runT_cell1 _ _ _ _ _ _ _ c0,runT_cell1 _ _ _ _ _ _ _ c1,runT_cell1 _ _ _ _ _ _ _ c2,runT_cell1 _ _ _ _ _ _ _ c3]
    rfl
  refine ⟨#[⟨.cell ⟨c,0,none⟩,false,false⟩,⟨.cell ⟨c,1,none⟩,false,false⟩,⟨.cell ⟨c,2,none⟩,false,false⟩,⟨.cell ⟨c,3,none⟩,false,false⟩],?_,fun ev he=>?_⟩
  · have ha:(isAgg 40).runT Tryz.prog w #[] = (.ok true w,#[]):=by kernel_rfl
    have hs:(sizeOf 40).runT Tryz.prog w #[] = (.ok 4 w,#[]):=by kernel_rfl
    show (loadVar 40 ⟨c,0,none⟩).runT Tryz.prog w #[] = _
    unfold loadVar
    show ((isAgg 40).bind _).runT Tryz.prog w #[] = _
    rw [Sem.runT_bind',ha]
    simp only [if_true]
    show ((sizeOf 40).bind _).runT Tryz.prog w #[] = _
    rw [Sem.runT_bind',hs]
    simp only
    show ((loadCells ⟨c,0,none⟩ 4).bind _).runT Tryz.prog w #[] = _
    rw [Sem.runT_bind',e1]
    rfl
  · simp only [List.mem_toArray,List.mem_cons,List.not_mem_nil,or_false] at he
    rcases he with rfl | rfl | rfl | rfl
    · exact ⟨0,rfl⟩
    · exact ⟨1,rfl⟩
    · exact ⟨2,rfl⟩
    · exact ⟨3,rfl⟩
def JT (f:Nat → Value):Array Value:=((List.range 22).map f).toArray
def up (f:Nat → Value) (d:Nat) (v:Value):Nat → Value:=fun j=>if j = d then v else f j
theorem JT_get (f:Nat → Value) {j:Nat} (h:j < 22):(JT f).getD j undef = f j:=by
  simp [JT,Array.getD_eq_getD_getElem?,h]
theorem JT_set (f:Nat → Value) (d:Nat) (v:Value):(JT f).setIfInBounds d v = JT (up f d v):=by
  apply Array.ext'
  simp only [JT,List.setIfInBounds_toArray]
  refine List.ext_getElem? fun j=>?_
  rw [List.getElem?_set]
  by_cases hj:j < 22
  · by_cases hd:d = j
    · subst hd
      simp [hj,up]
    · simp [hj,hd,up,Ne.symm hd]
  · simp [hj]
    intro h1
    omega
theorem put_JT (f:Nat → Value) (ds:List Deferred) (d:Nat) (v:Value):(Act.mk (JT f) ds).put (some d) v = ⟨JT (up f d v),ds⟩:=by
  show Act.mk ((JT f).setIfInBounds d v) ds = _
  rw [JT_set]
theorem up_self (f:Nat → Value) (d:Nat) (v:Value):up f d v d = v:=if_pos rfl
theorem up_ne (f:Nat → Value) {d j:Nat} (v:Value) (h:j ≠ d):up f d v j = f j:=if_neg h
end Go.Proofs.YtojoafcnijajmaaGreatDoor

namespace Go.Proofs.YtojoafcnijajmaaGreatDoor
open Go Go.Conc Go.ConcN Go.RowKit Go.Conc.Lib
open Go.ConcR (KK wgBlock WgAt stA smA rd wr mk Payload DC0)
section
variable {ρ:Operand → Value} {o:Oper}
theorem exec_box {t:TypeId} {x:Operand} (h:o.op = .box t x):execOp ρ o = (do Pure.pure (Next.value (← Instr.box t (ρ x)))):=by unfold execOp; rw [h]
theorem exec_alloc {t:TypeId} (h:o.op = .alloc t):execOp ρ o = (do Pure.pure (Next.value (← Instr.alloc t true (.tuple #[])))):=by unfold execOp; rw [h]
theorem exec_makeSlice {t:TypeId} {x y:Operand} (h:o.op = .makeSlice t x y):execOp ρ o = (do Pure.pure (Next.value (← Instr.makeSlice t (ρ x) (ρ y)))):=by unfold execOp; rw [h]
theorem exec_load {t:TypeId} {x:Operand} (h:o.op = .load t x):execOp ρ o = (do Pure.pure (Next.value (← Instr.loadAt t (ρ x)))):=by unfold execOp; rw [h]
theorem exec_index {t:TypeId} {x y:Operand} (h:o.op = .index t x y):execOp ρ o = (do Pure.pure (Next.value (← Instr.index t (ρ x) (ρ y)))):=by unfold execOp; rw [h]
theorem exec_store {t:TypeId} {x y:Operand} (h:o.op = .store t x y):execOp ρ o = (do Instr.storeAt t (ρ x) (ρ y); Pure.pure Next.skip):=by unfold execOp; rw [h]
theorem exec_binOp {op:BinOp} {t s:TypeId} {x y:Operand} (h:o.op = .binOp op t x y s):execOp ρ o = (do Pure.pure (Next.value (← (do eqGuard op t x y (ρ x) (ρ y); binOp op t (ρ x) (ρ y))))):=by unfold execOp; rw [h]
theorem exec_move {x:Operand} (h:o.op = .move x ∨ o.op = .assign x):execOp ρ o = Pure.pure (Next.value (ρ x)):=by rcases h with h | h <;> (unfold execOp; rw [h])
end
theorem ev_tmp (f:Nat → Value) (ds:List Deferred) {j:Nat} (h:j < 22):(Act.mk (JT f) ds).eval (.tmp j) = f j:=JT_get f h
theorem ev_const (f:Nat → Value) (ds:List Deferred) (v:Value):(Act.mk (JT f) ds).eval (.const v) = v:=rfl
section
variable {K M:Nat → Prop} {S:Goroutine → World → (Nat → Prop) → Prop} {u:World} {L:List (Nat × Obj)} {b:Frame} {f:Nat → Value} {k:List Item} {cs:List Frame} {ops:Array Oper} {i:Nat} {rest:List Nat}
theorem j_move {x:Operand} {v:Value} {d:Nat} (hop:opIs ops i (.move x) (some d) ∨ opIs ops i (.assign x) (some d)) (hk:b.kind ≠ .early) (hv:(Act.mk (JT f) []).eval x = v)
    (hc:Owned Tryz.prog true K S (G (b.at ⟨JT (up f d v),[]⟩ (.inRegion ops rest :: k)) cs) u M):Owned Tryz.prog true K S (G (b.at ⟨JT f,[]⟩ (.inRegion ops (i :: rest) :: k)) cs) u M:=by
  obtain ⟨o,h1,h2,h3,h4⟩ : ∃ o,ops[i]? = some o ∧ (o.op = .move x ∨ o.op = .assign x) ∧ o.dst = some d ∧ o.guard = none:=by
    rcases hop with ⟨o,h1,h2,h3,h4⟩ | ⟨o,h1,h2,h3,h4⟩
    · exact ⟨o,h1,.inl h2,h3,h4⟩
    · exact ⟨o,h1,.inr h2,h3,h4⟩
  refine Owned.pure v h1 (wanted_free h4 _) hk (fun u₁=>by rw [exec_move h2,hv]; rfl) (fun u₁=>by rw [exec_move h2]; rfl) ?_
  rw [h3,put_JT]
  exact hc
theorem j_make {x:Op} {d:Nat} (hKM:∀ c,K c → ¬ M c) (hop:opIs ops i x (some d)) (hk:b.kind ≠ .early) (hL:Holds K L u M) (v:Nat → Value) (ob:Obj)
    (hr:∀ (o:Oper) (u₁:World),o.op = x → (execOp (Act.mk (JT f) []).eval o).runT Tryz.prog u₁ #[] = (.ok (.value (v u₁.heap.size)) (u₁.alloc ob),#[]))
    (hc:∀ n u' M',u.heap.size ≤ n → Holds K ((n,ob) :: L) u' M' → M' n → (∀ c,M c → M' c) → (∀ c,M' c → M c ∨ (u.heap.size ≤ c ∧ c < u'.heap.size)) → n < u'.heap.size → u.heap.size ≤ u'.heap.size → Rely K (fun _=>False) u u' → Owned Tryz.prog true K S (G (b.at ⟨JT (up f d (v n)),[]⟩ (.inRegion ops rest :: k)) cs) u' M') :
    Owned Tryz.prog true K S (G (b.at ⟨JT f,[]⟩ (.inRegion ops (i :: rest) :: k)) cs) u M:=by
  obtain ⟨o,h1,h2,h3,h4⟩:=hop
  refine Owned.make hKM hL h1 h4 hk v ob (fun u₁=>hr o u₁ h2) fun n u' M' a1 a2 a3 a4 a5 a6 a7 a8=>?_
  rw [h3,put_JT]
  exact hc n u' M' a1 a2 a3 a4 a5 a6 a7 a8
theorem j_look {x:Op} {d:Nat} {v:Value} (hop:opIs ops i x (some d)) (hk:b.kind ≠ .early) (hL:Holds K L u M)
    (hr:∀ (o:Oper) (u₁:World),o.op = x → Holds K L u₁ M → ∃ es,(execOp (Act.mk (JT f) []).eval o).runT Tryz.prog u₁ #[] = (.ok (.value v) u₁,es) ∧ ∀ e ∈ es,EvM K M e)
    (hc:Owned Tryz.prog true K S (G (b.at ⟨JT (up f d v),[]⟩ (.inRegion ops rest :: k)) cs) u M):Owned Tryz.prog true K S (G (b.at ⟨JT f,[]⟩ (.inRegion ops (i :: rest) :: k)) cs) u M:=by
  obtain ⟨o,h1,h2,h3,h4⟩:=hop
  refine Owned.look hL h1 h4 hk v (fun u₁ hl=>hr o u₁ h2 hl) ?_
  rw [h3,put_JT]
  exact hc
theorem j_write {x:Op} {c:Nat} {old new:Array Value} {t:TypeId} (hKM:∀ c,K c → ¬ M c) (hop:opIs ops i x none) (hk:b.kind ≠ .early) (hL:Holds K L u M) (hm:M c) (hin:(c,.cells old t) ∈ L)
    (hr:∀ (o:Oper) (u₁:World),o.op = x → u₁.heap[c]? = some (.cells old t) → ∃ es,(execOp (Act.mk (JT f) []).eval o).runT Tryz.prog u₁ #[] = (.ok .skip (u₁.setRow c new),es) ∧ ∀ e ∈ es,(∃ x,e = ⟨.cell ⟨c,x,none⟩,true,false⟩))
    (hc:∀ u',Holds K ((c,.cells new t) :: L.filter fun x=>x.1 != c) u' M → u.heap.size ≤ u'.heap.size → Rely K (fun _=>False) u u' → Owned Tryz.prog true K S (G (b.at ⟨JT f,[]⟩ (.inRegion ops rest :: k)) cs) u' M) :
    Owned Tryz.prog true K S (G (b.at ⟨JT f,[]⟩ (.inRegion ops (i :: rest) :: k)) cs) u M:=by
  obtain ⟨o,h1,h2,h3,h4⟩:=hop
  refine Owned.write hKM hL hm hin h1 h4 hk (fun u₁ hl=>hr o u₁ h2 hl) fun u' a1 a2 a3=>?_
  rw [h3]
  exact hc u' a1 a2 a3
theorem j_seq {x y:Code} {a:Act} (hc:Owned Tryz.prog true K S (G (b.at a (.code x :: .code y :: k)) cs) u M):Owned Tryz.prog true K S (G (b.at a (.code (.seq x y) :: k)) cs) u M:=Owned.ctl rfl (fun _=>stepG_seq) hc
theorem j_region {id:Nat} {a:Act} {l:List Nat} (hl:List.range ops.size = l) (hc:Owned Tryz.prog true K S (G (b.at a (.inRegion ops l :: k)) cs) u M):Owned Tryz.prog true K S (G (b.at a (.code (.region id ops false) :: k)) cs) u M:=Owned.ctl rfl (fun _=>by rw [stepG_region,hl]) hc
theorem j_end {a:Act} (hc:Owned Tryz.prog true K S (G (b.at a k) cs) u M):Owned Tryz.prog true K S (G (b.at a (.inRegion ops [] :: k)) cs) u M:=Owned.ctl rfl (fun _=>stepG_region_end) hc
end
theorem sizeJ (k n:Nat) (h:((List.range 12).map fun k=>(AJ Tryz.f22 k).size)[k]? = some n):(AJ Tryz.f22 k).size = n:=by
  by_cases hk:k < 12
  · simpa [hk] using h
  · simp [hk] at h
theorem rangeJ (k n:Nat) (h:[3,3,1,2,1,6,2,1,2,2,1,2][k]? = some n):List.range (AJ Tryz.f22 k).size = List.range n:=by rw [sizeJ k n (by rw [sizesJ]; exact h)]
def intsOf (c:Nat → Int):Array Value:=#[.int .i64 (c 0),.int .i64 (c 1),.int .i64 (c 2),.int .i64 (c 3)]
def restJ (f:Func):List Item:=[.code (.seq (.seq (RJg f 3) (.block 0 (.loop (loopJ f)))) (.seq (RJg f 10) (.seq (RJg f 11) .ret)))]
structure Pro (K:Nat → Prop) (vb:Value) (c:Nat → Int) (u₀:World) (M₀:Nat → Prop) (cs:List Frame) (g:Goroutine) (u:World) (M:Nat → Prop) (f:Nat → Value) (bb wb V VV:Nat):Prop where
  at_:g = G ((base 22).at ⟨JT f,[]⟩ (.inRegion (AJ Tryz.f22 2) [0] :: restJ Tryz.f22)) cs
  f2:f 2 = ptr bb
  f3:f 3 = ptr wb
  f5:f 5 = ptr VV
  holds:Holds K [(bb,.cells #[vb] 34),(wb,.cells (intsOf c) 40),(V,.cells zeroRow 86),(VV,.cells #[sl4 V] 82)] u M
  mine:M bb ∧ M wb ∧ M V ∧ M VV
  apart:u₀.heap.size ≤ bb ∧ bb < wb ∧ wb < V ∧ V < VV ∧ VV < u.heap.size
theorem judge_pro {K M:Nat → Prop} (hK:∀ c,¬ K c) {u:World} {cs:List Frame} {f:Nat → Value} {vb:Value} {c:Nat → Int} (hvb:vb.cells = #[vb]) (h0:f 0 = vb) (h1:f 1 = .agg (intsOf c)) :
    Owned Tryz.prog true K (fun g u' M'=>∃ f bb wb V VV,Pro K vb c u M cs g u' M' f bb wb V VV) (G ((base 22).at ⟨JT f,[]⟩ [.code (.seq (RJg Tryz.f22 0) (.seq (RJg Tryz.f22 1) (.seq (RJg Tryz.f22 2) (.seq (.seq (RJg Tryz.f22 3) (.block 0 (.loop (loopJ Tryz.f22)))) (.seq (RJg Tryz.f22 10) (.seq (RJg Tryz.f22 11) .ret))))))]) cs) u M:=by
  have hk:(base 22).kind ≠ .early:=by decide
  refine j_seq (j_region (rangeJ 0 3 rfl) ?_)
  refine j_make (fun c h=>absurd h (hK c)) j00 hk Holds.nil ptr (.cells #[vb] 34) (fun o u₁ ho=>by rw [exec_box ho,ev_tmp _ _ (by decide),h0]; refine (runT_v (runT_box _ _ _ _)).trans ?_; rw [hvb]; rfl) fun bb u1 M1 a1 a2 a3 a4 a5 a6 a7 _=>?_
  refine j_make (fun c h=>absurd h (hK c)) j01 hk a2 ptr (.cells (intsOf c) 40) (fun o u₁ ho=>by rw [exec_box ho,ev_tmp _ _ (by decide),up_ne _ _ (by decide),h1]; exact runT_v (runT_box _ _ _ _)) fun wb u2 M2 b1 b2 b3 b4 b5 b6 b7 _=>?_
  refine j_move (.inr j02) hk (ev_const _ _ _) ?_
  refine j_end (j_seq (j_region (rangeJ 1 3 rfl) ?_))
  refine j_make (fun c h=>absurd h (hK c)) j10 hk b2 sl4 (.cells zeroRow 86) (fun o u₁ ho=>by rw [exec_makeSlice ho,ev_const]; exact runT_v (runT_makeRow _)) fun V u3 M3 c1 c2 c3 c4 c5 c6 c7 _=>?_
  refine j_make (fun c h=>absurd h (hK c)) j11 hk c2 ptr (.cells #[.slice none 0 0] 82) (fun o u₁ ho=>by rw [exec_alloc ho]; exact runT_v (runT_allocVV _)) fun VV u4 M4 d1 d2 d3 d4 d5 d6 d7 _=>?_
  refine j_write (new:=#[sl4 V]) (fun c h=>absurd h (hK c)) j12 hk d2 d3 List.mem_cons_self (fun o u₁ ho hh=>?_) fun u5 e1 e2 _=>?_
  · rw [exec_store ho,ev_tmp _ _ (by decide),ev_tmp _ _ (by decide),up_self,up_ne _ _ (by decide),up_self]
    obtain ⟨es,e1,e2⟩:=runT_store1 (ty:=82) (by kernel_rfl) hh (v:=sl4 V) rfl rfl
    exact ⟨es,runT_u e1,e2⟩
  refine j_end (j_seq (j_region (rangeJ 2 1 rfl) ?_))
  refine Owned.stop fun u₁ r=>?_
  refine ⟨_,bb,wb,V,VV,rfl,?_,?_,?_,?_,⟨d4 _ (c4 _ (b4 _ a3)),d4 _ (c4 _ b3),d4 _ c3,d3⟩,a1,by omega,by omega,by omega,?_⟩
  · rw [up_ne _ _ (by decide),up_ne _ _ (by decide),up_ne _ _ (by decide),up_ne _ _ (by decide),up_self]
  · rw [up_ne _ _ (by decide),up_ne _ _ (by decide),up_ne _ _ (by decide),up_self]
  · rw [up_self]
  · refine (e1.rely r).sub fun x hx=>?_
    simp only [List.mem_cons,List.not_mem_nil,or_false] at hx
    have ne:∀ n,n < VV → (n != VV) = true:=fun n h=>by simp; omega
    simp only [List.mem_cons,List.mem_filter,List.not_mem_nil,or_false]
    rcases hx with rfl | rfl | rfl | rfl
    · exact .inr ⟨by simp,ne _ (by omega)⟩
    · exact .inr ⟨by simp,ne _ (by omega)⟩
    · exact .inr ⟨by simp,ne _ (by omega)⟩
    · exact .inl rfl
  · have:=r.size; omega
end Go.Proofs.YtojoafcnijajmaaGreatDoor

namespace Go.Proofs.YtojoafcnijajmaaGreatDoor
open Go Go.Conc Go.ConcN Go.RowKit Go.Conc.Lib
open Go.ConcR (KK wgBlock WgAt stA smA rd wr mk Payload DC0)
theorem indexAt_row (V:Nat) (r:Nat) (hr:r < 4) (w:World):(Instr.indexAt 82 (sl4 V) (.int .i64 (r:Int))).runT Tryz.prog w #[] = (.ok (.pointer (some ⟨V,17 * r,none⟩)) w,#[]):=by
  obtain rfl | rfl | rfl | rfl:r = 0 ∨ r = 1 ∨ r = 2 ∨ r = 3:=by omega
  · kernel_rfl
  · kernel_rfl
  · kernel_rfl
  · kernel_rfl
theorem info_verdict:(Tryz.prog.info? 86).map (·.size) = some 17:=by kernel_rfl
section
variable {ty:TypeId} {Wg:Nat} {Q:Program} {St:Goroutine → World → Prop} {m:Nat}
theorem goes_ctl {g g':Goroutine} (hs:g.status = .running) (h:∀ w,stepG Q false g w = .go g' w #[]) (k:∀ w,WgLive ty Wg w → Goes Q false (RL ty Wg) DC0 St m g' w):∀ w,WgLive ty Wg w → Goes Q false (RL ty Wg) DC0 St (m + 1) g w :=
  fun w _=>Goes.step hs fun w₁ h₁=>by rw [h w₁]; exact ⟨⟨rfl,rfl⟩,k w₁ h₁⟩
end
section
variable [Payload]
theorem workerRest {V nV off:Nat} {Wg:Nat} {vs:List Value} {b:Frame} {T:Array Value} {ops:Array Oper} (hf:b.fn = 52) (hk:b.kind = .deferred) :
    ∀ w,WgLive link.tWg Wg w → Goes Tryz.prog false (RL link.tWg Wg) DC0 (TR0 Tryz.prog link.tWg Wg V nV off vs) 63 (G (b.at ⟨T,[dcall 53 #[ptr Wg]]⟩ [.inRegion ops []]) [botOf Tryz.prog.funcs.size]) w:=by
  refine goes_ctl rfl (fun w=>stepG_region_end) ?_
  refine goes_ctl rfl (fun w=>stepG_end) ?_
  refine goes_ctl rfl (fun w=>stepG_unwind_enter (a:=⟨T,[dcall 53 #[ptr Wg]]⟩) (ds:=[]) (f:=link.done) (fn:=doneFn link) (c:=Go.ConcR.Gen.body_done link) rfl wgLib.f_done (Go.ConcR.Gen.nm_done link) rfl) ?_
  intro w hw
  exact workerDone wgLib (c:={ b.at ⟨T,[]⟩ [] with mode:=.returning }) (cs:=[botOf Tryz.prog.funcs.size]) rfl (quitsTail hf hk T) w hw
theorem worker_put {V Wg r:Nat} {vals:Array Value} {b:Frame} {T:Array Value} {ops:Array Oper} {o:Oper} (hety:Payload.ety = 86) (hVW:V ≠ Wg) (hr:r < 4) (hsz:vals.size = 17) (hfl:∀ v ∈ vals.toList,flatC v)
    (hf:b.fn = 52) (hk:b.kind = .deferred) (ho:ops[7]? = some o) (hop:o.op = .store 86 (.tmp 25) (.tmp 24)) (hd:o.dst = none) (hg:o.guard = none) (h25:T.getD 25 undef = .pointer (some ⟨V,17 * r,none⟩)) (h24:T.getD 24 undef = .agg vals) (u:World) (M:Nat → Prop) :
    AtPut Tryz.prog link.tWg Wg V 68 (17 * r) vals.toList (G (b.at ⟨T,[dcall 53 #[ptr Wg]]⟩ [.inRegion ops [7]]) [botOf Tryz.prog.funcs.size]) u M:=by
  refine ⟨rfl,fun ⟨cs,hc1,hc2⟩ ⟨st,sm,hL⟩=>?_⟩
  obtain ⟨u',e1,e2,e3⟩:=seg_storeVar (Q:=Tryz.prog) V (17 * r) Payload.ety 86 vals cs u hc1 (by omega) (by rw [hsz]; exact info_verdict) fun v hv=>flat_cell (hfl v hv)
  have hrun:(execOp (Act.mk T [dcall 53 #[ptr Wg]]).eval o).run Tryz.prog u = .ok .skip u':=by
    unfold execOp
    simp only [hop,Act.eval,h25,h24,Instr.storeAt,Instr.sureAddr]
    simp [e1]
  have hev:∀ ev ∈ (execOp (Act.mk T [dcall 53 #[ptr Wg]]).eval o).events Tryz.prog u #[],EvPut V (17 * r) vals.toList.length ev:=by
    intro ev hm
    unfold execOp at hm
    simp only [hop,Act.eval,h25,h24,Instr.storeAt,Instr.sureAddr] at hm
    have hm':ev ∈ (storeVar 86 ⟨V,17 * r,none⟩ (.agg vals)).events Tryz.prog u #[]:=by
      simpa [e1] using hm
    obtain ⟨x,x1,x2,x3⟩:=e3 ev hm'
    exact ⟨x,x1,by simpa using x2,x3⟩
  refine ⟨_,u',_,stepG_none ho (wanted_free hg _) (by rw [hk]; decide) hrun,?_,fun e he=>hev e (seen_mem e he),63,?_⟩
  · subst e2
    refine ⟨rfl,rfl,rfl,by simp,fun c hc=>setRow_other _ _ _ _ hc,fun cs0 h0 h1=>?_⟩
    rw [hc1] at h0
    cases h0
    have hlen:(cs.toList.take (17 * r)).length = 17 * r:=by rw [List.length_take,Array.length_toList]; omega
    refine ⟨_,setRow_heap u V cs _ _ _ hc1,?_,fun x hx=>?_,fun j hj=>?_⟩
    · rw [List.size_toArray,List.length_append,List.length_append,hlen,List.length_drop,Array.length_toList,Array.length_toList]
      omega
    · simp only [Array.length_toList] at hx
      simp only [List.getElem?_toArray]
      by_cases hlt:x < 17 * r
      · rw [List.append_assoc,List.getElem?_append_left (by omega),List.getElem?_take,if_pos hlt]
        simp
      · rw [List.getElem?_append_right (by simp; omega),List.getElem?_drop]
        simp only [List.length_append,hlen,Array.length_toList]
        have:17 * r + vals.size + (x - (17 * r + vals.size)) = x:=by omega
        rw [this]
        simp
    · simp only [Array.length_toList] at hj
      simp only [List.getElem?_toArray]
      rw [List.append_assoc,List.getElem?_append_right (by omega),hlen,List.getElem?_append_left (by simp; omega),Nat.add_sub_cancel_left]
  · have hput:(Act.mk T [dcall 53 #[ptr Wg]]).put o.dst undef = ⟨T,[dcall 53 #[ptr Wg]]⟩:=by rw [hd]; rfl
    rw [hput]
    refine workerRest hf hk u' ⟨st,sm,?_⟩
    subst e2
    show _ = _
    rw [setRow_other _ _ _ _ (Ne.symm hVW)]
    exact hL
end
end Go.Proofs.YtojoafcnijajmaaGreatDoor

namespace Go.Proofs.YtojoafcnijajmaaGreatDoor
open Go Go.Conc Go.ConcN Go.RowKit Go.Conc.Lib
open Go.ConcR (KK wgBlock WgAt stA smA rd wr mk Payload DC0)
section
variable {Q:Program} {ty:TypeId} {Wg:Nat}
theorem goes_any {main:Bool} {D:World → World → Array Event → Prop} {St:Goroutine → World → Prop} {n:Nat} {g:Goroutine} {w:World} (w':World) (h:Goes Q main (RL ty Wg) D St n g w):Goes Q main (RL ty Wg) D St n g w':=by
  cases n <;> exact h
theorem goes_sub {main:Bool} {R:World → World → Prop} {D:World → World → Array Event → Prop} {St St':Goroutine → World → Prop} (hs:∀ g w,St g w → St' g w) {n:Nat} {g:Goroutine} {w:World} (h:Goes Q main R D St n g w):Goes Q main R D St' n g w:=stops (fun g _ w₁ _ x=>hs g w₁ x) n g w h
variable {gE gE':Goroutine → Prop} {An An':Goroutine → World → Prop}
theorem TAcq.sub (hE:∀ g,gE g → gE' g) {g:Goroutine} {w:World} (h:TAcq Q Wg gE g w):TAcq Q Wg gE' g w:=let ⟨a,g₁,b,c⟩:=h; ⟨a,g₁,hE _ b,c⟩
theorem TKe.sub (hE:∀ g,gE g → gE' g) {g:Goroutine} {w:World} (h:TKe Q ty Wg gE g w):TKe Q ty Wg gE' g w:=let ⟨a,g₁,b,m,c⟩:=h; ⟨a,g₁,b,m,goes_sub (fun _ _=>TAcq.sub hE) c⟩
theorem TW4.sub (hE:∀ g,gE g → gE' g) {g:Goroutine} {w:World} (h:TW4 Q ty Wg gE g w):TW4 Q ty Wg gE' g w:=⟨h.1,fun x=>let ⟨g₁,b,m,c⟩:=h.2 x; ⟨g₁,b,m,goes_sub (fun _ _=>TKe.sub hE) c⟩⟩
theorem TW3.sub (hE:∀ g,gE g → gE' g) {g:Goroutine} {w:World} (h:TW3 Q ty Wg gE g w):TW3 Q ty Wg gE' g w:=⟨h.1,h.2.1,h.2.2.1,fun x=>let ⟨g₁,b,m,c⟩:=h.2.2.2 x; ⟨g₁,b,m,goes_sub (fun _ _=>TW4.sub hE) c⟩⟩
theorem TWr.sub (hE:∀ g,gE g → gE' g) {g:Goroutine} {w:World} (h:TWr Q ty Wg gE g w):TWr Q ty Wg gE' g w:=let ⟨a,g₁,b,c⟩:=h; ⟨a,g₁,b,goes_sub (fun _ _=>TW3.sub hE) c⟩
theorem TW2.sub (hE:∀ g,gE g → gE' g) (hA:∀ g w,An g w → An' g w) {vs:Nat} {g:Goroutine} {w:World} (h:TW2 Q ty Wg gE An vs g w):TW2 Q ty Wg gE' An' vs g w:=⟨h.1,fun v hv hw=>⟨fun e=>let ⟨g₁,b,m,c⟩:=(h.2 v hv hw).1 e; ⟨g₁,b,m,goes_sub (fun _ _=>TWr.sub hE) c⟩,fun e=>let ⟨g₁,b,m,c⟩:=(h.2 v hv hw).2 e; ⟨g₁,b,m,goes_sub hA c⟩⟩⟩
theorem TW1.sub (hE:∀ g,gE g → gE' g) (hA:∀ g w,An g w → An' g w) {g:Goroutine} {w:World} (h:TW1 Q ty Wg gE An g w):TW1 Q ty Wg gE' An' g w:=⟨h.1,fun v hv hw=>let ⟨g₁,a,b,c⟩:=h.2 v hv hw; ⟨g₁,a,fun e=>let ⟨m,d⟩:=b e; ⟨m,goes_sub (fun _ _=>TKe.sub hE) d⟩,fun e=>let ⟨m,d⟩:=c e; ⟨m,goes_sub (fun _ _=>TW2.sub hE hA) d⟩⟩⟩
theorem TKd.sub (hA:∀ g w,An g w → An' g w) {g:Goroutine} {w:World} (h:TKd Q ty Wg An g w):TKd Q ty Wg An' g w:=let ⟨a,g₁,b,m,c⟩:=h; ⟨a,g₁,b,m,goes_sub hA c⟩
end
def waitFr (f:Func) (t:Nat → Value) (l:List Nat):Frame:=(base 22).at ⟨JT t,[]⟩ (.inRegion (AJ f 10) l :: [.code (.seq (RJg f 11) .ret)])
def AnJ (f:Func) (L:WgLink) (Wg VV:Nat) (cs:List Frame) (g:Goroutine) (w:World):Prop:=∃ t,t 5 = ptr VV ∧ Head L Wg (waitFr f t [0]) cs g w
def EndJ (f:Func) (P:Program) (ty:TypeId) (Wg VV:Nat) (cs:List Frame) (g:Goroutine):Prop:=∃ t,t 5 = ptr VV ∧ Back P ty Wg (G (waitFr f t []) cs) g
theorem anJ_running {f:Func} {L:WgLink} {Wg VV:Nat} {cs:List Frame} (g:Goroutine) (w:World) (h:AnJ f L Wg VV cs g w):g.status = .running:=by
  obtain ⟨t,_,T,rfl,_⟩:=h
  rfl
theorem wait_fr (t:Nat → Value):∃ o,(AJ Tryz.f22 10)[0]? = some o ∧ o.dst = some 20:=by
  obtain ⟨o,h1,_,h3,_⟩:=jA0
  exact ⟨o,h1,h3⟩
theorem anJ_round {Wg VV:Nat} {cs:List Frame} (g:Goroutine) (w:World) (hF:WgLive link.tWg Wg w) (h:AnJ Tryz.f22 link Wg VV cs g w):∃ m,Goes Tryz.prog true (RL link.tWg Wg) DC0 (TW1 Tryz.prog link.tWg Wg (EndJ Tryz.f22 Tryz.prog link.tWg Wg VV cs) (AnJ Tryz.f22 link Wg VV cs)) m g w:=by
  obtain ⟨t,h5,h⟩:=h
  obtain ⟨o,o1,o2⟩:=wait_fr t
  obtain ⟨m,hm⟩:=waitRound (b₀:=base 22) (a₀:=⟨JT t,[]⟩) (ops₀:=AJ Tryz.f22 10) (i₀:=0) (rest₀:=[]) (k₀:=[.code (.seq (RJg Tryz.f22 11) .ret)]) (cs:=cs) wgLib g w hF h
  refine ⟨m,goes_sub (fun g w=>TW1.sub (fun g h=>⟨up t 20 (.tuple #[]),?_,?_⟩) (fun g w h=>⟨t,h5,h⟩)) hm⟩
  · rw [up_ne _ _ (by decide)]; exact h5
  · rw [o1,Option.bind_some,o2,put_JT] at h
    exact h
theorem start_wait {Wg VV:Nat} {cs:List Frame} {t:Nat → Value} (h5:t 5 = ptr VV) {w₀:World} (hF:WgLive link.tWg Wg w₀) (w:World) :
    ∃ m,Goes Tryz.prog true (RL link.tWg Wg) DC0 (TKd Tryz.prog link.tWg Wg (AnJ Tryz.f22 link Wg VV cs)) m (G ((base link.wait).at ⟨#[.pointer (some ⟨Wg,0,none⟩)] ++ Array.replicate 83 undef,[]⟩ [.code (Go.ConcR.Gen.body_wait link)]) (waitFr Tryz.f22 t [0] :: cs)) w :=
  ⟨10,goes_any w (goes_sub (fun g w=>TKd.sub fun g w h=>⟨t,h5,h⟩) (waitStart (b₀:=base 22) (a₀:=⟨JT t,[]⟩) (ops₀:=AJ Tryz.f22 10) (i₀:=0) (rest₀:=[]) (k₀:=[.code (.seq (RJg Tryz.f22 11) .ret)]) (cs:=cs) wgLib w₀ hF))⟩
end Go.Proofs.YtojoafcnijajmaaGreatDoor
