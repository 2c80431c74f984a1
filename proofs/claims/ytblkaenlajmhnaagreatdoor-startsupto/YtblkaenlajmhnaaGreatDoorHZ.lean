/- the disk: replacing, do. the disk: do. -/
import Derived.Test.YtblkaenlajmhnaaGreatDoorHX
import Derived.Deep.RegionLaw
namespace Go.Proofs.YtblkaenlajmhnaaGreatDoor
open Go.RowKit
attribute [local go_sem ↓] Go.wp_at_zero Go.wp_at_succ
attribute [local go_sem] After.cell After.frozen After.const
def opCells (nm fresh bytes : ByteArray) : Array Value := #[.int .i64 0, .string fresh, .string ⟨#[]⟩, .string bytes, .int .i64 1, .string fresh, .string ⟨#[]⟩, .string ⟨#[]⟩, .int .i64 2, .string fresh, .string nm, .string ⟨#[]⟩, .int .i64 3, .string ⟨#[]⟩, .string ⟨#[]⟩, .string ⟨#[]⟩]
def Four (w : World) (e : Ending) (w' : World) : Prop := ∃ nm fresh bytes, e = .returned (.slice (some ⟨w.heap.size, 0, none⟩) 4 4) ∧ w' = w.alloc (.cells (opCells nm fresh bytes) 105)
set_option maxRecDepth 100000 in
set_option maxHeartbeats 1000000 in
theorem replacing_any (nm bytes : ByteArray) (w : World) (hn : nm.size ≤ 1000) :
    Calls Tryz.prog 56 #[.string nm, .string bytes] w fun e w' => Four w e w' := by
  go_enter Tryz.func56, Tryz.ntmps56
  go_wp2
  go_ret
  exact ⟨nm, _, bytes, rfl, rfl⟩
set_option maxRecDepth 100000 in
theorem eql_nil_iface (te : TypeId) (pe : Value) (w : World) : (binOp .eql 78 .nilIface (.iface te pe)).run Tryz.prog w = .ok (.bool false) w := by
  first
    | rfl
    | kernel_rfl
    | (unfold binOp; rfl)
set_option maxRecDepth 100000 in
theorem isNil_any (x : Value) (te : TypeId) (pe : Value) (hx : x = .iface te pe) (w : World) :
    Calls Tryz.prog 36 #[.nilIface, x] w fun e w' => YN e ∧ w' = w := by
  subst hx
  have heq := eql_nil_iface te pe
  go_enter Tryz.func36, Tryz.ntmps36
  go_wp2
  go_ret
  exact ⟨⟨_, rfl⟩, rfl⟩
end Go.Proofs.YtblkaenlajmhnaaGreatDoor
namespace Go.Proofs.YtblkaenlajmhnaaGreatDoor
open Go.RowKit
attribute [local go_sem ↓] Go.wp_at_zero Go.wp_at_succ
attribute [local go_sem] After.cell After.frozen After.const
theorem info_op : (Tryz.prog.info? 105).map (fun i => (i.zero, i.size, i.bytes)) = some (some (.agg #[.int .i64 0, .string ⟨#[]⟩, .string ⟨#[]⟩, .string ⟨#[]⟩]), 4, 56) := by kernel_rfl
theorem und_ops : Tryz.prog.underlying 53 = some (.slice 105) := by kernel_rfl
theorem step_append_own {P : Program} {ops : Array Oper} {o : Oper} {a : Act} {w : World} {K : Act → World → Prop} {Q : Exit → Act → World → Prop} {E : Prop}
    (hg : o.guard = none) (s x : Operand) (t : TypeId) (hop : o.op = Op.call { callee := Callee.builtin Builtin.append, args := #[s, x], argTypes := #[t, t] })
    (base : Nat) (e : TypeId) (i : TypeInfo) (z : Value) (size bytes : Nat) (h1 : P.underlying t = some (.slice e)) (h2 : P.info? e = some i) (h3 : i.zero = some z) (h4 : i.size = size) (h5 : i.bytes = bytes) (h6 : z.cells.size = size) (h7 : 0 < size)
    (v : Value) (k : Nat) (xs : List Value) (hs : a.eval s = v) (hown : w.ownsRow base e size v k xs) (ad : Addr) (m c : Nat) (news : List Value) (hx : a.eval x = .slice (some ad) m c) (hn : news.length = m * size)
    (hc : ∀ j u, news[j]? = some u → w.cell? (ad.add j) = some u) (h1c : ∀ u ∈ news, u.oneCell' = true) (b1 : k + m ≤ maxLen) (b2 : (k + m) * bytes ≤ 140737488355328) (b3 : base ≤ w.heap.size)
    (hK : ∀ v' w', w'.ownsRow base e size v' (k + m) (xs ++ news) → w.grownBy w' v.ownBlock → K (a.put o.dst v') w') :
    if Region.wanted o (yielded ops a.tmps) = true then Oper.wp P o a w K Q else E := by
  have hw : Region.wanted o (yielded ops a.tmps) = true := by simp [Region.wanted, hg]
  rw [if_pos hw]
  obtain ⟨v', w', hrun, r1, r2, _⟩ := run_append_own (P := P) w base t o.type e i z size bytes h1 h2 h3 h4 h5 h6 h7 v k xs hown ad m c news hn hc h1c b1 b2 b3
  unfold Oper.wp
  simp [execOp, hop, resolve, invoke, builtin, hs, hx, hrun, Result.andThen]
  exact hK v' w' r1 r2
def Done (bb base n : Nat) (w : World) (xs : List Value) (w' : World) : Prop := ∃ v' w2, w' = w2.setCell ⟨bb, 7, none⟩ v' ∧ w2.heap[bb]? = w.heap[bb]? ∧ Below base w w2 ∧ w'.ownsRow base 105 4 v' n xs
set_option maxRecDepth 100000 in
set_option maxHeartbeats 2000000 in
theorem do_any (bb base n : Nat) (c0 c1 c2 c3 c4 c5 c6 v : Value) (k : Int) (s1 s2 s3 : ByteArray) (xs : List Value) (w : World) (hb : w.heap[bb]? = some (.cells #[c0, c1, c2, c3, c4, c5, c6, v, .bool false, .int .i64 0] 57 (0, 0))) (hbb : bb < base) (hbs : base ≤ w.heap.size) (h : w.ownsRow base 105 4 v n xs) (hn : n ≤ 1000) :
    Calls Tryz.prog 57 #[.pointer (some ⟨bb, 7, none⟩), .agg #[.int .i64 k, .string s1, .string s2, .string s3]] w fun e w' => e = .returned .nilIface ∧ Done bb base (n + 1) w (xs ++ [.int .i64 k, .string s1, .string s2, .string s3]) w' := by
  obtain ⟨i0, hi0, hz0, hz1, hz2⟩ := info_parts info_op
  have hut := und_ops
  obtain ⟨va, vc, rfl⟩ := ownsRow_shape h
  have hbl := (Array.getElem?_eq_some_iff.1 hb).1
  have hb0 := (Below.heap_alloc w (.cells #[.int .i64 k, .string s1, .string s2, .string s3] 105) bb hbl).trans hb
  have hb1 := (Below.heap_alloc (w.alloc (.cells #[.int .i64 k, .string s1, .string s2, .string s3] 105)) (.cells #[.int .i64 k, .string s1, .string s2, .string s3] 105) bb (by simp; omega)).trans hb0
  have kx : ((w.alloc (.cells #[.int .i64 k, .string s1, .string s2, .string s3] 105)).alloc (.cells #[.int .i64 k, .string s1, .string s2, .string s3] 105)).heap[w.heap.size + 1]? = some (.cells #[.int .i64 k, .string s1, .string s2, .string s3] 105 (0, 0)) := by
    have := heap_alloc_new (w.alloc (.cells #[.int .i64 k, .string s1, .string s2, .string s3] 105)) (.cells #[.int .i64 k, .string s1, .string s2, .string s3] 105)
    rw [World.size_alloc] at this
    exact this
  have HC : Hid (∀ j u, [Value.int .i64 k, .string s1, .string s2, .string s3][j]? = some u → ((w.alloc (.cells #[.int .i64 k, .string s1, .string s2, .string s3] 105)).alloc (.cells #[.int .i64 k, .string s1, .string s2, .string s3] 105)).cell? ((⟨w.heap.size + 1, 0, none⟩ : Addr).add j) = some u) := fun j u hj => by
    have e0 : (⟨w.heap.size + 1, 0, none⟩ : Addr).add j = ⟨w.heap.size + 1, j, none⟩ := by
      by_cases c : j = 0
      · subst c; rfl
      · simp [Addr.add, c]
    rw [e0, (blk kx).1 j]
    simpa using hj
  have HW : Hid (((w.alloc (.cells #[.int .i64 k, .string s1, .string s2, .string s3] 105)).alloc (.cells #[.int .i64 k, .string s1, .string s2, .string s3] 105)).ownsRow base 105 4 (.slice va n vc) n xs ∧ base ≤ ((w.alloc (.cells #[.int .i64 k, .string s1, .string s2, .string s3] 105)).alloc (.cells #[.int .i64 k, .string s1, .string s2, .string s3] 105)).heap.size ∧ (∀ u ∈ [Value.int .i64 k, .string s1, .string s2, .string s3], u.oneCell' = true) ∧ n + 1 ≤ maxLen ∧ (n + 1) * 56 ≤ 140737488355328) :=
    ⟨(h.alloc _).alloc _, by simp; omega, by intro u hu; simp at hu; rcases hu with rfl | rfl | rfl | rfl <;> rfl, by unfold maxLen; omega, by omega⟩
  have HB : Hid (∀ w2 : World, ((w.alloc (.cells #[.int .i64 k, .string s1, .string s2, .string s3] 105)).alloc (.cells #[.int .i64 k, .string s1, .string s2, .string s3] 105)).grownBy w2 (Value.slice va n vc).ownBlock → w2.heap[bb]? = some (.cells #[c0, c1, c2, c3, c4, c5, c6, .slice va n vc, .bool false, .int .i64 0] 57 (0, 0)) ∧ Below base w w2) := fun w2 hg =>
    ⟨(hg.block bb (by simp; omega) (fun e => by have := (h.lt bb e.symm).1; omega)).trans hb1, (((Below.refl base w).alloc hbs (.cells #[.int .i64 k, .string s1, .string s2, .string s3] 105)).alloc (by simp; omega) (.cells #[.int .i64 k, .string s1, .string s2, .string s3] 105)).grown hg (by simp; omega) (fun q hq => (h.lt q hq).1)⟩
  have HW0 : Hid (w.heap[bb]? = some (.cells #[c0, c1, c2, c3, c4, c5, c6, .slice va n vc, .bool false, .int .i64 0] 57 (0, 0))) := hb
  obtain ⟨q0, q0f⟩ := blk hb0
  obtain ⟨q1, q1f⟩ := blk hb1
  clear hb hb0 hb1 kx
  go_enter Tryz.func57, Tryz.ntmps57
  go_wp2_with fail
  go_region_law (refine step_append_own rfl _ _ 53 rfl base 105 i0 _ 4 56 hut hi0 hz0 hz1 hz2 rfl (by omega) (.slice va n vc) n xs rfl HW.out.1 ⟨w.heap.size + 1, 0, none⟩ 1 1 [.int .i64 k, .string s1, .string s2, .string s3] rfl rfl HC.out HW.out.2.2.1 HW.out.2.2.2.1 HW.out.2.2.2.2 HW.out.2.1 ?_; intro v' w2 hown hgrow; obtain ⟨va', vc', rfl⟩ := ownsRow_shape hown; have H2 := HidI (And.intro hown (HB.out w2 ⟨hgrow.os, hgrow.tape, hgrow.output, hgrow.size, hgrow.block⟩)); clear hown hgrow; obtain ⟨q2, q2f⟩ := blk H2.out.2.1)
  all_goals
    go_wp2
    go_ret
    exact ⟨rfl, _, w2, rfl, H2.out.2.1.trans HW0.out.symm, H2.out.2.2, ownsRow_setCell_below H2.out.1 hbb _⟩
end Go.Proofs.YtblkaenlajmhnaaGreatDoor
