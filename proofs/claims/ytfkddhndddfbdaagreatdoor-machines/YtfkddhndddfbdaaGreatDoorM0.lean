/- Rows of cells by the index; make, copy as equations of the run. -/
import Derived.Test.YtfkddhndddfbdaaGreatDoorL3
import Derived.Deep.OwnRows
import Derived.Laws.CopyOwn
namespace Go.Proofs.YtfkddhndddfbdaaGreatDoor
open Go.RowKit

theorem set3 {w : World} {B : Nat} {x0 x1 x2 : Value} (v0 v1 v2 : Value) (y0 : w.cell? ⟨B, 0, none⟩ = some x0) (y1 : w.cell? ⟨B, 1, none⟩ = some x1) (y2 : w.cell? ⟨B, 2, none⟩ = some x2) :
    (((w.setCell ⟨B, 0, none⟩ v0).setCell ⟨B, 1, none⟩ v1).setCell ⟨B, 2, none⟩ v2).cell? ⟨B, 0, none⟩ = some v0 ∧ (((w.setCell ⟨B, 0, none⟩ v0).setCell ⟨B, 1, none⟩ v1).setCell ⟨B, 2, none⟩ v2).cell? ⟨B, 1, none⟩ = some v1 ∧
    (((w.setCell ⟨B, 0, none⟩ v0).setCell ⟨B, 1, none⟩ v1).setCell ⟨B, 2, none⟩ v2).cell? ⟨B, 2, none⟩ = some v2 := by
  refine ⟨?_, ?_, ?_⟩
  · rw [World.cell?_setCell_other _ _ _ _ (by simp), World.cell?_setCell_other _ _ _ _ (by simp), World.cell?_setCell_same _ _ _ y0]
  · rw [World.cell?_setCell_other _ _ _ _ (by simp)]
    exact World.cell?_setCell_same _ _ _ ((World.cell?_setCell_other _ _ _ _ (by simp)).trans y1)
  · exact World.cell?_setCell_same _ _ _ ((World.cell?_setCell_other _ _ _ _ (by simp)).trans ((World.cell?_setCell_other _ _ _ _ (by simp)).trans y2))
theorem blk {w : World} {k : Nat} {cs : Array Value} {t : TypeId} (h : w.heap[k]? = some (.cells cs t (0, 0))) : (∀ j, w.cell? ⟨k, j, none⟩ = cs[j]?) ∧ (∀ j, w.frozen? ⟨k, j, none⟩ = false) :=
  ⟨fun j => cell_of_row w k j cs t (0, 0) h, fun j => frozen_of_row w k j cs t h⟩
theorem blk_set {w : World} {k i : Nat} {cs : Array Value} {t : TypeId} (v : Value) (h : w.heap[k]? = some (.cells cs t (0, 0))) : (w.setCell ⟨k, i, none⟩ v).heap[k]? = some (.cells (cs.setIfInBounds i v) t (0, 0)) := heap_setCell_same w k i cs t v h
theorem blk_other {w : World} {k : Nat} {a : Addr} {o : Option Obj} (v : Value) (h : w.heap[k]? = o) (hk : k ≠ a.block) : (w.setCell a v).heap[k]? = o := (heap_setCell_other w a k v hk).trans h
theorem ne_some {a b : Nat} (h : a ≠ b) : some a ≠ some b := fun e => h (Option.some.inj e)
theorem below_of_grown {w w' : World} {r : Option Nat} (h : w.grownBy w' r) (hr : ∀ k, r = some k → w.heap.size ≤ k) : Below w.heap.size w w' :=
  ⟨h.os, h.tape, h.output, h.size, fun k hk => h.block k hk (fun e => by have := hr k e.symm; omega)⟩

/-- make([]T, n): a new row at the heap's end, of whatever zero values. -/
theorem ex_make {P : Program} (w : World) (t e : TypeId) (z : Value) (size bytes n : Nat) (N : Int) (hN : N = n) (ht : P.underlying t = some (.slice e))
    (hinfo : (P.info? e).map (fun i => (i.zero, i.size, i.bytes)) = some (some z, size, bytes)) (hb : bytes * n ≤ 281474976710656) (hn : n ≤ 9223372036854775807) :
    ∃ w1, (Instr.makeSlice t (.int .i64 N) (.int .i64 N)).run P w = .ok (.slice (some ⟨w.heap.size, 0, none⟩) n n) w1 ∧ (∃ f, w1.rowIs w.heap.size e (n * size) f) ∧ Below w.heap.size w w1 ∧ w1.heap.size = w.heap.size + 1 := by
  obtain ⟨i, hi, hz, hs, hby⟩ := info_parts hinfo
  subst hs; subst hby; subst hN
  have hb' : (i.bytes : Int) * (n : Int) ≤ 281474976710656 := by
    have h : ((i.bytes * n : Nat) : Int) ≤ 281474976710656 := by omega
    rwa [Int.natCast_mul] at h
  have hr := run_make (P := P) w t e i z ht hi hz .i64 .i64 n n (by omega) (Int.le_refl _) hb' (by omega)
  simp only [Int.toNat_natCast] at hr
  refine ⟨_, hr, ⟨fun j => (madeCells z.cells (n * i.size)).getD j undef, ?_⟩, (Below.refl _ _).alloc (Nat.le_refl _) _, by simp⟩
  refine ⟨madeCells z.cells (n * i.size), heap_alloc_new _ _, size_madeCells _ _, fun j hj => ?_⟩
  rw [← size_madeCells z.cells (n * i.size)] at hj
  simp [hj]

/-- The cells of a row, spliced: cs written at o. -/
theorem rowIs_splice {w : World} {g : Nat} {e : TypeId} {m : Nat} {f : Nat → Value} (h : w.rowIs g e m f) (o : Nat) (cs : List Value) (ho : o + cs.length ≤ m) :
    ∃ cur, w.heap[g]? = some (.cells cur e (0, 0)) ∧ cur.size = m ∧ (w.setRow g (cur.toList.take o ++ cs ++ cur.toList.drop (o + cs.length)).toArray).rowIs g e m (fun j => if o ≤ j ∧ j < o + cs.length then cs.getD (j - o) undef else f j) := by
  obtain ⟨cur, hg, hs, hc⟩ := h
  refine ⟨cur, hg, hs, _, setRow_heap w g cur _ e _ hg, ?_, fun j hj => ?_⟩
  · simp; omega
  · have hcj := hc j hj
    have hl : cur.toList.length = m := by simpa using hs
    have hcj' : cur.toList[j]? = some (f j) := by simpa using hcj
    simp only [List.getElem?_toArray]
    by_cases h1 : j < o
    · rw [List.getElem?_append_left (by simp; omega), List.getElem?_append_left (by simp; omega), List.getElem?_take, if_pos h1, hcj', if_neg (by omega)]
    · by_cases h2 : j < o + cs.length
      · rw [List.getElem?_append_left (by simp; omega), List.getElem?_append_right (by simp; omega), if_pos ⟨by omega, h2⟩]
        have e1 : (List.take o cur.toList).length = o := by simp; omega
        rw [e1]
        simp [List.getD, show j - o < cs.length by omega]
      · rw [List.getElem?_append_right (by simp; omega), if_neg (by omega), List.getElem?_drop]
        have e1 : (List.take o cur.toList ++ cs).length = o + cs.length := by simp; omega
        rw [e1, show o + cs.length + (j - (o + cs.length)) = j by omega, hcj']

/-- copy(dst, src), dst in a row of ours: k elements of size cells go over. -/
theorem ex_copy {P : Program} (w : World) (t e : TypeId) (z : Value) (size bytes : Nat) (ht : P.underlying t = some (.slice e))
    (hinfo : (P.info? e).map (fun i => (i.zero, i.size, i.bytes)) = some (some z, size, bytes))
    (g o dl dc m : Nat) (f : Nat → Value) (hg : w.rowIs g e m f) (so : Option Addr) (sb sp sl sc k : Nat) (hk : k = Nat.min sl dl) (src : Nat → Value)
    (hso : 0 < sl → so = some ⟨sb, sp, none⟩) (hsrc : ∀ j, j < k * size → w.cell? ⟨sb, sp + j, none⟩ = some (src j)) (h1 : ∀ j, j < k * size → (src j).oneCell' = true) (hfit : o + k * size ≤ m) :
    ∃ w1, (∀ ty, (Builtin.copy_ #[t, t] ty #[.slice (some ⟨g, o, none⟩) dl dc, .slice so sl sc]).run P w = .ok (goInt k) w1) ∧ w1.rowIs g e m (fun j => if o ≤ j ∧ j < o + k * size then src (j - o) else f j) ∧ w.grownBy w1 (some g) ∧ w1.heap.size = w.heap.size := by
  obtain ⟨i, hi, hz, hs, hby⟩ := info_parts hinfo
  subst hs; subst hby
  have hcl : ((List.range (k * i.size)).map src).length = k * i.size := by simp
  obtain ⟨cur, hgc, hcs, hrow⟩ := rowIs_splice hg o ((List.range (k * i.size)).map src) (by rw [hcl]; exact hfit)
  have hrow' := hrow.congr (g := fun j => if o ≤ j ∧ j < o + k * i.size then src (j - o) else f j) (fun j hj => by
    rw [hcl]
    by_cases hh : o ≤ j ∧ j < o + k * i.size
    · rw [if_pos hh, if_pos hh]
      simp [List.getD, show j - o < k * i.size by omega]
    · rw [if_neg hh, if_neg hh])
  refine ⟨_, fun ty => ?_, hrow', ⟨rfl, rfl, rfl, by simp [World.setRow], fun q _ hq => setRow_other w g q _ (fun e => hq (by rw [e]))⟩, by simp [World.setRow]⟩
  have hst := run_storeCells_at P g o e ((List.range (k * i.size)).map src) 0 cur w hgc (by rw [hcl]; omega) (fun v hv => by
    obtain ⟨j, hj, rfl⟩ := List.mem_map.1 hv
    exact h1 j (List.mem_range.1 hj))
  simp only [Nat.add_zero] at hst
  by_cases h0 : 0 < sl
  · rw [hso h0]
    have hf := run_firstCells_some (P := P) w i.size k ⟨sb, sp, none⟩ sl sc ((List.range (k * i.size)).map src) hcl (fun j v hv => by
      have hj : j < k * i.size := by
        have := (List.getElem?_eq_some_iff.1 hv).1
        simpa using this
      simp [hj] at hv
      subst hv
      rw [Addr.add_lit]
      exact hsrc j hj)
    rw [hk] at hf hst ⊢
    simp [Builtin.copy_, run_underlying ht, sizeOf, typeInfo, hi, Builtin.lenOf, hf, hst]
  · have hsl : sl = 0 := by omega
    have hk0 : k = 0 := by rw [hk, hsl]; simp
    subst hk0
    rw [hsl]
    have hst' := hst
    simp only [Nat.zero_mul, List.range_zero, List.map_nil] at hst'
    cases so with
    | none => simp [Builtin.copy_, run_underlying ht, sizeOf, typeInfo, hi, Builtin.lenOf, Builtin.firstCells, hst']
    | some a => simp [Builtin.copy_, run_underlying ht, sizeOf, typeInfo, hi, Builtin.lenOf, Builtin.firstCells, loadCells, loadCellsFrom, hst']

theorem Tryz.info22 : (Tryz.prog.info? 107).map (fun i => (i.zero, i.size, i.bytes)) = some (some (.agg #[.int .i64 0, .int .i64 0, .int .i64 0]), 3, 24) := by kernel_rfl
theorem Tryz.infoInt : (Tryz.prog.info? 3).map (fun i => (i.zero, i.size, i.bytes)) = some (some (.int .i64 0), 1, 8) := by kernel_rfl
end Go.Proofs.YtfkddhndddfbdaaGreatDoor
