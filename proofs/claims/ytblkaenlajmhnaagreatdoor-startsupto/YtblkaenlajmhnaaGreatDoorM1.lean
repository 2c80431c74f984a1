/- Rows of cells by the index; make, copy as equations of the run. handed: the machine in lists of its own, with spare room. -/
import Derived.Test.YtblkaenlajmhnaaGreatDoorL3
import Derived.Deep.OwnRows
import Derived.Laws.CopyOwn
namespace Go.Proofs.YtblkaenlajmhnaaGreatDoor
open Go.RowKit
theorem set3 {w : World} {B : Nat} {x0 x1 x2 : Value} (v0 v1 v2 : Value) (y0 : w.cell? ⟨B, 0, none⟩ = some x0) (y1 : w.cell? ⟨B, 1, none⟩ = some x1) (y2 : w.cell? ⟨B, 2, none⟩ = some x2) :
    (((w.setCell ⟨B, 0, none⟩ v0).setCell ⟨B, 1, none⟩ v1).setCell ⟨B, 2, none⟩ v2).cell? ⟨B, 0, none⟩ = some v0 ∧ (((w.setCell ⟨B, 0, none⟩ v0).setCell ⟨B, 1, none⟩ v1).setCell ⟨B, 2, none⟩ v2).cell? ⟨B, 1, none⟩ = some v1 ∧
    (((w.setCell ⟨B, 0, none⟩ v0).setCell ⟨B, 1, none⟩ v1).setCell ⟨B, 2, none⟩ v2).cell? ⟨B, 2, none⟩ = some v2 := by
  refine ⟨?_, ?_, ?_⟩
  · rw [World.cell?_setCell_other _ _ _ _ (by simp), World.cell?_setCell_other _ _ _ _ (by simp), World.cell?_setCell_same _ _ _ y0]
  · rw [World.cell?_setCell_other _ _ _ _ (by simp)]
    exact World.cell?_setCell_same _ _ _ ((World.cell?_setCell_other _ _ _ _ (by simp)).trans y1)
  · exact World.cell?_setCell_same _ _ _ ((World.cell?_setCell_other _ _ _ _ (by simp)).trans ((World.cell?_setCell_other _ _ _ _ (by simp)).trans y2))
theorem blk {w : World} {k : Nat} {cs : Array Value} {t : TypeId} (h : w.heap[k]? = some (.cells cs t (0, 0))) : (∀ j, w.cell? ⟨k, j, none⟩ = cs[j]?) ∧ (∀ j, w.frozen? ⟨k, j, none⟩ = false) :=
  ⟨fun j => cell_of_row w k j cs t (0, 0) h, fun j => frozen_of_row w k j cs t h⟩
theorem blk_set {w : World} {k i : Nat} {cs : Array Value} {t : TypeId} (v : Value) (h : w.heap[k]? = some (.cells cs t (0, 0))) : (w.setCell ⟨k, i, none⟩ v).heap[k]? = some (.cells (cs.setIfInBounds i v) t (0, 0)) := heap_setCell_same w k i cs t v h
theorem blk_other {w : World} {k : Nat} {a : Addr} {o : Option Obj} (v : Value) (h : w.heap[k]? = o) (hk : k ≠ a.block) : (w.setCell a v).heap[k]? = o := (heap_setCell_other w a k v hk).trans h
theorem ne_some {a b : Nat} (h : a ≠ b) : some a ≠ some b := fun e => h (Option.some.inj e)
theorem below_of_grown {w w' : World} {r : Option Nat} (h : w.grownBy w' r) (hr : ∀ k, r = some k → w.heap.size ≤ k) : Below w.heap.size w w' :=
  ⟨h.os, h.tape, h.output, h.size, fun k hk => h.block k hk (fun e => by have := hr k e.symm; omega)⟩
theorem ex_make {P : Program} (w : World) (t e : TypeId) (z : Value) (size bytes n : Nat) (N : Int) (hN : N = n) (ht : P.underlying t = some (.slice e))
    (hinfo : (P.info? e).map (fun i => (i.zero, i.size, i.bytes)) = some (some z, size, bytes)) (hb : bytes * n ≤ 281474976710656) (hn : n ≤ 9223372036854775807) :
    ∃ w1, (Instr.makeSlice t (.int .i64 N) (.int .i64 N)).run P w = .ok (.slice (some ⟨w.heap.size, 0, none⟩) n n) w1 ∧ (∃ f, w1.rowIs w.heap.size e (n * size) f) ∧ Below w.heap.size w w1 ∧ w1.heap.size = w.heap.size + 1 := by
  obtain ⟨i, hi, hz, hs, hby⟩ := info_parts hinfo
  subst hs; subst hby; subst hN
  have hb' : (i.bytes : Int) * (n : Int) ≤ 281474976710656 := by
    have h : ((i.bytes * n : Nat) : Int) ≤ 281474976710656 := by omega
    rwa [Int.natCast_mul] at h
  have hr := run_make (P := P) w t e i z ht hi hz .i64 .i64 n n (by omega) (Int.le_refl _) hb' (by omega)
  simp only [Int.toNat_natCast] at hr
  refine ⟨_, hr, ⟨fun j => (madeCells z.cells (n * i.size)).getD j undef, ?_⟩, (Below.refl _ _).alloc (Nat.le_refl _) _, by simp⟩
  refine ⟨madeCells z.cells (n * i.size), heap_alloc_new _ _, size_madeCells _ _, fun j hj => ?_⟩
  rw [← size_madeCells z.cells (n * i.size)] at hj
  simp [hj]
theorem rowIs_splice {w : World} {g : Nat} {e : TypeId} {m : Nat} {f : Nat → Value} (h : w.rowIs g e m f) (o : Nat) (cs : List Value) (ho : o + cs.length ≤ m) :
    ∃ cur, w.heap[g]? = some (.cells cur e (0, 0)) ∧ cur.size = m ∧ (w.setRow g (cur.toList.take o ++ cs ++ cur.toList.drop (o + cs.length)).toArray).rowIs g e m (fun j => if o ≤ j ∧ j < o + cs.length then cs.getD (j - o) undef else f j) := by
  obtain ⟨cur, hg, hs, hc⟩ := h
  refine ⟨cur, hg, hs, _, setRow_heap w g cur _ e _ hg, ?_, fun j hj => ?_⟩
  · simp; omega
  · have hcj := hc j hj
    have hl : cur.toList.length = m := by simpa using hs
    have hcj' : cur.toList[j]? = some (f j) := by simpa using hcj
    simp only [List.getElem?_toArray]
    by_cases h1 : j < o
    · rw [List.getElem?_append_left (by simp; omega), List.getElem?_append_left (by simp; omega), List.getElem?_take, if_pos h1, hcj', if_neg (by omega)]
    · by_cases h2 : j < o + cs.length
      · rw [List.getElem?_append_left (by simp; omega), List.getElem?_append_right (by simp; omega), if_pos ⟨by omega, h2⟩]
        have e1 : (List.take o cur.toList).length = o := by simp; omega
        rw [e1]
        simp [List.getD, show j - o < cs.length by omega]
      · rw [List.getElem?_append_right (by simp; omega), if_neg (by omega), List.getElem?_drop]
        have e1 : (List.take o cur.toList ++ cs).length = o + cs.length := by simp; omega
        rw [e1, show o + cs.length + (j - (o + cs.length)) = j by omega, hcj']
theorem ex_copy {P : Program} (w : World) (t e : TypeId) (z : Value) (size bytes : Nat) (ht : P.underlying t = some (.slice e))
    (hinfo : (P.info? e).map (fun i => (i.zero, i.size, i.bytes)) = some (some z, size, bytes))
    (g o dl dc m : Nat) (f : Nat → Value) (hg : w.rowIs g e m f) (so : Option Addr) (sb sp sl sc k : Nat) (hk : k = Nat.min sl dl) (src : Nat → Value)
    (hso : 0 < sl → so = some ⟨sb, sp, none⟩) (hsrc : ∀ j, j < k * size → w.cell? ⟨sb, sp + j, none⟩ = some (src j)) (h1 : ∀ j, j < k * size → (src j).oneCell' = true) (hfit : o + k * size ≤ m) :
    ∃ w1, (∀ ty, (Builtin.copy_ #[t, t] ty #[.slice (some ⟨g, o, none⟩) dl dc, .slice so sl sc]).run P w = .ok (goInt k) w1) ∧ w1.rowIs g e m (fun j => if o ≤ j ∧ j < o + k * size then src (j - o) else f j) ∧ w.grownBy w1 (some g) ∧ w1.heap.size = w.heap.size := by
  obtain ⟨i, hi, hz, hs, hby⟩ := info_parts hinfo
  subst hs; subst hby
  have hcl : ((List.range (k * i.size)).map src).length = k * i.size := by simp
  obtain ⟨cur, hgc, hcs, hrow⟩ := rowIs_splice hg o ((List.range (k * i.size)).map src) (by rw [hcl]; exact hfit)
  have hrow' := hrow.congr (g := fun j => if o ≤ j ∧ j < o + k * i.size then src (j - o) else f j) (fun j hj => by
    rw [hcl]
    by_cases hh : o ≤ j ∧ j < o + k * i.size
    · rw [if_pos hh, if_pos hh]
      simp [List.getD, show j - o < k * i.size by omega]
    · rw [if_neg hh, if_neg hh])
  refine ⟨_, fun ty => ?_, hrow', ⟨rfl, rfl, rfl, by simp [World.setRow], fun q _ hq => setRow_other w g q _ (fun e => hq (by rw [e]))⟩, by simp [World.setRow]⟩
  have hst := run_storeCells_at P g o e ((List.range (k * i.size)).map src) 0 cur w hgc (by rw [hcl]; omega) (fun v hv => by
    obtain ⟨j, hj, rfl⟩ := List.mem_map.1 hv
    exact h1 j (List.mem_range.1 hj))
  simp only [Nat.add_zero] at hst
  by_cases h0 : 0 < sl
  · rw [hso h0]
    have hf := run_firstCells_some (P := P) w i.size k ⟨sb, sp, none⟩ sl sc ((List.range (k * i.size)).map src) hcl (fun j v hv => by
      have hj : j < k * i.size := by
        have := (List.getElem?_eq_some_iff.1 hv).1
        simpa using this
      simp [hj] at hv
      subst hv
      rw [Addr.add_lit]
      exact hsrc j hj)
    rw [hk] at hf hst ⊢
    simp [Builtin.copy_, run_underlying ht, sizeOf, typeInfo, hi, Builtin.lenOf, hf, hst]
  · have hsl : sl = 0 := by omega
    have hk0 : k = 0 := by rw [hk, hsl]; simp
    subst hk0
    rw [hsl]
    have hst' := hst
    simp only [Nat.zero_mul, List.range_zero, List.map_nil] at hst'
    cases so with
    | none => simp [Builtin.copy_, run_underlying ht, sizeOf, typeInfo, hi, Builtin.lenOf, Builtin.firstCells, hst']
    | some a => simp [Builtin.copy_, run_underlying ht, sizeOf, typeInfo, hi, Builtin.lenOf, Builtin.firstCells, loadCells, loadCellsFrom, hst']
theorem Tryz.info22 : (Tryz.prog.info? 46).map (fun i => (i.zero, i.size, i.bytes)) = some (some (.agg #[.int .i64 0, .int .i64 0, .int .i64 0]), 3, 24) := by kernel_rfl
theorem Tryz.infoInt : (Tryz.prog.info? 3).map (fun i => (i.zero, i.size, i.bytes)) = some (some (.int .i64 0), 1, 8) := by kernel_rfl
end Go.Proofs.YtblkaenlajmhnaaGreatDoor
namespace Go.Proofs.YtblkaenlajmhnaaGreatDoor
open Go.RowKit
attribute [local go_sem ↓] Go.wp_at_zero Go.wp_at_succ
attribute [local go_sem] After.cell After.frozen After.const
def cpuCell (S N C : Nat → Int) (j : Nat) : Value := .int .i64 (if j % 3 = 0 then S (j / 3) else if j % 3 = 1 then N (j / 3) else C (j / 3))
theorem cpuCell_0 (S N C : Nat → Int) (i : Nat) : cpuCell S N C (i * 3) = .int .i64 (S i) := by
  unfold cpuCell; rw [show i * 3 % 3 = 0 by omega, show i * 3 / 3 = i by omega]; rfl
theorem cpuCell_1 (S N C : Nat → Int) (i : Nat) : cpuCell S N C (i * 3 + 1) = .int .i64 (N i) := by
  unfold cpuCell; rw [show (i * 3 + 1) % 3 = 1 by omega, show (i * 3 + 1) / 3 = i by omega]; rfl
theorem cpuCell_2 (S N C : Nat → Int) (i : Nat) : cpuCell S N C (i * 3 + 2) = .int .i64 (C i) := by
  unfold cpuCell; rw [show (i * 3 + 2) % 3 = 2 by omega, show (i * 3 + 2) / 3 = i by omega]; rfl
theorem CpuAt.flat {w : World} {b o n : Nat} {S N C : Nat → Int} (h : CpuAt w b o n S N C) : ∀ j, j < n * 3 → w.cell? ⟨b, o + j, none⟩ = some (cpuCell S N C j) := fun j hj => by
  obtain ⟨h0, h1, h2⟩ := h (j / 3) (by omega)
  rcases (show j = j / 3 * 3 ∨ j = j / 3 * 3 + 1 ∨ j = j / 3 * 3 + 2 by omega) with e | e | e
  · rw [e, cpuCell_0, ← h0]
  · rw [e, cpuCell_1, ← h1]; rfl
  · rw [e, cpuCell_2, ← h2]; rfl
def hC (m : Mach) (j : Nat) : Value := if j < m.n * 3 then cpuCell m.S m.N m.C j else .int .i64 (-5)
def hR (m : Mach) (j : Nat) : Value := if j < m.r then .int .i64 (m.R j) else .int .i64 (-5)
structure Hd (m : Mach) (w W4 wr : World) (k : Nat) : Prop where
  x : wr.rowIs (w.heap.size + 1) 25 3 (fun j => if j = 2 then .int .i64 0 else .slice none 0 0)
  c : ∃ f, wr.rowIs (w.heap.size + 1 + 1) 46 ((m.n + 8) * 3) f ∧ ∀ j, j < (m.n + k) * 3 → f j = hC m j
  r : ∃ f, wr.rowIs (w.heap.size + 1 + 1 + 1) 3 (m.r + 8) f ∧ ∀ j, j < m.r + k → f j = hR m j
  b : Below (w.heap.size + 1) W4 wr
  bw : Below w.heap.size w wr
theorem Hd.step {m : Mach} {w W4 wr : World} {k : Nat} (h : Hd m w W4 wr k) :
    Hd m w W4 ((((wr.setCell ⟨w.heap.size + 1 + 1, (m.n + k) * 3, none⟩ (.int .i64 (-5))).setCell ⟨w.heap.size + 1 + 1, (m.n + k) * 3 + 1, none⟩ (.int .i64 (-5))).setCell
      ⟨w.heap.size + 1 + 1, (m.n + k) * 3 + 2, none⟩ (.int .i64 (-5))).setCell ⟨w.heap.size + 1 + 1 + 1, m.r + k, none⟩ (.int .i64 (-5))) (k + 1) := by
  obtain ⟨hx, ⟨fc, hc, hfc⟩, ⟨fr, hr, hfr⟩, hb, hbw⟩ := h
  refine ⟨(((hx.setOther (by show w.heap.size + 1 ≠ w.heap.size + 1 + 1; omega) _).setOther (by show w.heap.size + 1 ≠ w.heap.size + 1 + 1; omega) _).setOther (by show w.heap.size + 1 ≠ w.heap.size + 1 + 1; omega) _).setOther (by show w.heap.size + 1 ≠ w.heap.size + 1 + 1 + 1; omega) _,
    ⟨_, (((hc.set _ _).set _ _).set _ _).setOther (by show w.heap.size + 1 + 1 ≠ w.heap.size + 1 + 1 + 1; omega) _, fun j hj => ?_⟩,
    ⟨_, (((hr.setOther (by show w.heap.size + 1 + 1 + 1 ≠ w.heap.size + 1 + 1; omega) _).setOther (by show w.heap.size + 1 + 1 + 1 ≠ w.heap.size + 1 + 1; omega) _).setOther (by show w.heap.size + 1 + 1 + 1 ≠ w.heap.size + 1 + 1; omega) _).set _ _, fun j hj => ?_⟩,
    (((hb.setCell (by show w.heap.size + 1 ≤ w.heap.size + 1 + 1; omega) _).setCell (by show w.heap.size + 1 ≤ w.heap.size + 1 + 1; omega) _).setCell (by show w.heap.size + 1 ≤ w.heap.size + 1 + 1; omega) _).setCell (by show w.heap.size + 1 ≤ w.heap.size + 1 + 1 + 1; omega) _,
    (((hbw.setCell (by show w.heap.size ≤ w.heap.size + 1 + 1; omega) _).setCell (by show w.heap.size ≤ w.heap.size + 1 + 1; omega) _).setCell (by show w.heap.size ≤ w.heap.size + 1 + 1; omega) _).setCell (by show w.heap.size ≤ w.heap.size + 1 + 1 + 1; omega) _⟩
  · show (if j = (m.n + k) * 3 + 2 then _ else if j = (m.n + k) * 3 + 1 then _ else if j = (m.n + k) * 3 then _ else fc j) = _
    by_cases h1 : j < (m.n + k) * 3
    · rw [if_neg (by omega), if_neg (by omega), if_neg (by omega), hfc j h1]
    · have e : hC m j = .int .i64 (-5) := by unfold hC; rw [if_neg (by omega)]
      rw [e]
      split
      · rfl
      · split
        · rfl
        · rw [if_pos (by omega)]
  · show (if j = m.r + k then _ else fr j) = _
    by_cases h1 : j < m.r + k
    · rw [if_neg (by omega), hfr j h1]
    · have e : hR m j = .int .i64 (-5) := by unfold hR; rw [if_neg (by omega)]
      rw [e, if_pos (by omega)]
set_option maxRecDepth 100000 in
set_option maxHeartbeats 2000000 in
theorem handed_any (m : Mach) (w : World) (hm : m.At w) :
    Calls Tryz.prog 4 #[m.val] w fun e w' => ∃ cb rb, e = .returned (.agg #[.slice (some ⟨cb, 0, none⟩) m.n (m.n + 8), .slice (some ⟨rb, 0, none⟩) m.r (m.r + 8), .int .i64 m.p]) ∧
      w.heap.size ≤ cb ∧ w.heap.size ≤ rb ∧ cb ≠ rb ∧ w'.rowIs cb 46 ((m.n + 8) * 3) (hC m) ∧ w'.rowIs rb 3 (m.r + 8) (hR m) ∧ Below w.heap.size w w' := by
  obtain ⟨ao, b, o, n, cap, S, N, C, ro, rb, rp, r, rcap, R, p⟩ := m
  obtain ⟨ncap, nmax, addr, cpus, rc, rmax, raddr, ints⟩ := hm
  simp only [Mach.val] at *
  obtain ⟨W0, hW0⟩ : ∃ W0, W0 = (w.alloc (.cells #[.slice ao n cap, .slice ro r rcap, .int .i64 p] 25)).alloc (.cells #[.slice none 0 0, .slice none 0 0, .int .i64 0] 25) := ⟨_, rfl⟩
  have hs0 : W0.heap.size = w.heap.size + 1 + 1 := by rw [hW0]; simp
  have hB0 : Below w.heap.size w W0 := by rw [hW0]; exact ((Below.refl _ _).alloc (Nat.le_refl _) _).alloc (by simp) _
  have d0 : W0.cell? ⟨w.heap.size, 0, none⟩ = some (.slice ao n cap) := by rw [hW0]; simp [World.cell?_alloc_past]
  have d1 : W0.cell? ⟨w.heap.size, 1, none⟩ = some (.slice ro r rcap) := by rw [hW0]; simp [World.cell?_alloc_past]
  have d2 : W0.cell? ⟨w.heap.size, 2, none⟩ = some (.int .i64 p) := by rw [hW0]; simp [World.cell?_alloc_past]
  have x0 : W0.rowIs (w.heap.size + 1) 25 3 (fun j => if j = 2 then .int .i64 0 else .slice none 0 0) := by
    rw [hW0]
    exact ⟨#[.slice none 0 0, .slice none 0 0, .int .i64 0], by rw [show w.heap.size + 1 = (w.alloc (.cells #[.slice ao n cap, .slice ro r rcap, .int .i64 p] 25)).heap.size by simp]; exact heap_alloc_new _ _, rfl, fun j hj => by
      rcases (show j = 0 ∨ j = 1 ∨ j = 2 by omega) with e | e | e <;> subst e <;> rfl⟩
  obtain ⟨W1, hmk1, ⟨f1, r1⟩, hB1, hs1⟩ := ex_make (P := Tryz.prog) W0 22 46 _ 3 24 (n + 8) ((n : Int) + 8) (by simp) Tryz.underlying22 Tryz.info22 (by omega) (by omega)
  obtain ⟨W2, hmk2, ⟨f2, r2⟩, hB2, hs2⟩ := ex_make (P := Tryz.prog) W1 23 3 _ 1 8 (r + 8) ((r : Int) + 8) (by simp) Tryz.underlying23 Tryz.infoInt (by omega) (by omega)
  rw [hs0] at r1 hs1 hmk1
  rw [hs1] at r2 hs2 hmk2
  have hB02 : Below W0.heap.size W0 W2 := ext_trans hB1 hB2
  have x2 := (x0.of_block (hB02.block _ (by omega)))
  have r1' := r1.of_block (hB2.block _ (by omega))
  have hBw2 : Below w.heap.size w W2 := ext_trans hB0 hB02
  obtain ⟨W3, hcp1, r3, hg3, hs3⟩ := ex_copy (P := Tryz.prog) W2 22 46 _ 3 24 Tryz.underlying22 Tryz.info22 (w.heap.size + 1 + 1) 0 (n + 8) (n + 8) ((n + 8) * 3) f1 r1' ao b o n cap n (by simp) (cpuCell S N C) addr
    (fun j hj => (hBw2.cell (p := ⟨b, o + j, none⟩) (block_lt_of_cell (cpus.flat j hj))).trans (cpus.flat j hj)) (fun _ _ => rfl) (by omega)
  have r2' := r2.of_block (hg3.block _ (by omega) (ne_some (by omega)))
  have x3 := x2.of_block (hg3.block _ (by omega) (ne_some (by omega)))
  have hBw3 : Below w.heap.size w W3 := hBw2.grown hg3 (by omega) (fun k hk => by cases hk; omega)
  obtain ⟨W4, hcp2, r4, hg4, hs4⟩ := ex_copy (P := Tryz.prog) W3 23 3 _ 1 8 Tryz.underlying23 Tryz.infoInt (w.heap.size + 1 + 1 + 1) 0 (r + 8) (r + 8) ((r + 8) * 1) f2 r2' ro rb rp r rcap r (by simp) (fun j => .int .i64 (R j)) raddr
    (fun j hj => (hBw3.cell (p := ⟨rb, rp + j, none⟩) (block_lt_of_cell (ints j (by omega)))).trans (ints j (by omega))) (fun _ _ => rfl) (by omega)
  have hBw4 : Below w.heap.size w W4 := hBw3.grown hg4 (by omega) (fun k hk => by cases hk; omega)
  have r3' := r3.of_block (hg4.block _ (by omega) (ne_some (by omega)))
  have x4 := x3.of_block (hg4.block _ (by omega) (ne_some (by omega)))
  have b4 : W4.heap[w.heap.size]? = W0.heap[w.heap.size]? := (hg4.block _ (by omega) (ne_some (by omega))).trans ((hg3.block _ (by omega) (ne_some (by omega))).trans (hB02.block _ (by omega)))
  have b3 : W3.heap[w.heap.size]? = W0.heap[w.heap.size]? := (hg3.block _ (by omega) (ne_some (by omega))).trans (hB02.block _ (by omega))
  have b2 : W2.heap[w.heap.size]? = W0.heap[w.heap.size]? := hB02.block _ (by omega)
  have e2 : W2.cell? ⟨w.heap.size, 0, none⟩ = some (.slice ao n cap) := (World.cell?_of_block (w := W0) (a := ⟨w.heap.size, 0, none⟩) b2).trans d0
  have e3 : W3.cell? ⟨w.heap.size, 1, none⟩ = some (.slice ro r rcap) := (World.cell?_of_block (w := W0) (a := ⟨w.heap.size, 1, none⟩) b3).trans d1
  have e4 : W4.cell? ⟨w.heap.size, 2, none⟩ = some (.int .i64 p) := (World.cell?_of_block (w := W0) (a := ⟨w.heap.size, 2, none⟩) b4).trans d2
  rw [hW0] at hmk1
  have HX : Hid (W4.rowIs (w.heap.size + 1) 25 3 (fun j => if j = 2 then .int .i64 0 else .slice none 0 0) ∧ W4.rowIs (w.heap.size + 1 + 1) 46 ((n + 8) * 3) (fun j => if 0 ≤ j ∧ j < 0 + n * 3 then cpuCell S N C (j - 0) else f1 j) ∧
    W4.rowIs (w.heap.size + 1 + 1 + 1) 3 ((r + 8) * 1) (fun j => if 0 ≤ j ∧ j < 0 + r * 1 then .int .i64 (R (j - 0)) else f2 j) ∧ Below w.heap.size w W4 ∧ W4.heap.size = w.heap.size + 4) := ⟨x4, r3', r4, hBw4, by omega⟩
  clear b2 b3 b4 d0 d1 d2 hW0 hB0 hB1 hB2 x0 x2 x3 x4 r1 r2 r1' r2' r3 r3' r4 hB02 hBw2 hBw3 hBw4 hg3 hg4 hs0 cpus ints addr raddr
  go_enter Tryz.func4, Tryz.ntmps4
  go_wp2_with fail
  have hwW : w.heap.size < W4.heap.size := by have := HX.out.2.2.2.2; omega
  go_loopw [7] (fun i wr => ∃ k : Nat, k ≤ 8 ∧ i = .int .i64 k ∧ Hd ⟨ao, b, o, n, cap, S, N, C, ro, rb, rp, r, rcap, R, p⟩ w W4 wr k) (fun i _ => 8 - (intOf i).toNat)
  case atStart =>
    obtain ⟨x, c, d, e, _⟩ := HX.out
    refine ⟨0, by omega, rfl, x, ⟨_, c, fun j hj => ?_⟩, ⟨_, by simpa using d, fun j hj => ?_⟩, Below.refl _ _, e⟩
    · have hj : j < (n + 0) * 3 := hj
      rw [if_pos ⟨Nat.zero_le _, by omega⟩]; simp only [hC, Nat.sub_zero]; rw [if_pos (by omega)]
    · have hj : j < r + 0 := hj
      rw [if_pos (by omega)]; simp only [hR]; rw [if_pos (by omega)]
  case round =>
    obtain ⟨k, hk, rfl, H⟩ := hrel
    have HR : Hid (Hd ⟨ao, b, o, n, cap, S, N, C, ro, rb, rp, r, rcap, R, p⟩ w W4 wr k) := H
    obtain ⟨hx, ⟨fc, hc, hfc⟩, ⟨fr, hr, hfr⟩, hb, hbw⟩ := H
    by_cases hlt : k < 8
    · have u0 := hc.cell (i := (n + k) * 3) (by show (n + k) * 3 < (n + 8) * 3; omega)
      have u1 := hc.cell (i := (n + k) * 3 + 1) (by show (n + k) * 3 + 1 < (n + 8) * 3; omega)
      have u2 := hc.cell (i := (n + k) * 3 + 2) (by show (n + k) * 3 + 2 < (n + 8) * 3; omega)
      have uf := hc.frozen
      have v0 := hr.cell (i := r + k) (by show r + k < r + 8; omega)
      have vf := hr.frozen
      clear hx hc hfc hr hfr hb hbw
      go_wp2
      go_roundw
      case rel => exact ⟨k + 1, by omega, by go_num, HR.out.step⟩
      case measure => simp [intOf]; omega
    · have : k = 8 := by omega
      subst this
      have q0 := (hb.cell (p := ⟨w.heap.size, 2, none⟩) (by simp)).trans e4
      have y0 := hx.cell (i := 0) (by omega)
      have y1 := hx.cell (i := 1) (by omega)
      have y2 := hx.cell (i := 2) (by omega)
      have yf := hx.frozen
      have ln : (n : Int) ≤ (n : Int) + 8 := by omega
      have lr : (r : Int) ≤ (r : Int) + 8 := by omega
      clear hx hc hfc hr hfr hb hbw
      go_wp2
      go_region
      go_wp2
      obtain ⟨hx, ⟨fc, hc, hfc⟩, ⟨fr, hr, hfr⟩, hb, hbw⟩ := HR.out
      obtain ⟨z0, z1, z2⟩ := set3 (.slice (some ⟨w.heap.size + 1 + 1, 0, none⟩) n (n + 8)) (.slice (some ⟨w.heap.size + 1 + 1 + 1, 0, none⟩) r (r + 8)) (.int .i64 p) y0 y1 y2
      refine bodyPost_ret (v := .agg #[.slice (some ⟨w.heap.size + 1 + 1, 0, none⟩) n (n + 8), .slice (some ⟨w.heap.size + 1 + 1 + 1, 0, none⟩) r (r + 8), .int .i64 p]) ?_ rfl ⟨w.heap.size + 1 + 1, w.heap.size + 1 + 1 + 1, rfl, by omega, by omega, by omega, ?_, ?_, ?_⟩
      · simp [results, Tryz.results4, go_sem, z0, z1, z2]
      · exact ((((hc.congr (fun j hj => hfc j hj)).setOther (by show w.heap.size + 1 + 1 ≠ w.heap.size + 1; omega) _).setOther (by show w.heap.size + 1 + 1 ≠ w.heap.size + 1; omega) _).setOther (by show w.heap.size + 1 + 1 ≠ w.heap.size + 1; omega) _).drew
      · exact ((((hr.congr (fun j hj => hfr j hj)).setOther (by show w.heap.size + 1 + 1 + 1 ≠ w.heap.size + 1; omega) _).setOther (by show w.heap.size + 1 + 1 + 1 ≠ w.heap.size + 1; omega) _).setOther (by show w.heap.size + 1 + 1 + 1 ≠ w.heap.size + 1; omega) _).drew
      · exact (((hbw.setCell (by show w.heap.size ≤ w.heap.size + 1; omega) _).setCell (by show w.heap.size ≤ w.heap.size + 1; omega) _).setCell (by show w.heap.size ≤ w.heap.size + 1; omega) _).drew
end Go.Proofs.YtblkaenlajmhnaaGreatDoor
