/- The files and the names that come in, opened. -/
import Derived.Test.YtblkaenlajmhnaaGreatDoorQ1
import Derived.Test.YtblkaenlajmhnaaGreatDoorHV
import Derived.Test.YtblkaenlajmhnaaGreatDoorRows
import Derived.SliceStrings
import Derived.Deep.SlicePairs
namespace Go.Proofs.YtblkaenlajmhnaaGreatDoor
set_option linter.constructorNameAsVariable false
open Go.ChangeShapes Go.WideShapes Go.ChangeAt Go.RowKit Go.Deep Go.Joins
theorem bulk_one {H : Type} (d : DataW H) : 1 ≤ Rows.uptoBulk d := by
  cases d with
  | lit l => cases l <;> simp [Rows.uptoBulk]
  | nil => simp [Rows.uptoBulk]
  | ptr d => simp [Rows.uptoBulk]
  | slice elems spare => simp [Rows.uptoBulk]
  | agg parts => simp [Rows.uptoBulk]
  | iface t d => simp [Rows.uptoBulk]
  | map entries => simp [Rows.uptoBulk]
  | held h => simp [Rows.uptoBulk]
theorem bulk_part {H : Type} {d : DataW H} {l : List (DataW H)} (h : d ∈ l) : Rows.uptoBulk d ≤ Rows.uptoBulkAll l := by
  induction l with
  | nil => cases h
  | cons x r ih =>
    simp only [Rows.uptoBulkAll]
    cases List.mem_cons.1 h with
    | inl e => subst e; omega
    | inr e => have := ih e; omega
theorem bulk_length {H : Type} (l : List (DataW H)) : l.length ≤ Rows.uptoBulkAll l := by
  induction l with
  | nil => simp [Rows.uptoBulkAll]
  | cons x r ih => have := bulk_one x; simp only [Rows.uptoBulkAll, List.length_cons]; omega
section
variable {H : Type} {enc : TypeId × Value → H} {W : World}
theorem cells_one {t e : TypeId} {base : Nat} {v : Value} (hu : Tryz.prog.underlying t = some (.slice e)) (hv : Value.okWide Tryz.prog W .any base t v) : v.cells.toList = [v] := by
  unfold Value.okWide at hv
  rw [hu] at hv
  simp only [Cell.okWide, hu] at hv
  cases v <;> first | rfl | (simp [Cell.ok, hu] at hv)
set_option maxRecDepth 100000 in
theorem files_of_trod {base : Nat} {v1 : Value} {d1 : DataW H} {p1 : List MemPlace} (hv : Value.okWide Tryz.prog W .any base 26 v1)
    (h : DataW.Trod enc Tryz.prog W 0 (fun _ => true) true 26 v1 d1 p1) (hk : Rows.uptoBulk d1 ≤ 1048576) :
    ∃ n, Files W v1 n 1048576 ∧ n * 16 ≤ 140737488355328 := by
  obtain ⟨fuel, h⟩ := h
  rw [cells_one Tryz.underlying26 hv] at h
  rcases open_slice_pairs Tryz.underlying26 Tryz.underlying89 (by kernel_rfl) rfl rfl (by kernel_rfl) (by kernel_rfl) h with ⟨hcs, hx⟩ | ⟨a, len, cap, m, n', V0, V1, D0, D1, P0, P1, hcs, _, hl, hm, hmm, hx, hel⟩
  · simp only [List.cons.injEq, and_true] at hcs
    subst hcs
    exact ⟨0, ⟨none, 0, rfl, Nat.le_refl _, by omega, fun h => absurd h (Nat.lt_irrefl _)⟩, by omega⟩
  · simp only [List.cons.injEq, and_true] at hcs
    subst hcs
    simp only [if_true] at hmm
    subst hmm
    have hd1 : d1 = .slice ((List.range len).map fun i => .agg [D0 i, D1 i]) ((List.range (m - len)).map fun j => .agg [D0 (len + j), D1 (len + j)]) := congrArg Prod.fst hx
    have hbulk : Rows.uptoBulkAll ((List.range len).map fun i => DataW.agg [D0 i, D1 i]) ≤ 1048576 := by
      rw [hd1] at hk
      simp only [Rows.uptoBulk] at hk
      omega
    have hlen : len ≤ 1048576 := by
      have := bulk_length ((List.range len).map fun i => DataW.agg [D0 i, D1 i])
      simp only [List.length_map, List.length_range] at this
      omega
    have hst : ∀ i, i < len → ∃ s t : ByteArray, W.cell? (a.add (i * 2)) = some (.string s) ∧ W.cell? (a.add (i * 2 + 1)) = some (.string t) ∧ s.size ≤ 1048576 ∧ t.size ≤ 1048576 := fun i hi => by
      obtain ⟨q0, q1, q2, q3⟩ := hel i (by omega)
      obtain ⟨s, e0, x0, _⟩ := DataW.trod_string Tryz.underlying9 q2
      obtain ⟨t, e1, x1, _⟩ := DataW.trod_string Tryz.underlying9 q3
      simp only [List.cons.injEq, and_true] at e0 e1
      have y0 : D0 i = .lit (.string s.data.toList) := congrArg Prod.fst x0
      have y1 : D1 i = .lit (.string t.data.toList) := congrArg Prod.fst x1
      have hb : Rows.uptoBulk (DataW.agg [D0 i, D1 i]) ≤ Rows.uptoBulkAll ((List.range len).map fun i => DataW.agg [D0 i, D1 i]) := bulk_part (List.mem_map.2 ⟨i, List.mem_range.2 hi, rfl⟩)
      rw [y0, y1] at hb
      simp only [Rows.uptoBulk, Rows.uptoBulkAll, Array.length_toList] at hb
      refine ⟨s, t, by rw [q0, e0], by rw [q1, e1], ?_, ?_⟩
      · show s.data.size ≤ _; omega
      · show t.data.size ≤ _; omega
    obtain ⟨b, o, spot⟩ := a
    refine ⟨len, ⟨_, m, rfl, hl, by omega, fun h0 => ?_⟩, by omega⟩
    obtain ⟨s, t, c0, _⟩ := hst 0 h0
    have hsn : spot = none := by simpa [Addr.add] using World.cell?_spot c0
    subst hsn
    simp only [Go.WideShapes.add_plain] at hst c0
    exact ⟨b, o, rfl, block_lt_of_cell c0, hst⟩
set_option maxRecDepth 100000 in
theorem names_of_trod {base : Nat} {v1 : Value} {d1 : DataW H} {p1 : List MemPlace} (hv : Value.okWide Tryz.prog W .any base 27 v1)
    (h : DataW.Trod enc Tryz.prog W 0 (fun _ => true) true 27 v1 d1 p1) : ∃ k, Names W v1 k := by
  obtain ⟨fuel, h⟩ := h
  rw [cells_one Tryz.underlying27 hv] at h
  rcases open_strings Tryz.underlying27 Tryz.underlying9 (by kernel_rfl) h with ⟨hcs, hx⟩ | ⟨a, len, cap, ss, hcs, _, hl, hm, hmm, hx, hel, _⟩
  · simp only [List.cons.injEq, and_true] at hcs
    subst hcs
    exact ⟨0, none, 0, rfl, by omega, fun h => absurd h (Nat.lt_irrefl _)⟩
  · simp only [List.cons.injEq, and_true] at hcs
    subst hcs
    simp only [if_true] at hmm
    unfold maxLen at hm
    obtain ⟨b, o, spot⟩ := a
    refine ⟨len, _, cap, rfl, by omega, fun h0 => ?_⟩
    have c0 := hel 0 (by omega)
    have hsn : spot = none := by simpa [Addr.add] using World.cell?_spot c0
    subst hsn
    simp only [Go.WideShapes.add_plain] at hel c0
    exact ⟨b, o, rfl, block_lt_of_cell c0, fun j hj => ⟨_, hel j (by omega)⟩⟩
end
end Go.Proofs.YtblkaenlajmhnaaGreatDoor
