/- Start: a berth of a machine, in lists of its own. -/
import Derived.Test.YtblkaenlajmhnaaGreatDoorM1
import Derived.Deep.AppendLies
namespace Go.Proofs.YtblkaenlajmhnaaGreatDoor
open Go.RowKit
attribute [local go_sem ↓] Go.wp_at_zero Go.wp_at_succ
attribute [local go_sem] After.cell After.frozen After.const
def NB (v : Value) : Prop := (∃ k n, v = .int k n) ∨ ∃ b, v = .bool b
def Flat (w : World) (v : Value) : Prop := ∀ g, v.ownBlock = some g → ∃ cur e, w.heap[g]? = some (.cells cur e (0, 0)) ∧ ∀ u ∈ cur.toList, NB u
theorem Flat.of_block {w w' : World} {v : Value} (h : Flat w v) (hb : ∀ b, v.ownBlock = some b → w'.heap[b]? = w.heap[b]?) : Flat w' v := fun g hg => by
  obtain ⟨cur, e, h1, h2⟩ := h g hg
  exact ⟨cur, e, (hb g hg).trans h1, h2⟩
theorem Flat.lt {w : World} {v : Value} (h : Flat w v) : ∀ b, v.ownBlock = some b → b < w.heap.size := fun b hb => by
  obtain ⟨cur, e, h1, _⟩ := h b hb
  exact (Array.getElem?_eq_some_iff.1 h1).1
theorem Flat.below {w w' : World} {v : Value} (h : Flat w v) (hb : Below w.heap.size w w') : Flat w' v := h.of_block fun b hv => hb.block b (h.lt b hv)
theorem Flat.alloc {w : World} {v : Value} (h : Flat w v) (o : Obj) : Flat (w.alloc o) v := h.of_block fun b hv => Below.heap_alloc w o b (h.lt b hv)
theorem Flat.set {w : World} {v : Value} (h : Flat w v) {a : Addr} (ha : v.ownBlock ≠ some a.block) (u : Value) : Flat (w.setCell a u) v := h.of_block fun b hv => Below.heap_setCell _ _ _ _ (fun e => ha (by rw [← e]; exact hv))
theorem Flat.nil (w : World) : Flat w (.slice none 0 0) := fun g hg => by cases hg
theorem run_append_flat {P : Program} (w : World) (base : Nat) (t ty e : TypeId) (i : TypeInfo) (z : Value) (size bytes : Nat) (ht : P.underlying t = some (.slice e)) (hi : P.info? e = some i) (hz : i.zero = some z)
    (hsize : i.size = size) (hby : i.bytes = bytes) (hzs : z.cells.size = size) (hsz : 0 < size) (hzf : ∀ u ∈ z.cells.toList, NB u)
    (g : Nat) (hg : w.heap[g]? = some (.cells #[] e (0, 0))) (hb : base ≤ g)
    (a : Addr) (m c : Nat) (news : List Value) (hl : news.length = m * size) (hnews : ∀ j u, news[j]? = some u → w.cell? (a.add j) = some u) (h1 : ∀ u ∈ news, NB u)
    (h63 : m ≤ maxLen) (hbytes : m * bytes ≤ 140737488355328) :
    ∃ v' w', (Builtin.append_ #[t, t] ty #[.slice (some ⟨g, 0, none⟩) 0 0, .slice (some a) m c]).run P w = .ok v' w' ∧ w'.ownsRow base e size v' m news ∧ w.grownBy w' (some g) ∧ Flat w' v' := by
  have hgl : g < w.heap.size := (Array.getElem?_eq_some_iff.1 hg).1
  have hone : ∀ u ∈ news, u.oneCell' = true := fun u hu => by
    rcases h1 u hu with ⟨k, n, rfl⟩ | ⟨b, rfl⟩ <;> rfl
  have hown : w.ownsRow base e size (.slice (some ⟨g, 0, none⟩) 0 0) 0 [] := ⟨by simp, .inr ⟨g, 0, #[], rfl, hb, hg, Nat.le_refl _, by unfold maxLen; omega, by simp, by simp⟩⟩
  obtain ⟨v', w', hr, h2, h3, _⟩ := run_append_own (P := P) w base t ty e i z size bytes ht hi hz hsize hby hzs hsz _ 0 [] hown a m c news hl hnews hone (by omega) (by rw [Nat.zero_add]; exact hbytes) (by omega)
  refine ⟨v', w', hr, by simpa using h2, h3, ?_⟩
  subst hsize
  subst hby
  have hsmall : m ≤ 9223372036854775807 := by simp only [maxLen] at h63; omega
  by_cases hm : m = 0
  · subst hm
    have hn : news = [] := List.eq_nil_of_length_eq_zero (by simpa using hl)
    subst hn
    have hr2 := run_append_room (P := P) w t ty e i ht hi g 0 0 #[] hg a 0 c [] (by simp) (fun j u h => by simp at h) (fun u h => by simp at h) (Nat.le_refl _) (by simp)
    rw [hr2] at hr
    cases hr
    intro k hk
    cases hk
    refine ⟨_, e, setRow_heap w g #[] _ e _ hg, fun u hu => by simp at hu⟩
  · have hr2 := run_append_grow (P := P) w t ty e i z ht hi hz ⟨g, 0, none⟩ 0 0 [] (by simp) (fun j u h => by simp at h) a m c news hl hnews (by omega) (by omega) (growslice_fits (by omega) (by rw [Nat.zero_add]; exact hbytes))
    rw [hr2] at hr
    cases hr
    intro k hk
    cases hk
    refine ⟨_, e, heap_alloc_new w.drew _, fun u hu => ?_⟩
    have hu : (u ∈ ([] : List Value) ∨ u ∈ news) ∨ u ∈ (Builtin.zeroCells z.cells (grownCap w (0 + m) 0 e - (0 + m))).toList := by simpa using hu
    rcases hu with (hu | hu) | hu
    · cases hu
    · exact h1 u hu
    · simp only [Builtin.zeroCells] at hu
      simp at hu
      obtain ⟨x, hx, rfl⟩ := hu
      have hp : x % z.cells.size < z.cells.size := Nat.mod_lt _ (by omega)
      refine hzf _ ?_
      rw [getElem!_pos z.cells _ hp]
      exact (by simp)
theorem wpList_append_flat {P : Program} {w : World} {ops : Array Oper} {rest : List Oper} {o : Oper} {ac : Act} {Q : Exit → Act → World → Prop} (hgd : o.guard = none) (s x : Operand) (t : TypeId)
    (ho : o.op = .call { callee := .builtin .append, args := #[s, x], argTypes := #[t, t] })
    (base : Nat) (e : TypeId) (i : TypeInfo) (z : Value) (size bytes : Nat) (ht : P.underlying t = some (.slice e)) (hi : P.info? e = some i) (hz : i.zero = some z)
    (hsize : i.size = size) (hby : i.bytes = bytes) (hzs : z.cells.size = size) (hsz : 0 < size) (hzf : ∀ u ∈ z.cells.toList, NB u)
    (g : Nat) (hs : ac.eval s = .slice (some ⟨g, 0, none⟩) 0 0) (hg : w.heap[g]? = some (.cells #[] e (0, 0))) (hb : base ≤ g)
    (ad : Addr) (m c : Nat) (news : List Value) (hx : ac.eval x = .slice (some ad) m c) (hl : news.length = m * size) (hnews : ∀ j u, news[j]? = some u → w.cell? (ad.add j) = some u) (h1 : ∀ u ∈ news, NB u)
    (h63 : m ≤ maxLen) (hbytes : m * bytes ≤ 140737488355328)
    (h : ∀ v' w', w'.ownsRow base e size v' m news → w.grownBy w' (some g) → Flat w' v' → wpList P ops Q rest (ac.put o.dst v') w') : wpList P ops Q (o :: rest) ac w :=
  wpList_plain hgd fun _ hK => by
    obtain ⟨v', w', hr, h2, h3, h4⟩ := run_append_flat (P := P) w base t o.type e i z size bytes ht hi hz hsize hby hzs hsz hzf g hg hb ad m c news hl hnews h1 h63 hbytes
    unfold Oper.wp execOp
    simp only [ho, resolve, invoke, builtin, Sem.run_bind, Sem.run_pure, Result.andThen_ok, List.map_toArray, List.map_cons, List.map_nil, hs, hx, hr]
    exact hK _ _ (h v' w' h2 h3 h4)
theorem ownsRow_new (w : World) (e : TypeId) (size : Nat) : (w.alloc (.cells #[] e)).ownsRow w.heap.size e size (.slice (some ⟨w.heap.size, 0, none⟩) 0 0) 0 [] :=
  World.ownsRow_made w #[] 0 (Nat.le_refl _) (by unfold maxLen; omega) (by simp)
theorem ZF3 : ∀ u ∈ (Value.agg #[.int .i64 0, .int .i64 0, .int .i64 0]).cells.toList, NB u := fun u hu => by
  simp [Value.cells] at hu
  subst hu
  exact .inl ⟨_, _, rfl⟩
theorem ZF1 : ∀ u ∈ (Value.int .i64 0).cells.toList, NB u := fun u hu => by
  simp [Value.cells] at hu
  subst hu
  exact .inl ⟨_, _, rfl⟩
set_option maxRecDepth 100000 in
set_option maxHeartbeats 1000000 in
theorem clone22_any (b o n cap : Nat) (xs : List Value) (w : World) (hn : n * 24 ≤ 140737488355328) (hl : xs.length = n * 3) (hx : ∀ j u, xs[j]? = some u → w.cell? ⟨b, o + j, none⟩ = some u) (h1 : ∀ u ∈ xs, NB u) :
    Calls Tryz.prog 46 #[.slice (some ⟨b, o, none⟩) n cap] w fun e w' => ∃ v, e = .returned v ∧ w'.ownsRow w.heap.size 46 3 v n xs ∧ Flat w' v ∧ Below w.heap.size w w' := by
  have heq := fun (W : World) => Lib.run_eql_slice_nil (P := Tryz.prog) W 22 46 (some ⟨b, o, none⟩) n cap 0 0 Tryz.underlying22
  obtain ⟨i, hi, hz0, hz1, hz2⟩ := info_parts Tryz.info22
  have hu := Tryz.underlying22
  have hx' : ∀ j u, xs[j]? = some u → (w.alloc (.cells #[] 46)).cell? ((⟨b, o, none⟩ : Addr).add j) = some u := fun j u hj => by rw [Addr.add_lit, World.cell?_alloc_past _ _ _ (block_lt_of_cell (hx j u hj))]; exact hx j u hj
  have HX : Hid (∀ j u, xs[j]? = some u → (w.alloc (.cells #[] 46)).cell? ((⟨b, o, none⟩ : Addr).add j) = some u) := hx'
  have H1 : Hid (∀ u ∈ xs, NB u) := h1
  clear hx hx' h1
  go_enter Tryz.func46, Tryz.ntmps46
  go_wp2_with (at_builtin; go_loud (refine wpList_append_flat rfl _ _ _ rfl w.heap.size 46 i _ 3 24 hu hi hz0 hz1 hz2 (by rfl) (by omega) ZF3 w.heap.size (by rfl) (heap_alloc_new _ _) (Nat.le_refl _) ⟨b, o, none⟩ n cap xs (by rfl) hl HX.out H1.out (by unfold maxLen; omega) (by omega) ?_); intro v' w1 hown hgrow hflat)
  go_ret
  exact ⟨_, rfl, hown, hflat, ((Below.refl _ _).alloc (Nat.le_refl _) _).grown hgrow (by simp) (fun k hk => by cases hk; exact Nat.le_refl _)⟩
set_option maxRecDepth 100000 in
set_option maxHeartbeats 1000000 in
theorem clone23_any (b o n cap : Nat) (xs : List Value) (w : World) (hn : n * 8 ≤ 140737488355328) (hl : xs.length = n) (hx : ∀ j u, xs[j]? = some u → w.cell? ⟨b, o + j, none⟩ = some u) (h1 : ∀ u ∈ xs, NB u) :
    Calls Tryz.prog 37 #[.slice (some ⟨b, o, none⟩) n cap] w fun e w' => ∃ v, e = .returned v ∧ w'.ownsRow w.heap.size 3 1 v n xs ∧ Flat w' v ∧ Below w.heap.size w w' := by
  have heq := fun (W : World) => Lib.run_eql_slice_nil (P := Tryz.prog) W 23 3 (some ⟨b, o, none⟩) n cap 0 0 Tryz.underlying23
  obtain ⟨i, hi, hz0, hz1, hz2⟩ := info_parts Tryz.infoInt
  have hu := Tryz.underlying23
  have hx' : ∀ j u, xs[j]? = some u → (w.alloc (.cells #[] 3)).cell? ((⟨b, o, none⟩ : Addr).add j) = some u := fun j u hj => by rw [Addr.add_lit, World.cell?_alloc_past _ _ _ (block_lt_of_cell (hx j u hj))]; exact hx j u hj
  have HX : Hid (∀ j u, xs[j]? = some u → (w.alloc (.cells #[] 3)).cell? ((⟨b, o, none⟩ : Addr).add j) = some u) := hx'
  have H1 : Hid (∀ u ∈ xs, NB u) := h1
  clear hx hx' h1
  go_enter Tryz.func37, Tryz.ntmps37
  go_wp2_with (at_builtin; go_loud (refine wpList_append_flat rfl _ _ _ rfl w.heap.size 3 i _ 1 8 hu hi hz0 hz1 hz2 (by rfl) (by omega) ZF1 w.heap.size (by rfl) (heap_alloc_new _ _) (Nat.le_refl _) ⟨b, o, none⟩ n cap xs (by rfl) (by omega) HX.out H1.out (by unfold maxLen; omega) (by omega) ?_); intro v' w1 hown hgrow hflat)
  go_ret
  exact ⟨_, rfl, hown, hflat, ((Below.refl _ _).alloc (Nat.le_refl _) _).grown hgrow (by simp) (fun k hk => by cases hk; exact Nat.le_refl _)⟩
theorem ownsRow_shape {w : World} {base : Nat} {e : TypeId} {size : Nat} {v : Value} {n : Nat} {xs : List Value} (h : w.ownsRow base e size v n xs) : ∃ ao cap, v = .slice ao n cap := by
  rcases h.2 with ⟨h2, rfl⟩ | ⟨g, cap, cur, hv, _⟩
  · exact ⟨_, _, h2⟩
  · exact ⟨_, _, hv⟩
theorem ownsRow_below {w w' : World} {base : Nat} {e : TypeId} {size : Nat} {v : Value} {n : Nat} {xs : List Value} (h : w.ownsRow base e size v n xs) (hb : Below w.heap.size w w') : w'.ownsRow base e size v n xs := by
  refine ⟨h.1, ?_⟩
  rcases h.2 with h2 | ⟨g, cap, cur, hv, hg, hh, r⟩
  · exact .inl h2
  · exact .inr ⟨g, cap, cur, hv, hg, by rw [hb.block g (Array.getElem?_eq_some_iff.1 hh).1]; exact hh, r⟩
theorem ownsRow_base {w : World} {base base' : Nat} {e : TypeId} {size : Nat} {v : Value} {n : Nat} {xs : List Value} (h : w.ownsRow base e size v n xs) (hb : base' ≤ base) : w.ownsRow base' e size v n xs := by
  refine ⟨h.1, ?_⟩
  rcases h.2 with h2 | ⟨g, cap, cur, hv, hg, r⟩
  · exact .inl h2
  · exact .inr ⟨g, cap, cur, hv, Nat.le_trans hb hg, r⟩
def cpuL (m : Mach) : List Value := (List.range (m.n * 3)).map (cpuCell m.S m.N m.C)
def resL (m : Mach) : List Value := (List.range m.r).map (fun j => .int .i64 (m.R j))
theorem cpuL_get (m : Mach) (j : Nat) (u : Value) (h : (cpuL m)[j]? = some u) : j < m.n * 3 ∧ u = cpuCell m.S m.N m.C j := by
  have hj : j < m.n * 3 := by
    have := (List.getElem?_eq_some_iff.1 h).1
    simpa [cpuL] using this
  refine ⟨hj, ?_⟩
  simp [cpuL, hj] at h
  exact h.symm
theorem resL_get (m : Mach) (j : Nat) (u : Value) (h : (resL m)[j]? = some u) : j < m.r ∧ u = .int .i64 (m.R j) := by
  have hj : j < m.r := by
    have := (List.getElem?_eq_some_iff.1 h).1
    simpa [resL] using this
  refine ⟨hj, ?_⟩
  simp [resL, hj] at h
  exact h.symm
set_option maxRecDepth 100000 in
set_option maxHeartbeats 1000000 in
theorem copy_any (m : Mach) (cb rb : Nat) (w : World) (hn : m.n * 24 ≤ 140737488355328) (hr : m.r * 8 ≤ 140737488355328) (hc : w.rowIs cb 46 ((m.n + 8) * 3) (hC m)) (hrr : w.rowIs rb 3 (m.r + 8) (hR m)) :
    Calls Tryz.prog 27 #[.agg #[.slice (some ⟨cb, 0, none⟩) m.n (m.n + 8), .slice (some ⟨rb, 0, none⟩) m.r (m.r + 8), .int .i64 m.p]] w fun e w' => ∃ vc vr, e = .returned (.agg #[vc, vr, .int .i64 m.p]) ∧
      w'.ownsRow w.heap.size 46 3 vc m.n (cpuL m) ∧ w'.ownsRow w.heap.size 3 1 vr m.r (resL m) ∧ (Flat w' vc ∧ Flat w' vr) ∧ Below w.heap.size w w' := by
  have HC : Hid ((∀ j, j < m.n * 3 → ∀ W, Below w.heap.size w W → W.cell? ⟨cb, 0 + j, none⟩ = some (cpuCell m.S m.N m.C j)) ∧ (∀ j, j < m.r → ∀ W, Below w.heap.size w W → W.cell? ⟨rb, 0 + j, none⟩ = some (.int .i64 (m.R j)))) :=
    ⟨fun j hj W hb => by rw [hb.cell (p := ⟨cb, 0 + j, none⟩) hc.lt, Nat.zero_add, hc.cell (by omega)]; unfold hC; rw [if_pos hj], fun j hj W hb => by rw [hb.cell (p := ⟨rb, 0 + j, none⟩) hrr.lt, Nat.zero_add, hrr.cell (by omega)]; unfold hR; rw [if_pos hj]⟩
  clear hc hrr
  go_enter Tryz.func27, Tryz.ntmps27
  go_wp2_with fail
  refine (clone22_any cb 0 m.n (m.n + 8) (cpuL m) _ hn (by simp [cpuL]) (fun j u hj => ?_) (fun u hu => ?_)).mono ?_
  · obtain ⟨hj', rfl⟩ := cpuL_get m j u hj
    exact HC.out.1 j hj' _ (((Below.refl _ _).alloc (Nat.le_refl _) _).alloc (by simp) _)
  · obtain ⟨j, hj, rfl⟩ := List.mem_map.1 hu
    exact .inl ⟨_, _, rfl⟩
  rintro e w1 ⟨vc, rfl, h1, f1, hb1⟩
  obtain ⟨ca, cc, rfl⟩ := ownsRow_shape h1
  have hwz : w.heap.size + 1 < w1.heap.size := by have := hb1.size; simp at this; omega
  have hb1w : Below w.heap.size w w1 := (((Below.refl _ _).alloc (Nat.le_refl _) _).alloc (by simp) _).trans (hb1.mono (by simp; omega))
  have k0 : w1.heap[w.heap.size]? = some (.cells #[.slice (some ⟨cb, 0, none⟩) m.n (m.n + 8), .slice (some ⟨rb, 0, none⟩) m.r (m.r + 8), .int .i64 m.p] 25 (0, 0)) := by
    rw [hb1.block _ (by simp; omega)]; exact heap_alloc2_old _ _ _
  have k1 : w1.heap[w.heap.size + 1]? = some (.cells #[.slice none 0 0, .slice none 0 0, .int .i64 0] 25 (0, 0)) := by
    rw [hb1.block _ (by simp)]; exact heap_alloc2_new _ _ _
  have H1 : Hid (w1.ownsRow (w.heap.size + 2) 46 3 (.slice ca m.n cc) m.n (cpuL m) ∧ Below w.heap.size w w1 ∧ w1.heap[w.heap.size]? = some (.cells #[.slice (some ⟨cb, 0, none⟩) m.n (m.n + 8), .slice (some ⟨rb, 0, none⟩) m.r (m.r + 8), .int .i64 m.p] 25 (0, 0)) ∧
    w1.heap[w.heap.size + 1]? = some (.cells #[.slice none 0 0, .slice none 0 0, .int .i64 0] 25 (0, 0))) := ⟨by simpa using h1, hb1w, k0, k1⟩
  have F1 : Hid (Flat w1 (.slice ca m.n cc)) := f1
  clear f1
  obtain ⟨q0, q0f⟩ := blk k0
  clear hb1 h1 hb1w k0 k1
  go_wp2_with fail
  refine (clone23_any rb 0 m.r (m.r + 8) (resL m) _ hr (by simp [resL]) (fun j u hj => ?_) (fun u hu => ?_)).mono ?_
  · obtain ⟨hj', rfl⟩ := resL_get m j u hj
    exact HC.out.2 j hj' _ (H1.out.2.1.setCell (Nat.le_refl _) _)
  · obtain ⟨j, hj, rfl⟩ := List.mem_map.1 hu
    exact .inl ⟨_, _, rfl⟩
  rintro e w2 ⟨vr, rfl, h2, f2, hb2⟩
  obtain ⟨ra, rc, rfl⟩ := ownsRow_shape h2
  have hwz2 : w.heap.size + 1 < w2.heap.size := by have := hb2.size; simp at this; omega
  have F2 : Hid (Flat w2 (.slice ca m.n cc) ∧ Flat w2 (.slice ra m.r rc) ∧ (∀ b, (Value.slice ca m.n cc).ownBlock = some b → w.heap.size + 2 ≤ b) ∧ ∀ b, (Value.slice ra m.r rc).ownBlock = some b → w.heap.size + 2 ≤ b) := by
    have l1 : ∀ b, (Value.slice ca m.n cc).ownBlock = some b → w.heap.size + 2 ≤ b := fun b hb => (H1.out.1.lt b hb).1
    refine ⟨(F1.out.set (fun e => ?_) _).below hb2, f2, l1, fun b hb => ?_⟩
    · have := l1 _ e
      simp at this; omega
    · have := (h2.lt b hb).1
      simp at this; omega
  clear f2
  have h1' := ownsRow_below (ownsRow_setCell_below H1.out.1 (a := ⟨w.heap.size, 0, none⟩) (by show w.heap.size < w.heap.size + 2; omega) (.slice ca m.n cc)) hb2
  have k0 := (hb2.block w.heap.size (by simp; omega)).trans (blk_set (.slice ca m.n cc) H1.out.2.2.1)
  have k1 := (hb2.block (w.heap.size + 1) (by simp; omega)).trans (blk_other (.slice ca m.n cc) H1.out.2.2.2 (by simp))
  simp only [List.setIfInBounds_toArray, List.set_cons_zero] at k0
  have H2 : Hid (w2.ownsRow (w.heap.size + 2) 3 1 (.slice ra m.r rc) m.r (resL m) ∧ w2.ownsRow (w.heap.size + 2) 46 3 (.slice ca m.n cc) m.n (cpuL m) ∧ Below w.heap.size w w2) :=
    ⟨ownsRow_base h2 (by simp; omega), h1', (H1.out.2.1.setCell (Nat.le_refl _) _).trans (hb2.mono (by simp; omega))⟩
  clear hb2 h2 h1' q0 q0f
  obtain ⟨q0, q0f⟩ := blk k0
  obtain ⟨q1, q1f⟩ := blk k1
  have k0' := blk_set (i := 1) (.slice ra m.r rc) k0
  have k1' := blk_other (a := ⟨w.heap.size, 1, none⟩) (.slice ra m.r rc) k1 (by simp)
  simp only [List.setIfInBounds_toArray, List.set_cons_zero, List.set_cons_succ] at k0'
  obtain ⟨r0, r0f⟩ := blk k0'
  obtain ⟨r1, r1f⟩ := blk k1'
  clear k0 k1 k0' k1'
  go_wp2_with fail
  obtain ⟨z0, z1, z2⟩ := set3 (.slice ca m.n cc) (.slice ra m.r rc) (.int .i64 m.p) (r1 0) (r1 1) (r1 2)
  refine bodyPost_ret (v := .agg #[.slice ca m.n cc, .slice ra m.r rc, .int .i64 m.p]) ?_ rfl ⟨_, _, rfl, ?_, ?_, ⟨?_, ?_⟩, ?_⟩
  · simp [results, Tryz.results27, go_sem, z0, z1, z2]
  · exact ownsRow_base (ownsRow_setCell_below (ownsRow_setCell_below (ownsRow_setCell_below (ownsRow_setCell_below H2.out.2.1 (by show w.heap.size < w.heap.size + 2; omega) _) (by show w.heap.size + 1 < w.heap.size + 2; omega) _) (by show w.heap.size + 1 < w.heap.size + 2; omega) _) (by show w.heap.size + 1 < w.heap.size + 2; omega) _) (by omega)
  · exact ownsRow_base (ownsRow_setCell_below (ownsRow_setCell_below (ownsRow_setCell_below (ownsRow_setCell_below H2.out.1 (by show w.heap.size < w.heap.size + 2; omega) _) (by show w.heap.size + 1 < w.heap.size + 2; omega) _) (by show w.heap.size + 1 < w.heap.size + 2; omega) _) (by show w.heap.size + 1 < w.heap.size + 2; omega) _) (by omega)
  · have hn : ∀ k, k = w.heap.size ∨ k = w.heap.size + 1 → (Value.slice ca m.n cc).ownBlock ≠ some k := fun k hk e => by have := F2.out.2.2.1 k e; omega
    exact (((F2.out.1.set (hn _ (.inl rfl)) _).set (hn _ (.inr rfl)) _).set (hn _ (.inr rfl)) _).set (hn _ (.inr rfl)) _
  · have hn : ∀ k, k = w.heap.size ∨ k = w.heap.size + 1 → (Value.slice ra m.r rc).ownBlock ≠ some k := fun k hk e => by have := F2.out.2.2.2 k e; omega
    exact (((F2.out.2.1.set (hn _ (.inl rfl)) _).set (hn _ (.inr rfl)) _).set (hn _ (.inr rfl)) _).set (hn _ (.inr rfl)) _
  · exact (((H2.out.2.2.setCell (Nat.le_refl _) _).setCell (by show w.heap.size ≤ w.heap.size + 1; omega) _).setCell (by show w.heap.size ≤ w.heap.size + 1; omega) _).setCell (by show w.heap.size ≤ w.heap.size + 1; omega) _
def Mach.mine (m : Mach) (cb rb : Nat) : Mach := ⟨some ⟨cb, 0, none⟩, cb, 0, m.n, m.n + 8, m.S, m.N, m.C, some ⟨rb, 0, none⟩, rb, 0, m.r, m.r + 8, m.R, m.p⟩
theorem mine_at {m : Mach} {cb rb : Nat} {w : World} (hn : m.n * 24 ≤ 140737488355328) (hr : m.r * 8 ≤ 140737488355328) (hc : w.rowIs cb 46 ((m.n + 8) * 3) (hC m)) (hrr : w.rowIs rb 3 (m.r + 8) (hR m)) : (m.mine cb rb).At w := by
  refine ⟨by show m.n ≤ m.n + 8; omega, hn, fun _ => rfl, fun i hi => ?_, by show m.r ≤ m.r + 8; omega, hr, fun _ => rfl, fun i hi => ?_⟩
  · have hi : i < m.n := hi
    show w.cell? ⟨cb, 0 + i * 3, none⟩ = some (.int .i64 (m.S i)) ∧ w.cell? ⟨cb, 0 + i * 3 + 1, none⟩ = some (.int .i64 (m.N i)) ∧ w.cell? ⟨cb, 0 + i * 3 + 2, none⟩ = some (.int .i64 (m.C i))
    rw [Nat.zero_add, hc.cell (by omega), hc.cell (by omega), hc.cell (by omega)]
    unfold hC
    rw [if_pos (by omega), if_pos (by omega), if_pos (by omega), cpuCell_0, cpuCell_1, cpuCell_2]
    exact ⟨rfl, rfl, rfl⟩
  · have hi : i < m.r := hi
    show w.cell? ⟨rb, 0 + i, none⟩ = some (.int .i64 (m.R i))
    rw [Nat.zero_add, hrr.cell (by omega)]
    unfold hR
    rw [if_pos hi]
def newB (vc vr : Value) (p : Int) : Array Value := #[vc, vr, .int .i64 p, .slice none 0 0, .slice none 0 0, .slice none 0 0, .slice none 0 0, .slice none 0 0, .bool false, .int .i64 0]
structure BerthIs (w : World) (base bb : Nat) (m : Mach) (vc vr : Value) : Prop where
  blk : w.heap[bb]? = some (.cells (newB vc vr m.p) 57 (0, 0))
  cpus : w.ownsRow base 46 3 vc m.n (cpuL m)
  res : w.ownsRow base 3 1 vr m.r (resL m)
  base : base ≤ bb
  fcpu : Flat w vc
  fres : Flat w vr
set_option maxRecDepth 100000 in
set_option maxHeartbeats 1000000 in
theorem start_any (m : Mach) (cb rb : Nat) (w : World) (hn : m.n * 24 ≤ 140737488355328) (hr : m.r * 8 ≤ 140737488355328) (hc : w.rowIs cb 46 ((m.n + 8) * 3) (hC m)) (hrr : w.rowIs rb 3 (m.r + 8) (hR m)) :
    Calls Tryz.prog 13 #[.agg #[.slice (some ⟨cb, 0, none⟩) m.n (m.n + 8), .slice (some ⟨rb, 0, none⟩) m.r (m.r + 8), .int .i64 m.p]] w fun e w' => Below w.heap.size w w' ∧
      ((¬ m.ok ∧ e = .returned (.tuple #[.pointer none, .int .i64 1])) ∨ (m.ok ∧ ∃ bb vc vr, e = .returned (.tuple #[.pointer (some ⟨bb, 0, none⟩), .int .i64 0]) ∧ BerthIs w' w.heap.size bb m vc vr)) := by
  have hat := mine_at hn hr hc hrr
  by_cases hok : m.ok
  · have HK : Hid (m.ok ∧ (m.mine cb rb).At w ∧ w.rowIs cb 46 ((m.n + 8) * 3) (hC m) ∧ w.rowIs rb 3 (m.r + 8) (hR m)) := ⟨hok, hat, hc, hrr⟩
    clear hok hat hc hrr
    go_enter Tryz.func13, Tryz.ntmps13
    go_wp2_with fail
    refine (valid_any (m.mine cb rb) _ (HK.out.2.1.ext ((Below.refl _ _).alloc (Nat.le_refl _) _))).mono ?_
    rintro e w1 ⟨he, hb1⟩
    obtain rfl := he.is_true HK.out.1
    clear he
    have hb1w : Below w.heap.size w w1 := ext_trans ((Below.refl _ _).alloc (Nat.le_refl _) _) hb1
    have k0 : w1.heap[w.heap.size]? = some (.cells #[.slice (some ⟨cb, 0, none⟩) m.n (m.n + 8), .slice (some ⟨rb, 0, none⟩) m.r (m.r + 8), .int .i64 m.p] 25 (0, 0)) := by
      rw [hb1.block _ (by simp)]; exact heap_alloc_new _ _
    obtain ⟨q0, q0f⟩ := blk k0
    have HB : Hid (Below w.heap.size w w1) := hb1w
    clear hb1 k0 hb1w
    go_wp2_with fail
    refine (copy_any m cb rb _ hn hr (HK.out.2.2.1.of_block (HB.out.block _ HK.out.2.2.1.lt)) (HK.out.2.2.2.of_block (HB.out.block _ HK.out.2.2.2.lt))).mono ?_
    rintro e w2 ⟨vc, vr, rfl, h1, h2, hf, hb2⟩
    have HF : Hid (Flat w2 vc ∧ Flat w2 vr) := hf
    clear hf
    have HD : Hid (w2.ownsRow w1.heap.size 46 3 vc m.n (cpuL m) ∧ w2.ownsRow w1.heap.size 3 1 vr m.r (resL m) ∧ Below w.heap.size w w2) := ⟨h1, h2, ext_trans HB.out hb2⟩
    obtain ⟨ca, cc, rfl⟩ := ownsRow_shape h1
    obtain ⟨ra, rc, rfl⟩ := ownsRow_shape h2
    clear h1 h2 hb2
    go_wp2_with fail
    go_ret2
    have hs : w.heap.size ≤ w1.heap.size := HB.out.size
    have hs2 : w.heap.size ≤ w2.heap.size := HD.out.2.2.size
    refine ⟨HD.out.2.2.alloc hs2 _, .inr ⟨HK.out.1, _, _, _, rfl, ?_, ownsRow_base (HD.out.1.alloc _) hs, ownsRow_base (HD.out.2.1.alloc _) hs, hs2, HF.out.1.alloc _, HF.out.2.alloc _⟩⟩
    exact heap_alloc_new _ _
  · have HK : Hid (¬ m.ok ∧ (m.mine cb rb).At w) := ⟨hok, hat⟩
    clear hok hat hc hrr
    go_enter Tryz.func13, Tryz.ntmps13
    go_wp2_with fail
    refine (valid_any (m.mine cb rb) _ (HK.out.2.ext ((Below.refl _ _).alloc (Nat.le_refl _) _))).mono ?_
    rintro e w1 ⟨he, hb1⟩
    obtain rfl := he.is_false HK.out.1
    clear he
    have HB : Hid (Below w.heap.size w w1) := ext_trans ((Below.refl _ _).alloc (Nat.le_refl _) _) hb1
    clear hb1
    go_wp2_with fail
    go_ret2
    exact ⟨HB.out, .inl ⟨HK.out.1, rfl⟩⟩
end Go.Proofs.YtblkaenlajmhnaaGreatDoor
