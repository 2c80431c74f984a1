/- runningOf's parts: a clone of boxes, the closure, the first that doesn't run. runningOf: the closure, the first box that doesn't run, clear. DeleteFunc of boxes: those that run stay. -/
import Derived.Test.YtblkaenlajmhnaaGreatDoorHS
namespace Go.Proofs.YtblkaenlajmhnaaGreatDoor
open Go.RowKit
attribute [local go_sem ↓] Go.wp_at_zero Go.wp_at_succ
attribute [local go_sem] After.cell After.frozen After.const
theorem BoxCs.one {B0 : Nat} {X : World} {D : Nat} {x : List Value} (h : BoxCs B0 X D x) : ∀ u ∈ x, u.oneCell' = true := by
  obtain ⟨nm, A, N, C, R, rfl, _⟩ := h
  intro u hu
  simp at hu
  rcases hu with rfl | rfl | rfl | rfl | rfl <;> rfl
theorem BoxRow.one {B0 : Nat} {X : World} {D : Nat} {xs : List Value} (h : BoxRow B0 X D xs) : ∀ u ∈ xs, u.oneCell' = true := by
  obtain ⟨l, rfl, hl⟩ := h
  intro u hu
  obtain ⟨x, hx, hu⟩ := List.mem_flatten.1 hu
  exact (hl x hx).one u hu
theorem row_cells {w : World} {base n sz : Nat} {e : TypeId} {g cap : Nat} {xs : List Value} (h : w.ownsRow base e sz (.slice (some ⟨g, 0, none⟩) n cap) n xs) : ∀ j u, xs[j]? = some u → w.cell? ⟨g, j, none⟩ = some u := fun j u hu => by
  rcases h.2 with ⟨hv, _⟩ | ⟨g', cap', cur, hv, _, hg, _, _, _, ht⟩
  · cases hv
  · cases hv
    rw [← ht, List.getElem?_take] at hu
    split at hu
    · rw [cell_of_row w g j cur _ (0, 0) hg]; simpa using hu
    · cases hu
def RowRet (B0 n : Nat) (xs : List Value) (e : Ending) (w' : World) : Prop := ∃ v', e = .returned v' ∧ w'.ownsRow B0 63 5 v' n xs
set_option maxRecDepth 100000 in
set_option maxHeartbeats 1000000 in
theorem cloneB_any (v : Value) (base B0 n D : Nat) (xs : List Value) (w : World) (hn : n ≤ 1048576) (h : w.ownsRow base 63 5 v n xs) (hx : BoxRow B0 w D xs) :
    Calls Tryz.prog 18 #[v] w fun e w' => RowRet w.heap.size n xs e w' ∧ Below w.heap.size w w' := by
  have h' := h
  rcases h.2 with ⟨rfl, h0⟩ | ⟨g, cap, cur, rfl, _, hg, hc, hm, hs, ht⟩
  · have hx0 : xs = [] := by have := h.1; rw [h0] at this; exact List.eq_nil_of_length_eq_zero (by omega)
    subst hx0
    subst h0
    have heq := fun (W : World) => Lib.run_eql_slice_nil (P := Tryz.prog) W 35 63 none 0 0 0 0 und_boxes
    go_enter Tryz.func18, Tryz.ntmps18
    go_wp2
    go_ret
    exact ⟨⟨_, rfl, World.ownsRow_nil _ _ _ _⟩, Below.refl _ _⟩
  · have heq := fun (W : World) => Lib.run_eql_slice_nil (P := Tryz.prog) W 35 63 (some ⟨g, 0, none⟩) n cap 0 0 und_boxes
    obtain ⟨i, hi, hz0, hz1, hz2⟩ := info_parts info_box
    have hu := und_boxes
    have hcell := row_cells h'
    have HX : Hid ((∀ j u, xs[j]? = some u → (w.alloc (.cells #[] 63)).cell? ((⟨g, 0, none⟩ : Addr).add j) = some u) ∧ (∀ u ∈ xs, u.oneCell' = true) ∧ xs.length = n * 5 ∧ (w.alloc (.cells #[] 63)).ownsRow w.heap.size 63 5 (.slice (some ⟨w.heap.size, 0, none⟩) 0 0) 0 []) :=
      ⟨fun j u hj => by rw [Addr.add_lit, Nat.zero_add, World.cell?_alloc_past _ _ _ (block_lt_of_cell (hcell j u hj))]; exact hcell j u hj, hx.one, h'.1, by simp, .inr ⟨w.heap.size, 0, #[], rfl, Nat.le_refl _, heap_alloc_new _ _, Nat.le_refl _, by unfold maxLen; omega, by simp, by simp⟩⟩
    clear h h' hx hg hs ht hcell
    go_enter Tryz.func18, Tryz.ntmps18
    go_wp2_with (at_builtin; go_loud (refine wpList_append_own _ rfl _ _ _ rfl w.heap.size 63 i _ 5 112 hu hi hz0 hz1 hz2 rfl (by omega) _ 0 [] rfl HX.out.2.2.2 ⟨g, 0, none⟩ n cap xs (by rfl) HX.out.2.2.1 HX.out.1 HX.out.2.1 (by unfold maxLen; omega) (by omega) (by simp) ?_); intro v' w1 hown hgrow _)
    go_ret
    refine ⟨⟨_, rfl, ?_⟩, ((Below.refl _ _).alloc (Nat.le_refl _) _).grown hgrow (by simp) (fun k hk => by cases hk; exact Nat.le_refl _)⟩
    simpa using hown
end Go.Proofs.YtblkaenlajmhnaaGreatDoor
namespace Go.Proofs.YtblkaenlajmhnaaGreatDoor
open Go.RowKit
attribute [local go_sem ↓] Go.wp_at_zero Go.wp_at_succ
attribute [local go_sem] After.cell After.frozen After.const
def Names (w : World) (v : Value) (k : Nat) : Prop := ∃ ao cap, v = .slice ao k cap ∧ k ≤ 9223372036854775807 ∧ (0 < k → ∃ b o, ao = some ⟨b, o, none⟩ ∧ b < w.heap.size ∧ ∀ j, j < k → ∃ s : ByteArray, w.cell? ⟨b, o + j, none⟩ = some (.string s))
theorem Names.ext {w w' : World} {v : Value} {k B : Nat} (h : Names w v k) (hB : w.heap.size ≤ B) (hb : Below B w w') : Names w' v k := by
  obtain ⟨ao, cap, rfl, h1, h2⟩ := h
  refine ⟨ao, cap, rfl, h1, fun h0 => ?_⟩
  obtain ⟨b, o, rfl, hl, hi⟩ := h2 h0
  refine ⟨b, o, rfl, Nat.lt_of_lt_of_le hl hb.size, fun j hj => ?_⟩
  obtain ⟨s, e⟩ := hi j hj
  exact ⟨s, (hb.cell (p := ⟨b, _, none⟩) (Nat.lt_of_lt_of_le hl hB)).trans e⟩
theorem names_list {w : World} {b o : Nat} : ∀ k, (∀ j, j < k → ∃ s : ByteArray, w.cell? ⟨b, o + j, none⟩ = some (.string s)) → ∃ zs : List ByteArray, zs.length = k ∧ ∀ j, j < zs.length → w.cell? ⟨b, o + j, none⟩ = some (.string (zs.getD j ByteArray.empty))
  | 0, _ => ⟨[], rfl, fun j hj => absurd hj (Nat.not_lt_zero _)⟩
  | k + 1, h => by
    obtain ⟨zs, hl, hz⟩ := names_list k (fun j hj => h j (by omega))
    obtain ⟨s, hs⟩ := h k (by omega)
    refine ⟨zs ++ [s], by simp [hl], fun j hj => ?_⟩
    by_cases hjk : j < k
    · rw [hz j (by omega)]
      simp [List.getD, List.getElem?_append_left (show j < zs.length by omega)]
    · obtain rfl : j = k := by simp at hj; omega
      rw [hs]
      simp [List.getD, ← hl]
theorem containsS_any (v : Value) (k : Nat) (s : ByteArray) (w : World) (h : Names w v k) :
    Calls Tryz.prog 33 #[v, .string s] w fun e w' => YN e ∧ w' = w := by
  obtain ⟨ao, cap, rfl, h1, h2⟩ := h
  by_cases h0 : k = 0
  · subst h0
    refine (Tryz.slices_Contains_string_empty ao cap s w).mono ?_
    rintro e w' ⟨rfl, rfl⟩
    exact ⟨⟨_, rfl⟩, rfl⟩
  · obtain ⟨b, o, rfl, _, hi⟩ := h2 (by omega)
    obtain ⟨zs, hl, hz⟩ := names_list k hi
    refine (Tryz.slices_Contains_string b o k cap zs s w (by omega) h1 hz).mono ?_
    rintro e w' ⟨rfl, rfl⟩
    exact ⟨⟨_, rfl⟩, rfl⟩
set_option maxRecDepth 100000 in
theorem runs_any (nm : ByteArray) (v0 v1 v2 v3 nv : Value) (rb k : Nat) (w : World) (hr : w.heap[rb]? = some (.cells #[nv] 27 (0, 0))) (h : Names w nv k) :
    Calls Tryz.prog 32 #[.agg #[.string nm, v0, v1, v2, v3], .pointer (some ⟨rb, 0, none⟩)] w fun e w' => YN e ∧ Below w.heap.size w w' := by
  have hl := (Array.getElem?_eq_some_iff.1 hr).1
  obtain ⟨W0, hW0⟩ : ∃ W0, W0 = w.alloc (.cells #[.string nm, v0, v1, v2, v3] 63) := ⟨_, rfl⟩
  have b0 : Below w.heap.size w W0 := by rw [hW0]; exact (Below.refl _ _).alloc (Nat.le_refl _) _
  have HN := HidI (And.intro (h.ext (Nat.le_refl _) b0) b0)
  obtain ⟨q0, q0f⟩ := blk ((b0.block _ hl).trans hr)
  clear hr h b0
  obtain ⟨ao, cap, rfl, _⟩ := HN.out.1
  subst hW0
  go_enter Tryz.func32, Tryz.ntmps32
  go_wp2_with (go_at_call 33; refine (containsS_any _ k nm _ HN.out.1).mono ?_; rintro e w1 ⟨⟨b1, rfl⟩, rfl⟩)
  go_ret
  exact ⟨⟨_, rfl⟩, HN.out.2⟩
def PlaceB (n : Nat) (e : Ending) : Prop := ∃ z : Int, e = .returned (.int .i64 z) ∧ -1 ≤ z ∧ z < n
set_option maxRecDepth 100000 in
set_option maxHeartbeats 1000000 in
theorem indexB_any (v f nv : Value) (rb k n D : Nat) (w : World) (h : Boxes w v n D) (hr : w.heap[rb]? = some (.cells #[nv] 27 (0, 0))) (hn : Names w nv k) (hf : f = .func (.func 32) #[] #[.pointer (some ⟨rb, 0, none⟩)]) :
    Calls Tryz.prog 54 #[v, f] w fun e w' => PlaceB n e ∧ Below w.heap.size w w' := by
  have hF := h
  obtain ⟨ao, cap, rfl, hc, hm, ha⟩ := h
  subst hf
  have HF := HidI (And.intro hF (And.intro hr hn))
  clear hF hr hn ha
  go_enter Tryz.func54, Tryz.ntmps54
  go_wp2
  go_loopw [8] (fun i wr => ∃ k : Nat, k ≤ n ∧ i = .int .i64 k ∧ Below w.heap.size w wr) (fun i _ => n - (intOf i).toNat)
  case atStart => exact ⟨0, by omega, rfl, Below.refl _ _⟩
  case round =>
    obtain ⟨i, hi, rfl, hb⟩ := hrel
    have HB := HidI hb
    by_cases hlt : i < n
    · have kn : (i : Int) < n := by omega
      obtain ⟨ao', cap', he, _, _, hF⟩ := HF.out.1.ext hb
      cases he
      obtain ⟨b, o, hao, hbl2, hF2⟩ := hF (by omega)
      subst hao
      obtain ⟨nm, A, N, C, R, e0, e1, e2, e3, e4, _, _, _⟩ := hF2 i hlt
      clear hF hF2 hb
      go_wp2_with (go_at_call 32; refine (runs_any nm _ _ _ _ nv rb k wr ((HB.out.block _ (Array.getElem?_eq_some_iff.1 HF.out.2.1).1).trans HF.out.2.1) (HF.out.2.2.ext (Nat.le_refl _) HB.out)).mono ?_; rintro e w1 ⟨⟨b1, rfl⟩, hb1⟩; have H1 := HidI (HB.out.trans (hb1.mono HB.out.size)); clear hb1; cases b1)
      all_goals first
        | (go_ret; exact ⟨⟨i, rfl, by omega, by omega⟩, H1.out⟩)
        | (go_roundw
           case rel => exact ⟨i + 1, by omega, by go_num, H1.out⟩
           case measure => simp [intOf]; omega)
    · have : i = n := by omega
      subst this
      clear hb
      go_wp2
      go_ret
      exact ⟨⟨-1, rfl, by omega, by omega⟩, HB.out⟩
end Go.Proofs.YtblkaenlajmhnaaGreatDoor
namespace Go.Proofs.YtblkaenlajmhnaaGreatDoor
open Go.RowKit
attribute [local go_sem ↓] Go.wp_at_zero Go.wp_at_succ
attribute [local go_sem] After.cell After.frozen After.const
theorem setCells_blk2 {g : Nat} {t : TypeId} : ∀ (vs : List Value) (o : Nat) (w : World) (cur : Array Value), w.heap[g]? = some (.cells cur t (0, 0)) →
    ∃ cur', (w.setCells g o vs).heap[g]? = some (.cells cur' t (0, 0)) ∧ cur'.size = cur.size ∧ (∀ j, (j < o ∨ o + vs.length ≤ j) → cur'[j]? = cur[j]?) ∧ ∀ j, j < vs.length → o + j < cur.size → cur'[o + j]? = vs[j]?
  | [], _, _, cur, h => ⟨cur, h, rfl, fun _ _ => rfl, fun j hj => absurd hj (Nat.not_lt_zero _)⟩
  | v :: r, o, w, cur, h => by
    obtain ⟨cur', h1, h2, h3, h4⟩ := setCells_blk2 r (o + 1) (w.setCell ⟨g, o, none⟩ v) _ (blk_set (i := o) v h)
    refine ⟨cur', h1, by rw [h2]; simp, fun j hj => ?_, fun j hj ho => ?_⟩
    · rw [h3 j (by simp at hj; omega)]; simp [Array.getElem?_setIfInBounds]; simp at hj; omega
    · cases j with
      | zero => rw [Nat.add_zero, h3 o (by omega)]; simp [Array.getElem?_setIfInBounds]; omega
      | succ j =>
        have := h4 j (by simp at hj; omega) (by simp; omega)
        rw [show o + 1 + j = o + (j + 1) by omega] at this
        rw [this]; simp
theorem tkeep_cells {B0 g : Nat} {t : TypeId} (ht : t ≠ 3) : ∀ (vs : List Value) (o : Nat) (w : World) (cur : Array Value), w.heap[g]? = some (.cells cur t (0, 0)) → TKeep B0 w (w.setCells g o vs)
  | [], _, w, _, _ => TKeep.refl _ w
  | v :: r, o, w, _, h => (TKeep.setCell h ht o v).trans (tkeep_cells ht r (o + 1) (w.setCell ⟨g, o, none⟩ v) _ (blk_set (i := o) v h))
def Row (B0 : Nat) (w : World) (base g n cap D : Nat) (l : List (List Value)) : Prop := w.ownsRow base 63 5 (.slice (some ⟨g, 0, none⟩) n cap) n l.flatten ∧ ∀ x ∈ l, BoxCs B0 w D x
theorem Row.len {B0 base g n cap D : Nat} {w : World} {l : List (List Value)} (h : Row B0 w base g n cap D l) : l.length = n := by
  have h1 := (flat5 l (fun x hx => (h.2 x hx).len)).1
  have := h.1.1
  omega
theorem Row.blk {B0 base g n cap D : Nat} {w : World} {l : List (List Value)} (h : Row B0 w base g n cap D l) : ∃ cur, base ≤ g ∧ w.heap[g]? = some (.cells cur 63 (0, 0)) ∧ n ≤ cap ∧ cap ≤ maxLen ∧ cur.size = cap * 5 ∧ cur.toList.take (n * 5) = l.flatten := by
  rcases h.1.2 with ⟨hv, _⟩ | ⟨g', cap', cur, hv, r⟩
  · cases hv
  · cases hv; exact ⟨cur, r⟩
theorem Row.set {B0 base g n cap D i : Nat} {w : World} {l : List (List Value)} (h : Row B0 w base g n cap D l) (hi : i < n) {x : List Value} (hx : BoxCs B0 w D x) : Row B0 (w.setCells g (i * 5) x) base g n cap D (l.set i x) := by
  obtain ⟨cur, hb, hg, hc, hm, hs, ht⟩ := h.blk
  have hl := h.len
  have hx5 := hx.len
  obtain ⟨cur', c1, c2, c3, c4⟩ := setCells_blk2 x (i * 5) w cur hg
  have tk : TKeep B0 w (w.setCells g (i * 5) x) := tkeep_cells (by decide) x (i * 5) w cur hg
  have f0 := flat5 l (fun y hy => (h.2 y hy).len)
  have hset : ∀ y ∈ l.set i x, BoxCs B0 w D y := fun y hy => by
    rcases List.mem_or_eq_of_mem_set hy with hy | rfl
    · exact h.2 y hy
    · exact hx
  have f1 := flat5 (l.set i x) (fun y hy => (hset y hy).len)
  have hlen : (l.set i x).flatten.length = n * 5 := by rw [f1.1, List.length_set, hl]
  refine ⟨⟨hlen, .inr ⟨g, cap, cur', rfl, hb, c1, hc, hm, by rw [c2, hs], List.ext_getElem? fun j => ?_⟩⟩, fun y hy => (hset y hy).keep tk⟩
  rw [List.getElem?_take]
  by_cases hj : j < n * 5
  · rw [if_pos hj, Array.getElem?_toList]
    obtain ⟨q, s, hs5, rfl⟩ : ∃ q s, s < 5 ∧ j = q * 5 + s := ⟨j / 5, j % 5, Nat.mod_lt _ (by omega), by omega⟩
    have hq : q < l.length := by omega
    rw [f1.2 q s _ (List.getElem?_eq_getElem (by rw [List.length_set]; exact hq)) hs5]
    by_cases hqi : q = i
    · subst hqi
      rw [c4 s (by omega) (by rw [hs]; have := Nat.mul_le_mul_right 5 hc; omega)]
      simp
    · rw [c3 _ (by omega)]
      have e2 := f0.2 q s _ (List.getElem?_eq_getElem hq) hs5
      rw [← ht, List.getElem?_take, if_pos hj, Array.getElem?_toList] at e2
      rw [e2]
      simp [Ne.symm hqi]
  · rw [if_neg hj, List.getElem?_eq_none (by omega)]
theorem Row.cut {B0 base g n cap D k : Nat} {w : World} {l : List (List Value)} (h : Row B0 w base g n cap D l) (hk : k ≤ n) (vs : List Value) : Row B0 (w.setCells g (k * 5) vs) base g k cap D (l.take k) := by
  obtain ⟨cur, hb, hg, hc, hm, hs, ht⟩ := h.blk
  have hl := h.len
  obtain ⟨cur', c1, c2, c3, _⟩ := setCells_blk2 vs (k * 5) w cur hg
  have tk : TKeep B0 w (w.setCells g (k * 5) vs) := tkeep_cells (by decide) vs (k * 5) w cur hg
  have f0 := flat5 l (fun y hy => (h.2 y hy).len)
  have f1 := flat5 (l.take k) (fun y hy => (h.2 y (List.mem_of_mem_take hy)).len)
  have hlen : (l.take k).flatten.length = k * 5 := by rw [f1.1, List.length_take, hl]; omega
  have hk5 : k * 5 ≤ n * 5 := Nat.mul_le_mul_right 5 hk
  refine ⟨⟨hlen, .inr ⟨g, cap, cur', rfl, hb, c1, by omega, hm, by rw [c2, hs], List.ext_getElem? fun j => ?_⟩⟩, fun y hy => (h.2 y (List.mem_of_mem_take hy)).keep tk⟩
  rw [List.getElem?_take]
  by_cases hj : j < k * 5
  · rw [if_pos hj, Array.getElem?_toList, c3 j (.inl hj)]
    obtain ⟨q, s, hs5, rfl⟩ : ∃ q s, s < 5 ∧ j = q * 5 + s := ⟨j / 5, j % 5, Nat.mod_lt _ (by omega), by omega⟩
    have hq : q < l.length := by omega
    rw [f1.2 q s l[q] (by rw [List.getElem?_take, if_pos (by omega)]; exact List.getElem?_eq_getElem hq) hs5]
    have e2 := f0.2 q s _ (List.getElem?_eq_getElem hq) hs5
    rw [← ht, List.getElem?_take, if_pos (by omega), Array.getElem?_toList] at e2
    exact e2
  · rw [if_neg hj, List.getElem?_eq_none (by omega)]
end Go.Proofs.YtblkaenlajmhnaaGreatDoor
