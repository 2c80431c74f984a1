/- mayHave's small parts: names, what a box owns, what may be owned; a sorted row that one owns. ownedOnce: is each number owned at most once, and ownable? -/
import Derived.Test.YtblkaenlajmhnaaGreatDoorHM
import Derived.Test.YtblkaenlajmhnaaGreatDoorU1
import Derived.Test.YtblkaenlajmhnaaGreatDoorShelf
import Derived.Deep.RegionHeld3
namespace Go.Proofs.YtblkaenlajmhnaaGreatDoor
open Go.RowKit
attribute [local go_sem ↓] Go.wp_at_zero Go.wp_at_succ
attribute [local go_sem] After.cell After.frozen After.const
def YN (e : Ending) : Prop := ∃ b : Bool, e = .returned (.bool b)
theorem isName_any (s : ByteArray) (w : World) : Calls Tryz.prog 50 #[.string s] w fun e w' => YN e ∧ Below w.heap.size w w' := by
  by_cases h1 : (1 : Int) ≤ s.size
  · go_enter Tryz.func50, Tryz.ntmps50
    go_wp2
    go_ret
    exact ⟨⟨_, rfl⟩, Below.refl _ _⟩
  · go_enter Tryz.func50, Tryz.ntmps50
    go_wp2
    go_ret
    exact ⟨⟨_, rfl⟩, Below.refl _ _⟩
set_option maxRecDepth 100000 in
theorem owned_any (A : Nat → Option Addr) (N C : Nat → Nat) (r : Nat) (hr : r < 4) (w : World) : Calls Tryz.prog 69 #[GVal A N C, .int .i64 r] w fun e w' => e = .returned (.slice (A r) (N r) (C r)) ∧ Below w.heap.size w w' := by
  unfold GVal
  have hr4 : r = 0 ∨ r = 1 ∨ r = 2 ∨ r = 3 := by omega
  rcases hr4 with rfl | rfl | rfl | rfl
  all_goals
    go_enter Tryz.func69, Tryz.ntmps69
    go_wp2
    go_ret
    exact ⟨rfl, (Below.refl _ _).alloc (Nat.le_refl _) _⟩
set_option maxRecDepth 100000 in
set_option maxHeartbeats 2000000 in
theorem ownsAny_any (A : Nat → Option Addr) (N C : Nat → Nat) (w : World) : Calls Tryz.prog 51 #[GVal A N C] w fun e w' => YN e ∧ Below w.heap.size w w' := by
  unfold GVal
  obtain ⟨W0, hW0⟩ : ∃ W0, W0 = w.alloc (.cells #[.slice (A 0) (N 0) (C 0), .slice (A 1) (N 1) (C 1), .slice (A 2) (N 2) (C 2), .slice (A 3) (N 3) (C 3)] 39) := ⟨_, rfl⟩
  have hB0 : Below w.heap.size w W0 := by rw [hW0]; exact (Below.refl _ _).alloc (Nat.le_refl _) _
  have k0 : W0.heap[w.heap.size]? = some (.cells #[.slice (A 0) (N 0) (C 0), .slice (A 1) (N 1) (C 1), .slice (A 2) (N 2) (C 2), .slice (A 3) (N 3) (C 3)] 39 (0, 0)) := by rw [hW0]; exact heap_alloc_new _ _
  have H0 : Hid (W0.heap[w.heap.size]? = some (.cells #[.slice (A 0) (N 0) (C 0), .slice (A 1) (N 1) (C 1), .slice (A 2) (N 2) (C 2), .slice (A 3) (N 3) (C 3)] 39 (0, 0)) ∧ Below w.heap.size w W0) := ⟨k0, hB0⟩
  clear k0 hB0
  go_enter Tryz.func51, Tryz.ntmps51
  go_wp2
  rw [← hW0]
  clear hW0
  go_loopw [4] (fun i wr => ∃ k : Nat, k ≤ 4 ∧ i = .int .i64 k ∧ Below W0.heap.size W0 wr) (fun i _ => 4 - (intOf i).toNat)
  case atStart => exact ⟨0, by omega, rfl, Below.refl _ _⟩
  case round =>
    obtain ⟨k, hk, rfl, hb⟩ := hrel
    have HB : Hid (Below W0.heap.size W0 wr) := hb
    have g0 := (hb.block _ (Array.getElem?_eq_some_iff.1 H0.out.1).1).trans H0.out.1
    obtain ⟨q0, q0f⟩ := blk g0
    clear g0 hb
    by_cases hlt : k < 4
    · have hlt' : (k : Int) < 4 := by omega
      go_wp2_with (go_at_call 69; refine (owned_any A N C k hlt wr).mono ?_; rintro e w2 ⟨rfl, hb2⟩)
      · go_ret
        exact ⟨⟨_, rfl⟩, H0.out.2.trans ((HB.out.mono H0.out.2.size).trans (hb2.mono (Nat.le_trans H0.out.2.size HB.out.size)))⟩
      · go_roundw
        case rel => exact ⟨k + 1, by omega, by go_num, HB.out.trans (hb2.mono HB.out.size)⟩
        case measure => simp [intOf]; omega
    · have hlt' : ¬ (k : Int) < 4 := by omega
      go_wp2
      go_ret
      exact ⟨⟨_, rfl⟩, H0.out.2.trans (HB.out.mono H0.out.2.size)⟩
theorem mostOf_any (r : Nat) (_hr : r < 4) (w : World) : Calls Tryz.prog 83 #[.int .i64 r] w fun e w' => (∃ k : Nat, e = .returned (.int .i64 k) ∧ k ≤ 24) ∧ w' = w := by
  by_cases h0 : (r : Int) = 0
  · go_enter Tryz.func83, Tryz.ntmps83
    go_wp2
    go_ret
    exact ⟨⟨24, rfl, by omega⟩, rfl⟩
  · go_enter Tryz.func83, Tryz.ntmps83
    go_wp2
    go_ret
    exact ⟨⟨16, rfl, by omega⟩, rfl⟩
def SOwn (w : World) (base : Nat) (v : Value) (zs : List Int) : Prop := w.ownsRow base 3 1 v zs.length (zs.map (Value.int .i64)) ∧ zs.Pairwise (· ≤ ·)
set_option linter.unusedVariables false in
theorem below_cells {B b : Nat} {a : World} (hb : B ≤ b) : ∀ (vs : List Value) (o : Nat) (w : World), Below B a w → Below B a (w.setCells b o vs)
  | [], _, _, h => h
  | v :: r, o, w, h => below_cells hb r (o + 1) _ (h.setCell (p := ⟨b, o, none⟩) hb v)
theorem setCells_blk {g : Nat} {t : TypeId} : ∀ (vs : List Value) (o : Nat) (w : World) (cur : Array Value), w.heap[g]? = some (.cells cur t (0, 0)) →
    ∃ cur', (w.setCells g o vs).heap[g]? = some (.cells cur' t (0, 0)) ∧ cur'.size = cur.size ∧ (∀ j, j < o → cur'[j]? = cur[j]?) ∧ ∀ j, j < vs.length → o + j < cur.size → cur'[o + j]? = vs[j]?
  | [], _, _, cur, h => ⟨cur, h, rfl, fun _ _ => rfl, fun j hj => absurd hj (Nat.not_lt_zero _)⟩
  | v :: r, o, w, cur, h => by
    obtain ⟨cur', h1, h2, h3, h4⟩ := setCells_blk r (o + 1) (w.setCell ⟨g, o, none⟩ v) _ (blk_set (i := o) v h)
    refine ⟨cur', h1, by rw [h2]; simp, fun j hj => ?_, fun j hj ho => ?_⟩
    · rw [h3 j (by omega)]; simp [Array.getElem?_setIfInBounds]; omega
    · cases j with
      | zero => rw [Nat.add_zero, h3 o (by omega)]; simp [Array.getElem?_setIfInBounds]; omega
      | succ j =>
        have := h4 j (by simp at hj; omega) (by simp; omega)
        rw [show o + 1 + j = o + (j + 1) by omega] at this
        rw [this]; simp
theorem search_any (v : Value) (zs : List Int) (base : Nat) (x : Int) (w : World) (h : SOwn w base v zs) (hn : zs.length ≤ 1000) :
    Calls Tryz.prog 81 #[v, .int .i64 x] w fun e w' => (∃ (p : Nat) (f : Bool), e = .returned (.tuple #[.int .i64 p, .bool f]) ∧ (f = true → p < zs.length)) ∧ ∃ q, w' = w.drewN q := by
  rcases h.1.2 with ⟨rfl, h0⟩ | ⟨g, cap, cur, rfl, _, hg, hc, hm, hs, ht⟩
  · refine (Tryz.slices_BinarySearch_int_empty none 0 x w).mono ?_
    rintro e w' ⟨rfl, rfl⟩
    exact ⟨⟨0, false, rfl, by simp⟩, 0, rfl⟩
  · refine (Tryz.slices_BinarySearch_int g 0 zs.length cap zs x w (Nat.le_refl _) (by omega) (fun j hj => ?_) (by rw [List.take_length]; exact h.2)).mono ?_
    · have e : (zs.map (Value.int .i64))[j]? = some (.int .i64 (zs.getD j 0)) := by rw [List.getElem?_map, List.getElem?_eq_getElem hj]; simp [hj]
      rw [← ht, List.getElem?_take] at e
      split at e
      · rw [Nat.zero_add, cell_of_row w g j cur _ (0, 0) hg]; simpa using e
      · cases e
    · rintro e w' ⟨rfl, q, rfl⟩
      refine ⟨⟨_, _, rfl, fun hf => ?_⟩, q, rfl⟩
      rw [List.take_length] at hf ⊢
      have hx : x ∈ zs := by simpa using hf
      have := List.countP_le_length (p := fun y => decide (y < x)) (l := zs)
      rcases Nat.lt_or_ge (zs.countP fun y => decide (y < x)) zs.length with h2 | h2
      · exact h2
      · have h3 : zs.countP (fun y => decide (y < x)) = zs.length := by omega
        have := (List.countP_eq_length.1 h3) x hx
        simp at this
theorem del_any (v : Value) (zs : List Int) (base p : Nat) (w : World) (h : SOwn w base v zs) (hn : zs.length ≤ 1000) (hp : p < zs.length) :
    Calls Tryz.prog 82 #[v, .int .i64 p, .int .i64 ((p + 1 : Nat) : Int)] w fun e w' => ∃ v' zs', e = .returned v' ∧ SOwn w' base v' zs' ∧ zs'.length ≤ zs.length ∧ Below base w w' := by
  rcases h.1.2 with ⟨rfl, h0⟩ | ⟨g, cap, cur, rfl, hb, hg, hc, hm, hs, ht⟩
  · omega
  · refine (Tryz.slices_Delete_int_cells g 0 zs.length cap p (p + 1) zs w (Nat.le_refl _) hc (by unfold maxLen at hm; omega) (by omega) (by omega) (fun j hj => ?_) (fun j hj => (blk hg).2 _)).mono ?_
    · have e : (zs.map (Value.int .i64))[j]? = some (.int .i64 (zs.getD j 0)) := by rw [List.getElem?_map, List.getElem?_eq_getElem hj]; simp [hj]
      rw [← ht, List.getElem?_take] at e
      split at e
      · rw [Nat.zero_add, cell_of_row w g j cur _ (0, 0) hg]; simpa using e
      · cases e
    · rintro e w' ⟨rfl, q, rfl⟩
      rw [List.take_length, show p + 1 - p = 1 by omega]
      have hl : (zs.take p ++ zs.drop (p + 1)).length = zs.length - 1 := by simp; omega
      obtain ⟨cur', c1, c2, _, c4⟩ := setCells_blk ((zs.take p ++ zs.drop (p + 1) ++ List.replicate 1 0).map (Value.int .i64)) 0 (w.drewN q) cur hg
      refine ⟨_, zs.take p ++ zs.drop (p + 1), rfl, ⟨⟨by simp, .inr ⟨g, cap, cur', by rw [hl], hb, c1, by omega, hm, by omega, ?_⟩⟩, ?_⟩, by omega, ?_⟩
      · refine List.ext_getElem? fun j => ?_
        rw [List.getElem?_take, Nat.mul_one, hl]
        by_cases hj : j < zs.length - 1
        · rw [if_pos hj]
          have := c4 j (by simp; omega) (by rw [hs]; omega)
          rw [Nat.zero_add] at this
          rw [Array.getElem?_toList, this, List.getElem?_map, List.getElem?_map, List.getElem?_append_left (by omega)]
        · rw [if_neg hj, List.getElem?_eq_none (by rw [List.length_map]; omega)]
      · exact List.Pairwise.sublist (List.Sublist.trans (by rw [← List.eraseIdx_eq_take_drop_succ]; exact List.eraseIdx_sublist _ _) (List.Sublist.refl _)) h.2
      · exact below_cells hb _ _ _ ((Below.refl _ _).drewN q)
end Go.Proofs.YtblkaenlajmhnaaGreatDoor
namespace Go.Proofs.YtblkaenlajmhnaaGreatDoor
open Go.RowKit
attribute [local go_sem ↓] Go.wp_at_zero Go.wp_at_succ
attribute [local go_sem] After.cell After.frozen After.const
set_option maxRecDepth 100000 in
set_option maxHeartbeats 2000000 in
theorem isSorted_any (v : Value) (n : Nat) (R : Nat → Int) (w : World) (h : Ints w v n R) :
    Calls Tryz.prog 80 #[v] w fun e w' => YN e ∧ Below w.heap.size w w' := by
  obtain ⟨ao, cap, rfl, h1, h2, h3⟩ := h
  have HC : Hid (0 < n → ∃ b o, ao = some ⟨b, o, none⟩ ∧ IntAt w b o n R) := h3
  clear h3
  go_enter Tryz.func80, Tryz.ntmps80
  go_wp2
  go_loopw [3] (fun i wr => ∃ z : Int, i = .int .i64 z ∧ -1 ≤ z ∧ z < n ∧ Below w.heap.size w wr) (fun i _ => (intOf i).toNat)
  case atStart => exact ⟨(n : Int) - 1, rfl, by omega, by omega, Below.refl _ _⟩
  case round =>
    obtain ⟨z, rfl, hz1, hz2, hb⟩ := hrel
    have HB : Hid (Below w.heap.size w wr) := hb
    clear hb
    by_cases hlt : 0 < z
    · obtain ⟨k, rfl⟩ : ∃ k : Nat, z = k + 1 := ⟨(z - 1).toNat, by omega⟩
      obtain ⟨b, o, rfl, hc⟩ := HC.out (by omega)
      have hbl : b < w.heap.size := block_lt_of_cell (hc 0 (by omega))
      have c1 : wr.drew.cell? ⟨b, o + (k + 1), none⟩ = some (.int .i64 (R (k + 1))) := (HB.out.cell (p := ⟨b, o + (k + 1), none⟩) hbl).trans (hc (k + 1) (by omega))
      have c0 : wr.drew.cell? ⟨b, o + k, none⟩ = some (.int .i64 (R k)) := (HB.out.cell (p := ⟨b, o + k, none⟩) hbl).trans (hc k (by omega))
      have b1 : (0 : Int) ≤ ↑k + 1 := by omega
      have b3 : (0 : Int) ≤ ↑k := by omega
      have b4 : (k : Int) < n := by omega
      have b5 : ((k : Int) + 1).toNat = k + 1 := by omega
      have b6 : IntKind.i64.wrap (k : Int) = k := (by rw [IntKind.wrap_i64]; omega)
      have b7 : IntKind.i64.wrap ((k : Int) + 1 - 1) = k := by rw [Int.add_sub_cancel]; exact b6
      clear hc
      go_wp2_with fail
      go_region_held3 (fun w' => w'.cell? ⟨b, o + (k + 1), none⟩ = some (.int .i64 (R (k + 1))) ∧ w'.cell? ⟨b, o + k, none⟩ = some (.int .i64 (R k)) ∧ w' = wr.drew) (with_reducible (first | exact ⟨c1, c0, rfl⟩ | assumption))
        (first | (go_at_call 103; refine (Tryz.cmp_Less_int2 _ _ _).mono ?_; rintro e w2 ⟨rfl, rfl⟩))
      go_wp2
      · go_ret
        exact ⟨⟨_, rfl⟩, HB.out.drew⟩
      · go_roundw
        case rel => exact ⟨k, rfl, by omega, by omega, HB.out.drew⟩
        case measure => simp [intOf]
    · go_wp2
      go_ret
      exact ⟨⟨_, rfl⟩, HB.out⟩
end Go.Proofs.YtblkaenlajmhnaaGreatDoor
