/- The writer: check sum, list, as far as lengths go. -/
import Derived.Test.YtblkaenlajmhnaaGreatDoorH4
import Derived.OpenShut
namespace Go.Proofs.YtblkaenlajmhnaaGreatDoor
open Go.RowKit
attribute [local go_sem ↓] Go.wp_at_zero Go.wp_at_succ
attribute [local go_sem] After.cell After.frozen After.const
theorem u64_wrap (x : Int) : 0 ≤ IntKind.u64.wrap x ∧ IntKind.u64.wrap x < 18446744073709551616 := by
  have h := wf_wrap .u64 x
  simp [Lit.wf, IntKind.min, IntKind.max, IntKind.signed, IntKind.bits] at h
  omega
def U64 (e : Ending) : Prop := ∃ x : Int, e = .returned (.int .u64 x) ∧ 0 ≤ x ∧ x < 18446744073709551616
set_option maxRecDepth 100000 in
set_option maxHeartbeats 2000000 in
theorem checkSum_any (s : ByteArray) (w : World) (hs : s.size ≤ 140737488355328) :
    Calls Tryz.prog 90 #[.string s] w fun e w' => U64 e ∧ w' = w := by
  go_enter Tryz.func90, Tryz.ntmps90
  go_wp2
  go_loop [3, 7] (fun v i => ∃ (x : Int) (k : Nat), v = .int .u64 x ∧ (0 ≤ x ∧ x < 18446744073709551616) ∧ i = .int .i64 k ∧ k ≤ s.size) (fun _ i => s.size - (intOf i).toNat)
  case atStart => exact ⟨_, 0, rfl, ⟨by omega, by omega⟩, rfl, by omega⟩
  case round =>
    obtain ⟨x, k, rfl, hx, rfl, hk⟩ := hrel
    have HX : Hid (0 ≤ x ∧ x < 18446744073709551616) := hx
    clear hx
    by_cases hlt : k < s.size
    · have kn : (k : Int) < s.size := by omega
      go_wp2
      go_round
      case rel => exact ⟨_, k + 1, rfl, u64_wrap _, by go_num, by omega⟩
      case measure => simp [intOf]; omega
    · have kn : ¬ (k : Int) < s.size := by omega
      go_wp2
      go_ret
      exact ⟨⟨x, rfl, HX.out.1, HX.out.2⟩, rfl⟩
theorem joinTail_len (c : UInt8) (K : Nat) : ∀ (l : List (List UInt8)), (∀ x ∈ l, x.length ≤ K) → (Lib.joinTail [c] l).length ≤ (K + 1) * l.length
  | [], _ => by simp [Lib.joinTail]
  | a :: r, h => by
    have h1 := h a (by simp)
    have h2 := joinTail_len c K r (fun x hx => h x (List.mem_cons_of_mem _ hx))
    simp only [Lib.joinTail, List.map_cons, List.flatten_cons, List.length_append, List.length_cons, List.length_nil] at *
    rw [Nat.mul_add]
    omega
theorem join_len (c : UInt8) (K : Nat) (l : List (List UInt8)) (h : ∀ x ∈ l, x.length ≤ K) : (Lib.join l [c]).length ≤ (K + 1) * l.length := by
  cases l with
  | nil => simp [Lib.join_nil]
  | cons a r =>
    have h1 := h a (by simp)
    have h2 := joinTail_len c K r (fun x hx => h x (List.mem_cons_of_mem _ hx))
    rw [Lib.join_cons, List.length_append, List.length_cons, Nat.mul_add]
    omega
def TextUpTo (n : Nat) (e : Ending) : Prop := ∃ t : ByteArray, e = .returned (.string t) ∧ t.size ≤ n
theorem texts_of_own {w : World} {base : Nat} {v : Value} {n K : Nat} {xs : List Value} (h : w.ownsRow base 9 1 v n xs) (hx : ∀ u ∈ xs, Short K u) :
    ∃ ts : List ByteArray, xs = ts.map Value.string ∧ ts.length = n ∧ (∀ t ∈ ts, t.size ≤ K) ∧
      ((v = .slice none 0 0 ∧ n = 0) ∨ ∃ g cap, v = .slice (some ⟨g, 0, none⟩) n cap ∧ n ≤ cap ∧ g < w.heap.size ∧ ∀ (j : Nat) x, ts[j]? = some x → w.cell? ⟨g, 0 + j, none⟩ = some (.string x)) := by
  have hl : xs.length = n := by have := h.1; omega
  have hz : ∃ ts : List ByteArray, xs = ts.map Value.string ∧ ∀ t ∈ ts, t.size ≤ K := by
    clear hl h
    induction xs with
    | nil => exact ⟨[], rfl, by simp⟩
    | cons x r ih =>
      obtain ⟨ts, rfl, ht⟩ := ih (fun u hm => hx u (List.mem_cons_of_mem _ hm))
      obtain ⟨s, rfl, hs⟩ := hx x List.mem_cons_self
      exact ⟨s :: ts, rfl, fun t hm => by rcases List.mem_cons.1 hm with rfl | hm; exact hs; exact ht t hm⟩
  obtain ⟨ts, rfl, ht⟩ := hz
  have htl : ts.length = n := by simpa using hl
  refine ⟨ts, rfl, htl, ht, ?_⟩
  rcases h.2 with ⟨rfl, h0⟩ | ⟨g, cap, cur, rfl, _, hg, hn, hc, hs, htk⟩
  · exact .inl ⟨rfl, h0⟩
  · refine .inr ⟨g, cap, rfl, hn, (Array.getElem?_eq_some_iff.1 hg).1, fun j x hj => ?_⟩
    have e : (ts.map Value.string)[j]? = some (.string x) := by simp [hj]
    rw [Nat.zero_add, cell_of_row w g j cur _ (0, 0) hg]
    rw [← htk, List.getElem?_take] at e
    split at e
    · simpa using e
    · cases e
theorem join_any (c : UInt8) (v : Value) (n K base : Nat) (xs : List Value) (w : World) (h : w.ownsRow base 9 1 v n xs) (hx : ∀ u ∈ xs, Short K u) (hK : (K + 1) * n ≤ 140737488355328) :
    Calls Tryz.prog 87 #[v, .string ⟨#[c]⟩] w fun e w' => TextUpTo ((K + 1) * n) e ∧ Below w.heap.size w w' := by
  obtain ⟨ts, rfl, hl, ht, ⟨rfl, h0⟩ | ⟨g, cap, rfl, hcap, hg, hc⟩⟩ := texts_of_own h hx
  · refine (Tryz.strings_Join_none none 0 ⟨#[c]⟩ w).mono ?_
    rintro e w' ⟨rfl, rfl⟩
    exact ⟨⟨_, rfl, Nat.zero_le _⟩, Below.refl _ _⟩
  · have hj := join_len c K (ts.map (·.data.toList)) (fun x hx => by
      obtain ⟨t, htm, rfl⟩ := List.mem_map.1 hx
      have := ht t htm
      rw [← Lib.size_eq]; exact this)
    rw [List.length_map, hl] at hj
    have hn : n ≤ 140737488355328 := Nat.le_trans (Nat.le_mul_of_pos_left n (by omega)) hK
    have r := Tryz.strings_Join g 0 cap ts ⟨#[c]⟩ w hc hg (by omega) (by omega) (Nat.le_trans hj hK)
    rw [hl] at r
    refine r.mono ?_
    rintro e w' ⟨rfl, hb⟩
    exact ⟨⟨_, rfl, by simpa [ByteArray.size] using hj⟩, hb⟩
set_option maxRecDepth 100000 in
set_option maxHeartbeats 2000000 in
theorem list_any (v : Value) (n : Nat) (R : Nat → Int) (w : World) (hn : n ≤ 1099511627776) (h : Ints w v n R) (hR : ∀ i, i < n → I64 (R i)) (henv : Env w) :
    Calls Tryz.prog 85 #[v] w fun e w' => TextUpTo (22 * n + 1) e ∧ Below w.heap.size w w' := by
  have hF := h
  obtain ⟨ao, cap, rfl, hc, hm, _⟩ := h
  obtain ⟨i0, hi, hz0, hz1, hz2⟩ := info_parts Tryz.infoStr
  have hu := Tryz.underlying27
  have HF : Hid (Ints w (.slice ao n cap) n R ∧ (∀ i, i < n → I64 (R i)) ∧ Env w) := ⟨hF, hR, henv⟩
  clear hF hR henv
  by_cases h0 : n = 0
  · subst h0
    go_enter Tryz.func85, Tryz.ntmps85
    go_wp2
    go_ret
    exact ⟨⟨_, rfl, by show 1 ≤ 22 * 0 + 1; omega⟩, Below.refl _ _⟩
  have hn0 : ((n : Int) == 0) = false := by rw [beq_eq_false_iff_ne]; omega
  go_enter Tryz.func85, Tryz.ntmps85
  go_wp2
  go_loopw [3, 11] (fun v i wr => ∃ (k : Nat) (xs : List Value), k ≤ n ∧ i = .int .i64 k ∧ wr.ownsRow w.heap.size 9 1 v k xs ∧ (∀ u ∈ xs, Short 21 u) ∧ Below w.heap.size w wr) (fun _ i _ => n - (intOf i).toNat)
  case atStart => exact ⟨0, [], by omega, rfl, World.ownsRow_nil _ _ _ _, by simp, Below.refl _ _⟩
  case round =>
    obtain ⟨k, xs, hk, rfl, hown, hxs, hb⟩ := hrel
    have HR : Hid (wr.ownsRow w.heap.size 9 1 u3 k xs ∧ (∀ u ∈ xs, Short 21 u) ∧ Below w.heap.size w wr) := ⟨hown, hxs, hb⟩
    have hz : w.heap.size ≤ wr.heap.size := hb.size
    by_cases hlt : k < n
    · have kn : (k : Int) < n := by omega
      obtain ⟨ao', cap', he, _, _, hF⟩ := HF.out.1.ext hb
      cases he
      obtain ⟨b, o, hao, hF2⟩ := hF (by omega)
      subst hao
      have e1 := hF2 k hlt
      clear hF hF2 hb hown hxs
      go_wp2_with (first
        | (go_at_call 88; refine (itoa_any (R k) wr (HF.out.2.1 k hlt) (HF.out.2.2.ext HR.out.2.2)).mono ?_; rintro e w1 ⟨hb1, t, rfl, ht⟩; have H1 : Hid (Below wr.heap.size wr w1 ∧ t.size ≤ 21 ∧ wr.heap.size ≤ w1.heap.size) := ⟨hb1, ht, hb1.size⟩; clear hb1 ht)
        | (at_builtin; refine wpList_append_own _ rfl _ _ _ rfl w.heap.size 9 i0 _ 1 16 hu hi hz0 hz1 hz2 rfl (by omega) _ k xs rfl ((ownsRow_below HR.out.1 H1.out.1).alloc _) ⟨w1.heap.size, 0, none⟩ 1 1 [.string t] rfl rfl (cell_one_new _ _ _) (by intro u hu; simp at hu; subst hu; rfl) (by unfold maxLen; omega) (by omega) (by have := H1.out.2.2; simp; omega) ?_; intro v' w2 hown hgrow _))
      have HO : Hid (w2.ownsRow w.heap.size 9 1 v' (k + 1) (xs ++ [.string t]) ∧ (∀ u ∈ xs ++ [Value.string t], Short 21 u) ∧ Below w.heap.size w w2) := by
        refine ⟨hown, fun u hu => ?_, HR.out.2.2.trans ((H1.out.1.mono hz).trans (app_below (ownsRow_below HR.out.1 H1.out.1) hgrow (Nat.le_refl _) (Nat.le_trans hz H1.out.2.2)))⟩
        rcases List.mem_append.1 hu with hu | hu
        · exact HR.out.2.1 u hu
        · simp at hu; subst hu; exact ⟨t, rfl, H1.out.2.1⟩
      clear hown hgrow
      go_wp2
      go_roundw
      case rel => exact ⟨k + 1, _, by omega, by go_num, HO.out.1, HO.out.2.1, HO.out.2.2⟩
      case measure => simp [intOf]; omega
    · obtain rfl : k = n := by omega
      clear hb hown hxs
      go_wp2_with (go_at_call 87; refine (join_any 44 u3 k 21 w.heap.size xs wr HR.out.1 HR.out.2.1 (by omega)).mono ?_; rintro e w1 ⟨⟨t, rfl, ht⟩, hb1⟩)
      go_ret
      exact ⟨⟨t, rfl, by omega⟩, HR.out.2.2.trans (hb1.mono hz)⟩
end Go.Proofs.YtblkaenlajmhnaaGreatDoor
