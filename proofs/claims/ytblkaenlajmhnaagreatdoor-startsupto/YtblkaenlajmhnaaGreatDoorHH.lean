/- A box's line. -/
import Derived.Test.YtblkaenlajmhnaaGreatDoorHB
import Derived.Test.YtblkaenlajmhnaaGreatDoorHG
import Derived.Test.YtblkaenlajmhnaaGreatDoorJ1
namespace Go.Proofs.YtblkaenlajmhnaaGreatDoor
open Go.RowKit
attribute [local go_sem ↓] Go.wp_at_zero Go.wp_at_succ
attribute [local go_sem] After.cell After.frozen After.const
def Total (xs : List Value) (S : Nat) : Prop := ∃ ts : List ByteArray, xs = ts.map Value.string ∧ sum ts ≤ S
theorem Total.one (t : ByteArray) : Total [.string t] t.size := ⟨[t], rfl, by simp [sum]⟩
theorem Total.app {xs : List Value} {S : Nat} (h : Total xs S) (t : ByteArray) : Total (xs ++ [.string t]) (S + t.size) := by
  obtain ⟨ts, rfl, hs⟩ := h
  refine ⟨ts ++ [t], by simp, ?_⟩
  have : sum (ts ++ [t]) = sum ts + t.size := by simp [sum]
  omega
theorem joinTail_sum (c : UInt8) : ∀ (l : List ByteArray), (Lib.joinTail [c] (l.map (·.data.toList))).length = sum l + l.length
  | [] => by simp [Lib.joinTail, sum]
  | a :: r => by
    have h2 := joinTail_sum c r
    have e : a.data.toList.length = a.size := (Lib.size_eq a).symm
    rw [sum_cons]
    simp only [Lib.joinTail, List.map_cons, List.flatten_cons, List.length_append, List.length_cons, List.length_nil] at *
    omega
theorem join_sum (c : UInt8) (l : List ByteArray) : (Lib.join (l.map (·.data.toList)) [c]).length ≤ sum l + l.length := by
  cases l with
  | nil => simp [Lib.join_nil]
  | cons a r =>
    have h2 := joinTail_sum c r
    have e : a.data.toList.length = a.size := (Lib.size_eq a).symm
    rw [List.map_cons, Lib.join_cons, List.length_append, sum_cons, List.length_cons]
    omega
theorem total_short {xs : List Value} {S : Nat} (h : Total xs S) : ∀ u ∈ xs, Short S u := by
  obtain ⟨ts, rfl, hs⟩ := h
  intro u hu
  obtain ⟨t, ht, rfl⟩ := List.mem_map.1 hu
  refine ⟨t, rfl, Nat.le_trans ?_ hs⟩
  clear hs hu
  induction ts with
  | nil => cases ht
  | cons a r ih =>
    rw [sum_cons]
    rcases List.mem_cons.1 ht with rfl | ht
    · omega
    · have := ih ht; omega
theorem join_tot (c : UInt8) (v : Value) (n S base : Nat) (xs : List Value) (w : World) (h : w.ownsRow base 9 1 v n xs) (hx : Total xs S) (hK : S + n ≤ 140737488355328) :
    Calls Tryz.prog 87 #[v, .string ⟨#[c]⟩] w fun e w' => TextUpTo (S + n) e ∧ Below w.heap.size w w' := by
  obtain ⟨ts0, e0, hs0⟩ := hx
  obtain ⟨ts, e1, hl, _, hc⟩ := texts_of_own (K := S) h (total_short ⟨ts0, e0, hs0⟩)
  have hts : ts = ts0 := by
    rw [e0] at e1
    exact ((List.map_inj_right (fun a b hab => by cases hab; rfl)).1 e1).symm
  subst hts
  rcases hc with ⟨rfl, h0⟩ | ⟨g, cap, rfl, hcap, hg, hc⟩
  · subst h0
    refine (Tryz.strings_Join_none none 0 ⟨#[c]⟩ w).mono ?_
    rintro e w' ⟨rfl, rfl⟩
    exact ⟨⟨_, rfl, Nat.zero_le _⟩, Below.refl _ _⟩
  · have hj := join_sum c ts
    have r := Tryz.strings_Join g 0 cap ts ⟨#[c]⟩ w hc hg (by omega) (by omega) (Nat.le_trans hj (by omega))
    rw [hl] at r
    refine r.mono ?_
    rintro e w' ⟨rfl, hb⟩
    refine ⟨⟨_, rfl, ?_⟩, hb⟩
    show (Lib.join (ts.map (·.data.toList)) [c]).toArray.size ≤ _
    simp only [List.size_toArray]
    omega
def BoxV (nm : ByteArray) (A : Nat → Option Addr) (N C : Nat → Nat) : Value := .agg #[.string nm, .slice (A 0) (N 0) (C 0), .slice (A 1) (N 1) (C 1), .slice (A 2) (N 2) (C 2), .slice (A 3) (N 3) (C 3)]
set_option maxRecDepth 100000 in
set_option maxHeartbeats 4000000 in
theorem line_any (nm : ByteArray) (A : Nat → Option Addr) (N C : Nat → Nat) (R : Nat → Nat → Int) (w : World) (hG : GInts w A N C R) (hI : ∀ q, q < 4 → ∀ i, i < N q → I64 (R q i)) (hn : nm.size ≤ 1099511627776) (hN : ∀ q, q < 4 → N q ≤ 1099511627776) (henv : Env w) :
    Calls Tryz.prog 59 #[BoxV nm A N C] w fun e w' => TextUpTo (22 * (N 0 + N 1 + N 2 + N 3) + 10 * nm.size + 12) e ∧ Below w.heap.size w w' := by
  have HG : Hid (GInts w A N C R ∧ (∀ q, q < 4 → ∀ i, i < N q → I64 (R q i)) ∧ (∀ q, q < 4 → N q ≤ 1099511627776) ∧ Env w) := ⟨hG, hI, hN, henv⟩
  have n0 := hN 0 (by omega)
  have n1 := hN 1 (by omega)
  have n2 := hN 2 (by omega)
  have n3 := hN 3 (by omega)
  clear hG hI hN henv
  obtain ⟨i0, hi, hz0, hz1, hz2⟩ := info_parts Tryz.infoStr
  have hu := Tryz.underlying27
  unfold BoxV
  go_enter Tryz.func59, Tryz.ntmps59
  have ix0 := fun W => (by kernel_rfl : Sem.run Tryz.prog (Instr.index 37 (.agg #[.slice (A 1) (N 1) (C 1), .slice (A 2) (N 2) (C 2), .slice (A 3) (N 3) (C 3)]) (.int .i64 0)) W = .ok (.slice (A 1) (N 1) (C 1)) W)
  have ix1 := fun W => (by kernel_rfl : Sem.run Tryz.prog (Instr.index 37 (.agg #[.slice (A 1) (N 1) (C 1), .slice (A 2) (N 2) (C 2), .slice (A 3) (N 3) (C 3)]) (.int .i64 1)) W = .ok (.slice (A 2) (N 2) (C 2)) W)
  have ix2 := fun W => (by kernel_rfl : Sem.run Tryz.prog (Instr.index 37 (.agg #[.slice (A 1) (N 1) (C 1), .slice (A 2) (N 2) (C 2), .slice (A 3) (N 3) (C 3)]) (.int .i64 2)) W = .ok (.slice (A 3) (N 3) (C 3)) W)
  go_wp2_with fail
  have hbw0 : Below w.heap.size w (w.alloc (.cells #[.string nm, .slice (A 0) (N 0) (C 0), .slice (A 1) (N 1) (C 1), .slice (A 2) (N 2) (C 2), .slice (A 3) (N 3) (C 3)] 63)) := (Below.refl _ _).alloc (Nat.le_refl _) _
  refine (list_any _ (N 0) (R 0) _ n0 ((HG.out.1 0 (by omega)).ext hbw0) (HG.out.2.1 0 (by omega)) (HG.out.2.2.2.ext hbw0)).mono ?_
  rintro e w1 ⟨⟨t0, rfl, ht0⟩, hb1⟩
  have hw1 : w1.heap[w.heap.size]? = some (.cells #[.string nm, .slice (A 0) (N 0) (C 0), .slice (A 1) (N 1) (C 1), .slice (A 2) (N 2) (C 2), .slice (A 3) (N 3) (C 3)] 63 (0, 0)) := by
    rw [hb1.block _ (by simp)]; exact heap_alloc_new _ _
  have hz1' : w.heap.size + 1 ≤ w1.heap.size := by have := hb1.size; simpa using this
  have HZ : Hid (0 = 0) := rfl
  have HA : Hid (w1.heap[w.heap.size]? = some (.cells #[.string nm, .slice (A 0) (N 0) (C 0), .slice (A 1) (N 1) (C 1), .slice (A 2) (N 2) (C 2), .slice (A 3) (N 3) (C 3)] 63 (0, 0)) ∧ Below w.heap.size w w1 ∧ w.heap.size + 1 ≤ w1.heap.size ∧ t0.size ≤ 22 * N 0 + 1) := ⟨hw1, hbw0.trans (hb1.mono (by simp)), hz1', ht0⟩
  obtain ⟨p0, p0f⟩ := blk hw1
  have hlt1 : w.heap.size < w1.heap.size := hz1'
  clear hw1 hz1' hb1 hbw0 ht0
  go_wp2
  clear p0 p0f
  go_loopw [3, 14] (fun v i wr => ∃ (kz : Int) (m : Nat) (xs : List Value) (S : Nat), i = .int .i64 kz ∧ ((kz = 0 ∧ m = 1) ∨ (kz = 1 ∧ m = 2) ∨ (kz = 2 ∧ m = 3) ∨ (kz = 3 ∧ m = 4)) ∧ wr.ownsRow (w.heap.size + 1) 9 1 v m xs ∧ Total xs S ∧
      ((kz = 0 → S ≤ 22 * N 0 + 1) ∧ (kz = 1 → S ≤ 22 * (N 0 + N 1) + 2) ∧ (kz = 2 → S ≤ 22 * (N 0 + N 1 + N 2) + 3) ∧ (kz = 3 → S ≤ 22 * (N 0 + N 1 + N 2 + N 3) + 4)) ∧
      wr.heap[w.heap.size]? = some (.cells #[.string nm, .slice (A 0) (N 0) (C 0), .slice (A 1) (N 1) (C 1), .slice (A 2) (N 2) (C 2), .slice (A 3) (N 3) (C 3)] 63 (0, 0)) ∧ Below w.heap.size w wr) (fun _ i _ => (3 - intOf i).toNat)
  case atStart =>
    refine ⟨0, 1, [.string t0], t0.size, rfl, by omega, ?_, Total.one t0, by have := HA.out.2.2.2; omega, (Below.heap_alloc _ _ _ (by have := HA.out.2.2.1; omega)).trans HA.out.1, HA.out.2.1.alloc (by have := HA.out.2.2.1; omega) _⟩
    exact ⟨rfl, .inr ⟨w1.heap.size, 1, #[.string t0], rfl, by have := HA.out.2.2.1; omega, heap_alloc_new w1 _, Nat.le_refl _, by unfold maxLen; omega, rfl, rfl⟩⟩
  case round =>
    obtain ⟨kz, m, xs, S, rfl, hkz, hown, hT, hS, hwb, hbw⟩ := hrel
    have HR : Hid (wr.ownsRow (w.heap.size + 1) 9 1 u3 m xs ∧ Total xs S ∧ wr.heap[w.heap.size]? = some (.cells #[.string nm, .slice (A 0) (N 0) (C 0), .slice (A 1) (N 1) (C 1), .slice (A 2) (N 2) (C 2), .slice (A 3) (N 3) (C 3)] 63 (0, 0)) ∧ Below w.heap.size w wr) := ⟨hown, hT, hwb, hbw⟩
    have HS : Hid ((kz = 0 → S ≤ 22 * N 0 + 1) ∧ (kz = 1 → S ≤ 22 * (N 0 + N 1) + 2) ∧ (kz = 2 → S ≤ 22 * (N 0 + N 1 + N 2) + 3) ∧ (kz = 3 → S ≤ 22 * (N 0 + N 1 + N 2 + N 3) + 4)) := hS
    have hwz : w.heap.size + 1 ≤ wr.heap.size := (Array.getElem?_eq_some_iff.1 hwb).1
    clear hown hT hwb hbw hS HZ
    have HZ : Hid (w.heap.size + 1 ≤ wr.heap.size) := hwz
    clear hwz
    rcases hkz with ⟨rfl, rfl⟩ | ⟨rfl, rfl⟩ | ⟨rfl, rfl⟩ | ⟨rfl, rfl⟩
    · have HS1 : Hid (S ≤ 22 * N 0 + 1) := HS.out.1 rfl
      clear HS
      have hw := HR.out.2.2.1
      obtain ⟨q0, q0f⟩ := blk hw
      clear hw
      go_wp2_with (first
        | (go_at_call 85; refine (list_any _ (N 1) (R 1) wr (HG.out.2.2.1 1 (by omega)) ((HG.out.1 1 (by omega)).ext HR.out.2.2.2) (HG.out.2.1 1 (by omega)) (HG.out.2.2.2.ext HR.out.2.2.2)).mono ?_; rintro e w3 ⟨⟨t, rfl, ht⟩, hb3⟩; have H1 : Hid (Below wr.heap.size wr w3 ∧ t.size ≤ 22 * N 1 + 1 ∧ wr.heap.size ≤ w3.heap.size) := ⟨hb3, ht, hb3.size⟩; clear hb3 ht)
        | (at_builtin; refine wpList_append_own _ rfl _ _ _ rfl (w.heap.size + 1) 9 i0 _ 1 16 hu hi hz0 hz1 hz2 rfl (by omega) _ 1 xs rfl ((ownsRow_below HR.out.1 H1.out.1).alloc _) ⟨w3.heap.size, 0, none⟩ 1 1 [.string t] rfl rfl (cell_one_new _ _ _) (by intro u hu; simp at hu; subst hu; rfl) (by unfold maxLen; omega) (by omega) (by have := H1.out.2.2; have := HR.out.2.2.2.size; have := HZ.out; simp; omega) ?_; intro v' w4 hown hgrow _; have H4 : Hid (_ ∧ _) := ⟨hown, hgrow⟩; obtain ⟨ga', gc', rfl⟩ := ownsRow_shape hown; clear hown hgrow))
      exact ⟨⟨1, 2, _, _, rfl, by omega, H4.out.1, HR.out.2.1.app t, by have := H1.out.2.1; have := HS1.out; omega, (app_block (ownsRow_below HR.out.1 H1.out.1) H4.out.2 ((H1.out.1.block _ (by have := HR.out.2.2.2.size; have := HZ.out; omega)).trans HR.out.2.2.1) (by omega)), (HR.out.2.2.2.trans ((H1.out.1.mono (by have := HR.out.2.2.2.size; omega)).trans (app_below (ownsRow_below HR.out.1 H1.out.1) H4.out.2 (by omega) (by have := HR.out.2.2.2.size; have := H1.out.2.2; omega))))⟩, by simp [intOf]⟩
    · have HS1 : Hid (S ≤ 22 * (N 0 + N 1) + 2) := HS.out.2.1 rfl
      clear HS
      have hw := HR.out.2.2.1
      obtain ⟨q0, q0f⟩ := blk hw
      clear hw
      go_wp2_with (first
        | (go_at_call 85; refine (list_any _ (N 2) (R 2) wr (HG.out.2.2.1 2 (by omega)) ((HG.out.1 2 (by omega)).ext HR.out.2.2.2) (HG.out.2.1 2 (by omega)) (HG.out.2.2.2.ext HR.out.2.2.2)).mono ?_; rintro e w3 ⟨⟨t, rfl, ht⟩, hb3⟩; have H1 : Hid (Below wr.heap.size wr w3 ∧ t.size ≤ 22 * N 2 + 1 ∧ wr.heap.size ≤ w3.heap.size) := ⟨hb3, ht, hb3.size⟩; clear hb3 ht)
        | (at_builtin; refine wpList_append_own _ rfl _ _ _ rfl (w.heap.size + 1) 9 i0 _ 1 16 hu hi hz0 hz1 hz2 rfl (by omega) _ 2 xs rfl ((ownsRow_below HR.out.1 H1.out.1).alloc _) ⟨w3.heap.size, 0, none⟩ 1 1 [.string t] rfl rfl (cell_one_new _ _ _) (by intro u hu; simp at hu; subst hu; rfl) (by unfold maxLen; omega) (by omega) (by have := H1.out.2.2; have := HR.out.2.2.2.size; have := HZ.out; simp; omega) ?_; intro v' w4 hown hgrow _; have H4 : Hid (_ ∧ _) := ⟨hown, hgrow⟩; obtain ⟨ga', gc', rfl⟩ := ownsRow_shape hown; clear hown hgrow))
      exact ⟨⟨2, 3, _, _, rfl, by omega, H4.out.1, HR.out.2.1.app t, by have := H1.out.2.1; have := HS1.out; omega, (app_block (ownsRow_below HR.out.1 H1.out.1) H4.out.2 ((H1.out.1.block _ (by have := HR.out.2.2.2.size; have := HZ.out; omega)).trans HR.out.2.2.1) (by omega)), (HR.out.2.2.2.trans ((H1.out.1.mono (by have := HR.out.2.2.2.size; omega)).trans (app_below (ownsRow_below HR.out.1 H1.out.1) H4.out.2 (by omega) (by have := HR.out.2.2.2.size; have := H1.out.2.2; omega))))⟩, by simp [intOf]⟩
    · have HS1 : Hid (S ≤ 22 * (N 0 + N 1 + N 2) + 3) := HS.out.2.2.1 rfl
      clear HS
      have hw := HR.out.2.2.1
      obtain ⟨q0, q0f⟩ := blk hw
      clear hw
      go_wp2_with (first
        | (go_at_call 85; refine (list_any _ (N 3) (R 3) wr (HG.out.2.2.1 3 (by omega)) ((HG.out.1 3 (by omega)).ext HR.out.2.2.2) (HG.out.2.1 3 (by omega)) (HG.out.2.2.2.ext HR.out.2.2.2)).mono ?_; rintro e w3 ⟨⟨t, rfl, ht⟩, hb3⟩; have H1 : Hid (Below wr.heap.size wr w3 ∧ t.size ≤ 22 * N 3 + 1 ∧ wr.heap.size ≤ w3.heap.size) := ⟨hb3, ht, hb3.size⟩; clear hb3 ht)
        | (at_builtin; refine wpList_append_own _ rfl _ _ _ rfl (w.heap.size + 1) 9 i0 _ 1 16 hu hi hz0 hz1 hz2 rfl (by omega) _ 3 xs rfl ((ownsRow_below HR.out.1 H1.out.1).alloc _) ⟨w3.heap.size, 0, none⟩ 1 1 [.string t] rfl rfl (cell_one_new _ _ _) (by intro u hu; simp at hu; subst hu; rfl) (by unfold maxLen; omega) (by omega) (by have := H1.out.2.2; have := HR.out.2.2.2.size; have := HZ.out; simp; omega) ?_; intro v' w4 hown hgrow _; have H4 : Hid (_ ∧ _) := ⟨hown, hgrow⟩; obtain ⟨ga', gc', rfl⟩ := ownsRow_shape hown; clear hown hgrow))
      exact ⟨⟨3, 4, _, _, rfl, by omega, H4.out.1, HR.out.2.1.app t, by have := H1.out.2.1; have := HS1.out; omega, (app_block (ownsRow_below HR.out.1 H1.out.1) H4.out.2 ((H1.out.1.block _ (by have := HR.out.2.2.2.size; have := HZ.out; omega)).trans HR.out.2.2.1) (by omega)), (HR.out.2.2.2.trans ((H1.out.1.mono (by have := HR.out.2.2.2.size; omega)).trans (app_below (ownsRow_below HR.out.1 H1.out.1) H4.out.2 (by omega) (by have := HR.out.2.2.2.size; have := H1.out.2.2; omega))))⟩, by simp [intOf]⟩
    · have HS1 : Hid (S ≤ 22 * (N 0 + N 1 + N 2 + N 3) + 4) := HS.out.2.2.2 rfl
      clear HS
      have hw := HR.out.2.2.1
      obtain ⟨q0, q0f⟩ := blk hw
      clear hw
      go_wp2_with (first
        | (go_at_call 86; refine (quoteASCII_any nm wr hn (HG.out.2.2.2.ext HR.out.2.2.2)).mono ?_; rintro e w3 ⟨⟨t, rfl, ht⟩, hb3⟩; have H1 : Hid (Below wr.heap.size wr w3 ∧ t.size ≤ 10 * nm.size + 2 ∧ wr.heap.size ≤ w3.heap.size) := ⟨hb3, ht, hb3.size⟩; clear hb3 ht)
        | (at_builtin; refine wpList_append_own _ rfl _ _ _ rfl (w.heap.size + 1) 9 i0 _ 1 16 hu hi hz0 hz1 hz2 rfl (by omega) _ 4 xs rfl ((ownsRow_below HR.out.1 H1.out.1).alloc _) ⟨w3.heap.size, 0, none⟩ 1 1 [.string t] rfl rfl (cell_one_new _ _ _) (by intro u hu; simp at hu; subst hu; rfl) (by unfold maxLen; omega) (by omega) (by have := H1.out.2.2; have := HR.out.2.2.2.size; have := HZ.out; simp; omega) ?_; intro v' w4 hown hgrow _; have H4 : Hid (_ ∧ _) := ⟨hown, hgrow⟩; obtain ⟨ga', gc', rfl⟩ := ownsRow_shape hown; clear hown hgrow)
        | (go_at_call 87; refine (join_tot 32 _ 5 (S + t.size) (w.heap.size + 1) _ w4 H4.out.1 (HR.out.2.1.app t) (by have := H1.out.2.1; have := HS1.out; omega)).mono ?_; rintro e w5 ⟨⟨t5, rfl, ht5⟩, hb5⟩; have H5 : Hid (Below w4.heap.size w4 w5 ∧ t5.size ≤ S + t.size + 5) := ⟨hb5, ht5⟩; have hl5 : t5.size + 1 ≤ 9223372036854775807 := Nat.le_trans (Nat.succ_le_succ ht5) (by have := H1.out.2.1; have := HS1.out; omega); clear hb5 ht5))
      go_ret
      refine ⟨⟨_, rfl, ?_⟩, ?_⟩
      · simp only [ByteArray.size_append]
        have e1 : (⟨#[10]⟩ : ByteArray).size = 1 := rfl
        have a1 := H1.out.2.1
        have a2 := HS1.out
        have a3 := H5.out.2
        omega
      · exact HR.out.2.2.2.trans ((H1.out.1.mono (by have := HZ.out; omega)).trans ((app_below (ownsRow_below HR.out.1 H1.out.1) H4.out.2 (by omega) (by have := H1.out.2.2; have := HZ.out; omega)).trans (H5.out.1.mono (by have := (app_keeps (ownsRow_below HR.out.1 H1.out.1) H4.out.2).size; have := H1.out.2.2; have := HZ.out; omega))))
end Go.Proofs.YtblkaenlajmhnaaGreatDoor
