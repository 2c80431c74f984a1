/- Cut, SplitN, TrimSuffix: what they give, as far as lengths go. -/
import Derived.Test.YtblkaenlajmhnaaGreatDoorH4
import Derived.Shelf.Strings.SplitCore
namespace Go.Proofs.YtblkaenlajmhnaaGreatDoor
open Go.RowKit
attribute [local go_sem ↓] Go.wp_at_zero Go.wp_at_succ
attribute [local go_sem] After.cell After.frozen After.const
def CutPost (n : Nat) (e : Ending) : Prop := ∃ a b f, e = .returned (.tuple #[.string a, .string b, .bool f]) ∧ a.size ≤ n ∧ b.size ≤ n
theorem CutPost.of {n : Nat} {a b : ByteArray} {f : Bool} (h0 : a.size ≤ n) (h1 : b.size ≤ n) : CutPost n (.returned (.tuple #[.string a, .string b, .bool f])) := ⟨a, b, f, rfl, h0, h1⟩
set_option maxRecDepth 100000 in
set_option maxHeartbeats 2000000 in
theorem cut0_any (s : ByteArray) (c : UInt8) (w : World) (hs : s.size ≤ 1099511627776) :
    Calls Tryz.prog 72 #[.string s, .string ⟨#[c]⟩] w fun e w' => CutPost s.size e ∧ ∃ q, w' = w.drewN q := by
  have mixed : Tryz.prog.follows .mixedOrders = true := by kernel_rfl
  rcases idx_cases s c with hi | ⟨i, hi, hi2⟩
  · go_enter Tryz.func72, Tryz.ntmps72
    go_wp2_with (go_at_call 95; refine (Tryz.stringslite_Index_one s c w).mono ?_; rintro e w1 ⟨he, rfl⟩; rw [hi] at he; subst he)
    go_ret3
    exact ⟨.of (Nat.le_refl _) (Nat.zero_le _), 0, rfl⟩
  · have c0 : (0 : Int) ≤ (i : Int) := by omega
    have c1 : (i : Int) ≤ s.size := by omega
    have c2 : (0 : Int) ≤ (i : Int) + 1 := by omega
    have c3 : (i : Int) + 1 ≤ s.size := by omega
    have z1 := ex_size s 0 i (by omega) (by omega)
    have z2 := ex_size s (i + 1) s.size (by omega) (by omega)
    go_enter Tryz.func72, Tryz.ntmps72
    go_wp2_with (go_at_call 95; refine (Tryz.stringslite_Index_one s c w).mono ?_; rintro e w1 ⟨he, rfl⟩; rw [hi] at he; subst he)
    go_region_o
    go_wp2
    go_ret3
    exact ⟨.of (by omega) (by omega), 1, rfl⟩
set_option maxRecDepth 100000 in
set_option maxHeartbeats 2000000 in
theorem cut_any (s : ByteArray) (c : UInt8) (w : World) (hs : s.size ≤ 1099511627776) :
    Calls Tryz.prog 47 #[.string s, .string ⟨#[c]⟩] w fun e w' => CutPost s.size e ∧ ∃ q, w' = w.drewN q := by
  go_enter Tryz.func47, Tryz.ntmps47
  go_wp2_with (go_at_call 72; refine (cut0_any s c w hs).mono ?_; rintro e w1 ⟨⟨a, b, f, rfl, ha, hb⟩, q, rfl⟩)
  go_ret3
  exact ⟨.of ha hb, q, rfl⟩
def sum (l : List ByteArray) : Nat := (l.map (·.size)).sum
theorem sum_cons (a : ByteArray) (l : List ByteArray) : sum (a :: l) = a.size + sum l := by simp [sum]
theorem splitB_sum (c : UInt8) : ∀ (k : Nat) (s : ByteArray), sum (Lib.splitB ⟨#[c]⟩ 0 k s) ≤ s.size ∧ (Lib.splitB ⟨#[c]⟩ 0 k s).length ≤ k + 1 ∧ 1 ≤ (Lib.splitB ⟨#[c]⟩ 0 k s).length
  | 0, s => by rw [Lib.splitB_zero]; simp [sum]
  | k + 1, s => by
    rcases Lib.indexB_cases s ⟨#[c]⟩ with h | ⟨i, h, h2⟩
    · rw [Lib.splitB_miss _ _ _ _ h]; simp [sum]
    · have h3 : i + 1 ≤ s.size := h2
      rw [Lib.splitB_hit _ _ _ _ _ h, sum_cons, List.length_cons, Nat.add_zero]
      obtain ⟨a1, a2, a3⟩ := splitB_sum c k (s.extract (i + (⟨#[c]⟩ : ByteArray).size) s.size)
      have e1 : (s.extract 0 i).size = i := by rw [ex_size s 0 i (by omega) (by omega)]; omega
      have e2 : (s.extract (i + (⟨#[c]⟩ : ByteArray).size) s.size).size = s.size - (i + 1) := ex_size s (i + 1) s.size (by omega) (by omega)
      omega
set_option maxRecDepth 100000 in
set_option maxHeartbeats 2000000 in
theorem splitN_any (s : ByteArray) (w : World) (hs : s.size < 4294967281) :
    Calls Tryz.prog 75 #[.string s, .string ⟨#[32]⟩, .int .i64 5] w fun e w' => ∃ (l : List ByteArray) (N : Nat), e = .returned (.slice (some ⟨w.heap.size, 0, none⟩) l.length N) ∧ w' = w.alloc (.cells (Lib.cellsOf l N) 9) ∧ l.length ≤ 5 ∧ 1 ≤ l.length ∧ l.length ≤ N ∧ sum l ≤ s.size := by
  have core := Any.strings_genSplit_core Tryz.lays221 (by kernel_rfl) s ⟨#[32]⟩ 0 5 (min 5 (s.size + 1)) w hs (Nat.le_refl _) (Nat.zero_le _)
    (fun x cs hx => by
      refine (Tryz.strings_Index_one x 32 _).mono ?_
      rintro e w1 ⟨rfl, rfl⟩
      exact ⟨by show _ = Ending.returned (Value.int .i64 (Lib.index _ [32])); rw [Lib.index_one], rfl⟩)
    (by
      refine (Tryz.strings_Count_one s 32 w).mono ?_
      rintro e w1 ⟨rfl, rfl⟩
      refine ⟨?_, rfl⟩
      show _ = Ending.returned (Value.int .i64 ((Lib.count s.data.toList [32] : Nat) : Int))
      rw [Lib.count_one]
      rfl)
    (by decide) (by decide) (by rw [if_neg (by decide)]; omega)
  obtain ⟨a1, a2, a3⟩ := splitB_sum 32 (min 5 (s.size + 1) - 1) s
  generalize Lib.splitB ⟨#[32]⟩ 0 (min 5 (s.size + 1) - 1) s = l at core a1 a2 a3
  go_enter Tryz.func75, Tryz.ntmps75
  go_wp2_with (go_at_call 97; refine core.mono ?_; rintro e w1 ⟨rfl, rfl⟩)
  go_ret
  exact ⟨l, _, rfl, rfl, by omega, a3, by omega, a1⟩
theorem trim_any (s p : ByteArray) (w : World) (hs : s.size ≤ 1099511627776) :
    Calls Tryz.prog 76 #[.string s, .string p] w fun e w' => (∃ t : ByteArray, e = .returned (.string t) ∧ t.size ≤ s.size) ∧ w' = w := by
  refine (Tryz.strings_TrimSuffix s p w (by omega)).mono ?_
  rintro e w1 ⟨rfl, rfl⟩
  refine ⟨⟨_, rfl, ?_⟩, rfl⟩
  show (Lib.trimSuffix s.data.toList p.data.toList).toArray.size ≤ s.data.size
  unfold Lib.trimSuffix
  split
  · simp
  · simp
end Go.Proofs.YtblkaenlajmhnaaGreatDoor
