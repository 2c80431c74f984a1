/- Lists of numbers: are two the same? -/
import Derived.Test.YtblkaenlajmhnaaGreatDoorM1
namespace Go.Proofs.YtblkaenlajmhnaaGreatDoor
open Go.RowKit
attribute [local go_sem ↓] Go.wp_at_zero Go.wp_at_succ
attribute [local go_sem] After.cell After.frozen After.const
def Ints (w : World) (v : Value) (n : Nat) (R : Nat → Int) : Prop := ∃ ao cap, v = .slice ao n cap ∧ n ≤ cap ∧ n ≤ 9223372036854775807 ∧ (0 < n → ∃ b o, ao = some ⟨b, o, none⟩ ∧ IntAt w b o n R)
theorem Ints.ext {w w' : World} {v : Value} {n : Nat} {R : Nat → Int} (h : Ints w v n R) (hb : Below w.heap.size w w') : Ints w' v n R := by
  obtain ⟨ao, cap, rfl, h1, h2, h3⟩ := h
  refine ⟨ao, cap, rfl, h1, h2, fun h0 => ?_⟩
  obtain ⟨b, o, rfl, hi⟩ := h3 h0
  exact ⟨b, o, rfl, hi.ext hb⟩
def sameI (n : Nat) (R : Nat → Int) (n' : Nat) (R' : Nat → Int) : Prop := n = n' ∧ ∀ i, i < n → R i = R' i
set_option maxHeartbeats 1000000 in
theorem sameInts_any (v v' : Value) (n n' : Nat) (R R' : Nat → Int) (w : World) (h : Ints w v n R) (h' : Ints w v' n' R') :
    Calls Tryz.prog 25 #[v, v'] w fun e w' => Ans (sameI n R n' R') e ∧ Below w.heap.size w w' := by
  obtain ⟨ao, cap, rfl, hc, hm, ha⟩ := h
  obtain ⟨ao', cap', rfl, hc', hm', ha'⟩ := h'
  by_cases hne : n = n'
  case neg =>
    go_enter Tryz.func25, Tryz.ntmps25
    go_wp2
    go_ret
    exact ⟨.no fun h => hne h.1, Below.refl _ _⟩
  subst hne
  go_enter Tryz.func25, Tryz.ntmps25
  go_wp2
  go_loopw [5] (fun i wr => ∃ k : Nat, k ≤ n ∧ i = .int .i64 k ∧ Below w.heap.size w wr ∧ ∀ j, j < k → R j = R' j) (fun i _ => n - (intOf i).toNat)
  case atStart => exact ⟨0, by omega, rfl, Below.refl _ _, fun j hj => absurd hj (Nat.not_lt_zero _)⟩
  case round =>
    obtain ⟨k, hk, rfl, hb, hall⟩ := hrel
    have HA : Hid ((∀ j, j < k → R j = R' j) ∧ Below w.heap.size w wr) := ⟨hall, hb⟩
    by_cases hlt : k < n
    · obtain ⟨b, o, rfl, hi⟩ := ha (by omega)
      obtain ⟨b', o', rfl, hi'⟩ := ha' (by omega)
      have u0 := (hi.ext hb) k hlt
      have u1 := (hi'.ext hb) k hlt
      have kn : (k : Int) < n := by omega
      clear hall hb hi hi' ha ha'
      by_cases he : R k = R' k
      · have HE : Hid (R k = R' k) := he
        have e1 : (R k == R' k) = true := by simp [he]
        clear he
        go_wp2
        go_quiet (fail)
        go_wp2
        go_roundw
        case rel => exact ⟨k + 1, by omega, by go_num, HA.out.2.drewN _, fun j hj => by
            rcases Nat.lt_succ_iff_lt_or_eq.1 hj with h | h
            · exact HA.out.1 j h
            · subst h; exact HE.out⟩
        case measure => simp [intOf]; omega
      · have HE : Hid (R k ≠ R' k) := he
        have e1 : (R k == R' k) = false := by simp [he]
        clear he
        go_wp2
        go_quiet (fail)
        go_wp2
        go_ret
        exact ⟨.no fun h => HE.out (h.2 k hlt), HA.out.2.drewN _⟩
    · have : k = n := by omega
      subst this
      clear hall hb ha ha'
      go_wp2
      go_ret
      exact ⟨.yes ⟨rfl, HA.out.1⟩, HA.out.2⟩
set_option maxHeartbeats 1000000 in
theorem index_any (v : Value) (n : Nat) (R : Nat → Int) (x : Int) (w : World) (h : Ints w v n R) :
    Calls Tryz.prog 91 #[v, .int .i64 x] w fun e w' => (∃ q : Int, e = .returned (.int .i64 q) ∧ (0 ≤ q ↔ among R n x)) ∧ w' = w := by
  obtain ⟨ao, cap, rfl, hc, hm, ha⟩ := h
  go_enter Tryz.func91, Tryz.ntmps91
  go_wp2
  go_loop [8] (fun i => ∃ k : Nat, k ≤ n ∧ i = .int .i64 k ∧ ∀ j, j < k → R j ≠ x) (fun i => n - (intOf i).toNat)
  case atStart => exact ⟨0, by omega, rfl, fun j hj => absurd hj (Nat.not_lt_zero _)⟩
  case round =>
    obtain ⟨k, hk, rfl, hall⟩ := hrel
    have HA : Hid (∀ j, j < k → R j ≠ x) := hall
    clear hall
    by_cases hlt : k < n
    · obtain ⟨b, o, rfl, hi⟩ := ha (by omega)
      have u0 := hi k hlt
      have kn : (k : Int) < n := by omega
      clear hi ha
      by_cases he : x = R k
      · have HE : Hid (x = R k) := he
        have e1 : (x == R k) = true := by simp [he]
        clear he
        go_wp2
        go_ret
        exact ⟨⟨k, rfl, by simp; exact ⟨k, hlt, HE.out.symm⟩⟩, rfl⟩
      · have HE : Hid (x ≠ R k) := he
        have e1 : (x == R k) = false := by simp [he]
        clear he
        go_wp2
        go_round
        case rel => exact ⟨k + 1, by omega, by go_num, fun j hj => by
            rcases Nat.lt_succ_iff_lt_or_eq.1 hj with h | h
            · exact HA.out j h
            · subst h; exact fun e => HE.out e.symm⟩
        case measure => simp [intOf]; omega
    · have : k = n := by omega
      subst this
      clear ha
      go_wp2
      go_ret
      exact ⟨⟨-1, rfl, by simp; exact fun ⟨i, hi, he⟩ => HA.out i hi he⟩, rfl⟩
set_option maxHeartbeats 1000000 in
theorem contains_any (v : Value) (n : Nat) (R : Nat → Int) (x : Int) (w : World) (h : Ints w v n R) :
    Calls Tryz.prog 68 #[v, .int .i64 x] w fun e w' => Ans (among R n x) e ∧ w' = w := by
  go_enter Tryz.func68, Tryz.ntmps68
  go_wp2_with (go_at_call 91; refine (index_any v n R x _ h).mono ?_; rintro e w1 ⟨⟨q, rfl, hq⟩, rfl⟩)
  go_ret
  exact ⟨⟨_, rfl, by simpa using hq⟩, rfl⟩
end Go.Proofs.YtblkaenlajmhnaaGreatDoor
