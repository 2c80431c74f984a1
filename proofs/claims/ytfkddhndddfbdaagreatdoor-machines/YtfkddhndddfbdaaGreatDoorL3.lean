/- Valid, and the document's own IsMachine: each says whether it is a machine. -/
import Derived.Test.YtfkddhndddfbdaaGreatDoorL2
namespace Go.Proofs.YtfkddhndddfbdaaGreatDoor
open Go.RowKit
attribute [local go_sem ↓] Go.wp_at_zero Go.wp_at_succ
attribute [local go_sem] After.cell After.frozen After.const

/-- A machine as a value: where its lists lie, what they hold. -/
structure Mach where
  ao : Option Addr
  b : Nat
  o : Nat
  n : Nat
  cap : Nat
  S : Nat → Int
  N : Nat → Int
  C : Nat → Int
  ro : Option Addr
  rb : Nat
  rp : Nat
  r : Nat
  rcap : Nat
  R : Nat → Int
  p : Int
def Mach.val (m : Mach) : Value := .agg #[.slice m.ao m.n m.cap, .slice m.ro m.r m.rcap, .int .i64 m.p]
structure Mach.At (m : Mach) (w : World) : Prop where
  ncap : m.n ≤ m.cap
  nmax : m.n * 24 ≤ 140737488355328
  addr : 0 < m.n → m.ao = some ⟨m.b, m.o, none⟩
  cpus : CpuAt w m.b m.o m.n m.S m.N m.C
  rc : m.r ≤ m.rcap
  rmax : m.r * 8 ≤ 140737488355328
  raddr : 0 < m.r → m.ro = some ⟨m.rb, m.rp, none⟩
  ints : IntAt w m.rb m.rp m.r m.R
theorem Mach.At.ext {m : Mach} {w w' : World} (h : m.At w) (hb : Below w.heap.size w w') : m.At w' := ⟨h.ncap, h.nmax, h.addr, h.cpus.ext hb, h.rc, h.rmax, h.raddr, h.ints.ext hb⟩
def Mach.ok (m : Mach) : Prop := okM m.n m.S m.N m.C m.r m.R m.p

set_option maxHeartbeats 1000000 in
theorem valid_any (m : Mach) (w : World) (hm : m.At w) :
    Calls Tryz.prog 102 #[m.val] w fun e w' => Ans m.ok e ∧ Below w.heap.size w w' := by
  obtain ⟨ao, b, o, n, cap, S, N, C, ro, rb, rp, r, rcap, R, p⟩ := m
  obtain ⟨ncap, nmax, addr, cpus, rc, rmax, raddr, ints⟩ := hm
  simp only [Mach.val, Mach.ok] at *
  have ints' : Hid (IntAt w rb rp r R) := ints
  have cpus' : Hid (CpuAt w b o n S N C) := cpus
  clear ints cpus
  by_cases h1 : 1 ≤ n ∧ n ≤ 24 ∧ okCs S N C n
  · have hn : n ≤ 24 := h1.2.1
    by_cases h2 : okRs n R r
    · have HP : Hid ((1 ≤ n ∧ n ≤ 24 ∧ okCs S N C n) ∧ okRs n R r) := ⟨h1, h2⟩
      clear h1 h2
      go_enter Tryz.func102, Tryz.ntmps102
      go_wp2_with (first
        | (go_at_call 168; refine (validCPUs_any ao b o n cap S N C _ (by omega) ncap addr (cpus'.out.ext ((Below.refl _ _).alloc (Nat.le_refl _) _))).mono ?_; rintro e w1 ⟨he, hb1⟩; obtain rfl := he.is_true HP.out.1; clear he; obtain ⟨hc1, hf1⟩ := bcell hb1; have hb1' := ext_trans ((Below.refl _ _).alloc (Nat.le_refl _) _) hb1)
        | (go_at_call 169; refine (validReserved_any ro rb rp r rcap n R _ (by omega) hn raddr (ints'.out.ext hb1')).mono ?_; rintro e w2 ⟨he, rfl⟩; obtain rfl := he.is_true HP.out.2; clear he))
      all_goals (go_ret; refine ⟨⟨_, rfl, ?_⟩, hb1'⟩; simp only [okM]; simp [HP.out.1, HP.out.2]; omega)
    · have HP : Hid ((1 ≤ n ∧ n ≤ 24 ∧ okCs S N C n) ∧ ¬ okRs n R r) := ⟨h1, h2⟩
      clear h1 h2
      go_enter Tryz.func102, Tryz.ntmps102
      go_wp2_with (first
        | (go_at_call 168; refine (validCPUs_any ao b o n cap S N C _ (by omega) ncap addr (cpus'.out.ext ((Below.refl _ _).alloc (Nat.le_refl _) _))).mono ?_; rintro e w1 ⟨he, hb1⟩; obtain rfl := he.is_true HP.out.1; clear he; obtain ⟨hc1, hf1⟩ := bcell hb1; have hb1' := ext_trans ((Below.refl _ _).alloc (Nat.le_refl _) _) hb1)
        | (go_at_call 169; refine (validReserved_any ro rb rp r rcap n R _ (by omega) hn raddr (ints'.out.ext hb1')).mono ?_; rintro e w2 ⟨he, rfl⟩; obtain rfl := he.is_false HP.out.2; clear he))
      go_ret
      exact ⟨.no fun h => HP.out.2 h.2.2.2.1, hb1'⟩
  · have HP : Hid (¬ (1 ≤ n ∧ n ≤ 24 ∧ okCs S N C n)) := h1
    clear h1
    go_enter Tryz.func102, Tryz.ntmps102
    go_wp2_with (go_at_call 168; refine (validCPUs_any ao b o n cap S N C _ (by omega) ncap addr (cpus'.out.ext ((Below.refl _ _).alloc (Nat.le_refl _) _))).mono ?_; rintro e w1 ⟨he, hb1⟩; obtain rfl := he.is_false HP.out; clear he; obtain ⟨hc1, hf1⟩ := bcell hb1; have hb1' := ext_trans ((Below.refl _ _).alloc (Nat.le_refl _) _) hb1)
    go_ret
    exact ⟨.no fun h => HP.out ⟨h.1, h.2.1, h.2.2.1⟩, hb1'⟩

set_option maxHeartbeats 400000 in
theorem num_any (a : Int) (w : World) :
    Calls Tryz.prog 19 #[.int .i64 a] w fun e w' => e = .returned (.int .i64 a) ∧ w' = w := by
  go_enter Tryz.func19, Tryz.ntmps19
  go_wp2
  go_ret
  exact ⟨rfl, rfl⟩

set_option maxHeartbeats 400000 in
theorem within_any (a b : Int) (w : World) :
    Calls Tryz.prog 59 #[.int .i64 a, .int .i64 b] w fun e w' => Ans (0 ≤ a ∧ a < b) e ∧ w' = w := by
  by_cases h0 : 0 ≤ a <;> by_cases h1 : a < b <;> (
    go_enter Tryz.func59, Tryz.ntmps59
    go_wp2
    go_ret
    exact ⟨⟨_, rfl, by simp [h0, h1]⟩, rfl⟩)

/-- does x stand among the first k numbers? -/
def among (R : Nat → Int) (k : Nat) (x : Int) : Prop := ∃ i, i < k ∧ R i = x
set_option maxHeartbeats 400000 in
theorem in_any (ao : Option Addr) (b o k cap : Nat) (R : Nat → Int) (x : Int) (w : World) (hk : k ≤ 9223372036854775807) (ha : 0 < k → ao = some ⟨b, o, none⟩) (hcell : IntAt w b o k R) :
    Calls Tryz.prog 119 #[.slice ao k cap, .int .i64 x] w fun e w' => Ans (among R k x) e ∧ w' = w := by
  go_enter Tryz.func119, Tryz.ntmps119
  go_wp2
  go_loop [5] (fun i => ∃ j : Nat, j ≤ k ∧ i = .int .i64 j ∧ ∀ i, i < j → R i ≠ x) (fun i => k - (intOf i).toNat)
  case atStart => exact ⟨0, Nat.zero_le _, rfl, fun i hi => absurd hi (Nat.not_lt_zero _)⟩
  case round =>
    obtain ⟨j, hj, rfl, hall⟩ := hrel
    have HA : Hid (∀ i, i < j → R i ≠ x) := hall
    clear hall
    by_cases hlt : j < k
    · have c0 := hcell j hlt
      have ha' := ha (by omega)
      subst ha'
      by_cases h1 : R j = x
      · have HX : Hid (R j = x) := h1
        have hb1 : (R j == x) = true := by simp [h1]
        clear h1
        go_wp2
        go_ret
        exact ⟨.yes ⟨j, hlt, HX.out⟩, rfl⟩
      · have HX : Hid (R j ≠ x) := h1
        have hb1 : (R j == x) = false := by simp [h1]
        clear h1
        go_wp2
        go_round
        case rel => exact ⟨j + 1, by omega, by go_num, fun i hi => by
            rcases Nat.lt_succ_iff_lt_or_eq.1 hi with h | h
            · exact HA.out i h
            · subst h; exact HX.out⟩
        case measure => simp [intOf]; omega
    · have : j = k := by omega
      subst this
      go_wp2
      go_ret
      exact ⟨.no fun ⟨i, hi, he⟩ => HA.out i hi he, rfl⟩
end Go.Proofs.YtfkddhndddfbdaaGreatDoor
