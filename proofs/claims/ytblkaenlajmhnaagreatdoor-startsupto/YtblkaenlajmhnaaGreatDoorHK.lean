/- Unquote. -/
import Derived.Test.YtblkaenlajmhnaaGreatDoorHA
import Derived.Test.YtblkaenlajmhnaaGreatDoorH9
namespace Go.Proofs.YtblkaenlajmhnaaGreatDoor
open Go.RowKit
attribute [local go_sem ↓] Go.wp_at_zero Go.wp_at_succ
attribute [local go_sem] After.cell After.frozen After.const
theorem unquote_any (s : ByteArray) (w : World) (hs : s.size ≤ 1099511627776) (henv : Env w) :
    Calls Tryz.prog 99 #[.string s, .bool true] w fun e w' => UnPost s.size e ∧ Below w.heap.size w w' := by
  by_cases h1 : 2 ≤ s.size
  · obtain ⟨q, e0⟩ : ∃ q, ((s[0]'(by omega)).toNat : Int) = q := ⟨_, rfl⟩
    by_cases a1 : q = 34
    · exact unquote_dq s w h1 hs henv (e0.trans a1)
    by_cases a2 : q = 39
    · exact unquote_sq s w h1 hs henv (e0.trans a2)
    by_cases a3 : q = 96
    · exact unquote_bq s w h1 hs henv (e0.trans a3)
    exact unquote_other s w h1 hs henv q e0 (by simp [a3]) (by simp [a1]) (by simp [a2])
  · exact unquote_short s w (by omega) henv
def UqsPost (n : Nat) (e : Ending) : Prop := ∃ (t : ByteArray) (err : Value), e = .returned (.tuple #[.string t, err]) ∧ t.size ≤ 4 * n ∧ Err err
theorem UqsPost.of {n : Nat} {t : ByteArray} {err : Value} (h : t.size ≤ 4 * n) (h2 : Err err) : UqsPost n (.returned (.tuple #[.string t, err])) := ⟨t, err, rfl, h, h2⟩
set_option maxRecDepth 100000 in
set_option maxHeartbeats 4000000 in
theorem unquoteT_any (s : ByteArray) (w : World) (hs : s.size ≤ 1099511627776) (henv : Env w) :
    Calls Tryz.prog 77 #[.string s] w fun e w' => UqsPost s.size e ∧ Below w.heap.size w w' := by
  have HE : Hid (Env w) := henv
  clear henv
  have mixed : Tryz.prog.follows .mixedOrders = true := by kernel_rfl
  go_enter Tryz.func77, Tryz.ntmps77
  go_wp2_with fail
  refine (unquote_any s w hs HE.out).mono ?_
  rintro e w1 ⟨⟨out, rem, err, rfl, ho, hr, herr⟩, hb⟩
  obtain ⟨te, pe, hsy⟩ := (HE.out.ext hb).syn
  have HB : Hid (Below w.heap.size w w1) := hb
  clear hb
  by_cases h0 : rem.size = 0
  · have f0 : ¬ (0 : Int) < rem.size := by omega
    have f1 : decide ((0 : Int) < rem.size) = false := decide_eq_false f0
    obtain rfl | ⟨te', pe', rfl⟩ := herr
    all_goals
      go_wp2
      go_ret2
      first
        | exact ⟨.of ho (.inl rfl), HB.out⟩
        | exact ⟨.of ho (.inr ⟨_, _, rfl⟩), HB.out⟩
  · have f0 : (0 : Int) < rem.size := by omega
    obtain rfl | ⟨te', pe', rfl⟩ := herr
    all_goals
      go_wp2
      go_region_o
      go_wp2
      go_ret2
      exact ⟨.of (by show 0 ≤ _; omega) (.inr ⟨_, _, rfl⟩), HB.out.drew⟩
end Go.Proofs.YtblkaenlajmhnaaGreatDoor
