/- plays, and Machines: every machine. -/
import Derived.Test.YtfkddhndddfbdaaGreatDoorJ13
namespace Go.Proofs.YtfkddhndddfbdaaGreatDoor
open Go.RowKit
attribute [local go_sem ↓] Go.wp_at_zero Go.wp_at_succ

theorem below_of_turn {w w1 w2 : World} {c c' : Nat → Nat} (hb : Below w.heap.size w w1) (t : Turn (fun z => z ≠ 0 ∧ z ≠ 14) c w1 c' w2) (h0 : ∀ k, k < w.heap.size → c k = 0) : Below w.heap.size w w2 :=
  ⟨t.os.trans hb.os, t.tape.trans hb.tape, t.output.trans hb.output, Nat.le_trans hb.size t.size, fun k hk => (t.keep k (Nat.lt_of_lt_of_le hk hb.size) (fun h => h.1 (h0 k hk))).1.trans (hb.block k hk)⟩

set_option maxRecDepth 100000 in
set_option maxHeartbeats 1000000 in
theorem playsNone_any (m : Mach) (w : World) (hm : m.At w) (last : Int) :
    Calls Tryz.prog 15 #[m.val, .slice none 0 0, .int .i64 last] w fun e w' => e = .returned (.bool true) ∧ Below w.heap.size w w' := by
  show Calls Tryz.prog 15 #[.agg #[.slice m.ao m.n m.cap, .slice m.ro m.r m.rcap, .int .i64 m.p], .slice none 0 0, .int .i64 last] w _
  go_enter Tryz.func15, Tryz.ntmps15
  have HM := Hid.in hm
  clear hm
  go_wp2_with fail
  obtain ⟨W0, hW0⟩ : ∃ W, W = w.alloc (.cells #[.slice m.ao m.n m.cap, .slice m.ro m.r m.rcap, .int .i64 m.p] 25) := ⟨_, rfl⟩
  obtain ⟨e1, he1⟩ : ∃ e, e = w.heap.size := ⟨_, rfl⟩
  have B0 : Below w.heap.size w W0 := by rw [hW0]; exact (Below.refl _ _).alloc (Nat.le_refl _) _
  rw [← hW0, ← he1]
  clear hW0 he1
  refine Calls.mono (beginLaw_any m W0 (HM.out.ext B0)) ?_
  rintro e w1 ⟨hb, hor⟩
  have H1 := Hid.in (And.intro B0 (ext_trans B0 hb))
  clear B0
  rcases hor with ⟨hno, rfl⟩ | ⟨hok, g, rfl, hg⟩
  · clear hb hno
    go_wp2_with fail
    go_ret
    exact ⟨rfl, H1.out.2⟩
  · have H2 := Hid.in (And.intro hok hg)
    clear hb hok hg
    go_wp2_with fail
    refine wp_loop_rounds 1 ?_
    rw [rounds_succ]
    go_wp2_with fail
    obtain ⟨base, bb, ww, cw, qw, vc, vr, G, c, Eo, oa, oc, k1, k2, k3, k4, k5, k6, k7, k8⟩ := H2.out.2.is
    have hmn : m.n ≤ 24 := by have h := H2.out.1; simp only [Mach.ok, okM] at h; omega
    refine Calls.mono (gameEnds0_any g base bb ww cw qw m vc vr G c w1 0 [] [] [] Eo oa oc k1 k2 k3 k4 k5 k6 (by omega) (by omega) hmn HM.out.rmax (by omega) (by simp) (by simp) (by simp)) ?_
    rintro e w2 ⟨rfl, c', t⟩
    have H3 := Hid.in (below_of_turn H1.out.2 t fun k hk => k8 k (Nat.lt_of_lt_of_le hk H1.out.1.size))
    clear k1 k2 k3 k4 k5 k6 k7 k8 t H2
    go_wp2_with fail
    go_ret
    exact ⟨rfl, H3.out⟩

set_option maxRecDepth 100000 in
theorem machines_any (m : Mach) (w : World) (hm : m.At w) :
    Calls Tryz.prog 3 #[m.val] w fun e w' => e = .returned (.bool true) ∧ Below w.heap.size w w' := by
  show Calls Tryz.prog 3 #[.agg #[.slice m.ao m.n m.cap, .slice m.ro m.r m.rcap, .int .i64 m.p]] w _
  go_enter Tryz.func3, Tryz.ntmps3
  have HM := Hid.in hm
  clear hm
  go_wp2_with fail
  have B0 : Below w.heap.size w (w.alloc (.cells #[.slice m.ao m.n m.cap, .slice m.ro m.r m.rcap, .int .i64 m.p] 25)) := (Below.refl _ _).alloc (Nat.le_refl _) _
  refine Calls.mono (playsNone_any m _ (HM.out.ext B0) 0) ?_
  rintro e w1 ⟨rfl, hb⟩
  have H1 := Hid.in (ext_trans B0 hb)
  clear B0 hb
  go_wp2_with fail
  go_ret
  exact ⟨rfl, H1.out⟩
end Go.Proofs.YtfkddhndddfbdaaGreatDoor
