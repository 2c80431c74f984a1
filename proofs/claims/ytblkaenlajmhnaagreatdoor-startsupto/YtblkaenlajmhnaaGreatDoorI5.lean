/- Restart with any files. -/
import Derived.Test.YtblkaenlajmhnaaGreatDoorI4
namespace Go.Proofs.YtblkaenlajmhnaaGreatDoor
open Go.RowKit
attribute [local go_sem ↓] Go.wp_at_zero Go.wp_at_succ
attribute [local go_sem] After.cell After.frozen After.const
def Boxed (m : Mach) (B0 L bb : Nat) (vc vr : Value) (w' : World) : Prop := ∃ bv dv n xs, w'.heap[bb]? = some (.cells #[vc, vr, .int .i64 m.p, .slice none 0 0, .slice none 0 0, .slice none 0 0, bv, dv, .bool false, .int .i64 0] 57 (0, 0)) ∧ w'.ownsRow B0 63 5 bv n xs ∧ n ≤ L ∧ BoxRow B0 w' (40 * L + 88) xs
def Woken (m : Mach) (B0 L : Nat) (e : Ending) (w' : World) : Prop := (¬ m.ok ∧ e = .returned (.tuple #[.pointer none, .bool false, .int .i64 1])) ∨ (m.ok ∧ ∃ bb vc vr cor, e = .returned (.tuple #[.pointer (some ⟨bb, 0, none⟩), .bool cor, .int .i64 0]) ∧ B0 ≤ bb ∧ ((cor = true ∧ BerthIs w' B0 bb m vc vr) ∨ (cor = false ∧ Boxed m B0 L bb vc vr w')))
set_option maxRecDepth 100000 in
set_option maxHeartbeats 2000000 in
theorem restart_any (m : Mach) (cb rb k n L : Nat) (fv nv : Value) (w : World) (hn : m.n * 24 ≤ 140737488355328) (hr : m.r * 8 ≤ 140737488355328) (hc : w.rowIs cb 46 ((m.n + 8) * 3) (hC m)) (hrr : w.rowIs rb 3 (m.r + 8) (hR m)) (hnm : Names w nv k) (hfl : Files w fv n L) (hfn : n * 16 ≤ 140737488355328) (hL : L ≤ 1048576) (henv : Env w) (hm24 : m.ok → m.n ≤ 24) :
    Calls Tryz.prog 5 #[.agg #[.slice (some ⟨cb, 0, none⟩) m.n (m.n + 8), .slice (some ⟨rb, 0, none⟩) m.r (m.r + 8), .int .i64 m.p], fv, nv] w fun e w' => Woken m w.heap.size L e w' ∧ Below w.heap.size w w' := by
  obtain ⟨W0, hW0⟩ : ∃ W0, W0 = w.alloc (.cells #[.slice (some ⟨cb, 0, none⟩) m.n (m.n + 8), .slice (some ⟨rb, 0, none⟩) m.r (m.r + 8), .int .i64 m.p] 25) := ⟨_, rfl⟩
  have b0 : Below w.heap.size w W0 := by rw [hW0]; exact (Below.refl _ _).alloc (Nat.le_refl _) _
  have H0 := HidI (And.intro b0 (And.intro (hc.of_block (b0.block _ hc.lt)) (And.intro (hrr.of_block (b0.block _ hrr.lt)) (And.intro hnm (And.intro hfl henv)))))
  have hz0 : w.heap.size ≤ W0.heap.size := b0.size
  clear b0 hc hrr hnm hfl henv
  go_enter Tryz.func5, Tryz.ntmps5
  go_wp2_with fail
  rw [← hW0]
  clear hW0
  refine (start_any m cb rb W0 hn hr H0.out.2.1 H0.out.2.2.1).mono ?_
  rintro e w1 ⟨hb1, ⟨hok, rfl⟩ | ⟨hok, bb, vc, vr, rfl, hB⟩⟩
  · have H1 := HidI (H0.out.1.trans (hb1.mono hz0))
    clear hb1
    go_wp2
    exact bodyPost_ret (results_tmp3 rfl _ _ _) rfl ⟨.inl ⟨hok, rfl⟩, H1.out⟩
  · have H1 := HidI (And.intro (H0.out.1.trans (hb1.mono hz0)) hB)
    have hbB : w.heap.size ≤ bb := Nat.le_trans hz0 hB.base
    have hbl : bb < w1.heap.size := (Array.getElem?_eq_some_iff.1 hB.blk).1
    have hz1 : w.heap.size ≤ w1.heap.size := H1.out.1.size
    clear hb1 hB
    go_wp2_with fail
    refine (recall_any m W0.heap.size bb vc vr fv n L w1 H1.out.2 (hm24 hok) hfn hL (H0.out.2.2.2.2.1.ext H1.out.1) (H0.out.2.2.2.2.2.ext H1.out.1)).mono ?_
    rintro e w2 ⟨⟨v, ok, nb, xb, rfl, hown, hnb, hrow⟩, hb2⟩
    have H2 := HidI (And.intro (H1.out.1.trans (hb2.mono hz1)) (And.intro (H1.out.2.ext hb2) (And.intro hown hrow)))
    obtain ⟨va, vcp, rfl⟩ := ownsRow_shape hown
    obtain ⟨q0, q0f⟩ := blk H2.out.2.1.blk
    have HZ2 : Hid (w1.heap.size ≤ w2.heap.size) := hb2.size
    clear hb2 hown hrow
    cases ok with
    | false =>
      go_wp2
      refine bodyPost_ret (results_tmp3 rfl _ _ _) rfl ⟨.inr ⟨hok, bb, vc, vr, true, rfl, hbB, .inl ⟨rfl, ?_⟩⟩, H2.out.1⟩
      obtain ⟨h1, h2, h3, h4, h5, h6⟩ := H2.out.2.1
      exact ⟨h1, ownsRow_base h2 hz0, ownsRow_base h3 hz0, hbB, h5, h6⟩
    | true =>
      go_wp2_with fail
      have hset := blk_set (i := 6) (.slice va nb vcp) H2.out.2.1.blk
      have H3 := HidI (And.intro (H2.out.1.setCell (p := ⟨bb, 6, none⟩) hbB (.slice va nb vcp)) (And.intro hset (And.intro (ownsRow_setCell_below H2.out.2.2.1 (a := ⟨bb, 6, none⟩) hbl (.slice va nb vcp)) (H2.out.2.2.2.keep (.setCell H2.out.2.1.blk (by decide) 6 (.slice va nb vcp))))))
      clear hset q0 q0f
      refine (runningOf_any (.slice va nb vcp) nv w1.heap.size w1.heap.size nb k (40 * L + 88) xb _ (by omega) H3.out.2.2.1 H3.out.2.2.2 (H0.out.2.2.2.1.ext (Nat.le_refl _) H3.out.1)).mono ?_
      rintro e w4 ⟨⟨v4, n4, xs4, hn4, rfl, hown4, hrow4⟩, hb4⟩
      have hz3 : w1.heap.size ≤ (w2.setCell ⟨bb, 6, none⟩ (.slice va nb vcp)).heap.size := by
        rw [World.size_setCell]
        exact HZ2.out
      have H4 := HidI (And.intro (H3.out.1.trans (hb4.mono H3.out.1.size)) (And.intro ((hb4.block bb (by omega)).trans H3.out.2.1) (And.intro (ownsRow_below H3.out.2.2.1 hb4) (And.intro (H3.out.2.2.2.keep (.below hb4)) (And.intro hown4 hrow4)))))
      obtain ⟨a4, c4, rfl⟩ := ownsRow_shape hown4
      clear hown4 hrow4 hb4
      have done : ∀ (w5 : World), But bb w4 w5 → (Book bb w4.heap.size vc vr (.int .i64 m.p) (.slice none 0 0) (.slice none 0 0) (.slice none 0 0) (.slice va nb vcp) 4 w5 ∨ Book bb w4.heap.size vc vr (.int .i64 m.p) (.slice none 0 0) (.slice none 0 0) (.slice none 0 0) (.slice a4 n4 c4) 4 w5) → Boxed m w.heap.size L bb vc vr w5 ∧ Below w.heap.size w w5 := fun w5 hbut hbook => by
        have tk : TKeep w1.heap.size w4 w5 := .but H4.out.2.1 (by decide) hbut
        refine ⟨?_, H4.out.1.trans (hbut.below hbB H4.out.1.size)⟩
        rcases hbook with ⟨dv, dx, hblk, _⟩ | ⟨dv, dx, hblk, _⟩
        · exact ⟨_, dv, nb, xb, hblk, ownsRow_base (ownsRow_but H4.out.2.2.1 hbl hbut) hz1, hnb, (H4.out.2.2.2.1.keep tk).base hz1⟩
        · exact ⟨_, dv, n4, xs4, hblk, ownsRow_base (ownsRow_but H4.out.2.2.2.2.1 (by omega) hbut) (by omega), by omega, (H4.out.2.2.2.2.2.keep tk).base hz1⟩
      have HD := HidI done
      clear done
      by_cases hlt : n4 < nb
      · have hlt' : (n4 : Int) < nb := by omega
        have hnD : n4 * (40 * L + 88 + 12) ≤ 1048576 * (40 * 1048576 + 100) := Nat.mul_le_mul (by omega) (by omega)
        have h14 : 14 ≤ bb := Nat.le_trans H0.out.2.2.2.2.2.size hbB
        go_wp2_with (go_at_call 16; refine (change_any bb n4 (40 * L + 88) vc vr (.int .i64 m.p) (.slice none 0 0) (.slice none 0 0) (.slice none 0 0) (.slice va nb vcp) (.slice a4 n4 c4) w4 h14 (H0.out.2.2.2.2.2.ext H4.out.1) H4.out.2.1 (boxes_of_own H4.out.2.2.2.2.1 H4.out.2.2.2.2.2) (by omega) (by omega) (by omega)).mono ?_; rintro e w5 ⟨⟨z, rfl⟩, hbut, hbook⟩; have H5 := HidI (HD.out w5 hbut hbook); clear hbut hbook)
        exact bodyPost_ret (results_tmp3 rfl _ _ _) rfl ⟨.inr ⟨hok, bb, vc, vr, false, rfl, hbB, .inr ⟨rfl, H5.out.1⟩⟩, H5.out.2⟩
      · have hlt' : ¬ (n4 : Int) < nb := by omega
        go_wp2
        exact bodyPost_ret (results_tmp3 rfl _ _ _) rfl ⟨.inr ⟨hok, bb, vc, vr, false, rfl, hbB, .inr ⟨rfl, .slice va nb vcp, .slice none 0 0, nb, xb, H4.out.2.1, ownsRow_base H4.out.2.2.1 hz1, hnb, H4.out.2.2.2.1.base hz1⟩⟩, H4.out.1⟩
end Go.Proofs.YtblkaenlajmhnaaGreatDoor
