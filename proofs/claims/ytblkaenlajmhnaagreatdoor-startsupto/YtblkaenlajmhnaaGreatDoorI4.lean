/- recall of no files. Restart with no files. -/
import Derived.Test.YtblkaenlajmhnaaGreatDoorI2
namespace Go.Proofs.YtblkaenlajmhnaaGreatDoor
open Go.RowKit
attribute [local go_sem ↓] Go.wp_at_zero Go.wp_at_succ
attribute [local go_sem] After.cell After.frozen After.const
theorem recall_nil (bb : Nat) (w : World) :
    Calls Tryz.prog 14 #[.pointer (some ⟨bb, 0, none⟩), .slice none 0 0] w fun e w' => e = .returned (.tuple #[.slice none 0 0, .bool true]) ∧ Below w.heap.size w w' := by
  go_enter Tryz.func14, Tryz.ntmps14
  go_wp2_with fail
  refine (textsOf_any (.slice none 0 0) 0 0 w (by omega) ⟨none, 0, rfl, Nat.le_refl _, by omega, fun h => absurd h (Nat.lt_irrefl _)⟩).mono ?_
  rintro e w1 ⟨tv, k, xs, rfl, hown, hk, _, hb1⟩
  obtain rfl : k = 0 := by omega
  obtain ⟨ta, tc, rfl⟩ := ownsRow_shape hown
  have H1 := HidI hb1
  clear hown hb1
  go_wp2
  go_ret2
  exact ⟨rfl, H1.out⟩
theorem TKeep.but {B0 bb : Nat} {A B : World} {cs : Array Value} {T : TypeId} {f : Nat × Nat} (h : A.heap[bb]? = some (.cells cs T f)) (hT : T ≠ 3) (hb : But bb A B) : TKeep B0 A B := fun b cs' f' _ e => by
  refine (hb.block b (Array.getElem?_eq_some_iff.1 e).1 (fun eq => ?_)).trans e
  subst eq
  rw [h] at e
  cases e
  exact hT rfl
theorem ownsRow_but {bb base n size : Nat} {A B : World} {e : TypeId} {v : Value} {xs : List Value} (h : A.ownsRow base e size v n xs) (hbb : bb < base) (hb : But bb A B) : B.ownsRow base e size v n xs := by
  refine ⟨h.1, ?_⟩
  rcases h.2 with h2 | ⟨g, cap, cur, hv, hg, hh, r⟩
  · exact .inl h2
  · exact .inr ⟨g, cap, cur, hv, hg, (hb.block g (Array.getElem?_eq_some_iff.1 hh).1 (by omega)).trans hh, r⟩
end Go.Proofs.YtblkaenlajmhnaaGreatDoor
namespace Go.Proofs.YtblkaenlajmhnaaGreatDoor
open Go.RowKit
attribute [local go_sem ↓] Go.wp_at_zero Go.wp_at_succ
attribute [local go_sem] After.cell After.frozen After.const
theorem ownBlock_ne {w : World} {base bb n size : Nat} {e T : TypeId} {v : Value} {xs : List Value} {cs : Array Value} {f : Nat × Nat} (h : w.ownsRow base e size v n xs) (hb : w.heap[bb]? = some (.cells cs T f)) (hT : e ≠ T) : v.ownBlock ≠ some bb := fun hv => by
  rcases h.2 with ⟨rfl, _⟩ | ⟨g, cap, cur, rfl, _, hh, _⟩
  · simp [Value.ownBlock] at hv
  · simp [Value.ownBlock] at hv
    subst hv
    rw [hh] at hb
    cases hb
    exact hT rfl
theorem ownsRow_set_ty {w : World} {base bb n size j : Nat} {e T : TypeId} {v : Value} {xs : List Value} {cs : Array Value} {f : Nat × Nat} (h : w.ownsRow base e size v n xs) (hb : w.heap[bb]? = some (.cells cs T f)) (hT : e ≠ T) (u : Value) : (w.setCell ⟨bb, j, none⟩ u).ownsRow base e size v n xs := by
  have hne := ownBlock_ne h hb hT
  refine ⟨h.1, ?_⟩
  rcases h.2 with h2 | ⟨g, cap, cur, rfl, hg, hh, r⟩
  · exact .inl h2
  · exact .inr ⟨g, cap, cur, rfl, hg, blk_other (a := ⟨bb, j, none⟩) _ hh (fun e2 => hne (by have e3 : g = bb := e2; rw [e3]; rfl)), r⟩
theorem BerthIs.again {w : World} {base bb : Nat} {m : Mach} {vc vr : Value} (h : BerthIs w base bb m vc vr) : BerthIs (w.setCell ⟨bb, 6, none⟩ (.slice none 0 0)) base bb m vc vr := by
  obtain ⟨h1, h2, h3, h4, h5, h6⟩ := h
  exact ⟨blk_set (i := 6) _ h1, ownsRow_set_ty h2 h1 (by decide) _, ownsRow_set_ty h3 h1 (by decide) _, h4, h5.set (a := ⟨bb, 6, none⟩) (ownBlock_ne h2 h1 (by decide)) _, h6.set (a := ⟨bb, 6, none⟩) (ownBlock_ne h3 h1 (by decide)) _⟩
def Fresh (m : Mach) (B0 : Nat) (e : Ending) (w' : World) : Prop := (¬ m.ok ∧ e = .returned (.tuple #[.pointer none, .bool false, .int .i64 1])) ∨ (m.ok ∧ ∃ bb vc vr, e = .returned (.tuple #[.pointer (some ⟨bb, 0, none⟩), .bool false, .int .i64 0]) ∧ BerthIs w' B0 bb m vc vr)
set_option maxRecDepth 100000 in
set_option maxHeartbeats 2000000 in
theorem restart_nil (m : Mach) (cb rb k : Nat) (nv : Value) (w : World) (hn : m.n * 24 ≤ 140737488355328) (hr : m.r * 8 ≤ 140737488355328) (hc : w.rowIs cb 46 ((m.n + 8) * 3) (hC m)) (hrr : w.rowIs rb 3 (m.r + 8) (hR m)) (hnm : Names w nv k) :
    Calls Tryz.prog 5 #[.agg #[.slice (some ⟨cb, 0, none⟩) m.n (m.n + 8), .slice (some ⟨rb, 0, none⟩) m.r (m.r + 8), .int .i64 m.p], .slice none 0 0, nv] w fun e w' => Fresh m w.heap.size e w' ∧ Below w.heap.size w w' := by
  obtain ⟨W0, hW0⟩ : ∃ W0, W0 = w.alloc (.cells #[.slice (some ⟨cb, 0, none⟩) m.n (m.n + 8), .slice (some ⟨rb, 0, none⟩) m.r (m.r + 8), .int .i64 m.p] 25) := ⟨_, rfl⟩
  have b0 : Below w.heap.size w W0 := by rw [hW0]; exact (Below.refl _ _).alloc (Nat.le_refl _) _
  have H0 := HidI (And.intro b0 (And.intro (hc.of_block (b0.block _ hc.lt)) (And.intro (hrr.of_block (b0.block _ hrr.lt)) hnm)))
  have hz0 : w.heap.size ≤ W0.heap.size := b0.size
  clear b0 hc hrr hnm
  go_enter Tryz.func5, Tryz.ntmps5
  go_wp2_with fail
  rw [← hW0]
  clear hW0
  refine (start_any m cb rb W0 hn hr H0.out.2.1 H0.out.2.2.1).mono ?_
  rintro e w1 ⟨hb1, ⟨hok, rfl⟩ | ⟨hok, bb, vc, vr, rfl, hB⟩⟩
  · have H1 := HidI (H0.out.1.trans (hb1.mono hz0))
    clear hb1
    go_wp2
    exact bodyPost_ret (results_tmp3 rfl _ _ _) rfl ⟨.inl ⟨hok, rfl⟩, H1.out⟩
  · have H1 := HidI (And.intro (H0.out.1.trans (hb1.mono hz0)) hB)
    clear hb1 hB
    go_wp2_with fail
    refine (recall_nil bb w1).mono ?_
    rintro e w2 ⟨rfl, hb2⟩
    have H2 := HidI (And.intro (H1.out.1.trans (hb2.mono H1.out.1.size)) (H1.out.2.ext hb2))
    obtain ⟨q0, q0f⟩ := blk H2.out.2.blk
    clear hb2
    go_wp2_with fail
    have hbB : w.heap.size ≤ bb := Nat.le_trans hz0 H2.out.2.base
    have H3 := HidI (And.intro (H2.out.1.setCell (p := ⟨bb, 6, none⟩) hbB (.slice none 0 0)) H2.out.2.again)
    refine (runningOf_any (.slice none 0 0) nv 0 0 0 k 0 [] _ (by omega) (World.ownsRow_nil _ _ _ _) (BoxRow.nil _ _ _) (H0.out.2.2.2.ext (Nat.le_refl _) H3.out.1)).mono ?_
    rintro e w4 ⟨⟨v4, n4, xs4, hn4, rfl, hown4, _⟩, hb4⟩
    obtain rfl : n4 = 0 := by omega
    obtain ⟨a4, c4, rfl⟩ := ownsRow_shape hown4
    have H4 := HidI (And.intro (H3.out.1.trans (hb4.mono H3.out.1.size)) (H3.out.2.ext hb4))
    clear hown4 hb4
    go_wp2
    exact bodyPost_ret (results_tmp3 rfl _ _ _) rfl ⟨.inr ⟨hok, bb, vc, vr, rfl, H4.out.2.1, ownsRow_base H4.out.2.2 hz0, ownsRow_base H4.out.2.3 hz0, hbB, H4.out.2.5, H4.out.2.6⟩, H4.out.1⟩
end Go.Proofs.YtblkaenlajmhnaaGreatDoor
