/- Boxes of a berth with boxes: it ends with a row. -/
import Derived.Test.YtblkaenlajmhnaaGreatDoorI8
namespace Go.Proofs.YtblkaenlajmhnaaGreatDoor
open Go.RowKit
attribute [local go_sem ↓] Go.wp_at_zero Go.wp_at_succ
attribute [local go_sem] After.cell After.frozen After.const
def Rest (w wr : World) (a : Option Addr) (k n cap : Nat) (xs : List Value) : Prop := 0 < n → ∃ g cur, a = some ⟨g, 0, none⟩ ∧ w.heap.size ≤ g ∧ wr.heap[g]? = some (.cells cur 63 (0, 0)) ∧ cur.size = cap * 5 ∧ n ≤ cap ∧ ∀ j, k * 5 ≤ j → j < n * 5 → cur[j]? = xs[j]?
theorem rest_of_own {w w1 : World} {a : Option Addr} {n cap : Nat} {xs : List Value} (h : w1.ownsRow w.heap.size 63 5 (.slice a n cap) n xs) : Rest w w1 a 0 n cap xs := fun h0 => by
  rcases h.2 with ⟨hv, h1⟩ | ⟨g, cap', cur, hv, hb, hg, hc, hm, hs, ht⟩
  · omega
  · cases hv
    refine ⟨g, cur, rfl, hb, hg, hs, hc, fun j _ hj => ?_⟩
    rw [← ht, List.getElem?_take, if_pos hj, Array.getElem?_toList]
theorem Rest.step {w wr : World} {a : Option Addr} {k n cap : Nat} {xs : List Value} (h : Rest w wr a k n cap xs) (g : Nat) (hg : a = some ⟨g, 0, none⟩) (vs : List Value) (hl : vs.length = 4) : Rest w (wr.setCells g (k * 5 + 1) vs) a (k + 1) n cap xs := fun h0 => by
  obtain ⟨g', cur, e, h1, h2, h3, h4, h5⟩ := h h0
  obtain rfl : g = g' := by rw [hg] at e; cases e; rfl
  obtain ⟨cur', c1, c2, c3, _⟩ := setCells_blk2 vs (k * 5 + 1) wr cur h2
  exact ⟨g, cur', hg, h1, c1, by rw [c2, h3], h4, fun j h6 h7 => by rw [c3 j (.inr (by omega))]; exact h5 j (by omega) h7⟩
theorem Rest.ext {w wr w2 : World} {a : Option Addr} {k n cap : Nat} {xs : List Value} (h : Rest w wr a k n cap xs) (hb : Below wr.heap.size wr w2) : Rest w w2 a k n cap xs := fun h0 => by
  obtain ⟨g', cur, e, h1, h2, h3, h4, h5⟩ := h h0
  exact ⟨g', cur, e, h1, (hb.block _ (Array.getElem?_eq_some_iff.1 h2).1).trans h2, h3, h4, h5⟩
theorem set4_cells (w : World) (g o : Nat) (v0 v1 v2 v3 : Value) : w.setCells g o [v0, v1, v2, v3] = (((w.setCell ⟨g, o, none⟩ v0).setCell ⟨g, o + 1, none⟩ v1).setCell ⟨g, o + 1 + 1, none⟩ v2).setCell ⟨g, o + 1 + 1 + 1, none⟩ v3 := rfl
theorem Rest.at {w wr : World} {a : Option Addr} {k n cap D B0 : Nat} {xs : List Value} (h : Rest w wr a k n cap xs) (hk : k < n) (hx : BoxRow B0 w D xs) (hl : xs.length = n * 5) : ∃ g A N C R, a = some ⟨g, 0, none⟩ ∧ w.heap.size ≤ g ∧ n ≤ cap ∧ GInts w A N C R ∧ 22 * (N 0 + N 1 + N 2 + N 3) ≤ D ∧ (∀ j, wr.frozen? ⟨g, j, none⟩ = false) ∧
    wr.cell? ⟨g, k * 5 + 1, none⟩ = some (.slice (A 0) (N 0) (C 0)) ∧ wr.cell? ⟨g, k * 5 + 2, none⟩ = some (.slice (A 1) (N 1) (C 1)) ∧ wr.cell? ⟨g, k * 5 + 3, none⟩ = some (.slice (A 2) (N 2) (C 2)) ∧ wr.cell? ⟨g, k * 5 + 4, none⟩ = some (.slice (A 3) (N 3) (C 3)) := by
  obtain ⟨g, cur, e, h1, h2, h3, h4, h5⟩ := h (by omega)
  obtain ⟨l, rfl, hl2⟩ := hx
  obtain ⟨f1, f2⟩ := flat5 l (fun x hx => (hl2 x hx).len)
  have hk' : k < l.length := by omega
  obtain ⟨nm, A, N, C, R, ex, g4, _, r2⟩ := hl2 _ (List.getElem_mem hk')
  have c : ∀ j u, j < 5 → (l[k])[j]? = some u → wr.cell? ⟨g, k * 5 + j, none⟩ = some u := fun j u hj hu => by
    rw [(blk h2).1, h5 _ (by omega) (by omega), f2 k j _ (List.getElem?_eq_getElem hk') hj, hu]
  rw [ex] at c
  exact ⟨g, A, N, C, R, e, h1, h4, g4.1, by omega, (blk h2).2, c 1 _ (by omega) rfl, c 2 _ (by omega) rfl, c 3 _ (by omega) rfl, c 4 _ (by omega) rfl⟩
set_option maxRecDepth 100000 in
set_option maxHeartbeats 2000000 in
theorem boxes_any (bb B0 n D : Nat) (y0 y1 y2 y3 y4 y5 bv y7 y8 y9 : Value) (xs : List Value) (w : World) (hb : w.heap[bb]? = some (.cells #[y0, y1, y2, y3, y4, y5, bv, y7, y8, y9] 57 (0, 0))) (hn : n ≤ 1048576) (hD : D ≤ 17592186044416) (h : w.ownsRow B0 63 5 bv n xs) (hx : BoxRow B0 w D xs) :
    Calls Tryz.prog 8 #[.pointer (some ⟨bb, 0, none⟩)] w fun e w' => SliceRet e ∧ Below w.heap.size w w' := by
  obtain ⟨q0, q0f⟩ := blk hb
  have H0 := HidI (And.intro h.1 hx)
  go_enter Tryz.func8, Tryz.ntmps8
  go_wp2_with fail
  refine (cloneB_any bv B0 B0 n D xs w hn h hx).mono ?_
  rintro e w1 ⟨⟨v1, rfl, hown⟩, hb1⟩
  obtain ⟨a1, k1, rfl⟩ := ownsRow_shape hown
  have H1 := HidI (And.intro hb1 (rest_of_own hown))
  clear hown hb1 h hx hb
  go_wp2_with fail
  go_loopw [12] (fun i wr => ∃ k : Nat, k ≤ n ∧ i = .int .i64 k ∧ Below w.heap.size w wr ∧ Rest w wr a1 k n k1 xs) (fun i _ => n - (intOf i).toNat)
  case atStart => exact ⟨0, by omega, rfl, H1.out.1, H1.out.2⟩
  case round =>
    obtain ⟨k, hk, rfl, hb, hr⟩ := hrel
    have HR := HidI (And.intro hb hr)
    clear hb
    by_cases hlt : k < n
    · have hlt' : (k : Int) < n := by omega
      obtain ⟨g, A, N, C, R, rfl, hg, hcap, gi, hN, qf, e1, e2, e3, e4⟩ := hr.at hlt H0.out.2 H0.out.1
      have HG := HidI (And.intro hg gi)
      clear hr hg gi
      go_wp2_with fail
      refine (copyGrant_any A N C R wr (HG.out.2.ext HR.out.1) (fun q hq => by
        rcases (show q = 0 ∨ q = 1 ∨ q = 2 ∨ q = 3 by omega) with rfl | rfl | rfl | rfl <;> omega)).mono ?_
      rintro e w2 ⟨⟨A', N', C', rfl⟩, hb2⟩
      have H2 := HidI (And.intro (HR.out.1.trans (hb2.mono HR.out.1.size)) (HR.out.2.ext hb2))
      obtain ⟨g', A2, N2, C2, R2, e, _, _, _, _, qf2, z1, z2, z3, z4⟩ := H2.out.2.at hlt H0.out.2 H0.out.1
      obtain rfl : g = g' := by cases e; rfl
      have HS := HidI (H2.out.2.step g rfl [.slice (A' 0) (N' 0) (C' 0), .slice (A' 1) (N' 1) (C' 1), .slice (A' 2) (N' 2) (C' 2), .slice (A' 3) (N' 3) (C' 3)] rfl)
      have HS2 := HidI (below_cells HG.out.1 [.slice (A' 0) (N' 0) (C' 0), .slice (A' 1) (N' 1) (C' 1), .slice (A' 2) (N' 2) (C' 2), .slice (A' 3) (N' 3) (C' 3)] (k * 5 + 1) w2 H2.out.1)
      rw [set4_cells] at HS HS2
      clear e hb2 e1 e2 e3 e4 qf
      unfold GVal
      go_wp2_with fail
      go_roundw
      case rel => exact ⟨k + 1, by omega, by go_num, HS2.out, HS.out⟩
      case measure => simp [intOf]; omega
    · obtain rfl : k = n := by omega
      clear hr
      go_wp2
      go_ret
      exact ⟨⟨_, _, _, rfl⟩, HR.out.1⟩
end Go.Proofs.YtblkaenlajmhnaaGreatDoor
