/- markGrant: the lists of a grant. -/
import Derived.Test.YtfkddhndddfbdaaGreatDoorK3
namespace Go.Proofs.YtfkddhndddfbdaaGreatDoor
open Go.RowKit
attribute [local go_sem ↓] Go.wp_at_zero Go.wp_at_succ
attribute [local go_sem] After.cell After.frozen After.const

/-- The book's numbers: so many marks were given, these lists of numbers are marked. -/
structure BkI (c : Nat → Nat) (w : World) (g : Nat) (G : Nat → Value) (n : Nat) (L : List (Value × Nat)) : Prop where
  row : w.rowIs g 67 24 G
  col : c g = 1
  top : Top c w
  cnt : G 14 = .int .i64 (n : Int)
  ints : MK c w 2 5 23 1 pInt (G 11) (G 15) L

theorem BkI.below {c : Nat → Nat} {w w' : World} {g : Nat} {G : Nat → Value} {n : Nat} {L : List (Value × Nat)} (h : BkI c w g G n L) (hb : Below w.heap.size w w') : BkI c w' g G n L := by
  have t : Turn (fun _ => False) c w c w' := (Turn.refl h.top).below hb
  exact ⟨h.row.of_block (hb.block g h.row.lt), h.col, t.top, h.cnt, h.ints.turn t (fun h => h) (fun h => h) (fun h => h)⟩

theorem markInts_bk (g : Nat) (G : Nat → Value) (c : Nat → Nat) (w : World) (n k y : Nat) (v : Value) (xs : List Value) (L : List (Value × Nat)) (hb : BkI c w g G n L) (hv : RowC c w y 3 1 v k xs) (hy : 20 ≤ y) (hL : L.length + 4 ≤ 1000000000000) (hnn : n + 1 ≤ 1000000000000) (hk : k + 3 ≤ 1000000000000) :
    Calls Tryz.prog 215 #[.pointer (some ⟨g, 11, none⟩), v] w fun e w' => e = .returned (.tuple #[]) ∧ ∃ c' G' L', BkI c' w' g G' (n + 1) L' ∧ (∀ j, j ≠ 11 → j ≠ 14 → j ≠ 15 → G' j = G j) ∧ L'.length = L.length + 4 ∧ Turn (fun x => x = 1 ∨ x = 2 ∨ x = 5 ∨ x = y) c w c' w' := by
  refine (markInts_any g G c w n k y v xs L hb.row hb.col hb.top hb.cnt hb.ints hv hy hL hnn hk).mono ?_
  rintro e w' ⟨he, c', G', L', h1, h2, h3, h4, h5, h6, h7⟩
  exact ⟨he, c', G', L', ⟨h1, h2, h7.top, h3, h5⟩, h4, h6, h7⟩

set_option maxRecDepth 100000 in
set_option maxHeartbeats 4000000 in
theorem markGrant_any (g : Nat) (G : Nat → Value) (c : Nat → Nat) (w : World) (n y : Nat) (A : Nat → Option Addr) (N C : Nat → Nat) (X : Nat → List Value) (L : List (Value × Nat)) (hb : BkI c w g G n L) (hv : ∀ q, q < 4 → RowC c w (y + q) 3 1 (.slice (A q) (N q) (C q)) (N q) (X q)) (hy : 20 ≤ y)
    (hL : L.length + 16 ≤ 1000000000000) (hnn : n + 4 ≤ 1000000000000) (hk : ∀ q, q < 4 → N q + 3 ≤ 1000000000000) :
    Calls Tryz.prog 145 #[.pointer (some ⟨g, 11, none⟩), .agg #[.slice (A 0) (N 0) (C 0), .slice (A 1) (N 1) (C 1), .slice (A 2) (N 2) (C 2), .slice (A 3) (N 3) (C 3)]] w fun e w' => e = .returned (.tuple #[]) ∧
      ∃ c' G' L', BkI c' w' g G' (n + 4) L' ∧ (∀ j, j ≠ 11 → j ≠ 14 → j ≠ 15 → G' j = G j) ∧ L'.length = L.length + 16 ∧ Turn (fun x => x = 1 ∨ x = 2 ∨ x = 5 ∨ y ≤ x ∧ x < y + 4) c w c' w' := by
  obtain ⟨W0, hW0⟩ : ∃ W0, W0 = w.alloc (.cells #[.slice (A 0) (N 0) (C 0), .slice (A 1) (N 1) (C 1), .slice (A 2) (N 2) (C 2), .slice (A 3) (N 3) (C 3)] 42) := ⟨_, rfl⟩
  have hB0 : Below w.heap.size w W0 := by rw [hW0]; exact (Below.refl _ _).alloc (Nat.le_refl _) _
  have k0 : W0.heap[w.heap.size]? = some (.cells #[.slice (A 0) (N 0) (C 0), .slice (A 1) (N 1) (C 1), .slice (A 2) (N 2) (C 2), .slice (A 3) (N 3) (C 3)] 42 (0, 0)) := by rw [hW0]; exact heap_alloc_new _ _
  have t0 : Turn (fun _ => False) c w c W0 := (Turn.refl hb.top).below hB0
  have hc0 : c w.heap.size = 0 := hb.top _ (Nat.le_refl _)
  have hs0 : w.heap.size < W0.heap.size := by rw [hW0]; simp
  have HB : Hid (BkI c W0 g G n L ∧ (∀ q, q < 4 → RowC c W0 (y + q) 3 1 (.slice (A q) (N q) (C q)) (N q) (X q)) ∧ Turn (fun _ => False) c w c W0) := ⟨hb.below hB0, fun q hq => (hv q hq).turn t0 (fun h => h), t0⟩
  obtain ⟨q0, q0f⟩ := blk k0
  have HK : Hid (W0.heap[w.heap.size]? = some (.cells #[.slice (A 0) (N 0) (C 0), .slice (A 1) (N 1) (C 1), .slice (A 2) (N 2) (C 2), .slice (A 3) (N 3) (C 3)] 42 (0, 0))) := k0
  clear hb hB0 t0 hv k0
  go_enter Tryz.func145, Tryz.ntmps145
  go_wp2_with (go_at_call 215; rw [← hW0]; clear hW0; refine (markInts_bk g G c W0 n (N 0) (y + 0) _ (X 0) L HB.out.1 (HB.out.2.1 0 (by omega)) (by omega) (by omega) (by omega) (hk 0 (by omega))).mono ?_; rintro e w1 ⟨rfl, c1, G1, L1, m1, m2, m3, m4⟩)
  have H1 : Hid (BkI c1 w1 g G1 (n + 1) L1 ∧ (∀ j, j ≠ 11 → j ≠ 14 → j ≠ 15 → G1 j = G j) ∧ L1.length = L.length + 4 ∧ Turn (fun x => x = 1 ∨ x = 2 ∨ x = 5 ∨ x = y + 0) c W0 c1 w1) := ⟨m1, m2, m3, m4⟩
  clear m1 m2 m3 m4
  go_wp2_with fail
  go_loopw [4] (fun i wr => ∃ q : Nat, q ≤ 3 ∧ i = .int .i64 q ∧ ∃ c' G' L', BkI c' wr g G' (n + 1 + q) L' ∧ (∀ j, j ≠ 11 → j ≠ 14 → j ≠ 15 → G' j = G j) ∧ L'.length = L.length + 4 + 4 * q ∧ Turn (fun x => x = 1 ∨ x = 2 ∨ x = 5 ∨ y ≤ x ∧ x < y + 1 + q) c W0 c' wr) (fun i _ => 3 - (intOf i).toNat)
  case atStart => exact ⟨0, by omega, rfl, c1, G1, L1, H1.out.1, H1.out.2.1, H1.out.2.2.1, H1.out.2.2.2.mono (fun x h => by omega)⟩
  case round =>
    obtain ⟨q, hq, rfl, c', G', L', h1, h2, h3, h4⟩ := hrel
    have HR : Hid (BkI c' wr g G' (n + 1 + q) L' ∧ (∀ j, j ≠ 11 → j ≠ 14 → j ≠ 15 → G' j = G j) ∧ L'.length = L.length + 4 + 4 * q ∧ Turn (fun x => x = 1 ∨ x = 2 ∨ x = 5 ∨ y ≤ x ∧ x < y + 1 + q) c W0 c' wr) := ⟨h1, h2, h3, h4⟩
    obtain ⟨y0, y0f⟩ := blk ((h4.keep w.heap.size hs0 (by omega)).1.trans HK.out)
    clear h1 h2 h3 h4 q0 q0f
    by_cases hlt : q < 3
    · have HV : Hid (∀ q, q < 4 → RowC c W0 (y + q) 3 1 (.slice (A q) (N q) (C q)) (N q) (X q)) := HB.out.2.1
      have hl := HR.out.2.2.1
      have hnq := hk (q + 1) (by omega)
      have rq := (HV.out (q + 1) (by omega)).turn HR.out.2.2.2 (by omega)
      have hcall := markInts_bk g G' c' wr (n + 1 + q) (N (q + 1)) (y + (q + 1)) _ (X (q + 1)) L' HR.out.1 rq (by omega) (by omega) (by omega) hnq
      rw [show n + 1 + q + 1 = n + 1 + (q + 1) by omega] at hcall
      have HC : Hid _ := hcall
      clear rq hcall
      rcases (show q = 0 ∨ q = 1 ∨ q = 2 by omega) with rfl | rfl | rfl <;> (
        go_wp2_with (go_at_call 215; refine Calls.mono (Hid.out HC) ?_; rintro e w2 ⟨rfl, c2, G2, L2, m1, m2, m3, m4⟩)
        go_roundw
        case rel => exact ⟨_, by omega, by go_num, c2, G2, L2, m1, fun j j1 j2 j3 => (m2 j j1 j2 j3).trans (HR.out.2.1 j j1 j2 j3), by rw [m3]; omega, (HR.out.2.2.2.mono (fun x h => by omega)).trans (m4.mono (fun x h => by omega))⟩
        case measure => simp [intOf])
    · have : q = 3 := by omega
      subst this
      go_wp2_with fail
      go_end0
      exact ⟨rfl, c', G', L', HR.out.1, HR.out.2.1, by rw [HR.out.2.2.1], (HB.out.2.2.mono (fun _ h => h.elim)).trans (HR.out.2.2.2.mono (fun x h => by omega))⟩
end Go.Proofs.YtfkddhndddfbdaaGreatDoor
