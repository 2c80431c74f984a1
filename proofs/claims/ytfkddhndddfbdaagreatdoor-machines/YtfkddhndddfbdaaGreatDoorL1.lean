/- Leaf contracts of package machine: what makes a machine valid. Helpers for all walks of this seat. -/
import Derived.Test.YtfkddhndddfbdaaGreatDoorL0
namespace Go.Proofs.YtfkddhndddfbdaaGreatDoor
open Go.RowKit

def place (s n c : Int) : Prop := 0 ≤ s ∧ s < 4 ∧ 0 ≤ n ∧ n < 4 ∧ 0 ≤ c ∧ c < 24
def agr (s n c s' n' c' : Int) : Prop := ¬ (c = c' ∧ n ≠ n') ∧ (n ≠ n' ∨ s = s')
def okCs (S N C : Nat → Int) (n : Nat) : Prop := ∀ i, i < n → place (S i) (N i) (C i) ∧ ∀ j, j < i → agr (S i) (N i) (C i) (S j) (N j) (C j)
def okRs (n : Nat) (R : Nat → Int) (r : Nat) : Prop := ∀ i, i < r → 0 ≤ R i ∧ R i < n ∧ (0 < i → R (i - 1) < R i)
def okM (n : Nat) (S N C : Nat → Int) (r : Nat) (R : Nat → Int) (p : Int) : Prop := 1 ≤ n ∧ n ≤ 24 ∧ okCs S N C n ∧ okRs n R r ∧ 0 ≤ p ∧ p ≤ 3

/-- n CPUs lie at block b from o on. -/
def CpuAt (w : World) (b o n : Nat) (S N C : Nat → Int) : Prop :=
  ∀ i, i < n → w.cell? ⟨b, o + i * 3, none⟩ = some (.int .i64 (S i)) ∧ w.cell? ⟨b, o + i * 3 + 1, none⟩ = some (.int .i64 (N i)) ∧ w.cell? ⟨b, o + i * 3 + 2, none⟩ = some (.int .i64 (C i))
def IntAt (w : World) (b o n : Nat) (R : Nat → Int) : Prop := ∀ i, i < n → w.cell? ⟨b, o + i, none⟩ = some (.int .i64 (R i))
theorem CpuAt.ext {w w' : World} {b o n : Nat} {S N C : Nat → Int} (h : CpuAt w b o n S N C) (hb : Below w.heap.size w w') : CpuAt w' b o n S N C := fun i hi => by
  obtain ⟨h0, h1, h2⟩ := h i hi
  have hbb : b < w.heap.size := block_lt_of_cell h0
  exact ⟨(hb.cell (p := ⟨b, _, none⟩) hbb).trans h0, (hb.cell (p := ⟨b, _, none⟩) hbb).trans h1, (hb.cell (p := ⟨b, _, none⟩) hbb).trans h2⟩
theorem IntAt.ext {w w' : World} {b o n : Nat} {R : Nat → Int} (h : IntAt w b o n R) (hb : Below w.heap.size w w') : IntAt w' b o n R := fun i hi => by
  have h0 := h i hi
  have hbb : b < w.heap.size := block_lt_of_cell h0
  exact (hb.cell (p := ⟨b, _, none⟩) hbb).trans h0
theorem CpuAt.after {w W : World} {b o n : Nat} {S N C : Nat → Int} (h : CpuAt w b o n S N C) (hb : Below w.heap.size w W) (x : After W) : CpuAt x.val b o n S N C := h.ext (ext_trans hb x.later)
theorem IntAt.after {w W : World} {b o n : Nat} {R : Nat → Int} (h : IntAt w b o n R) (hb : Below w.heap.size w W) (x : After W) : IntAt x.val b o n R := h.ext (ext_trans hb x.later)
theorem CpuAt.mono {w : World} {b o n m : Nat} {S N C : Nat → Int} (h : CpuAt w b o n S N C) (hm : m ≤ n) : CpuAt w b o m S N C := fun i hi => h i (by omega)

set_option maxHeartbeats 400000 in
theorem agree_any (s n c s' n' c' : Int) (w : World) :
    Calls Tryz.prog 289 #[.agg #[.int .i64 s, .int .i64 n, .int .i64 c], .agg #[.int .i64 s', .int .i64 n', .int .i64 c']] w fun e w' =>
      Ans (agr s n c s' n' c') e ∧ Below w.heap.size w w' := by
  by_cases hc : c = c' <;> by_cases hn : n = n' <;> by_cases hs : s = s' <;> (
    go_enter Tryz.func289, Tryz.ntmps289
    go_wp2
    go_ret
    exact ⟨⟨_, rfl, by simp [agr, hc, hn, hs]⟩, ((Below.refl _ _).alloc (Nat.le_refl _) _).alloc (by simp) _⟩)

set_option maxHeartbeats 400000 in
theorem agreesWithAll_any (s n c : Int) (b o k cap : Nat) (S N C : Nat → Int) (w : World) (hk : k ≤ 9223372036854775807) (hcell : CpuAt w b o k S N C) :
    Calls Tryz.prog 251 #[.agg #[.int .i64 s, .int .i64 n, .int .i64 c], .slice (some ⟨b, o, none⟩) k cap] w fun e w' =>
      Ans ((∀ i, i < k → agr s n c (S i) (N i) (C i))) e ∧ Below w.heap.size w w' := by
  go_enter Tryz.func251, Tryz.ntmps251
  go_wp2
  go_loopw [9] (fun i wr => ∃ j : Nat, j ≤ k ∧ i = .int .i64 j ∧ Below w.heap.size w wr ∧ wr.cell? ⟨w.heap.size, 0, none⟩ = some (.int .i64 s) ∧ wr.cell? ⟨w.heap.size, 1, none⟩ = some (.int .i64 n) ∧ wr.cell? ⟨w.heap.size, 2, none⟩ = some (.int .i64 c) ∧ ∀ i, i < j → agr s n c (S i) (N i) (C i))
     (fun i _ => k - (intOf i).toNat)
  case atStart => exact ⟨0, Nat.zero_le _, rfl, (Below.refl _ _).alloc (Nat.le_refl _) _, by simp, by simp, by simp, fun i hi => absurd hi (Nat.not_lt_zero _)⟩
  case round =>
    obtain ⟨j, hj, rfl, hb, h0, h1, h2, hall⟩ := hrel
    have HA : Hid (∀ i, i < j → agr s n c (S i) (N i) (C i)) := hall
    clear hall
    have hbz : w.heap.size < wr.heap.size := block_lt_of_cell h0
    by_cases hlt : j < k
    · obtain ⟨c0, c1, c2⟩ := hcell j hlt
      have hbb : b < w.heap.size := block_lt_of_cell c0
      have c0 := (hb.cell (p := ⟨b, o + j * 3, none⟩) hbb).trans c0
      have c1 := (hb.cell (p := ⟨b, o + j * 3 + 1, none⟩) hbb).trans c1
      have c2 := (hb.cell (p := ⟨b, o + j * 3 + 2, none⟩) hbb).trans c2
      go_wp2_with fail
      refine (agree_any s n c (S j) (N j) (C j) _).mono ?_
      rintro e w1 ⟨⟨r, rfl, hr⟩, hb1⟩
      have hb1' : Below w.heap.size w w1 := (hb.alloc (by omega) _).trans (hb1.mono (by simp; omega))
      obtain ⟨hc1, hf1⟩ := bcell hb1
      cases r
      · have hr' : Hid (¬ agr s n c (S j) (N j) (C j)) := fun h => by simp [h] at hr
        clear hr
        go_wp2
        go_ret
        exact ⟨.no (fun h => hr'.out (h j hlt)), hb1'⟩
      · have hr' : Hid (agr s n c (S j) (N j) (C j)) := hr.1 rfl
        clear hr
        go_wp2
        go_roundw
        case rel => exact ⟨j + 1, by omega, by go_num, hb1', by rw [hc1 _ _ (by simp; omega)]; simpa [World.cell?_alloc_past _ _ _ hbz] using h0, by rw [hc1 _ _ (by simp; omega)]; simpa [World.cell?_alloc_past _ _ _ hbz] using h1, by rw [hc1 _ _ (by simp; omega)]; simpa [World.cell?_alloc_past _ _ _ hbz] using h2, fun i hi => by
            rcases Nat.lt_succ_iff_lt_or_eq.1 hi with h | h
            · exact HA.out i h
            · subst h; exact hr'.out⟩
        case measure => simp [intOf]; omega
    · have : j = k := by omega
      subst this
      go_wp2
      go_ret
      exact ⟨.yes HA.out, hb⟩

set_option maxHeartbeats 400000 in
theorem validPlace_any (s n c : Int) (w : World) :
    Calls Tryz.prog 250 #[.agg #[.int .i64 s, .int .i64 n, .int .i64 c]] w fun e w' =>
      Ans (place s n c) e ∧ Below w.heap.size w w' := by
  go_enter Tryz.func250, Tryz.ntmps250
  go_wp2
  all_goals (go_ret; exact ⟨⟨_, rfl, by simp only [place]; simp; omega⟩, (Below.refl _ _).alloc (Nat.le_refl _) _⟩)

set_option maxHeartbeats 400000 in
theorem validReserved_any (ao : Option Addr) (b o k cap n : Nat) (R : Nat → Int) (w : World) (hk : k ≤ 9223372036854775807) (hn : n ≤ 24) (ha : 0 < k → ao = some ⟨b, o, none⟩) (hcell : IntAt w b o k R) :
    Calls Tryz.prog 169 #[.slice ao k cap, .int .i64 n] w fun e w' =>
      Ans (okRs n R k) e ∧ w' = w := by
  go_enter Tryz.func169, Tryz.ntmps169
  go_wp2
  go_loop [5, 10] (fun l i => ∃ j : Nat, ∃ last : Int, j ≤ k ∧ i = .int .i64 j ∧ l = .int .i64 last ∧ -1 ≤ last ∧ last < 24 ∧ (last = if j = 0 then -1 else R (j - 1)) ∧ okRs n R j)
     (fun _ i => k - (intOf i).toNat)
  case atStart => exact ⟨0, -1, Nat.zero_le _, rfl, rfl, by omega, by omega, rfl, fun i hi => absurd hi (Nat.not_lt_zero _)⟩
  case round =>
    obtain ⟨j, last, hj, rfl, rfl, hl1, hl2, hl3, hok⟩ := hrel
    have HA : Hid (okRs n R j ∧ last = if j = 0 then -1 else R (j - 1)) := ⟨hok, hl3⟩
    clear hok hl3
    by_cases hlt : j < k
    · have c0 := hcell j hlt
      have ha' := ha (by omega)
      subst ha'
      by_cases h1 : R j ≤ last
      · go_wp2
        go_ret
        refine ⟨.no fun h => ?_, rfl⟩
        have hh := h j hlt
        have hla := HA.out.2
        by_cases hz : j = 0
        · subst hz; simp at hla; omega
        · rw [if_neg hz] at hla; have := hh.2.2 (by omega); omega
      · by_cases h2 : (n : Int) ≤ R j
        · go_wp2
          go_ret
          refine ⟨.no fun h => ?_, rfl⟩
          have hh := h j hlt
          omega
        · go_wp2
          go_round
          case rel => exact ⟨j + 1, R j, by omega, by go_num, rfl, by omega, by omega, by simp, fun i hi => by
            rcases Nat.lt_succ_iff_lt_or_eq.1 hi with h | h
            · exact HA.out.1 i h
            · subst h
              refine ⟨by omega, by omega, fun hz => ?_⟩
              have hla := HA.out.2
              rw [if_neg (by omega)] at hla
              omega⟩
          case measure => simp [intOf]; omega
    · have : j = k := by omega
      subst this
      go_wp2
      go_ret
      exact ⟨.yes HA.out.1, rfl⟩
end Go.Proofs.YtfkddhndddfbdaaGreatDoor
