/- Unreserved, healthy of none, Free: what the program tells of a new berth. -/
import Derived.Test.YtblkaenlajmhnaaGreatDoorB1
import Derived.Test.YtblkaenlajmhnaaGreatDoorS1
namespace Go.Proofs.YtblkaenlajmhnaaGreatDoor
open Go.RowKit
attribute [local go_sem ↓] Go.wp_at_zero Go.wp_at_succ
attribute [local go_sem] After.cell After.frozen After.const
def resB (m : Mach) (i : Nat) : Bool := (List.range m.r).any (fun j => m.R j == (i : Int))
theorem resB_iff (m : Mach) (i : Nat) : resB m i = true ↔ among m.R m.r (i : Int) := by
  unfold resB among
  rw [List.any_eq_true]
  constructor
  · rintro ⟨j, hj, he⟩
    exact ⟨j, List.mem_range.1 hj, by simpa using he⟩
  · rintro ⟨j, hj, he⟩
    exact ⟨j, List.mem_range.2 hj, by simpa using he⟩
def freeN (m : Mach) (k : Nat) : List Nat := (List.range k).filter (fun i => !resB m i)
def freeV (m : Mach) (k : Nat) : List Value := (freeN m k).map (fun i : Nat => Value.int .i64 (i : Int))
theorem freeN_hit {m : Mach} {k : Nat} (h : resB m k = false) : freeN m (k + 1) = freeN m k ++ [k] := by
  unfold freeN; rw [List.range_succ, List.filter_append]; simp [h]
theorem freeN_miss {m : Mach} {k : Nat} (h : resB m k = true) : freeN m (k + 1) = freeN m k := by
  unfold freeN; rw [List.range_succ, List.filter_append]; simp [h]
theorem freeN_le (m : Mach) (k : Nat) : (freeN m k).length ≤ k := by
  unfold freeN; exact Nat.le_trans (List.length_filter_le _ _) (by simp)
theorem ints_of_own {w : World} {base : Nat} {v : Value} {m : Mach} (h : w.ownsRow base 3 1 v m.r (resL m)) : Ints w v m.r m.R := by
  rcases h.2 with ⟨rfl, h0⟩ | ⟨g, cap, cur, rfl, _, hg, hn, hc, hs, ht⟩
  · rw [h0]; exact ⟨none, 0, rfl, Nat.le_refl _, by omega, fun h => absurd h (Nat.lt_irrefl _)⟩
  · refine ⟨_, cap, rfl, hn, by unfold maxLen at hc; omega, fun h0 => ⟨g, 0, rfl, fun i hi => ?_⟩⟩
    have e : (resL m)[i]? = some (.int .i64 (m.R i)) := by simp [resL, hi]
    rw [Nat.zero_add, cell_of_row w g i cur _ (0, 0) hg]
    rw [← ht, List.getElem?_take] at e
    split at e
    · simpa using e
    · cases e
set_option maxRecDepth 100000 in
set_option maxHeartbeats 2000000 in
theorem unreserved_any (m : Mach) (vc vr : Value) (ca : Option Addr) (cc : Nat) (w : World) (hvc : vc = .slice ca m.n cc) (hn : m.n ≤ 24) (hr : Ints w vr m.r m.R) :
    Calls Tryz.prog 65 #[.agg #[vc, vr, .int .i64 m.p]] w fun e w' => ∃ v, e = .returned v ∧ w'.ownsRow w.heap.size 3 1 v (freeN m m.n).length (freeV m m.n) ∧ Below w.heap.size w w' := by
  subst hvc
  have hr' := hr
  obtain ⟨ra, rc, rfl, _⟩ := hr
  obtain ⟨i0, hi, hz0, hz1, hz2⟩ := info_parts Tryz.infoInt
  have hu := Tryz.underlying23
  have HI : Hid (Ints w (.slice ra m.r rc) m.r m.R) := hr'
  clear hr'
  obtain ⟨W0, hW0⟩ : ∃ W0, W0 = w.alloc (.cells #[.slice ca m.n cc, .slice ra m.r rc, .int .i64 m.p] 25) := ⟨_, rfl⟩
  have hs0 : W0.heap.size = w.heap.size + 1 := by rw [hW0]; simp
  have hB0 : Below w.heap.size w W0 := by rw [hW0]; exact (Below.refl _ _).alloc (Nat.le_refl _) _
  have k0 : W0.heap[w.heap.size]? = some (.cells #[.slice ca m.n cc, .slice ra m.r rc, .int .i64 m.p] 25 (0, 0)) := by rw [hW0]; exact heap_alloc_new _ _
  have HW : Hid (Below w.heap.size w W0 ∧ W0.heap[w.heap.size]? = some (.cells #[.slice ca m.n cc, .slice ra m.r rc, .int .i64 m.p] 25 (0, 0)) ∧ W0.heap.size = w.heap.size + 1) := ⟨hB0, k0, hs0⟩
  go_enter Tryz.func65, Tryz.ntmps65
  go_wp2_with fail
  rw [← hW0]
  clear hW0 hB0 k0 hs0
  go_loopw [3, 8] (fun v i wr => ∃ k : Nat, k ≤ m.n ∧ i = .int .i64 k ∧ wr.ownsRow (w.heap.size + 1) 3 1 v (freeN m k).length (freeV m k) ∧ Below (w.heap.size + 1) W0 wr) (fun _ i _ => m.n - (intOf i).toNat)
  case atStart => exact ⟨0, by omega, rfl, World.ownsRow_nil _ _ _ _, Below.refl _ _⟩
  case round =>
    obtain ⟨k, hk, rfl, hown, hb⟩ := hrel
    have hz : w.heap.size + 1 ≤ wr.heap.size := by have := hb.size; have := HW.out.2.2; omega
    have kk := (hb.block w.heap.size (by omega)).trans HW.out.2.1
    have hbw : Below w.heap.size w wr := HW.out.1.trans (hb.mono (by omega))
    have HR : Hid (wr.ownsRow (w.heap.size + 1) 3 1 u3 (freeN m k).length (freeV m k) ∧ Below (w.heap.size + 1) W0 wr ∧ Below w.heap.size w wr) := ⟨hown, hb, hbw⟩
    obtain ⟨q0, q0f⟩ := blk kk
    have hlen := freeN_le m k
    clear kk hb hbw hown
    by_cases hlt : k < m.n
    · by_cases hres : resB m k = true
      · go_wp2_with (go_at_call 68; refine (contains_any (.slice ra m.r rc) m.r m.R k _ (HI.out.ext HR.out.2.2)).mono ?_; rintro e w1 ⟨he, rfl⟩; obtain rfl := he.is_true ((resB_iff m k).1 hres); clear he)
        go_roundw
        case rel => exact ⟨k + 1, by omega, by go_num, by unfold freeV; rw [freeN_miss hres]; exact HR.out.1, HR.out.2.1⟩
        case measure => simp [intOf]; omega
      · have hres' : resB m k = false := by simpa using hres
        have HN : Hid (¬ among m.R m.r (k : Int)) := fun h => hres ((resB_iff m k).2 h)
        clear hres
        go_wp2_with (first
          | (go_at_call 68; refine (contains_any (.slice ra m.r rc) m.r m.R k _ (HI.out.ext HR.out.2.2)).mono ?_; rintro e w1 ⟨he, hw⟩; obtain rfl := hw.symm; obtain rfl := he.is_false HN.out; clear he)
          | (at_builtin; refine wpList_append_own _ rfl _ _ _ rfl (w.heap.size + 1) 3 i0 _ 1 8 hu hi hz0 hz1 hz2 rfl (by omega) _ (freeN m k).length (freeV m k) rfl (HR.out.1.alloc _) ⟨wr.heap.size, 0, none⟩ 1 1 [.int .i64 k] rfl rfl (cell_one_new _ _ _) (by intro u hu; simp at hu; subst hu; rfl) (by unfold maxLen; omega) (by omega) (by simp; omega) ?_; intro v' w1 hown hgrow _))
        have HO : Hid (w1.ownsRow (w.heap.size + 1) 3 1 v' (freeN m (k + 1)).length (freeV m (k + 1)) ∧ Below (w.heap.size + 1) W0 w1) := by
          refine ⟨?_, (HR.out.2.1.alloc (by omega) _).grown hgrow (by simp; omega) (fun q hq => (HR.out.1.lt q hq).1)⟩
          unfold freeV; rw [freeN_hit hres']
          simpa [freeV] using hown
        clear hown hgrow
        go_wp2
        go_roundw
        case rel => exact ⟨k + 1, by omega, by go_num, HO.out.1, HO.out.2⟩
        case measure => simp [intOf]; omega
    · have : k = m.n := by omega
      rw [this] at HR
      go_wp2_with fail
      go_ret
      exact ⟨_, rfl, ownsRow_base HR.out.1 (by omega), HR.out.2.2⟩
end Go.Proofs.YtblkaenlajmhnaaGreatDoor
