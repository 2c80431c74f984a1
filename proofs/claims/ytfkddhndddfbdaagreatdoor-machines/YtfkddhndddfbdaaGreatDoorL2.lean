/- validCPUs. -/
import Derived.Test.YtfkddhndddfbdaaGreatDoorL1
namespace Go.Proofs.YtfkddhndddfbdaaGreatDoor
open Go.RowKit
attribute [local go_sem ↓] Go.wp_at_zero Go.wp_at_succ
attribute [local go_sem] After.cell After.frozen After.const

set_option maxHeartbeats 1000000 in
theorem validCPUs_any (ao : Option Addr) (b o n cap : Nat) (S N C : Nat → Int) (w : World) (hn : n ≤ 9223372036854775807) (hc : n ≤ cap) (ha : 0 < n → ao = some ⟨b, o, none⟩) (hcell : CpuAt w b o n S N C) :
    Calls Tryz.prog 168 #[.slice ao n cap] w fun e w' =>
      Ans (1 ≤ n ∧ n ≤ 24 ∧ okCs S N C n) e ∧ Below w.heap.size w w' := by
  by_cases hn0 : n < 1
  · have : n = 0 := by omega
    subst this
    go_enter Tryz.func168, Tryz.ntmps168
    go_wp2
    go_ret
    exact ⟨.no (by omega), Below.refl _ _⟩
  have ha' := ha (by omega)
  subst ha'
  by_cases hn24 : 24 < n
  · go_enter Tryz.func168, Tryz.ntmps168
    go_wp2
    go_ret
    exact ⟨.no (by omega), Below.refl _ _⟩
  go_enter Tryz.func168, Tryz.ntmps168
  go_wp2
  go_loopw [15] (fun i wr => ∃ j : Nat, j ≤ n ∧ i = .int .i64 j ∧ Below w.heap.size w wr ∧ okCs S N C j) (fun i _ => n - (intOf i).toNat)
  case atStart => exact ⟨0, Nat.zero_le _, rfl, Below.refl _ _, fun i hi => absurd hi (Nat.not_lt_zero _)⟩
  case round =>
    obtain ⟨j, hj, rfl, hb, hok⟩ := hrel
    have HA : Hid (okCs S N C j) := hok
    clear hok
    have hz := hb.size
    by_cases hlt : j < n
    · obtain ⟨c0, c1, c2⟩ := hcell j hlt
      have hbb : b < w.heap.size := block_lt_of_cell c0
      have HC : Hid (CpuAt wr b o j S N C) := (hcell.mono (by omega)).ext hb
      have c0 := (hb.cell (p := ⟨b, o + j * 3, none⟩) hbb).trans c0
      have c1 := (hb.cell (p := ⟨b, o + j * 3 + 1, none⟩) hbb).trans c1
      have c2 := (hb.cell (p := ⟨b, o + j * 3 + 2, none⟩) hbb).trans c2
      have i0 : (0 : Int) ≤ (j : Int) := by omega
      have i1 : (j : Int) ≤ (cap : Int) := by omega
      clear hcell
      have HR : Hid (Below w.heap.size w wr) := hb
      by_cases hp : place (S j) (N j) (C j)
      · by_cases hg : ∀ i, i < j → agr (S j) (N j) (C j) (S i) (N i) (C i)
        · have HP : Hid (place (S j) (N j) (C j) ∧ ∀ i, i < j → agr (S j) (N j) (C j) (S i) (N i) (C i)) := ⟨hp, hg⟩
          clear hp hg
          go_wp2
          refine wp_region_after (by kernel_rfl) (by kernel_rfl) ?_
          repeat (go_big_quiet_step (first
            | (go_at_call 250; exact Calls.after_yes HP.out.1 (validPlace_any _ _ _ _))
            | (go_at_call 251; exact Calls.after_yes HP.out.2 (agreesWithAll_any (S j) (N j) (C j) b o j cap S N C _ (by omega) (HC.out.after ((Below.refl _ _).alloc (Nat.le_refl _) _) _)))))
          refine wpQuiet_nil ?_
          rintro _ ⟨⟨w1, hw1⟩, rfl⟩
          go_wp2
          go_roundw
          case rel => exact ⟨j + 1, by omega, by go_num, ext_trans HR.out (ext_trans ((Below.refl _ _).alloc (Nat.le_refl _) _) hw1), fun i hi => by
            rcases Nat.lt_succ_iff_lt_or_eq.1 hi with h | h
            · exact HA.out i h
            · subst h; exact HP.out⟩
          case measure => simp [intOf]; omega
        · have HP : Hid (place (S j) (N j) (C j) ∧ ¬ ∀ i, i < j → agr (S j) (N j) (C j) (S i) (N i) (C i)) := ⟨hp, hg⟩
          clear hp hg
          go_wp2
          refine wp_region_after (by kernel_rfl) (by kernel_rfl) ?_
          repeat (go_big_quiet_step (first
            | (go_at_call 250; exact Calls.after_yes HP.out.1 (validPlace_any _ _ _ _))
            | (go_at_call 251; exact Calls.after_no HP.out.2 (agreesWithAll_any (S j) (N j) (C j) b o j cap S N C _ (by omega) (HC.out.after ((Below.refl _ _).alloc (Nat.le_refl _) _) _)))))
          refine wpQuiet_nil ?_
          rintro _ ⟨⟨w1, hw1⟩, rfl⟩
          go_wp2
          go_ret
          exact ⟨.no fun h => HP.out.2 (h.2.2 j hlt).2, ext_trans HR.out (ext_trans ((Below.refl _ _).alloc (Nat.le_refl _) _) hw1)⟩
      · have HP : Hid (¬ place (S j) (N j) (C j)) := hp
        clear hp
        go_wp2
        refine wp_region_after (by kernel_rfl) (by kernel_rfl) ?_
        repeat (go_big_quiet_step (first
            | (go_at_call 250; exact Calls.after_no HP.out (validPlace_any _ _ _ _))))
        refine wpQuiet_nil ?_
        rintro _ ⟨⟨w1, hw1⟩, rfl⟩
        go_wp2
        go_ret
        exact ⟨.no fun h => HP.out (h.2.2 j hlt).1, ext_trans HR.out (ext_trans ((Below.refl _ _).alloc (Nat.le_refl _) _) hw1)⟩
    · have : j = n := by omega
      subst this
      go_wp2
      go_ret
      exact ⟨.yes ⟨by omega, by omega, HA.out⟩, hb⟩
end Go.Proofs.YtfkddhndddfbdaaGreatDoor

