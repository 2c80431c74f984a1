/- The document's own IsMachine says whether it is a machine. -/
import Derived.Test.YtblkaenlajmhnaaGreatDoorL3
namespace Go.Proofs.YtblkaenlajmhnaaGreatDoor
open Go.RowKit
attribute [local go_sem ↓] Go.wp_at_zero Go.wp_at_succ
attribute [local go_sem] After.cell After.frozen After.const
theorem agr_not {s n c s' n' c' : Int} (h : (c' = c ∧ n' ≠ n) ∨ (n' = n ∧ s' ≠ s)) : ¬ agr s n c s' n' c' := by
  unfold agr
  rcases h with ⟨h1, h2⟩ | ⟨h1, h2⟩
  · exact fun h => h.1 ⟨h1.symm, fun e => h2 e.symm⟩
  · exact fun h => h.2.elim (fun e => e h1.symm) (fun e => h2 e.symm)
theorem agr_of {s n c s' n' c' : Int} (h1 : ¬ (c' = c ∧ n' ≠ n)) (h2 : ¬ (n' = n ∧ s' ≠ s)) : agr s n c s' n' c' :=
  ⟨fun ⟨e, f⟩ => h1 ⟨e.symm, fun e => f e.symm⟩, by
    by_cases e : n' = n
    · exact .inr (Classical.byContradiction fun f => h2 ⟨e, fun e => f e.symm⟩)
    · exact .inl fun f => e f.symm⟩
set_option maxRecDepth 100000 in
set_option maxHeartbeats 2000000 in
theorem isMachine_any (m : Mach) (w : World) (hm : m.At w) :
    Calls Tryz.prog 6 #[m.val] w fun e w' => Ans m.ok e ∧ Below w.heap.size w w' := by
  obtain ⟨ao, b, o, n, cap, S, N, C, ro, rb, rp, r, rcap, R, p⟩ := m
  obtain ⟨ncap, nmax, addr, cpus, rc, rmax, raddr, ints⟩ := hm
  simp only [Mach.val, Mach.ok] at *
  by_cases hn1 : n < 1
  · go_enter Tryz.func6, Tryz.ntmps6
    go_wp2_with (go_at_call 17; refine (within_any _ _ _).mono ?_; rintro e w1 ⟨⟨q, rfl, hq⟩, rfl⟩; clear hq)
    go_ret
    exact ⟨.no fun h => by have := h.1; omega, (Below.refl _ _).alloc (Nat.le_refl _) _⟩
  by_cases hn24 : 24 < n
  · go_enter Tryz.func6, Tryz.ntmps6
    go_wp2_with (go_at_call 17; refine (within_any _ _ _).mono ?_; rintro e w1 ⟨⟨q, rfl, hq⟩, rfl⟩; clear hq)
    go_ret
    exact ⟨.no fun h => by have := h.2.1; omega, (Below.refl _ _).alloc (Nat.le_refl _) _⟩
  by_cases hp : 0 ≤ p ∧ p < 4
  case neg =>
    go_enter Tryz.func6, Tryz.ntmps6
    go_wp2_with (go_at_call 17; refine (within_any _ _ _).mono ?_; rintro e w1 ⟨he, rfl⟩; obtain rfl := he.is_false hp; clear he)
    go_ret
    exact ⟨.no fun h => by have := h.2.2.2.2; omega, (Below.refl _ _).alloc (Nat.le_refl _) _⟩
  have HPP : Hid (0 ≤ p ∧ p < 4) := hp
  clear hp
  have haddr := addr (by omega)
  subst haddr
  clear addr
  have ncap' : (n : Int) ≤ cap := by omega
  go_enter Tryz.func6, Tryz.ntmps6
  go_wp2_with (go_at_call 17; refine (within_any _ _ _).mono ?_; rintro e w1 ⟨he, rfl⟩; obtain rfl := he.is_true HPP.out; clear he)
  obtain ⟨W0, hW0⟩ : ∃ W0, W0 = w.alloc (.cells #[.slice (some ⟨b, o, none⟩) n cap, .slice ro r rcap, .int .i64 p] 25) := ⟨_, rfl⟩
  have HW : Hid (W0 = w.alloc (.cells #[.slice (some ⟨b, o, none⟩) n cap, .slice ro r rcap, .int .i64 p] 25)) := hW0
  have d0 : W0.cell? ⟨w.heap.size, 0, none⟩ = some (.slice (some ⟨b, o, none⟩) n cap) := by rw [hW0]; simp
  have d1 : W0.cell? ⟨w.heap.size, 1, none⟩ = some (.slice ro r rcap) := by rw [hW0]; simp
  have hs0 : w.heap.size < W0.heap.size := by rw [hW0]; simp
  have hB0 : Below w.heap.size w W0 := by rw [hW0]; exact (Below.refl _ _).alloc (Nat.le_refl _) _
  have cpus0 := cpus.ext hB0
  have ints0 := ints.ext hB0
  rw [← hW0]
  clear hW0 cpus ints
  go_loopw [5] (fun i wr => ∃ j : Nat, j ≤ n ∧ i = .int .i64 j ∧ Below W0.heap.size W0 wr ∧ okCs S N C j) (fun i _ => n - (intOf i).toNat)
  case atStart => exact ⟨0, Nat.zero_le _, rfl, Below.refl _ _, fun i hi => absurd hi (Nat.not_lt_zero _)⟩
  case round =>
    obtain ⟨i, hi, rfl, hb, hok⟩ := hrel
    have HA : Hid (okCs S N C i) := hok
    clear hok
    obtain ⟨hc, hf⟩ := bcell hb
    have hz := hb.size
    by_cases hlt : i < n
    · obtain ⟨c0, c1, c2⟩ := cpus0 i hlt
      have hbb : b < W0.heap.size := block_lt_of_cell c0
      have HQ : Hid (CpuAt wr b o n S N C) := cpus0.ext hb
      clear cpus0 ints0
      by_cases hp : place (S i) (N i) (C i)
      case neg =>
        have HP : Hid (¬ place (S i) (N i) (C i)) := hp
        have hbw : Below w.heap.size w wr := ext_trans hB0 hb
        clear hp
        go_wp2_with (go_at_call 17; refine (within_any _ _ _).mono ?_; rintro e w1 ⟨he, rfl⟩; rcases he.cases with ⟨hp, rfl⟩ | ⟨hp, rfl⟩ <;> clear he)
        all_goals first
          | (exfalso; have := HP.out; unfold place at this; omega)
          | (go_ret; exact ⟨.no fun h => HP.out (h.2.2.1 i hlt).1, hbw.alloc hbw.size _⟩)
      have HP : Hid (place (S i) (N i) (C i)) := hp
      clear hp
      go_wp2_with (go_at_call 17; refine (within_any _ _ _).mono ?_; rintro e w1 ⟨he, rfl⟩; obtain rfl := he.is_true (by have := HP.out; unfold place at this; omega); clear he)
      obtain ⟨W1, hW1⟩ : ∃ W1, W1 = wr.alloc (.cells #[.int .i64 (S i), .int .i64 (N i), .int .i64 (C i)] 46) := ⟨_, rfl⟩
      have e0 : W1.cell? ⟨wr.heap.size, 0, none⟩ = some (.int .i64 (S i)) := by rw [hW1]; simp
      have e1 : W1.cell? ⟨wr.heap.size, 1, none⟩ = some (.int .i64 (N i)) := by rw [hW1]; simp
      have e2 : W1.cell? ⟨wr.heap.size, 2, none⟩ = some (.int .i64 (C i)) := by rw [hW1]; simp
      have hs1 : wr.heap.size < W1.heap.size := by rw [hW1]; simp
      have hB1 : Below wr.heap.size wr W1 := by rw [hW1]; exact (Below.refl _ _).alloc (Nat.le_refl _) _
      have cpus1 := HQ.out.ext hB1
      have d0' : W1.cell? ⟨w.heap.size, 0, none⟩ = some (.slice (some ⟨b, o, none⟩) n cap) := ((hB1.cell (p := ⟨w.heap.size, 0, none⟩) (by show w.heap.size < wr.heap.size; omega)).trans (hc _ _ hs0)).trans d0
      have hs0' : w.heap.size < W1.heap.size := by omega
      have hbw1 : Below w.heap.size w W1 := ext_trans hB0 (ext_trans hb hB1)
      have hb01 : Below W0.heap.size W0 W1 := ext_trans hb hB1
      rw [← hW1]
      clear hW1 hc hf c0 c1 c2 hB1 hb HQ
      obtain ⟨wo, rfl⟩ : ∃ wo, wo = wr := ⟨_, rfl⟩
      go_loopw [10] (fun k wq => ∃ j : Nat, j ≤ i ∧ k = .int .i64 j ∧ Below W1.heap.size W1 wq ∧ ∀ k, k < j → agr (S i) (N i) (C i) (S k) (N k) (C k)) (fun k _ => i - (intOf k).toNat)
      case atStart => exact ⟨0, Nat.zero_le _, rfl, Below.refl _ _, fun i hi => absurd hi (Nat.not_lt_zero _)⟩
      case round =>
        obtain ⟨j, hj, rfl, hb, hok⟩ := hrel
        have HJ : Hid (∀ k, k < j → agr (S i) (N i) (C i) (S k) (N k) (C k)) := hok
        clear hok
        obtain ⟨hc, hf⟩ := bcell hb
        have hz1 := hb.size
        have hs2 : wo.heap.size < wr.heap.size := by omega
        have hs3 : w.heap.size < wr.heap.size := by omega
        by_cases hlj : j < i
        · obtain ⟨c0, c1, c2⟩ := cpus1 j (by omega)
          have hbb1 : b < W1.heap.size := block_lt_of_cell c0
          have hjn : (j : Int) < n := by omega
          have hbq : Below w.heap.size w wr := ext_trans hbw1 hb
          clear cpus1
          go_wp2
          all_goals first
            | (go_ret; refine ⟨.no fun h => agr_not ?_ ((h.2.2.1 i hlt).2 j hlj), hbq.alloc hbq.size _⟩; (try simp only [bne_iff_ne] at *); omega)
            | (go_roundw
               case rel => exact ⟨j + 1, by omega, by go_num, hb.alloc hz1 _, fun k hk => by
                 rcases Nat.lt_succ_iff_lt_or_eq.1 hk with h | h
                 · exact HJ.out k h
                 · subst h
                   (try simp only [bne_eq_false_iff_eq] at *)
                   exact agr_of (by omega) (by omega)⟩
               case measure => simp [intOf]; omega)
        · have : j = i := by omega
          subst this
          go_wp2
          go_roundw
          case rel => exact ⟨j + 1, by omega, by go_num, ext_trans hb01 hb, fun k hk => by
              rcases Nat.lt_succ_iff_lt_or_eq.1 hk with h | h
              · exact HA.out k h
              · subst h; exact ⟨HP.out, HJ.out⟩⟩
          case measure => simp [intOf]; omega
    · have : i = n := by omega
      subst this
      have HN : Hid (1 ≤ i ∧ i ≤ 24) := ⟨by omega, by omega⟩
      have hbw : Below w.heap.size w wr := ext_trans hB0 hb
      have hwz : w.heap.size < wr.heap.size := by omega
      have d1' := (hc w.heap.size 1 hs0).trans d1
      have ints1 := ints0.ext hb
      clear cpus0 ints0 hc hf d0 d1
      obtain ⟨wo, rfl⟩ : ∃ wo, wo = wr := ⟨_, rfl⟩
      go_wp2
      go_loopw [12] (fun k wq => ∃ j : Nat, j ≤ r ∧ k = .int .i64 j ∧ Below wo.heap.size wo wq ∧ okRs i R j) (fun k _ => r - (intOf k).toNat)
      case atStart => exact ⟨0, Nat.zero_le _, rfl, Below.refl _ _, fun i hi => absurd hi (Nat.not_lt_zero _)⟩
      case round =>
        obtain ⟨k, hk, rfl, hb2, hok⟩ := hrel
        have HK : Hid (okRs i R k) := hok
        clear hok
        obtain ⟨hc, hf⟩ := bcell hb2
        have hz2 := hb2.size
        have hwz2 : w.heap.size < wr.heap.size := by omega
        have hbq : Below w.heap.size w wr := ext_trans hbw hb2
        by_cases hlk : k < r
        · have c0 := ints1 k hlk
          have hrb : rb < wo.heap.size := block_lt_of_cell c0
          have c1 : 0 < k → wo.cell? ⟨rb, rp + (k - 1), none⟩ = some (.int .i64 (R (k - 1))) := fun _ => ints1 (k - 1) (by omega)
          have hra := raddr (by omega)
          subst hra
          have hkr : (k : Int) < r := by omega
          clear ints1
          by_cases hw : 0 ≤ R k ∧ R k < i
          · by_cases hk0 : k = 0
            · subst hk0
              have c0' : wo.cell? ⟨rb, rp, none⟩ = some (.int .i64 (R 0)) := by simpa using c0
              go_wp2_with (go_at_call 17; refine (within_any _ _ _).mono ?_; rintro e w1 ⟨he, rfl⟩; obtain rfl := he.is_true hw; clear he)
              go_quiet (fail)
              go_wp2
              go_roundw
              case rel => exact ⟨1, by omega, by go_num, hb2.drewN _, fun j hj => by
                 have : j = 0 := by omega
                 subst this
                 exact ⟨hw.1, hw.2, fun h => absurd h (Nat.lt_irrefl _)⟩⟩
              case measure => simp [intOf]; omega
            · have c1' := c1 (by omega)
              have k0 : 0 < k := by omega
              clear c1
              by_cases hle : R k ≤ R (k - 1)
              · go_wp2_with (go_at_call 17; refine (within_any _ _ _).mono ?_; rintro e w1 ⟨he, rfl⟩; obtain rfl := he.is_true hw; clear he)
                go_quiet (fail)
                go_wp2
                go_ret
                exact ⟨.no fun h => by have := (h.2.2.2.1 k hlk).2.2 (by omega); omega, hbq.drewN _⟩
              · go_wp2_with (go_at_call 17; refine (within_any _ _ _).mono ?_; rintro e w1 ⟨he, rfl⟩; obtain rfl := he.is_true hw; clear he)
                go_quiet (fail)
                go_wp2
                go_roundw
                case rel => exact ⟨k + 1, by omega, by go_num, hb2.drewN _, fun j hj => by
                   rcases Nat.lt_succ_iff_lt_or_eq.1 hj with h | h
                   · exact HK.out j h
                   · subst h; exact ⟨hw.1, hw.2, fun _ => by omega⟩⟩
                case measure => simp [intOf]; omega
          · go_wp2_with (go_at_call 17; refine (within_any _ _ _).mono ?_; rintro e w1 ⟨he, rfl⟩; obtain rfl := he.is_false hw; clear he)
            go_quiet (fail)
            go_wp2
            go_ret
            exact ⟨.no fun h => by have := h.2.2.2.1 k hlk; omega, hbq.drewN _⟩
        · have : k = r := by omega
          subst this
          go_wp2
          go_ret
          exact ⟨.yes ⟨HN.out.1, HN.out.2, HA.out, HK.out, HPP.out.1, by have := HPP.out.2; omega⟩, hbq⟩
end Go.Proofs.YtblkaenlajmhnaaGreatDoor
