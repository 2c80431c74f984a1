/- still: the machine that was handed in reads as it did, its spare room too; blot: it is written over. -/
import Derived.Test.YtfkddhndddfbdaaGreatDoorM1
namespace Go.Proofs.YtfkddhndddfbdaaGreatDoor
open Go.RowKit
attribute [local go_sem ↓] Go.wp_at_zero Go.wp_at_succ
attribute [local go_sem] After.cell After.frozen After.const

set_option maxRecDepth 100000 in
set_option maxHeartbeats 2000000 in
theorem still_any (m : Mach) (cb rb : Nat) (w : World) (hm : m.At w) (hc : w.rowIs cb 107 ((m.n + 8) * 3) (hC m)) (hr : w.rowIs rb 3 (m.r + 8) (hR m)) :
    Calls Tryz.prog 68 #[.agg #[.slice (some ⟨cb, 0, none⟩) m.n (m.n + 8), .slice (some ⟨rb, 0, none⟩) m.r (m.r + 8), .int .i64 m.p], m.val] w fun e w' => e = .returned (.bool true) ∧ Below w.heap.size w w' := by
  obtain ⟨ao, b, o, n, cap, S, N, C, ro, rbb, rp, r, rcap, R, p⟩ := m
  obtain ⟨ncap, nmax, addr, cpus, rc, rmax, raddr, ints⟩ := hm
  simp only [Mach.val] at *
  have n8 : (0 : Int) ≤ (n : Int) + 8 := by omega
  have r8 : (0 : Int) ≤ (r : Int) + 8 := by omega
  have l1 : (n : Int) ≤ (n : Int) + 8 := by omega
  have l2 : (r : Int) ≤ (r : Int) + 8 := by omega
  have HM : Hid (w.rowIs cb 107 ((n + 8) * 3) (hC ⟨ao, b, o, n, cap, S, N, C, ro, rbb, rp, r, rcap, R, p⟩) ∧ w.rowIs rb 3 (r + 8) (hR ⟨ao, b, o, n, cap, S, N, C, ro, rbb, rp, r, rcap, R, p⟩) ∧ CpuAt w b o n S N C ∧ IntAt w rbb rp r R) := ⟨hc, hr, cpus, ints⟩
  clear hc hr cpus ints
  obtain ⟨W0, hW0⟩ : ∃ W0, W0 = (w.alloc (.cells #[.slice (some ⟨cb, 0, none⟩) n (n + 8), .slice (some ⟨rb, 0, none⟩) r (r + 8), .int .i64 p] 25)).alloc (.cells #[.slice ao n cap, .slice ro r rcap, .int .i64 p] 25) := ⟨_, rfl⟩
  have hs0 : W0.heap.size = w.heap.size + 1 + 1 := by rw [hW0]; simp
  have hB0 : Below w.heap.size w W0 := by rw [hW0]; exact ((Below.refl _ _).alloc (Nat.le_refl _) _).alloc (by simp) _
  have d0 : W0.cell? ⟨w.heap.size + 1, 0, none⟩ = some (.slice ao n cap) := by rw [hW0, World.cell?_alloc_at _ _ _ _ (by simp)]; simp
  have d1 : W0.cell? ⟨w.heap.size + 1, 1, none⟩ = some (.slice ro r rcap) := by rw [hW0, World.cell?_alloc_at _ _ _ _ (by simp)]; simp
  go_enter Tryz.func68, Tryz.ntmps68
  go_wp2_with fail
  rw [← hW0]
  clear hW0
  go_loopw [9] (fun i wr => ∃ k : Nat, k ≤ n + 8 ∧ i = .int .i64 k ∧ Below W0.heap.size W0 wr) (fun i _ => n + 8 - (intOf i).toNat)
  case atStart => exact ⟨0, by omega, rfl, Below.refl _ _⟩
  case round =>
    obtain ⟨k, hk, rfl, hb⟩ := hrel
    obtain ⟨hc, hf⟩ := bcell hb
    have hz := hb.size
    have HB : Hid (Below W0.heap.size W0 wr) := hb
    have hs1 : w.heap.size + 1 < wr.heap.size := by omega
    have hs2 : w.heap.size + 1 < W0.heap.size := by omega
    by_cases hlt : k < n + 8
    · obtain ⟨g1, g2, g3, g4⟩ := HM.out
      have hcb : cb < W0.heap.size := by have := g1.lt; omega
      have hcbr : cb < wr.heap.size := by omega
      have g1' : W0.rowIs cb 107 ((n + 8) * 3) (hC ⟨ao, b, o, n, cap, S, N, C, ro, rbb, rp, r, rcap, R, p⟩) := g1.of_block (hB0.block _ g1.lt)
      have i0 : (k : Int) < (n : Int) + 8 := by omega
      by_cases hkn : k < n
      · have u0 : W0.cell? ⟨cb, k * 3, none⟩ = some (.int .i64 (S k)) := by rw [g1'.cell (by show k * 3 < (n + 8) * 3; omega)]; unfold hC; rw [if_pos (by show k * 3 < n * 3; omega)]; simp only [cpuCell_0]
        have u1 : W0.cell? ⟨cb, k * 3 + 1, none⟩ = some (.int .i64 (N k)) := by rw [g1'.cell (by show k * 3 + 1 < (n + 8) * 3; omega)]; unfold hC; rw [if_pos (by show k * 3 + 1 < n * 3; omega)]; simp only [cpuCell_1]
        have u2 : W0.cell? ⟨cb, k * 3 + 2, none⟩ = some (.int .i64 (C k)) := by rw [g1'.cell (by show k * 3 + 2 < (n + 8) * 3; omega)]; unfold hC; rw [if_pos (by show k * 3 + 2 < n * 3; omega)]; simp only [cpuCell_2]
        obtain ⟨v0, v1, v2⟩ := (g3.ext hB0) k hkn
        have hbb : b < W0.heap.size := block_lt_of_cell v0
        have hbbr : b < wr.heap.size := by omega
        have ha := addr (by omega)
        subst ha
        have kn : (k : Int) < n := by omega
        clear g1 g2 g3 g4 g1' addr raddr hb hs0
        go_wp2
        go_quiet (fail)
        go_wp2
        go_roundw
        case rel => exact ⟨k + 1, by omega, by go_num, (HB.out.alloc hz _).drewN _⟩
        case measure => simp [intOf]; omega
      · have u0 : W0.cell? ⟨cb, k * 3, none⟩ = some (.int .i64 (-5)) := by rw [g1'.cell (by show k * 3 < (n + 8) * 3; omega)]; unfold hC; rw [if_neg (by show ¬ k * 3 < n * 3; omega)]
        have u1 : W0.cell? ⟨cb, k * 3 + 1, none⟩ = some (.int .i64 (-5)) := by rw [g1'.cell (by show k * 3 + 1 < (n + 8) * 3; omega)]; unfold hC; rw [if_neg (by show ¬ k * 3 + 1 < n * 3; omega)]
        have u2 : W0.cell? ⟨cb, k * 3 + 2, none⟩ = some (.int .i64 (-5)) := by rw [g1'.cell (by show k * 3 + 2 < (n + 8) * 3; omega)]; unfold hC; rw [if_neg (by show ¬ k * 3 + 2 < n * 3; omega)]
        clear g1 g2 g3 g4 g1' addr raddr hb hs0
        go_wp2
        go_quiet (fail)
        go_wp2
        go_roundw
        case rel => exact ⟨k + 1, by omega, by go_num, (HB.out.alloc hz _).drewN _⟩
        case measure => simp [intOf]; omega
    · have : k = n + 8 := by omega
      subst this
      go_wp2
      have hbw : Below w.heap.size w wr := ext_trans hB0 HB.out
      have d1' := (hc _ 1 hs2).trans d1
      clear d0 d1 hc hf hb
      obtain ⟨wo, rfl⟩ : ∃ wo, wo = wr := ⟨_, rfl⟩
      go_loopw [11] (fun i wq => ∃ k : Nat, k ≤ r + 8 ∧ i = .int .i64 k ∧ wq = wo) (fun i _ => r + 8 - (intOf i).toNat)
      case atStart => exact ⟨0, by omega, rfl, rfl⟩
      case round =>
        obtain ⟨k, hk, rfl, rfl⟩ := hrel
        by_cases hlt : k < r + 8
        · obtain ⟨g1, g2, g3, g4⟩ := HM.out
          have g2' := g2.of_block (hbw.block _ g2.lt)
          have i0 : (k : Int) < (r : Int) + 8 := by omega
          by_cases hkn : k < r
          · have u0 : wr.cell? ⟨rb, k, none⟩ = some (.int .i64 (R k)) := by rw [g2'.cell (by show k < r + 8; omega)]; unfold hR; rw [if_pos (by show k < r; omega)]
            have v0 := (g4.ext hbw) k hkn
            have ha := raddr (by omega)
            subst ha
            have kn : (k : Int) < r := by omega
            clear g1 g2 g3 g4 g2' addr raddr hs0
            go_wp2
            go_roundw
            case rel => exact ⟨k + 1, by omega, by go_num, trivial⟩
            case measure => simp [intOf]; omega
          · have u0 : wr.cell? ⟨rb, k, none⟩ = some (.int .i64 (-5)) := by rw [g2'.cell (by show k < r + 8; omega)]; unfold hR; rw [if_neg (by show ¬ k < r; omega)]
            clear g1 g2 g3 g4 g2' addr raddr hs0
            go_wp2
            go_roundw
            case rel => exact ⟨k + 1, by omega, by go_num, trivial⟩
            case measure => simp [intOf]; omega
        · have : k = r + 8 := by omega
          subst this
          clear hs0
          go_wp2
          go_ret
          exact ⟨rfl, hbw⟩

/-- blot: the owner writes over its lists: no other block turns. -/
def onlyIn (w w' : World) (a b : Nat) : Prop := w'.os = w.os ∧ w'.tape = w.tape ∧ w'.output = w.output ∧ w.heap.size ≤ w'.heap.size ∧ ∀ k, k < w.heap.size → k ≠ a → k ≠ b → w'.heap[k]? = w.heap[k]?
theorem onlyIn.set {w w1 : World} {a b : Nat} (h : onlyIn w w1 a b) {p : Addr} (hp : p.block = a ∨ p.block = b) (v : Value) : onlyIn w (w1.setCell p v) a b :=
  ⟨h.1, h.2.1, h.2.2.1, by simpa using h.2.2.2.1, fun k hk h1 h2 => by
    rw [Below.heap_setCell _ _ _ _ (by rcases hp with e | e <;> rw [e] <;> assumption)]
    exact h.2.2.2.2 k hk h1 h2⟩

theorem onlyIn.cell {w w1 : World} {a b : Nat} (h : onlyIn w w1 a b) {p : Addr} (h0 : p.block < w.heap.size) (h1 : p.block ≠ a) (h2 : p.block ≠ b) : w1.cell? p = w.cell? p := World.cell?_of_block (h.2.2.2.2 _ h0 h1 h2)
theorem onlyIn.of_alloc {w w1 : World} {a b : Nat} {o : Obj} (h : onlyIn (w.alloc o) w1 a b) : onlyIn w w1 a b :=
  ⟨h.1, h.2.1, h.2.2.1, by have := h.2.2.2.1; simp at this; omega, fun k hk h1 h2 => (h.2.2.2.2 k (by simp; omega) h1 h2).trans (Below.heap_alloc _ _ _ hk)⟩

set_option maxRecDepth 100000 in
set_option maxHeartbeats 2000000 in
theorem blot_any (n r cb rb : Nat) (p : Int) (w : World) (hn : n * 24 ≤ 140737488355328) (hr : r * 8 ≤ 140737488355328) (f f' : Nat → Value) (hc : w.rowIs cb 107 ((n + 8) * 3) f) (hrr : w.rowIs rb 3 (r + 8) f') (hne : cb ≠ rb) :
    Calls Tryz.prog 69 #[.agg #[.slice (some ⟨cb, 0, none⟩) n (n + 8), .slice (some ⟨rb, 0, none⟩) r (r + 8), .int .i64 p]] w fun e w' => e = .returned (.tuple #[]) ∧ onlyIn w w' cb rb := by
  have hcl := hc.lt
  have hrl := hrr.lt
  have HM : Hid (w.rowIs cb 107 ((n + 8) * 3) f ∧ w.rowIs rb 3 (r + 8) f') := ⟨hc, hrr⟩
  clear hc hrr
  go_enter Tryz.func69, Tryz.ntmps69
  go_wp2_with fail
  obtain ⟨W0, hW0⟩ : ∃ W0, W0 = w.alloc (.cells #[.slice (some ⟨cb, 0, none⟩) n (n + 8), .slice (some ⟨rb, 0, none⟩) r (r + 8), .int .i64 p] 25) := ⟨_, rfl⟩
  have d0 : W0.cell? ⟨w.heap.size, 0, none⟩ = some (.slice (some ⟨cb, 0, none⟩) n (n + 8)) := by rw [hW0]; simp
  have d1 : W0.cell? ⟨w.heap.size, 1, none⟩ = some (.slice (some ⟨rb, 0, none⟩) r (r + 8)) := by rw [hW0]; simp
  have hs0 : w.heap.size < W0.heap.size := by rw [hW0]; simp
  have HF : Hid (∀ w', onlyIn W0 w' cb rb → onlyIn w w' cb rb) := by rw [hW0]; exact fun w' h => h.of_alloc
  have h1 : ∃ f, W0.rowIs cb 107 ((n + 8) * 3) f := ⟨_, by rw [hW0]; exact HM.out.1.alloc _⟩
  have h2 : ∃ f, W0.rowIs rb 3 (r + 8) f := ⟨_, by rw [hW0]; exact HM.out.2.alloc _⟩
  rw [← hW0]
  clear hW0 HM
  go_loopw [2] (fun i wr => ∃ k : Nat, k ≤ n ∧ i = .int .i64 k ∧ onlyIn W0 wr cb rb ∧ (∃ f, wr.rowIs cb 107 ((n + 8) * 3) f) ∧ (∃ f, wr.rowIs rb 3 (r + 8) f)) (fun i _ => n - (intOf i).toNat)
  case atStart => exact ⟨0, by omega, rfl, ⟨rfl, rfl, rfl, Nat.le_refl _, fun k hk _ _ => rfl⟩, h1, h2⟩
  case round =>
    obtain ⟨k, hk, rfl, hb, ⟨g, hg⟩, ⟨q, hq⟩⟩ := hrel
    have HB : Hid (onlyIn W0 wr cb rb ∧ (wr.rowIs cb 107 ((n + 8) * 3) g) ∧ (wr.rowIs rb 3 (r + 8) q)) := ⟨hb, hg, hq⟩
    have d0' := (hb.cell (p := ⟨w.heap.size, 0, none⟩) hs0 (by show w.heap.size ≠ cb; omega) (by show w.heap.size ≠ rb; omega)).trans d0
    have d1' := (hb.cell (p := ⟨w.heap.size, 1, none⟩) hs0 (by show w.heap.size ≠ cb; omega) (by show w.heap.size ≠ rb; omega)).trans d1
    clear d0 d1
    by_cases hlt : k < n
    · have u0 := hg.cell (i := k * 3) (by omega)
      have u1 := hg.cell (i := k * 3 + 1) (by omega)
      have u2 := hg.cell (i := k * 3 + 2) (by omega)
      have uf := hg.frozen
      clear hb hg hq h1 h2
      have kn : (k : Int) < n := by omega
      go_wp2
      go_roundw
      case rel => exact ⟨k + 1, by omega, by go_num, ((HB.out.1.set (.inl rfl) _).set (.inl rfl) _).set (.inl rfl) _, ⟨_, ((HB.out.2.1.set _ _).set _ _).set _ _⟩, ⟨_, ((HB.out.2.2.setOther (Ne.symm hne) _).setOther (Ne.symm hne) _).setOther (Ne.symm hne) _⟩⟩
      case measure => simp [intOf]; omega
    · have : k = n := by omega
      subst this
      clear hb hg hq h1 h2
      go_wp2
      obtain ⟨wo, rfl⟩ : ∃ wo, wo = wr := ⟨_, rfl⟩
      go_loopw [3] (fun i wq => ∃ j : Nat, j ≤ r ∧ i = .int .i64 j ∧ onlyIn W0 wq cb rb ∧ (∃ f, wq.rowIs rb 3 (r + 8) f) ∧ wq.cell? ⟨w.heap.size, 1, none⟩ = some (.slice (some ⟨rb, 0, none⟩) r (r + 8))) (fun i _ => r - (intOf i).toNat)
      case atStart => exact ⟨0, by omega, rfl, HB.out.1, ⟨_, HB.out.2.2⟩, d1'⟩
      case round =>
        obtain ⟨j, hj, rfl, hb, ⟨q', hq⟩, d1''⟩ := hrel
        have HB2 : Hid (onlyIn W0 wr cb rb ∧ (wr.rowIs rb 3 (r + 8) q')) := ⟨hb, hq⟩
        by_cases hlj : j < r
        · have u0 := hq.cell (i := j) (by omega)
          have uf := hq.frozen
          clear hb hq d0' d1'
          have kn : (j : Int) < r := by omega
          go_wp2
          go_roundw
          case rel => exact ⟨j + 1, by omega, by go_num, HB2.out.1.set (.inr rfl) _, ⟨_, HB2.out.2.set _ _⟩, (World.cell?_setCell_other _ _ _ _ (fun e => by have := congrArg Addr.block e; simp at this; omega)).trans d1''⟩
          case measure => simp [intOf]; omega
        · have : j = r := by omega
          subst this
          clear hb hq d0' d1'
          go_wp2
          go_end0
          exact ⟨rfl, HF.out _ HB2.out.1⟩
end Go.Proofs.YtfkddhndddfbdaaGreatDoor
