/- FormatUint at base 16, as far as lengths go. -/
import Derived.Test.YtblkaenlajmhnaaGreatDoorHC
import Derived.Laws.BytesArg
import Derived.Laws.Bits64b
namespace Go.Proofs.YtblkaenlajmhnaaGreatDoor
open Go.RowKit
attribute [local go_sem ↓] Go.wp_at_zero Go.wp_at_succ
attribute [local go_sem] After.cell After.frozen After.const
set_option maxRecDepth 100000 in
set_option maxHeartbeats 4000000 in
theorem tz16_any (w : World) (henv : Env w) :
    Calls Tryz.prog 155 #[.int .u64 16] w fun e w' => e = .returned (.int .i64 4) ∧ w' = w := by
  have k : (IntKind.u64.wrap (bits BinOp.and IntKind.u64 16 (IntKind.u64.wrap (-16)) * 285870213051353865) / 288230376151711744) = 15 := by decide
  have hc := henv.db64 15 (by decide)
  have hv : Lib.deBruijn64tab.getD 15 0 = 4 := by decide
  rw [hv] at hc
  go_enter Tryz.func155, Tryz.ntmps155
  go_wp2
  go_ret
  exact ⟨rfl, rfl⟩
def Row65 (W : World) (a : Nat) : Prop := a < W.heap.size ∧ ∀ j, j < 65 → (∃ z, W.cell? ⟨a, j, none⟩ = some (.int .u8 z)) ∧ W.frozen? ⟨a, j, none⟩ = false
theorem Row65.set {W : World} {a : Nat} (h : Row65 W a) (i : Nat) (hi : i < 65) (z : Int) : Row65 (W.setCell ⟨a, i, none⟩ (.int .u8 z)) a := by
  refine ⟨by have := h.1; simpa using this, fun j hj => ⟨?_, by rw [World.frozen?_setCell]; exact (h.2 j hj).2⟩⟩
  by_cases e : j = i
  · subst e
    obtain ⟨y, hy⟩ := (h.2 j hj).1
    exact ⟨z, World.cell?_setCell_same' _ _ _ (by rw [hy]; rfl)⟩
  · obtain ⟨y, hy⟩ := (h.2 j hj).1
    exact ⟨y, (World.cell?_setCell_other _ _ _ _ (by intro he; cases he; exact e rfl)).trans hy⟩
theorem and15 (x : Int) (h0 : 0 ≤ x) (h1 : x < 18446744073709551616) : 0 ≤ bits BinOp.and IntKind.u64 x 15 ∧ bits BinOp.and IntKind.u64 x 15 < 16 := by
  obtain ⟨n, rfl⟩ := Int.eq_ofNat_of_zero_le h0
  have e := bits_and_u64_nat n 15 (by omega) (by decide)
  have e2 : n &&& 15 = n % 16 := Nat.and_two_pow_sub_one_eq_mod n 4
  have e3 : bits BinOp.and IntKind.u64 (n : Int) 15 = ((n &&& 15 : Nat) : Int) := e
  rw [e3, e2]
  omega
def pw16 : Nat → Int
  | 0 => 16
  | k + 1 => 16 * pw16 k
theorem pw16_pos : ∀ k, 16 ≤ pw16 k
  | 0 => by simp [pw16]
  | k + 1 => by have := pw16_pos k; simp only [pw16]; omega
theorem slice65 (W : World) (b k : Nat) (hk : k ≤ 15) : (Instr.sliceAt 212 (.pointer (some ⟨b, 0, none⟩)) (some (.int .i64 (49 + (k : Int)))) none none).run Tryz.prog W = .ok (.slice (some ⟨b, 49 + k, none⟩) (16 - k) (16 - k)) W := by
  have e1 : Program.arrayLen Tryz.prog 212 = 65 := by kernel_rfl
  have e2 : Program.elem Tryz.prog 212 = 5 := by kernel_rfl
  have hu : Tryz.prog.underlying 212 = some (.array (Program.arrayLen Tryz.prog 212) (Program.elem Tryz.prog 212)) := by rw [e1, e2]; exact Tryz.underlying212
  rw [run_sliceAt_array_l W _ _ hu .i64 (49 + (k : Int)) (by omega) (by rw [e1]; omega), e1, e2, Tryz.sizeOf5]
  simp only [Result.andThen, slicedAt]
  have e3 : ((49 + (k : Int))).toNat = 49 + k := by omega
  rw [e3, if_neg (by omega)]
  simp [Addr.add]
  omega
theorem conv65 {W : World} {b : Nat} (h : Row65 W b) (k : Nat) (hk : k ≤ 15) : ∃ str : ByteArray, str.size = 16 - k ∧ (convert 111 9 (.slice (some ⟨b, 49 + k, none⟩) (16 - k) (16 - k))).run Tryz.prog W = .ok (.string str) W := by
  have hz : ∀ m, m ≤ 16 - k → ∃ zs : List Int, zs.length = m ∧ ∀ i, i < m → W.cell? ⟨b, 49 + k + i, none⟩ = some (.int .u8 (zs.getD i 0)) := by
    intro m
    induction m with
    | zero => exact fun _ => ⟨[], rfl, fun i hi => absurd hi (Nat.not_lt_zero _)⟩
    | succ m ih =>
      intro hm
      obtain ⟨zs, hl, hc⟩ := ih (by omega)
      obtain ⟨z, hz⟩ := (h.2 (49 + k + m) (by omega)).1
      refine ⟨zs ++ [z], by simp [hl], fun i hi => ?_⟩
      by_cases e : i < m
      · rw [hc i e]; simp [List.getD, List.getElem?_append_left (show i < zs.length by omega)]
      · obtain rfl : i = m := by omega
        rw [hz]; simp [List.getD, ← hl]
  obtain ⟨zs, hl, hc⟩ := hz (16 - k) (Nat.le_refl _)
  exact ⟨strOfNums zs, by rw [strOfNums_size]; exact hl, run_convert_bytes_arg (P := Tryz.prog) (w := W) 111 5 Tryz.underlying111 Tryz.underlying5 b (49 + k) (16 - k) (16 - k) zs hl hc _ Tryz.underlying9⟩
def BitsPost (e : Ending) : Prop := ∃ t : ByteArray, e = .returned (.tuple #[.slice none 0 0, .string t]) ∧ t.size ≤ 65
set_option maxRecDepth 100000 in
set_option maxHeartbeats 4000000 in
theorem formatBits_any (x : Int) (w : World) (h0 : 0 ≤ x) (h1 : x < 18446744073709551616) (henv : Env w) :
    Calls Tryz.prog 134 #[.slice none 0 0, .int .u64 x, .int .i64 16, .bool false, .bool false] w fun e w' => BitsPost e ∧ Below w.heap.size w w' := by
  have HX : Hid (0 ≤ x ∧ x < 18446744073709551616 ∧ Env w) := ⟨h0, h1, henv⟩
  clear h0 h1 henv
  go_enter Tryz.func134, Tryz.ntmps134
  go_wp2_with (first
    | (go_at_call 155; refine (tz16_any _ (HX.out.2.2.ext ((Below.refl _ _).alloc (Nat.le_refl _) _))).mono ?_; rintro e w1 ⟨rfl, hw⟩; obtain rfl := hw.symm)
    | (go_at_call 154; go_in))
  obtain ⟨W0, hW0⟩ : ∃ W0, W0 = w.alloc (.cells Tryz.zeroCells212 212) := ⟨_, rfl⟩
  rw [← hW0]
  have h65 : Row65 W0 w.heap.size := by
    have hb : W0.heap[w.heap.size]? = some (.cells Tryz.zeroCells212 212 (0, 0)) := by rw [hW0]; exact heap_alloc_new _ _
    obtain ⟨q, qf⟩ := blk hb
    refine ⟨by rw [hW0]; simp, fun j hj => ⟨⟨0, ?_⟩, qf j⟩⟩
    rw [q j]
    have hz : Tryz.zeroCells212 = Array.replicate 65 (Value.int .u8 0) := by kernel_rfl
    rw [hz]
    simp [hj]
  have hB0 : Below w.heap.size w W0 := by rw [hW0]; exact (Below.refl _ _).alloc (Nat.le_refl _) _
  clear hW0
  have H0 : Hid (Row65 W0 w.heap.size ∧ Below w.heap.size w W0) := ⟨h65, hB0⟩
  clear h65 hB0
  go_loopw [1, 13] (fun v i wr => ∃ (y : Int) (k : Nat), v = .int .u64 y ∧ (0 ≤ y ∧ y < pw16 k ∧ y < 18446744073709551616) ∧ i = .int .i64 (50 + (k : Int)) ∧ k ≤ 15 ∧ Row65 wr w.heap.size ∧ Below w.heap.size w wr) (fun v _ _ => (intOf v).toNat)
  case atStart => exact ⟨x, 15, rfl, ⟨HX.out.1, by have : pw16 15 = 18446744073709551616 := by decide
                                                   rw [this]; exact HX.out.2.1, HX.out.2.1⟩, rfl, by omega, H0.out.1, H0.out.2⟩
  case round =>
    obtain ⟨y, k, rfl, hy, rfl, hk, hr, hb⟩ := hrel
    have a15 := and15 y hy.1 hy.2.2
    obtain ⟨d, hd⟩ : ∃ d, bits BinOp.and IntKind.u64 y 15 = d := ⟨_, rfl⟩
    rw [hd] at a15
    have d0 : (d < 36) := by omega
    have HR : Hid (Row65 wr w.heap.size ∧ Below w.heap.size w wr ∧ 0 ≤ y ∧ y < pw16 k ∧ y < 18446744073709551616) := ⟨hr, hb, hy⟩
    have f1 := (hr.2 (49 + k) (by omega)).2
    obtain ⟨z1, g1⟩ := (hr.2 (49 + k) (by omega)).1
    have i1 : (50 + (k : Int) - 1) = ((49 + k : Nat) : Int) := by omega
    clear hr hb hy
    by_cases h16 : 16 ≤ y
    · go_wp2
      cases k with
      | zero =>
        exfalso
        have h := HR.out.2.2.2.1
        simp only [pw16] at h
        omega
      | succ k =>
        have hp := HR.out.2.2.2.1
        have h2 := HR.out.2.2.1
        have h3 := HR.out.2.2.2.2
        simp only [pw16] at hp
        exact ⟨⟨y / 16, k, rfl, ⟨by omega, by omega, by omega⟩, by congr 1; omega, by omega, HR.out.1.set _ (by omega) _, HR.out.2.1.setCell (Nat.le_refl _) _⟩, by simp [intOf]; omega⟩
    · have hy0 := HR.out.2.2.1
      have hy36 : y < 36 := by omega
      have hsl := fun W => slice65 W w.heap.size k hk
      have hcs : ∀ z : Int, ∃ str : ByteArray, str.size = 16 - k ∧ (convert 111 9 (.slice (some ⟨w.heap.size, 49 + k, none⟩) (16 - k) (16 - k))).run Tryz.prog (wr.setCell ⟨w.heap.size, 49 + k, none⟩ (.int .u8 z)) = .ok (.string str) (wr.setCell ⟨w.heap.size, 49 + k, none⟩ (.int .u8 z)) :=
        fun z => conv65 (HR.out.1.set (49 + k) (by omega) z) k hk
      go_wp2
      obtain ⟨str, hs, hcv⟩ := hcs _
      rw [hcv]
      go_wp2
      go_ret2
      exact ⟨⟨str, rfl, by omega⟩, HR.out.2.1.setCell (Nat.le_refl _) _⟩
theorem formatUint_any (x : Int) (w : World) (h0 : 0 ≤ x) (h1 : x < 18446744073709551616) (henv : Env w) :
    Calls Tryz.prog 89 #[.int .u64 x, .int .i64 16] w fun e w' => TextUpTo 65 e ∧ Below w.heap.size w w' := by
  go_enter Tryz.func89, Tryz.ntmps89
  go_wp2_with (first
    | (go_at_call 134; refine (formatBits_any x w h0 h1 henv).mono ?_; rintro e w1 ⟨⟨t, rfl, ht⟩, hb⟩)
    | go_in)
  go_ret
  exact ⟨⟨t, rfl, ht⟩, hb⟩
end Go.Proofs.YtblkaenlajmhnaaGreatDoor
