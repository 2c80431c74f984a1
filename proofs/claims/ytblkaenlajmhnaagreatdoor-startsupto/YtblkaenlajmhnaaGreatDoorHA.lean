/- unquote: what stands between back quotes, and what is no quotation. -/
import Derived.Test.YtblkaenlajmhnaaGreatDoorH8
namespace Go.Proofs.YtblkaenlajmhnaaGreatDoor
open Go.RowKit
attribute [local go_sem ↓] Go.wp_at_zero Go.wp_at_succ
attribute [local go_sem] After.cell After.frozen After.const
set_option maxRecDepth 100000 in
set_option maxHeartbeats 2000000 in
theorem sindex_is (s : ByteArray) (c : Int) (w : World) :
    Calls Tryz.prog 118 #[.string s, .int .u8 c] w fun e w' => e = .returned (.int .i64 (Lib.indexByte s.data.toList c.toNat.toUInt8)) ∧ w' = w := by
  go_enter Tryz.func118, Tryz.ntmps118
  go_wp2
  rw [run_callFunc_extern Tryz.func113 (by kernel_rfl) (by kernel_rfl) (by kernel_rfl) (e := Extern.BytealgIndexByte.indexByte) (by kernel_rfl), Lib.run_indexByteString]
  simp only [Result.andThen]
  rw [Oper.upon_value]
  go_wp2
  go_ret
  exact ⟨rfl, rfl⟩
set_option maxRecDepth 100000 in
set_option maxHeartbeats 2000000 in
theorem scontains_is (s : ByteArray) (c : Int) (w : World) :
    Calls Tryz.prog 119 #[.string s, .int .u8 c] w fun e w' => (∃ b : Bool, e = .returned (.bool b) ∧ (b = true → Lib.indexByte s.data.toList c.toNat.toUInt8 ≠ -1)) ∧ w' = w := by
  obtain ⟨z, hz⟩ : ∃ z, Lib.indexByte s.data.toList c.toNat.toUInt8 = z := ⟨_, rfl⟩
  rw [hz]
  go_enter Tryz.func119, Tryz.ntmps119
  go_wp2_with (go_at_call 118; refine (sindex_is s c w).mono ?_; rintro e w1 ⟨he, hw⟩; obtain rfl := hw.symm; rw [hz] at he; subst he)
  go_ret
  exact ⟨⟨_, rfl, by simp⟩, rfl⟩
theorem sindex_at (s : ByteArray) (c : Int) (w : World) :
    Calls Tryz.prog 118 #[.string s, .int .u8 c] w fun e w' => (∃ z : Int, e = .returned (.int .i64 z) ∧ Lib.indexByte s.data.toList c.toNat.toUInt8 = z ∧ -1 ≤ z ∧ z < s.size) ∧ w' = w := by
  refine (sindex_is s c w).mono ?_
  rintro e w1 ⟨rfl, rfl⟩
  obtain ⟨z, hz, z0, z2⟩ := ixb_cases s c.toNat.toUInt8
  exact ⟨⟨z, by rw [hz], hz, z0, z2⟩, rfl⟩
theorem two_bytes (s : ByteArray) (h1 : 2 ≤ s.size) (e0 : ((s[0]'(by omega)).toNat : Int) = 96) (hi : Lib.indexByte (s.extract 1 s.size).data.toList 96 = 0) : Lib.indexByte (s.extract 0 2).data.toList 13 = -1 := by
  obtain ⟨⟨l⟩⟩ := s
  match l, h1 with
  | [], h => exact absurd h (by simp [ByteArray.size])
  | [_], h => exact absurd h (by simp [ByteArray.size])
  | a :: b :: r, _ =>
    have ha : a = 96 := by
      have : ((⟨⟨a :: b :: r⟩⟩ : ByteArray)[0]'(by simp [ByteArray.size])) = a := rfl
      rw [this] at e0
      have e1 : a.toNat = 96 := by omega
      exact UInt8.toNat_inj.1 e1
    have hl1 : (ByteArray.extract ⟨⟨a :: b :: r⟩⟩ 1 (⟨⟨a :: b :: r⟩⟩ : ByteArray).size).data.toList = b :: r := by
      simp [ByteArray.size]
    have hl2 : (ByteArray.extract ⟨⟨a :: b :: r⟩⟩ 0 2).data.toList = [a, b] := by
      simp
    rw [hl1] at hi
    rw [hl2, ha]
    by_cases hb : b = 96
    · subst hb; rfl
    · exfalso
      have hb' : (b == 96) = false := by simp [hb]
      simp only [Lib.indexByte, hb'] at hi
      have hg := Lib.indexByte_ge r 96
      by_cases h2 : Lib.indexByte r 96 = -1
      · rw [h2] at hi; simp at hi
      · have h3 : (Lib.indexByte r 96 == -1) = false := by simp [h2]
        rw [h3] at hi
        simp at hi
        omega
set_option maxRecDepth 100000 in
set_option maxHeartbeats 8000000 in
theorem unquote_bq (s : ByteArray) (w : World) (h1 : 2 ≤ s.size) (hs : s.size ≤ 1099511627776) (henv : Env w) (e0 : ((s[0]'(by omega)).toNat : Int) = 96) :
    Calls Tryz.prog 99 #[.string s, .bool true] w fun e w' => UnPost s.size e ∧ Below w.heap.size w w' := by
  obtain ⟨te, pe, hsy⟩ := henv.syn
  have HE : Hid (Env w) := henv
  clear henv
  have mixed : Tryz.prog.follows .mixedOrders = true := by kernel_rfl
  have f22 : decide ((s.size : Int) < 2) = false := by simp; omega
  have z1 : (s.extract 1 s.size).size = s.size - 1 := by rw [ByteArray.size_extract]; omega
  have c0 : (1 : Int) ≤ s.size := by omega
  have hp : (0 : Int) < s.size := by omega
  obtain ⟨i0, hi0, hz0, hz1, hz2⟩ := info_parts Tryz.infoByte
  have hut := Tryz.underlying111
  go_enter Tryz.func99, Tryz.ntmps99
  go_wp2_with (first
    | (go_at_call 118; refine (sindex_at _ _ w).mono ?_; rintro e w1 ⟨⟨z, rfl, hz, z0, z2⟩, hw⟩; obtain rfl := hw.symm; obtain rfl | ⟨i, rfl⟩ := place_cases z0)
    | (go_at_call 119; refine (scontains_is _ _ w).mono ?_; rintro e w1 ⟨⟨cb, rfl, hcb⟩, hw⟩; obtain rfl := hw.symm; cases cb))
  · go_region_o
    go_wp2
    refine bodyPost_ret (results_tmp3 rfl _ _ _) rfl ⟨UnPost.of (by show 0 ≤ _; omega) (Nat.le_refl _) (.inr ⟨_, _, rfl⟩), (Below.refl _ _).drew⟩
  · go_region_o
    go_wp2
    refine bodyPost_ret (results_tmp3 rfl _ _ _) rfl ⟨UnPost.of (by simp only [ByteArray.size_extract]; omega) (by simp only [ByteArray.size_extract]; omega) (.inl rfl), (Below.refl _ _).drew⟩
  · have hi1 : 1 ≤ i := by
      rcases Nat.eq_zero_or_pos i with h0 | h0
      · subst h0
        exact absurd (two_bytes s h1 e0 hz) (hcb trivial)
      · exact h0
    clear hcb hz
    have hC : ((i : Int) + 2 - 1 - 1 - 1) = ((i - 1 : Nat) : Int) := by omega
    obtain ⟨w2, hrun, hown, hgrow⟩ := run_make_own (P := Tryz.prog) w w.heap.size 111 5 i0 _ 1 hut hi0 hz0 hz1 .i64 .i64 (i - 1) (by rw [hz2]; omega) (by unfold maxLen; omega) (Nat.le_refl _)
    rw [hC, hrun]
    have HO : Hid (w2.ownsRow w.heap.size 5 1 (.slice (some ⟨w.heap.size, 0, none⟩) 0 (i - 1)) 0 [] ∧ Below w.heap.size w w2) := ⟨hown, (Below.refl _ _).grown hgrow (Nat.le_refl _) (fun k hk => by cases hk)⟩
    clear hrun hown hgrow
    have z2' : (i : Int) + 2 ≤ s.size := by omega
    have kE : ((i : Int) + 2 - 1) = ((i + 1 : Nat) : Int) := by omega
    go_wp2
    go_loopw [9, 10] (fun v a wr => ∃ (k : Nat) (n : Nat) (xs : List Value), a = .int .i64 k ∧ 1 ≤ k ∧ k ≤ i + 1 ∧ wr.ownsRow w.heap.size 5 1 v n xs ∧ n ≤ k ∧ U8s xs ∧ Below w.heap.size w wr) (fun _ a _ => i + 1 - (intOf a).toNat)
    case atStart => exact ⟨1, 0, [], rfl, by omega, by omega, HO.out.1, by omega, (by intro u hu; cases hu), HO.out.2⟩
    case round =>
      obtain ⟨k, n, xs, rfl, hk1, hk2, hown, hn, hu, hbw⟩ := hrel
      obtain ⟨va, vc, rfl⟩ := ownsRow_shape hown
      obtain ⟨str, hstr, hcv⟩ := conv_own hown hu
      have HR : Hid (wr.ownsRow w.heap.size 5 1 (.slice va n vc) n xs ∧ U8s xs ∧ Below w.heap.size w wr ∧ w.heap.size ≤ wr.heap.size) := ⟨hown, hu, hbw, hbw.size⟩
      clear hown hu hbw
      by_cases hlt : k < i + 1
      · have kl : (k : Int) < ((i + 1 : Nat) : Int) := by omega
        have kl2 : (k : Int) < (s.size : Nat) := by omega
        go_wp2_with (at_builtin; refine wpList_append_own _ rfl _ _ _ rfl w.heap.size 5 i0 _ 1 1 hut hi0 hz0 hz1 hz2 rfl (by omega) _ n xs rfl (HR.out.1.alloc _) ⟨wr.heap.size, 0, none⟩ 1 1 [_] rfl rfl (cell_one_new _ _ _) (by intro u hu; simp at hu; subst hu; rfl) (by unfold maxLen; omega) (by omega) (by have := HR.out.2.2.2; simp; omega) ?_; intro v' w4 hown4 hgrow4 _; have H4 : Hid (_ ∧ _) := ⟨hown4, hgrow4⟩; obtain ⟨ga', gc', rfl⟩ := ownsRow_shape hown4; clear hown4 hgrow4)
        · exact ⟨⟨k + 1, n + 1, _, by go_num, by omega, by omega, H4.out.1, by omega, HR.out.2.1.one _, HR.out.2.2.1.trans (app_below HR.out.1 H4.out.2 (Nat.le_refl _) HR.out.2.2.2)⟩, by simp [intOf]; omega⟩
        · exact ⟨⟨k + 1, n, xs, by go_num, by omega, by omega, HR.out.1, by omega, HR.out.2.1, HR.out.2.2.1⟩, by simp [intOf]; omega⟩
      · obtain rfl : k = i + 1 := by omega
        go_wp2
        go_region_o
        go_wp2
        refine bodyPost_ret (results_tmp3 rfl _ _ _) rfl ⟨UnPost.of (by omega) (by simp only [ByteArray.size_extract]; omega) (.inl rfl), HR.out.2.2.1.drew⟩
set_option maxRecDepth 100000 in
set_option maxHeartbeats 8000000 in
theorem unquote_other (s : ByteArray) (w : World) (h1 : 2 ≤ s.size) (hs : s.size ≤ 1099511627776) (henv : Env w) (q : Int) (e0 : ((s[0]'(by omega)).toNat : Int) = q) (g1 : (q == 96) = false) (g2 : (q == 34) = false) (g3 : (q == 39) = false) :
    Calls Tryz.prog 99 #[.string s, .bool true] w fun e w' => UnPost s.size e ∧ Below w.heap.size w w' := by
  obtain ⟨te, pe, hsy⟩ := henv.syn
  clear henv
  have mixed : Tryz.prog.follows .mixedOrders = true := by kernel_rfl
  have f22 : decide ((s.size : Int) < 2) = false := by simp; omega
  have z1 : (s.extract 1 s.size).size = s.size - 1 := by rw [ByteArray.size_extract]; omega
  have c0 : (1 : Int) ≤ s.size := by omega
  have hp : (0 : Int) < s.size := by omega
  go_enter Tryz.func99, Tryz.ntmps99
  go_wp2_with (go_at_call 118; refine (sindex_at _ _ w).mono ?_; rintro e w1 ⟨⟨z, rfl, hz, z0, z2⟩, hw⟩; obtain rfl := hw.symm; obtain rfl | ⟨i, rfl⟩ := place_cases z0)
  all_goals
    go_region_o
    go_wp2
    refine bodyPost_ret (results_tmp3 rfl _ _ _) rfl ⟨UnPost.of (by show 0 ≤ _; omega) (Nat.le_refl _) (.inr ⟨_, _, rfl⟩), (Below.refl _ _).drew⟩
set_option maxRecDepth 100000 in
set_option maxHeartbeats 8000000 in
theorem unquote_short (s : ByteArray) (w : World) (h1 : s.size < 2) (henv : Env w) :
    Calls Tryz.prog 99 #[.string s, .bool true] w fun e w' => UnPost s.size e ∧ Below w.heap.size w w' := by
  obtain ⟨te, pe, hsy⟩ := henv.syn
  clear henv
  have mixed : Tryz.prog.follows .mixedOrders = true := by kernel_rfl
  have f22 : (s.size : Int) < 2 := by omega
  go_enter Tryz.func99, Tryz.ntmps99
  go_wp2
  go_region_o
  go_wp2
  refine bodyPost_ret (results_tmp3 rfl _ _ _) rfl ⟨UnPost.of (by show 0 ≤ _; omega) (Nat.le_refl _) (.inr ⟨_, _, rfl⟩), (Below.refl _ _).drew⟩
end Go.Proofs.YtblkaenlajmhnaaGreatDoor
