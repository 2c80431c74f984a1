/- unquote: what stands between single quotes. -/
import Derived.Test.YtblkaenlajmhnaaGreatDoorH8
namespace Go.Proofs.YtblkaenlajmhnaaGreatDoor
open Go.RowKit
attribute [local go_sem ↓] Go.wp_at_zero Go.wp_at_succ
attribute [local go_sem] After.cell After.frozen After.const
set_option maxRecDepth 100000 in
set_option maxHeartbeats 60000000 in
theorem unquote_sq (s : ByteArray) (w : World) (h1 : 2 ≤ s.size) (hs : s.size ≤ 1099511627776) (henv : Env w) (e0 : ((s[0]'(by omega)).toNat : Int) = 39) :
    Calls Tryz.prog 99 #[.string s, .bool true] w fun e w' => UnPost s.size e ∧ Below w.heap.size w w' := by
  obtain ⟨te, pe, hsy⟩ := henv.syn
  have HE : Hid (Env w) := henv
  clear henv
  have mixed : Tryz.prog.follows .mixedOrders = true := by kernel_rfl
  have f22 : decide ((s.size : Int) < 2) = false := by simp; omega
  have z1 : (s.extract 1 s.size).size = s.size - 1 := by rw [ByteArray.size_extract]; omega
  have c0 : (1 : Int) ≤ s.size := by omega
  have hp : (0 : Int) < s.size := by omega
  obtain ⟨i0, hi0, hz0, hz1, hz2⟩ := info_parts Tryz.infoByte
  have hut := Tryz.underlying111
  go_enter Tryz.func99, Tryz.ntmps99
  go_wp2_with (first
    | (go_at_call 118; refine (sindex_any _ _ w).mono ?_; rintro e w1 ⟨⟨z, rfl, z0, z2⟩, hw⟩; obtain rfl := hw.symm; obtain rfl | ⟨i, rfl⟩ := place_cases z0)
    | (go_at_call 119; refine (scontains_any _ _ w).mono ?_; rintro e w1 ⟨⟨cb, rfl⟩, hw⟩; obtain rfl := hw.symm; cases cb)
    | (go_at_call 121; refine (Tryz.utf8_DecodeRuneInString _ w HE.out.utf).mono ?_; rintro e w1 ⟨rfl, hb⟩; generalize Lib.decodeGo _ = dg; obtain ⟨rr, kk⟩ := dg; dsimp only))
  · go_region_o
    go_wp2
    refine bodyPost_ret (results_tmp3 rfl _ _ _) rfl ⟨UnPost.of (by show 0 ≤ _; omega) (Nat.le_refl _) (.inr ⟨_, _, rfl⟩), (Below.refl _ _).drew⟩
  · go_region_o
    go_wp2
    refine bodyPost_ret (results_tmp3 rfl _ _ _) rfl ⟨UnPost.of (by simp only [ByteArray.size_extract]; omega) (by simp only [ByteArray.size_extract]; omega) (.inl rfl), hb.drew⟩
  · go_region_o
    go_wp2
    refine bodyPost_ret (results_tmp3 rfl _ _ _) rfl ⟨UnPost.of (by simp only [ByteArray.size_extract]; omega) (by simp only [ByteArray.size_extract]; omega) (.inl rfl), hb.drew⟩
  · have hkk : ((kk : Int) != 1) = false := by assumption
    simp only [hkk]
    have hC : (3 * ((i : Int) + 2) / 2) = ((3 * (i + 2) / 2 : Nat) : Int) := by omega
    obtain ⟨w2, hrun, hown, hgrow⟩ := run_make_own (P := Tryz.prog) w1 w.heap.size 111 5 i0 _ 1 hut hi0 hz0 hz1 .i64 .i64 (3 * (i + 2) / 2) (by rw [hz2]; omega) (by unfold maxLen; omega) (by have := (hb).size; omega)
    rw [hC, hrun]
    have HO : Hid (w2.ownsRow w.heap.size 5 1 (.slice (some ⟨(w1).heap.size, 0, none⟩) 0 (3 * (i + 2) / 2)) 0 [] ∧ Below w.heap.size w w2) := ⟨hown, (hb).grown hgrow (by have := (hb).size; omega) (fun k hk => by cases hk)⟩
    clear hrun hown hgrow hC
    go_wp2
    go_loopw [0, 14] (fun a v wr => ∃ (t : ByteArray) (n : Nat) (xs : List Value), a = .string t ∧ t.size ≤ s.size ∧ wr.ownsRow w.heap.size 5 1 v n xs ∧ n + 4 * t.size ≤ 4 * s.size ∧ U8s xs ∧ Below w.heap.size w wr) (fun a _ _ => strLen a)
    case atStart => exact ⟨_, 0, [], rfl, by omega, HO.out.1, by omega, (by intro u hu; cases hu), HO.out.2⟩
    case round =>
      obtain ⟨t, n, xs, rfl, ht, hown, hn, hu, hbw⟩ := hrel
      obtain ⟨va, vc, rfl⟩ := ownsRow_shape hown
      obtain ⟨str, hstr, hcv⟩ := conv_own hown hu
      have HR : Hid (wr.ownsRow w.heap.size 5 1 (.slice va n vc) n xs ∧ U8s xs ∧ Below w.heap.size w wr) := ⟨hown, hu, hbw⟩
      clear hown hu hbw
      obtain ⟨te2, pe2, hsy2⟩ := (HE.out.ext HR.out.2.2).syn
      by_cases h0 : t.size = 0
      · have h0' : decide ((0 : Int) < t.size) = false := decide_eq_false (by omega)
        have hb0 : ¬ (0 : Int) < t.size := by omega
        go_wp2
        go_region_o
        go_wp2
        refine bodyPost_ret (results_tmp3 rfl _ _ _) rfl ⟨UnPost.of (by show 0 ≤ _; omega) (Nat.le_refl _) (.inr ⟨_, _, rfl⟩), HR.out.2.2.drew⟩
      · have h0' : (0 : Int) < t.size := by omega
        have h0i : 0 < t.size := by omega
        obtain ⟨b, hb⟩ : ∃ b, ((t[0]'h0i).toNat : Int) = b := ⟨_, rfl⟩
        by_cases hbq : b = 39
        · have hb' : ((t[0]'h0i).toNat : Int) = 39 := hb.trans hbq
          have c1 : (1 : Int) ≤ t.size := by omega
          have z9 : (t.extract 1 t.size).size = t.size - 1 := by rw [ByteArray.size_extract]; omega
          clear hb hbq
          go_wp2
          refine bodyPost_ret (results_tmp3 rfl _ _ _) rfl ⟨UnPost.of (by omega) (by omega) (.inl rfl), HR.out.2.2⟩
        · have hbn : (b != 39) = true := by simp [hbq]
          go_wp2_with (first
            | (go_at_call 122; refine (unquoteChar_any t 39 wr (by omega) (by omega) (HE.out.ext HR.out.2.2) (by omega)).mono ?_; rintro e w3 ⟨⟨r, mb, t', err, rfl, hr, ht2, herr⟩, hb3⟩; have hsy3 := (hb3.cell (p := ⟨1, 0, none⟩) (Nat.lt_of_lt_of_le (by decide) (HE.out.ext HR.out.2.2).size)).trans hsy2; have H3 : Hid (Below wr.heap.size wr w3 ∧ I32 r ∧ wr.heap.size ≤ w3.heap.size ∧ w.heap.size ≤ wr.heap.size) := ⟨hb3, hr, hb3.size, HR.out.2.2.size⟩; clear hr hb3; obtain rfl | ⟨te', pe', rfl⟩ := herr)
            | (go_at_call 123; refine (Tryz.utf8_AppendRune_plain w.heap.size (.slice va n vc) n xs r H3.out.2.1.1 H3.out.2.1.2 w3 (ownsRow_below HR.out.1 H3.out.1) (by omega) (by have := H3.out.2.2.1; have := H3.out.2.2.2; omega)).mono ?_; rintro e w4 ⟨v', rfl, hown4, o4, hgrow4⟩; have H4 : Hid (_ ∧ _) := ⟨hown4, hgrow4⟩; obtain ⟨ga', gc', rfl⟩ := ownsRow_shape hown4; obtain ⟨str4, hstr4, hcv4⟩ := conv_own hown4 (HR.out.2.1.rune r); have hsy4 := ((app_below (ownsRow_below HR.out.1 H3.out.1) hgrow4 (Nat.le_refl _) (Nat.le_trans H3.out.2.2.2 H3.out.2.2.1)).cell (p := ⟨1, 0, none⟩) (Nat.lt_of_lt_of_le (by decide) HE.out.size)).trans hsy3; clear hown4 hgrow4)
            | (at_builtin; refine wpList_append_own _ rfl _ _ _ rfl w.heap.size 5 i0 _ 1 1 hut hi0 hz0 hz1 hz2 rfl (by omega) _ n xs rfl ((ownsRow_below HR.out.1 H3.out.1).alloc _) ⟨w3.heap.size, 0, none⟩ 1 1 [.int .u8 (r % 256)] rfl rfl (cell_one_new _ _ _) (by intro u hu; simp at hu; subst hu; rfl) (by unfold maxLen; omega) (by omega) (by have := H3.out.2.2.1; have := H3.out.2.2.2; simp; omega) ?_; intro v' w4 hown4 hgrow4 _; have H4 : Hid (_ ∧ _) := ⟨hown4, hgrow4⟩; obtain ⟨ga', gc', rfl⟩ := ownsRow_shape hown4; obtain ⟨str4, hstr4, hcv4⟩ := conv_own hown4 (HR.out.2.1.one _); have hsy4 := ((app_below (ownsRow_below HR.out.1 H3.out.1) hgrow4 (Nat.le_refl _) (Nat.le_trans H3.out.2.2.2 H3.out.2.2.1)).cell (p := ⟨1, 0, none⟩) (Nat.lt_of_lt_of_le (by decide) HE.out.size)).trans hsy3; clear hown4 hgrow4))
          all_goals try
            (go_region_o
             go_wp2
             refine bodyPost_ret (results_tmp3 rfl _ _ _) rfl ⟨UnPost.of (by show 0 ≤ _; omega) (Nat.le_refl _) (.inr ⟨_, _, rfl⟩), (HR.out.2.2.trans (H3.out.1.mono H3.out.2.2.2)).drew⟩)
          all_goals try
            (go_region_o
             go_wp2
             refine bodyPost_ret (results_tmp3 rfl _ _ _) rfl ⟨UnPost.of (by show 0 ≤ _; omega) (Nat.le_refl _) (.inr ⟨_, _, rfl⟩), (HR.out.2.2.trans ((H3.out.1.mono H3.out.2.2.2).trans (app_below (ownsRow_below HR.out.1 H3.out.1) H4.out.2 (Nat.le_refl _) (by have := H3.out.2.2.1; have := H3.out.2.2.2; omega)))).drew⟩)
          all_goals try
            (refine bodyPost_ret (results_tmp3 rfl _ _ _) rfl ⟨UnPost.of ?_ ?_ (.inl rfl), (HR.out.2.2.trans ((H3.out.1.mono H3.out.2.2.2).trans (app_below (ownsRow_below HR.out.1 H3.out.1) H4.out.2 (Nat.le_refl _) (by have := H3.out.2.2.1; have := H3.out.2.2.2; omega))))⟩
             · first
                 | omega
                 | (have := (Lib.runeCells_le r).2; omega)
             · simp only [ByteArray.size_extract]; omega)
  · have hC : (3 * ((i : Int) + 2) / 2) = ((3 * (i + 2) / 2 : Nat) : Int) := by omega
    obtain ⟨w2, hrun, hown, hgrow⟩ := run_make_own (P := Tryz.prog) w1 w.heap.size 111 5 i0 _ 1 hut hi0 hz0 hz1 .i64 .i64 (3 * (i + 2) / 2) (by rw [hz2]; omega) (by unfold maxLen; omega) (by have := (hb).size; omega)
    rw [hC, hrun]
    have HO : Hid (w2.ownsRow w.heap.size 5 1 (.slice (some ⟨(w1).heap.size, 0, none⟩) 0 (3 * (i + 2) / 2)) 0 [] ∧ Below w.heap.size w w2) := ⟨hown, (hb).grown hgrow (by have := (hb).size; omega) (fun k hk => by cases hk)⟩
    clear hrun hown hgrow hC
    go_wp2
    go_loopw [0, 14] (fun a v wr => ∃ (t : ByteArray) (n : Nat) (xs : List Value), a = .string t ∧ t.size ≤ s.size ∧ wr.ownsRow w.heap.size 5 1 v n xs ∧ n + 4 * t.size ≤ 4 * s.size ∧ U8s xs ∧ Below w.heap.size w wr) (fun a _ _ => strLen a)
    case atStart => exact ⟨_, 0, [], rfl, by omega, HO.out.1, by omega, (by intro u hu; cases hu), HO.out.2⟩
    case round =>
      obtain ⟨t, n, xs, rfl, ht, hown, hn, hu, hbw⟩ := hrel
      obtain ⟨va, vc, rfl⟩ := ownsRow_shape hown
      obtain ⟨str, hstr, hcv⟩ := conv_own hown hu
      have HR : Hid (wr.ownsRow w.heap.size 5 1 (.slice va n vc) n xs ∧ U8s xs ∧ Below w.heap.size w wr) := ⟨hown, hu, hbw⟩
      clear hown hu hbw
      obtain ⟨te2, pe2, hsy2⟩ := (HE.out.ext HR.out.2.2).syn
      by_cases h0 : t.size = 0
      · have h0' : decide ((0 : Int) < t.size) = false := decide_eq_false (by omega)
        have hb0 : ¬ (0 : Int) < t.size := by omega
        go_wp2
        go_region_o
        go_wp2
        refine bodyPost_ret (results_tmp3 rfl _ _ _) rfl ⟨UnPost.of (by show 0 ≤ _; omega) (Nat.le_refl _) (.inr ⟨_, _, rfl⟩), HR.out.2.2.drew⟩
      · have h0' : (0 : Int) < t.size := by omega
        have h0i : 0 < t.size := by omega
        obtain ⟨b, hb⟩ : ∃ b, ((t[0]'h0i).toNat : Int) = b := ⟨_, rfl⟩
        by_cases hbq : b = 39
        · have hb' : ((t[0]'h0i).toNat : Int) = 39 := hb.trans hbq
          have c1 : (1 : Int) ≤ t.size := by omega
          have z9 : (t.extract 1 t.size).size = t.size - 1 := by rw [ByteArray.size_extract]; omega
          clear hb hbq
          go_wp2
          refine bodyPost_ret (results_tmp3 rfl _ _ _) rfl ⟨UnPost.of (by omega) (by omega) (.inl rfl), HR.out.2.2⟩
        · have hbn : (b != 39) = true := by simp [hbq]
          go_wp2_with (first
            | (go_at_call 122; refine (unquoteChar_any t 39 wr (by omega) (by omega) (HE.out.ext HR.out.2.2) (by omega)).mono ?_; rintro e w3 ⟨⟨r, mb, t', err, rfl, hr, ht2, herr⟩, hb3⟩; have hsy3 := (hb3.cell (p := ⟨1, 0, none⟩) (Nat.lt_of_lt_of_le (by decide) (HE.out.ext HR.out.2.2).size)).trans hsy2; have H3 : Hid (Below wr.heap.size wr w3 ∧ I32 r ∧ wr.heap.size ≤ w3.heap.size ∧ w.heap.size ≤ wr.heap.size) := ⟨hb3, hr, hb3.size, HR.out.2.2.size⟩; clear hr hb3; obtain rfl | ⟨te', pe', rfl⟩ := herr)
            | (go_at_call 123; refine (Tryz.utf8_AppendRune_plain w.heap.size (.slice va n vc) n xs r H3.out.2.1.1 H3.out.2.1.2 w3 (ownsRow_below HR.out.1 H3.out.1) (by omega) (by have := H3.out.2.2.1; have := H3.out.2.2.2; omega)).mono ?_; rintro e w4 ⟨v', rfl, hown4, o4, hgrow4⟩; have H4 : Hid (_ ∧ _) := ⟨hown4, hgrow4⟩; obtain ⟨ga', gc', rfl⟩ := ownsRow_shape hown4; obtain ⟨str4, hstr4, hcv4⟩ := conv_own hown4 (HR.out.2.1.rune r); have hsy4 := ((app_below (ownsRow_below HR.out.1 H3.out.1) hgrow4 (Nat.le_refl _) (Nat.le_trans H3.out.2.2.2 H3.out.2.2.1)).cell (p := ⟨1, 0, none⟩) (Nat.lt_of_lt_of_le (by decide) HE.out.size)).trans hsy3; clear hown4 hgrow4)
            | (at_builtin; refine wpList_append_own _ rfl _ _ _ rfl w.heap.size 5 i0 _ 1 1 hut hi0 hz0 hz1 hz2 rfl (by omega) _ n xs rfl ((ownsRow_below HR.out.1 H3.out.1).alloc _) ⟨w3.heap.size, 0, none⟩ 1 1 [.int .u8 (r % 256)] rfl rfl (cell_one_new _ _ _) (by intro u hu; simp at hu; subst hu; rfl) (by unfold maxLen; omega) (by omega) (by have := H3.out.2.2.1; have := H3.out.2.2.2; simp; omega) ?_; intro v' w4 hown4 hgrow4 _; have H4 : Hid (_ ∧ _) := ⟨hown4, hgrow4⟩; obtain ⟨ga', gc', rfl⟩ := ownsRow_shape hown4; obtain ⟨str4, hstr4, hcv4⟩ := conv_own hown4 (HR.out.2.1.one _); have hsy4 := ((app_below (ownsRow_below HR.out.1 H3.out.1) hgrow4 (Nat.le_refl _) (Nat.le_trans H3.out.2.2.2 H3.out.2.2.1)).cell (p := ⟨1, 0, none⟩) (Nat.lt_of_lt_of_le (by decide) HE.out.size)).trans hsy3; clear hown4 hgrow4))
          all_goals try
            (go_region_o
             go_wp2
             refine bodyPost_ret (results_tmp3 rfl _ _ _) rfl ⟨UnPost.of (by show 0 ≤ _; omega) (Nat.le_refl _) (.inr ⟨_, _, rfl⟩), (HR.out.2.2.trans (H3.out.1.mono H3.out.2.2.2)).drew⟩)
          all_goals try
            (go_region_o
             go_wp2
             refine bodyPost_ret (results_tmp3 rfl _ _ _) rfl ⟨UnPost.of (by show 0 ≤ _; omega) (Nat.le_refl _) (.inr ⟨_, _, rfl⟩), (HR.out.2.2.trans ((H3.out.1.mono H3.out.2.2.2).trans (app_below (ownsRow_below HR.out.1 H3.out.1) H4.out.2 (Nat.le_refl _) (by have := H3.out.2.2.1; have := H3.out.2.2.2; omega)))).drew⟩)
          all_goals try
            (refine bodyPost_ret (results_tmp3 rfl _ _ _) rfl ⟨UnPost.of ?_ ?_ (.inl rfl), (HR.out.2.2.trans ((H3.out.1.mono H3.out.2.2.2).trans (app_below (ownsRow_below HR.out.1 H3.out.1) H4.out.2 (Nat.le_refl _) (by have := H3.out.2.2.1; have := H3.out.2.2.2; omega))))⟩
             · first
                 | omega
                 | (have := (Lib.runeCells_le r).2; omega)
             · simp only [ByteArray.size_extract]; omega)
  · have hC : (3 * ((i : Int) + 2) / 2) = ((3 * (i + 2) / 2 : Nat) : Int) := by omega
    obtain ⟨w2, hrun, hown, hgrow⟩ := run_make_own (P := Tryz.prog) w w.heap.size 111 5 i0 _ 1 hut hi0 hz0 hz1 .i64 .i64 (3 * (i + 2) / 2) (by rw [hz2]; omega) (by unfold maxLen; omega) (by have := (Below.refl w.heap.size w).size; omega)
    rw [hC, hrun]
    have HO : Hid (w2.ownsRow w.heap.size 5 1 (.slice (some ⟨(w).heap.size, 0, none⟩) 0 (3 * (i + 2) / 2)) 0 [] ∧ Below w.heap.size w w2) := ⟨hown, (Below.refl w.heap.size w).grown hgrow (by have := (Below.refl w.heap.size w).size; omega) (fun k hk => by cases hk)⟩
    clear hrun hown hgrow hC
    go_wp2
    go_loopw [0, 14] (fun a v wr => ∃ (t : ByteArray) (n : Nat) (xs : List Value), a = .string t ∧ t.size ≤ s.size ∧ wr.ownsRow w.heap.size 5 1 v n xs ∧ n + 4 * t.size ≤ 4 * s.size ∧ U8s xs ∧ Below w.heap.size w wr) (fun a _ _ => strLen a)
    case atStart => exact ⟨_, 0, [], rfl, by omega, HO.out.1, by omega, (by intro u hu; cases hu), HO.out.2⟩
    case round =>
      obtain ⟨t, n, xs, rfl, ht, hown, hn, hu, hbw⟩ := hrel
      obtain ⟨va, vc, rfl⟩ := ownsRow_shape hown
      obtain ⟨str, hstr, hcv⟩ := conv_own hown hu
      have HR : Hid (wr.ownsRow w.heap.size 5 1 (.slice va n vc) n xs ∧ U8s xs ∧ Below w.heap.size w wr) := ⟨hown, hu, hbw⟩
      clear hown hu hbw
      obtain ⟨te2, pe2, hsy2⟩ := (HE.out.ext HR.out.2.2).syn
      by_cases h0 : t.size = 0
      · have h0' : decide ((0 : Int) < t.size) = false := decide_eq_false (by omega)
        have hb0 : ¬ (0 : Int) < t.size := by omega
        go_wp2
        go_region_o
        go_wp2
        refine bodyPost_ret (results_tmp3 rfl _ _ _) rfl ⟨UnPost.of (by show 0 ≤ _; omega) (Nat.le_refl _) (.inr ⟨_, _, rfl⟩), HR.out.2.2.drew⟩
      · have h0' : (0 : Int) < t.size := by omega
        have h0i : 0 < t.size := by omega
        obtain ⟨b, hb⟩ : ∃ b, ((t[0]'h0i).toNat : Int) = b := ⟨_, rfl⟩
        by_cases hbq : b = 39
        · have hb' : ((t[0]'h0i).toNat : Int) = 39 := hb.trans hbq
          have c1 : (1 : Int) ≤ t.size := by omega
          have z9 : (t.extract 1 t.size).size = t.size - 1 := by rw [ByteArray.size_extract]; omega
          clear hb hbq
          go_wp2
          refine bodyPost_ret (results_tmp3 rfl _ _ _) rfl ⟨UnPost.of (by omega) (by omega) (.inl rfl), HR.out.2.2⟩
        · have hbn : (b != 39) = true := by simp [hbq]
          go_wp2_with (first
            | (go_at_call 122; refine (unquoteChar_any t 39 wr (by omega) (by omega) (HE.out.ext HR.out.2.2) (by omega)).mono ?_; rintro e w3 ⟨⟨r, mb, t', err, rfl, hr, ht2, herr⟩, hb3⟩; have hsy3 := (hb3.cell (p := ⟨1, 0, none⟩) (Nat.lt_of_lt_of_le (by decide) (HE.out.ext HR.out.2.2).size)).trans hsy2; have H3 : Hid (Below wr.heap.size wr w3 ∧ I32 r ∧ wr.heap.size ≤ w3.heap.size ∧ w.heap.size ≤ wr.heap.size) := ⟨hb3, hr, hb3.size, HR.out.2.2.size⟩; clear hr hb3; obtain rfl | ⟨te', pe', rfl⟩ := herr)
            | (go_at_call 123; refine (Tryz.utf8_AppendRune_plain w.heap.size (.slice va n vc) n xs r H3.out.2.1.1 H3.out.2.1.2 w3 (ownsRow_below HR.out.1 H3.out.1) (by omega) (by have := H3.out.2.2.1; have := H3.out.2.2.2; omega)).mono ?_; rintro e w4 ⟨v', rfl, hown4, o4, hgrow4⟩; have H4 : Hid (_ ∧ _) := ⟨hown4, hgrow4⟩; obtain ⟨ga', gc', rfl⟩ := ownsRow_shape hown4; obtain ⟨str4, hstr4, hcv4⟩ := conv_own hown4 (HR.out.2.1.rune r); have hsy4 := ((app_below (ownsRow_below HR.out.1 H3.out.1) hgrow4 (Nat.le_refl _) (Nat.le_trans H3.out.2.2.2 H3.out.2.2.1)).cell (p := ⟨1, 0, none⟩) (Nat.lt_of_lt_of_le (by decide) HE.out.size)).trans hsy3; clear hown4 hgrow4)
            | (at_builtin; refine wpList_append_own _ rfl _ _ _ rfl w.heap.size 5 i0 _ 1 1 hut hi0 hz0 hz1 hz2 rfl (by omega) _ n xs rfl ((ownsRow_below HR.out.1 H3.out.1).alloc _) ⟨w3.heap.size, 0, none⟩ 1 1 [.int .u8 (r % 256)] rfl rfl (cell_one_new _ _ _) (by intro u hu; simp at hu; subst hu; rfl) (by unfold maxLen; omega) (by omega) (by have := H3.out.2.2.1; have := H3.out.2.2.2; simp; omega) ?_; intro v' w4 hown4 hgrow4 _; have H4 : Hid (_ ∧ _) := ⟨hown4, hgrow4⟩; obtain ⟨ga', gc', rfl⟩ := ownsRow_shape hown4; obtain ⟨str4, hstr4, hcv4⟩ := conv_own hown4 (HR.out.2.1.one _); have hsy4 := ((app_below (ownsRow_below HR.out.1 H3.out.1) hgrow4 (Nat.le_refl _) (Nat.le_trans H3.out.2.2.2 H3.out.2.2.1)).cell (p := ⟨1, 0, none⟩) (Nat.lt_of_lt_of_le (by decide) HE.out.size)).trans hsy3; clear hown4 hgrow4))
          all_goals try
            (go_region_o
             go_wp2
             refine bodyPost_ret (results_tmp3 rfl _ _ _) rfl ⟨UnPost.of (by show 0 ≤ _; omega) (Nat.le_refl _) (.inr ⟨_, _, rfl⟩), (HR.out.2.2.trans (H3.out.1.mono H3.out.2.2.2)).drew⟩)
          all_goals try
            (go_region_o
             go_wp2
             refine bodyPost_ret (results_tmp3 rfl _ _ _) rfl ⟨UnPost.of (by show 0 ≤ _; omega) (Nat.le_refl _) (.inr ⟨_, _, rfl⟩), (HR.out.2.2.trans ((H3.out.1.mono H3.out.2.2.2).trans (app_below (ownsRow_below HR.out.1 H3.out.1) H4.out.2 (Nat.le_refl _) (by have := H3.out.2.2.1; have := H3.out.2.2.2; omega)))).drew⟩)
          all_goals try
            (refine bodyPost_ret (results_tmp3 rfl _ _ _) rfl ⟨UnPost.of ?_ ?_ (.inl rfl), (HR.out.2.2.trans ((H3.out.1.mono H3.out.2.2.2).trans (app_below (ownsRow_below HR.out.1 H3.out.1) H4.out.2 (Nat.le_refl _) (by have := H3.out.2.2.1; have := H3.out.2.2.2; omega))))⟩
             · first
                 | omega
                 | (have := (Lib.runeCells_le r).2; omega)
             · simp only [ByteArray.size_extract]; omega)
  · have hC : (3 * ((i : Int) + 2) / 2) = ((3 * (i + 2) / 2 : Nat) : Int) := by omega
    obtain ⟨w2, hrun, hown, hgrow⟩ := run_make_own (P := Tryz.prog) w w.heap.size 111 5 i0 _ 1 hut hi0 hz0 hz1 .i64 .i64 (3 * (i + 2) / 2) (by rw [hz2]; omega) (by unfold maxLen; omega) (by have := (Below.refl w.heap.size w).size; omega)
    rw [hC, hrun]
    have HO : Hid (w2.ownsRow w.heap.size 5 1 (.slice (some ⟨(w).heap.size, 0, none⟩) 0 (3 * (i + 2) / 2)) 0 [] ∧ Below w.heap.size w w2) := ⟨hown, (Below.refl w.heap.size w).grown hgrow (by have := (Below.refl w.heap.size w).size; omega) (fun k hk => by cases hk)⟩
    clear hrun hown hgrow hC
    go_wp2
    go_loopw [0, 14] (fun a v wr => ∃ (t : ByteArray) (n : Nat) (xs : List Value), a = .string t ∧ t.size ≤ s.size ∧ wr.ownsRow w.heap.size 5 1 v n xs ∧ n + 4 * t.size ≤ 4 * s.size ∧ U8s xs ∧ Below w.heap.size w wr) (fun a _ _ => strLen a)
    case atStart => exact ⟨_, 0, [], rfl, by omega, HO.out.1, by omega, (by intro u hu; cases hu), HO.out.2⟩
    case round =>
      obtain ⟨t, n, xs, rfl, ht, hown, hn, hu, hbw⟩ := hrel
      obtain ⟨va, vc, rfl⟩ := ownsRow_shape hown
      obtain ⟨str, hstr, hcv⟩ := conv_own hown hu
      have HR : Hid (wr.ownsRow w.heap.size 5 1 (.slice va n vc) n xs ∧ U8s xs ∧ Below w.heap.size w wr) := ⟨hown, hu, hbw⟩
      clear hown hu hbw
      obtain ⟨te2, pe2, hsy2⟩ := (HE.out.ext HR.out.2.2).syn
      by_cases h0 : t.size = 0
      · have h0' : decide ((0 : Int) < t.size) = false := decide_eq_false (by omega)
        have hb0 : ¬ (0 : Int) < t.size := by omega
        go_wp2
        go_region_o
        go_wp2
        refine bodyPost_ret (results_tmp3 rfl _ _ _) rfl ⟨UnPost.of (by show 0 ≤ _; omega) (Nat.le_refl _) (.inr ⟨_, _, rfl⟩), HR.out.2.2.drew⟩
      · have h0' : (0 : Int) < t.size := by omega
        have h0i : 0 < t.size := by omega
        obtain ⟨b, hb⟩ : ∃ b, ((t[0]'h0i).toNat : Int) = b := ⟨_, rfl⟩
        by_cases hbq : b = 39
        · have hb' : ((t[0]'h0i).toNat : Int) = 39 := hb.trans hbq
          have c1 : (1 : Int) ≤ t.size := by omega
          have z9 : (t.extract 1 t.size).size = t.size - 1 := by rw [ByteArray.size_extract]; omega
          clear hb hbq
          go_wp2
          refine bodyPost_ret (results_tmp3 rfl _ _ _) rfl ⟨UnPost.of (by omega) (by omega) (.inl rfl), HR.out.2.2⟩
        · have hbn : (b != 39) = true := by simp [hbq]
          go_wp2_with (first
            | (go_at_call 122; refine (unquoteChar_any t 39 wr (by omega) (by omega) (HE.out.ext HR.out.2.2) (by omega)).mono ?_; rintro e w3 ⟨⟨r, mb, t', err, rfl, hr, ht2, herr⟩, hb3⟩; have hsy3 := (hb3.cell (p := ⟨1, 0, none⟩) (Nat.lt_of_lt_of_le (by decide) (HE.out.ext HR.out.2.2).size)).trans hsy2; have H3 : Hid (Below wr.heap.size wr w3 ∧ I32 r ∧ wr.heap.size ≤ w3.heap.size ∧ w.heap.size ≤ wr.heap.size) := ⟨hb3, hr, hb3.size, HR.out.2.2.size⟩; clear hr hb3; obtain rfl | ⟨te', pe', rfl⟩ := herr)
            | (go_at_call 123; refine (Tryz.utf8_AppendRune_plain w.heap.size (.slice va n vc) n xs r H3.out.2.1.1 H3.out.2.1.2 w3 (ownsRow_below HR.out.1 H3.out.1) (by omega) (by have := H3.out.2.2.1; have := H3.out.2.2.2; omega)).mono ?_; rintro e w4 ⟨v', rfl, hown4, o4, hgrow4⟩; have H4 : Hid (_ ∧ _) := ⟨hown4, hgrow4⟩; obtain ⟨ga', gc', rfl⟩ := ownsRow_shape hown4; obtain ⟨str4, hstr4, hcv4⟩ := conv_own hown4 (HR.out.2.1.rune r); have hsy4 := ((app_below (ownsRow_below HR.out.1 H3.out.1) hgrow4 (Nat.le_refl _) (Nat.le_trans H3.out.2.2.2 H3.out.2.2.1)).cell (p := ⟨1, 0, none⟩) (Nat.lt_of_lt_of_le (by decide) HE.out.size)).trans hsy3; clear hown4 hgrow4)
            | (at_builtin; refine wpList_append_own _ rfl _ _ _ rfl w.heap.size 5 i0 _ 1 1 hut hi0 hz0 hz1 hz2 rfl (by omega) _ n xs rfl ((ownsRow_below HR.out.1 H3.out.1).alloc _) ⟨w3.heap.size, 0, none⟩ 1 1 [.int .u8 (r % 256)] rfl rfl (cell_one_new _ _ _) (by intro u hu; simp at hu; subst hu; rfl) (by unfold maxLen; omega) (by omega) (by have := H3.out.2.2.1; have := H3.out.2.2.2; simp; omega) ?_; intro v' w4 hown4 hgrow4 _; have H4 : Hid (_ ∧ _) := ⟨hown4, hgrow4⟩; obtain ⟨ga', gc', rfl⟩ := ownsRow_shape hown4; obtain ⟨str4, hstr4, hcv4⟩ := conv_own hown4 (HR.out.2.1.one _); have hsy4 := ((app_below (ownsRow_below HR.out.1 H3.out.1) hgrow4 (Nat.le_refl _) (Nat.le_trans H3.out.2.2.2 H3.out.2.2.1)).cell (p := ⟨1, 0, none⟩) (Nat.lt_of_lt_of_le (by decide) HE.out.size)).trans hsy3; clear hown4 hgrow4))
          all_goals try
            (go_region_o
             go_wp2
             refine bodyPost_ret (results_tmp3 rfl _ _ _) rfl ⟨UnPost.of (by show 0 ≤ _; omega) (Nat.le_refl _) (.inr ⟨_, _, rfl⟩), (HR.out.2.2.trans (H3.out.1.mono H3.out.2.2.2)).drew⟩)
          all_goals try
            (go_region_o
             go_wp2
             refine bodyPost_ret (results_tmp3 rfl _ _ _) rfl ⟨UnPost.of (by show 0 ≤ _; omega) (Nat.le_refl _) (.inr ⟨_, _, rfl⟩), (HR.out.2.2.trans ((H3.out.1.mono H3.out.2.2.2).trans (app_below (ownsRow_below HR.out.1 H3.out.1) H4.out.2 (Nat.le_refl _) (by have := H3.out.2.2.1; have := H3.out.2.2.2; omega)))).drew⟩)
          all_goals try
            (refine bodyPost_ret (results_tmp3 rfl _ _ _) rfl ⟨UnPost.of ?_ ?_ (.inl rfl), (HR.out.2.2.trans ((H3.out.1.mono H3.out.2.2.2).trans (app_below (ownsRow_below HR.out.1 H3.out.1) H4.out.2 (Nat.le_refl _) (by have := H3.out.2.2.1; have := H3.out.2.2.2; omega))))⟩
             · first
                 | omega
                 | (have := (Lib.runeCells_le r).2; omega)
             · simp only [ByteArray.size_extract]; omega)
end Go.Proofs.YtblkaenlajmhnaaGreatDoor
