/- unquote, Unquote: what they give, as far as lengths go. -/
import Derived.Test.YtblkaenlajmhnaaGreatDoorH7
import Derived.Test.YtblkaenlajmhnaaGreatDoorH4
import Derived.Laws.BytesArg
namespace Go.Proofs.YtblkaenlajmhnaaGreatDoor
open Go.RowKit
attribute [local go_sem ↓] Go.wp_at_zero Go.wp_at_succ
attribute [local go_sem] After.cell After.frozen After.const
theorem ixb_cases (s : ByteArray) (c : UInt8) : ∃ z : Int, Lib.indexByte s.data.toList c = z ∧ -1 ≤ z ∧ z < s.size := by
  rcases idx_cases s c with h | ⟨i, h, h2⟩
  · exact ⟨-1, h, by omega, by omega⟩
  · exact ⟨i, h, by omega, by omega⟩
def Place (n : Nat) (e : Ending) : Prop := ∃ z : Int, e = .returned (.int .i64 z) ∧ -1 ≤ z ∧ z < n
set_option maxRecDepth 100000 in
set_option maxHeartbeats 2000000 in
theorem sindex_any (s : ByteArray) (c : Int) (w : World) :
    Calls Tryz.prog 118 #[.string s, .int .u8 c] w fun e w' => Place s.size e ∧ w' = w := by
  obtain ⟨z, hz, z0, z1⟩ := ixb_cases s c.toNat.toUInt8
  go_enter Tryz.func118, Tryz.ntmps118
  go_wp2
  rw [run_callFunc_extern Tryz.func113 (by kernel_rfl) (by kernel_rfl) (by kernel_rfl) (e := Extern.BytealgIndexByte.indexByte) (by kernel_rfl), Lib.run_indexByteString, hz]
  simp only [Result.andThen]
  rw [Oper.upon_value]
  go_wp2
  go_ret
  exact ⟨⟨z, rfl, z0, z1⟩, rfl⟩
def Bool' (e : Ending) : Prop := ∃ b : Bool, e = .returned (.bool b)
set_option maxRecDepth 100000 in
set_option maxHeartbeats 2000000 in
theorem scontains_any (s : ByteArray) (c : Int) (w : World) :
    Calls Tryz.prog 119 #[.string s, .int .u8 c] w fun e w' => Bool' e ∧ w' = w := by
  go_enter Tryz.func119, Tryz.ntmps119
  go_wp2_with (go_at_call 118; refine (sindex_any s c w).mono ?_; rintro e w1 ⟨⟨z, rfl, z0, z1⟩, rfl⟩)
  go_ret
  exact ⟨⟨_, rfl⟩, rfl⟩
theorem place_cases {z : Int} (h : -1 ≤ z) : z = -1 ∨ ∃ i : Nat, z = i := by
  by_cases h2 : z = -1
  · exact .inl h2
  · exact .inr ⟨z.toNat, by omega⟩
theorem Tryz.infoByte : (Tryz.prog.info? 5).map (fun i => (i.zero, i.size, i.bytes)) = some (some (.int .u8 0), 1, 1) := by kernel_rfl
def UnPost (n : Nat) (e : Ending) : Prop := ∃ out rem err, e = .returned (.tuple #[.string out, .string rem, err]) ∧ out.size ≤ 4 * n ∧ rem.size ≤ n ∧ Err err
theorem UnPost.of {n : Nat} {out rem : ByteArray} {err : Value} (h0 : out.size ≤ 4 * n) (h1 : rem.size ≤ n) (h2 : Err err) : UnPost n (.returned (.tuple #[.string out, .string rem, err])) := ⟨out, rem, err, rfl, h0, h1, h2⟩
def U8s (xs : List Value) : Prop := ∀ u ∈ xs, ∃ z, u = .int .u8 z
theorem conv_own {base : Nat} {w : World} {v : Value} {n : Nat} {xs : List Value} (h : w.ownsRow base 5 1 v n xs) (hu : U8s xs) : ∃ str : ByteArray, str.size = n ∧ (convert 111 9 v).run Tryz.prog w = .ok (.string str) w := by
  have hl : xs.length = n := by have := h.1; omega
  rcases h.2 with ⟨rfl, h0⟩ | ⟨g, cap, cur, rfl, _, hg, hn, hc, hs, ht⟩
  · refine ⟨ByteArray.empty, ?_, run_convert_bytes_nil (P := Tryz.prog) (w := w) 111 5 Tryz.underlying111 Tryz.underlying5 0 0 _ Tryz.underlying9⟩
    subst h0
    simp
  · have hz : ∃ zs : List Int, xs = zs.map (fun z => Value.int .u8 z) := by
      clear hl ht h
      induction xs with
      | nil => exact ⟨[], rfl⟩
      | cons x r ih =>
        obtain ⟨zs, rfl⟩ := ih (fun u hm => hu u (List.mem_cons_of_mem _ hm))
        obtain ⟨z, rfl⟩ := hu x (List.mem_cons_self)
        exact ⟨z :: zs, rfl⟩
    obtain ⟨zs, rfl⟩ := hz
    have hzl : zs.length = n := by simpa using hl
    refine ⟨strOfNums zs, ?_, run_convert_bytes_arg (P := Tryz.prog) (w := w) 111 5 Tryz.underlying111 Tryz.underlying5 g 0 n cap zs hzl (fun i hi => ?_) _ Tryz.underlying9⟩
    · simp [strOfNums, ByteArray.size, hzl]
    · have e : (zs.map (fun z => Value.int .u8 z))[i]? = some (.int .u8 (zs.getD i 0)) := by simp [hzl, hi, List.getD]
      rw [Nat.zero_add, cell_of_row w g i cur _ (0, 0) hg]
      rw [← ht, List.getElem?_take] at e
      split at e
      · simpa using e
      · cases e
theorem U8s.rune {xs : List Value} (h : U8s xs) (r : Int) : U8s (xs ++ Lib.runeCells r) := fun u hu => by
  rcases List.mem_append.1 hu with hu | hu
  · exact h u hu
  · obtain ⟨x, _, rfl⟩ := List.mem_map.1 hu
    exact ⟨x, rfl⟩
theorem U8s.one {xs : List Value} (h : U8s xs) (z : Int) : U8s (xs ++ [.int .u8 z]) := fun u hu => by
  rcases List.mem_append.1 hu with hu | hu
  · exact h u hu
  · simp at hu; subst hu; exact ⟨z, rfl⟩
def strLen : Value → Nat
  | .string s => s.size
  | _ => 0
set_option maxRecDepth 100000 in
set_option maxHeartbeats 8000000 in
theorem unquote_dq (s : ByteArray) (w : World) (h1 : 2 ≤ s.size) (hs : s.size ≤ 1099511627776) (henv : Env w) (e0 : ((s[0]'(by omega)).toNat : Int) = 34) :
    Calls Tryz.prog 99 #[.string s, .bool true] w fun e w' => UnPost s.size e ∧ Below w.heap.size w w' := by
  obtain ⟨te, pe, hsy⟩ := henv.syn
  have HE : Hid (Env w) := henv
  clear henv
  have mixed : Tryz.prog.follows .mixedOrders = true := by kernel_rfl
  have f22 : decide ((s.size : Int) < 2) = false := by simp; omega
  have z1 : (s.extract 1 s.size).size = s.size - 1 := by rw [ByteArray.size_extract]; omega
  have c0 : (1 : Int) ≤ s.size := by omega
  have hp : (0 : Int) < s.size := by omega
  obtain ⟨i0, hi0, hz0, hz1, hz2⟩ := info_parts Tryz.infoByte
  have hut := Tryz.underlying111
  go_enter Tryz.func99, Tryz.ntmps99
  go_wp2_with (first
    | (go_at_call 118; refine (sindex_any _ _ w).mono ?_; rintro e w1 ⟨⟨z, rfl, z0, z2⟩, hw⟩; obtain rfl := hw.symm; obtain rfl | ⟨i, rfl⟩ := place_cases z0)
    | (go_at_call 119; refine (scontains_any _ _ w).mono ?_; rintro e w1 ⟨⟨cb, rfl⟩, hw⟩; obtain rfl := hw.symm; cases cb)
    | (go_at_call 120; refine (Tryz.utf8_ValidString _ w (by simp only [ByteArray.size_extract]; omega) HE.out.utf).mono ?_; rintro e w1 ⟨he, hb⟩; generalize Lib.validD _ = vb at he; subst he; cases vb))
  · go_region_o
    go_wp2
    refine bodyPost_ret (results_tmp3 rfl _ _ _) rfl ⟨UnPost.of (by show 0 ≤ _; omega) (Nat.le_refl _) (.inr ⟨_, _, rfl⟩), (Below.refl _ _).drew⟩
  · have hC : (3 * ((i : Int) + 2) / 2) = ((3 * (i + 2) / 2 : Nat) : Int) := by omega
    obtain ⟨w2, hrun, hown, hgrow⟩ := run_make_own (P := Tryz.prog) w1 w.heap.size 111 5 i0 _ 1 hut hi0 hz0 hz1 .i64 .i64 (3 * (i + 2) / 2) (by rw [hz2]; omega) (by unfold maxLen; omega) (by have := (hb).size; omega)
    rw [hC, hrun]
    have HO : Hid (w2.ownsRow w.heap.size 5 1 (.slice (some ⟨(w1).heap.size, 0, none⟩) 0 (3 * (i + 2) / 2)) 0 [] ∧ Below w.heap.size w w2) := ⟨hown, (hb).grown hgrow (by have := (hb).size; omega) (fun k hk => by cases hk)⟩
    clear hrun hown hgrow hC
    go_wp2
    go_loopw [0, 14] (fun a v wr => ∃ (t : ByteArray) (n : Nat) (xs : List Value), a = .string t ∧ t.size ≤ s.size ∧ wr.ownsRow w.heap.size 5 1 v n xs ∧ n + 4 * t.size ≤ 4 * s.size ∧ U8s xs ∧ Below w.heap.size w wr) (fun a _ _ => strLen a)
    case atStart => exact ⟨_, 0, [], rfl, by omega, HO.out.1, by omega, (by intro u hu; cases hu), HO.out.2⟩
    case round =>
      obtain ⟨t, n, xs, rfl, ht, hown, hn, hu, hbw⟩ := hrel
      obtain ⟨va, vc, rfl⟩ := ownsRow_shape hown
      obtain ⟨str, hstr, hcv⟩ := conv_own hown hu
      have HR : Hid (wr.ownsRow w.heap.size 5 1 (.slice va n vc) n xs ∧ U8s xs ∧ Below w.heap.size w wr) := ⟨hown, hu, hbw⟩
      clear hown hu hbw
      obtain ⟨te2, pe2, hsy2⟩ := (HE.out.ext HR.out.2.2).syn
      by_cases h0 : t.size = 0
      · have h0' : decide ((0 : Int) < t.size) = false := decide_eq_false (by omega)
        have hb0 : ¬ (0 : Int) < t.size := by omega
        go_wp2
        go_region_o
        go_wp2
        refine bodyPost_ret (results_tmp3 rfl _ _ _) rfl ⟨UnPost.of (by show 0 ≤ _; omega) (Nat.le_refl _) (.inr ⟨_, _, rfl⟩), HR.out.2.2.drew⟩
      · have h0' : (0 : Int) < t.size := by omega
        have h0i : 0 < t.size := by omega
        obtain ⟨b, hb⟩ : ∃ b, ((t[0]'h0i).toNat : Int) = b := ⟨_, rfl⟩
        by_cases hbq : b = 34
        · have hb' : ((t[0]'h0i).toNat : Int) = 34 := hb.trans hbq
          have c1 : (1 : Int) ≤ t.size := by omega
          have z9 : (t.extract 1 t.size).size = t.size - 1 := by rw [ByteArray.size_extract]; omega
          clear hb hbq
          go_wp2
          refine bodyPost_ret (results_tmp3 rfl _ _ _) rfl ⟨UnPost.of (by omega) (by omega) (.inl rfl), HR.out.2.2⟩
        · have hbn : (b != 34) = true := by simp [hbq]
          go_wp2_with (first
            | (go_at_call 122; refine (unquoteChar_any t 34 wr (by omega) (by omega) (HE.out.ext HR.out.2.2) (by omega)).mono ?_; rintro e w3 ⟨⟨r, mb, t', err, rfl, hr, ht2, herr⟩, hb3⟩; have hsy3 := (hb3.cell (p := ⟨1, 0, none⟩) (Nat.lt_of_lt_of_le (by decide) (HE.out.ext HR.out.2.2).size)).trans hsy2; have H3 : Hid (Below wr.heap.size wr w3 ∧ I32 r ∧ wr.heap.size ≤ w3.heap.size ∧ w.heap.size ≤ wr.heap.size) := ⟨hb3, hr, hb3.size, HR.out.2.2.size⟩; clear hr hb3; obtain rfl | ⟨te', pe', rfl⟩ := herr)
            | (go_at_call 123; refine (Tryz.utf8_AppendRune_plain w.heap.size (.slice va n vc) n xs r H3.out.2.1.1 H3.out.2.1.2 w3 (ownsRow_below HR.out.1 H3.out.1) (by omega) (by have := H3.out.2.2.1; have := H3.out.2.2.2; omega)).mono ?_; rintro e w4 ⟨v', rfl, hown4, o4, hgrow4⟩; have H4 : Hid (_ ∧ _) := ⟨hown4, hgrow4⟩; obtain ⟨ga', gc', rfl⟩ := ownsRow_shape hown4; clear hown4 hgrow4)
            | (at_builtin; refine wpList_append_own _ rfl _ _ _ rfl w.heap.size 5 i0 _ 1 1 hut hi0 hz0 hz1 hz2 rfl (by omega) _ n xs rfl ((ownsRow_below HR.out.1 H3.out.1).alloc _) ⟨w3.heap.size, 0, none⟩ 1 1 [.int .u8 (r % 256)] rfl rfl (cell_one_new _ _ _) (by intro u hu; simp at hu; subst hu; rfl) (by unfold maxLen; omega) (by omega) (by have := H3.out.2.2.1; have := H3.out.2.2.2; simp; omega) ?_; intro v' w4 hown4 hgrow4 _; have H4 : Hid (_ ∧ _) := ⟨hown4, hgrow4⟩; obtain ⟨ga', gc', rfl⟩ := ownsRow_shape hown4; clear hown4 hgrow4))
          all_goals try
            (go_region_o
             go_wp2
             refine bodyPost_ret (results_tmp3 rfl _ _ _) rfl ⟨UnPost.of (by show 0 ≤ _; omega) (Nat.le_refl _) (.inr ⟨_, _, rfl⟩), (HR.out.2.2.trans (H3.out.1.mono H3.out.2.2.2)).drew⟩)
          all_goals first
            | exact ⟨⟨t', n + 1, _, rfl, by omega, H4.out.1, by omega, HR.out.2.1.one _, (HR.out.2.2.trans ((H3.out.1.mono H3.out.2.2.2).trans (app_below (ownsRow_below HR.out.1 H3.out.1) H4.out.2 (Nat.le_refl _) (by have := H3.out.2.2.1; have := H3.out.2.2.2; omega))))⟩, ht2⟩
            | exact ⟨⟨t', n + (Lib.runeCells r).length, _, rfl, by omega, H4.out.1, by have := (Lib.runeCells_le r).2; omega, HR.out.2.1.rune r, (HR.out.2.2.trans ((H3.out.1.mono H3.out.2.2.2).trans (app_below (ownsRow_below HR.out.1 H3.out.1) H4.out.2 (Nat.le_refl _) (by have := H3.out.2.2.1; have := H3.out.2.2.2; omega))))⟩, ht2⟩
  · go_region_o
    go_wp2
    refine bodyPost_ret (results_tmp3 rfl _ _ _) rfl ⟨UnPost.of (by simp only [ByteArray.size_extract]; omega) (by simp only [ByteArray.size_extract]; omega) (.inl rfl), hb.drew⟩
  · have hC : (3 * ((i : Int) + 2) / 2) = ((3 * (i + 2) / 2 : Nat) : Int) := by omega
    obtain ⟨w2, hrun, hown, hgrow⟩ := run_make_own (P := Tryz.prog) w w.heap.size 111 5 i0 _ 1 hut hi0 hz0 hz1 .i64 .i64 (3 * (i + 2) / 2) (by rw [hz2]; omega) (by unfold maxLen; omega) (by have := (Below.refl w.heap.size w).size; omega)
    rw [hC, hrun]
    have HO : Hid (w2.ownsRow w.heap.size 5 1 (.slice (some ⟨(w).heap.size, 0, none⟩) 0 (3 * (i + 2) / 2)) 0 [] ∧ Below w.heap.size w w2) := ⟨hown, (Below.refl w.heap.size w).grown hgrow (by have := (Below.refl w.heap.size w).size; omega) (fun k hk => by cases hk)⟩
    clear hrun hown hgrow hC
    go_wp2
    go_loopw [0, 14] (fun a v wr => ∃ (t : ByteArray) (n : Nat) (xs : List Value), a = .string t ∧ t.size ≤ s.size ∧ wr.ownsRow w.heap.size 5 1 v n xs ∧ n + 4 * t.size ≤ 4 * s.size ∧ U8s xs ∧ Below w.heap.size w wr) (fun a _ _ => strLen a)
    case atStart => exact ⟨_, 0, [], rfl, by omega, HO.out.1, by omega, (by intro u hu; cases hu), HO.out.2⟩
    case round =>
      obtain ⟨t, n, xs, rfl, ht, hown, hn, hu, hbw⟩ := hrel
      obtain ⟨va, vc, rfl⟩ := ownsRow_shape hown
      obtain ⟨str, hstr, hcv⟩ := conv_own hown hu
      have HR : Hid (wr.ownsRow w.heap.size 5 1 (.slice va n vc) n xs ∧ U8s xs ∧ Below w.heap.size w wr) := ⟨hown, hu, hbw⟩
      clear hown hu hbw
      obtain ⟨te2, pe2, hsy2⟩ := (HE.out.ext HR.out.2.2).syn
      by_cases h0 : t.size = 0
      · have h0' : decide ((0 : Int) < t.size) = false := decide_eq_false (by omega)
        have hb0 : ¬ (0 : Int) < t.size := by omega
        go_wp2
        go_region_o
        go_wp2
        refine bodyPost_ret (results_tmp3 rfl _ _ _) rfl ⟨UnPost.of (by show 0 ≤ _; omega) (Nat.le_refl _) (.inr ⟨_, _, rfl⟩), HR.out.2.2.drew⟩
      · have h0' : (0 : Int) < t.size := by omega
        have h0i : 0 < t.size := by omega
        obtain ⟨b, hb⟩ : ∃ b, ((t[0]'h0i).toNat : Int) = b := ⟨_, rfl⟩
        by_cases hbq : b = 34
        · have hb' : ((t[0]'h0i).toNat : Int) = 34 := hb.trans hbq
          have c1 : (1 : Int) ≤ t.size := by omega
          have z9 : (t.extract 1 t.size).size = t.size - 1 := by rw [ByteArray.size_extract]; omega
          clear hb hbq
          go_wp2
          refine bodyPost_ret (results_tmp3 rfl _ _ _) rfl ⟨UnPost.of (by omega) (by omega) (.inl rfl), HR.out.2.2⟩
        · have hbn : (b != 34) = true := by simp [hbq]
          go_wp2_with (first
            | (go_at_call 122; refine (unquoteChar_any t 34 wr (by omega) (by omega) (HE.out.ext HR.out.2.2) (by omega)).mono ?_; rintro e w3 ⟨⟨r, mb, t', err, rfl, hr, ht2, herr⟩, hb3⟩; have hsy3 := (hb3.cell (p := ⟨1, 0, none⟩) (Nat.lt_of_lt_of_le (by decide) (HE.out.ext HR.out.2.2).size)).trans hsy2; have H3 : Hid (Below wr.heap.size wr w3 ∧ I32 r ∧ wr.heap.size ≤ w3.heap.size ∧ w.heap.size ≤ wr.heap.size) := ⟨hb3, hr, hb3.size, HR.out.2.2.size⟩; clear hr hb3; obtain rfl | ⟨te', pe', rfl⟩ := herr)
            | (go_at_call 123; refine (Tryz.utf8_AppendRune_plain w.heap.size (.slice va n vc) n xs r H3.out.2.1.1 H3.out.2.1.2 w3 (ownsRow_below HR.out.1 H3.out.1) (by omega) (by have := H3.out.2.2.1; have := H3.out.2.2.2; omega)).mono ?_; rintro e w4 ⟨v', rfl, hown4, o4, hgrow4⟩; have H4 : Hid (_ ∧ _) := ⟨hown4, hgrow4⟩; obtain ⟨ga', gc', rfl⟩ := ownsRow_shape hown4; clear hown4 hgrow4)
            | (at_builtin; refine wpList_append_own _ rfl _ _ _ rfl w.heap.size 5 i0 _ 1 1 hut hi0 hz0 hz1 hz2 rfl (by omega) _ n xs rfl ((ownsRow_below HR.out.1 H3.out.1).alloc _) ⟨w3.heap.size, 0, none⟩ 1 1 [.int .u8 (r % 256)] rfl rfl (cell_one_new _ _ _) (by intro u hu; simp at hu; subst hu; rfl) (by unfold maxLen; omega) (by omega) (by have := H3.out.2.2.1; have := H3.out.2.2.2; simp; omega) ?_; intro v' w4 hown4 hgrow4 _; have H4 : Hid (_ ∧ _) := ⟨hown4, hgrow4⟩; obtain ⟨ga', gc', rfl⟩ := ownsRow_shape hown4; clear hown4 hgrow4))
          all_goals try
            (go_region_o
             go_wp2
             refine bodyPost_ret (results_tmp3 rfl _ _ _) rfl ⟨UnPost.of (by show 0 ≤ _; omega) (Nat.le_refl _) (.inr ⟨_, _, rfl⟩), (HR.out.2.2.trans (H3.out.1.mono H3.out.2.2.2)).drew⟩)
          all_goals first
            | exact ⟨⟨t', n + 1, _, rfl, by omega, H4.out.1, by omega, HR.out.2.1.one _, (HR.out.2.2.trans ((H3.out.1.mono H3.out.2.2.2).trans (app_below (ownsRow_below HR.out.1 H3.out.1) H4.out.2 (Nat.le_refl _) (by have := H3.out.2.2.1; have := H3.out.2.2.2; omega))))⟩, ht2⟩
            | exact ⟨⟨t', n + (Lib.runeCells r).length, _, rfl, by omega, H4.out.1, by have := (Lib.runeCells_le r).2; omega, HR.out.2.1.rune r, (HR.out.2.2.trans ((H3.out.1.mono H3.out.2.2.2).trans (app_below (ownsRow_below HR.out.1 H3.out.1) H4.out.2 (Nat.le_refl _) (by have := H3.out.2.2.1; have := H3.out.2.2.2; omega))))⟩, ht2⟩
  · have hC : (3 * ((i : Int) + 2) / 2) = ((3 * (i + 2) / 2 : Nat) : Int) := by omega
    obtain ⟨w2, hrun, hown, hgrow⟩ := run_make_own (P := Tryz.prog) w w.heap.size 111 5 i0 _ 1 hut hi0 hz0 hz1 .i64 .i64 (3 * (i + 2) / 2) (by rw [hz2]; omega) (by unfold maxLen; omega) (by have := (Below.refl w.heap.size w).size; omega)
    rw [hC, hrun]
    have HO : Hid (w2.ownsRow w.heap.size 5 1 (.slice (some ⟨(w).heap.size, 0, none⟩) 0 (3 * (i + 2) / 2)) 0 [] ∧ Below w.heap.size w w2) := ⟨hown, (Below.refl w.heap.size w).grown hgrow (by have := (Below.refl w.heap.size w).size; omega) (fun k hk => by cases hk)⟩
    clear hrun hown hgrow hC
    go_wp2
    go_loopw [0, 14] (fun a v wr => ∃ (t : ByteArray) (n : Nat) (xs : List Value), a = .string t ∧ t.size ≤ s.size ∧ wr.ownsRow w.heap.size 5 1 v n xs ∧ n + 4 * t.size ≤ 4 * s.size ∧ U8s xs ∧ Below w.heap.size w wr) (fun a _ _ => strLen a)
    case atStart => exact ⟨_, 0, [], rfl, by omega, HO.out.1, by omega, (by intro u hu; cases hu), HO.out.2⟩
    case round =>
      obtain ⟨t, n, xs, rfl, ht, hown, hn, hu, hbw⟩ := hrel
      obtain ⟨va, vc, rfl⟩ := ownsRow_shape hown
      obtain ⟨str, hstr, hcv⟩ := conv_own hown hu
      have HR : Hid (wr.ownsRow w.heap.size 5 1 (.slice va n vc) n xs ∧ U8s xs ∧ Below w.heap.size w wr) := ⟨hown, hu, hbw⟩
      clear hown hu hbw
      obtain ⟨te2, pe2, hsy2⟩ := (HE.out.ext HR.out.2.2).syn
      by_cases h0 : t.size = 0
      · have h0' : decide ((0 : Int) < t.size) = false := decide_eq_false (by omega)
        have hb0 : ¬ (0 : Int) < t.size := by omega
        go_wp2
        go_region_o
        go_wp2
        refine bodyPost_ret (results_tmp3 rfl _ _ _) rfl ⟨UnPost.of (by show 0 ≤ _; omega) (Nat.le_refl _) (.inr ⟨_, _, rfl⟩), HR.out.2.2.drew⟩
      · have h0' : (0 : Int) < t.size := by omega
        have h0i : 0 < t.size := by omega
        obtain ⟨b, hb⟩ : ∃ b, ((t[0]'h0i).toNat : Int) = b := ⟨_, rfl⟩
        by_cases hbq : b = 34
        · have hb' : ((t[0]'h0i).toNat : Int) = 34 := hb.trans hbq
          have c1 : (1 : Int) ≤ t.size := by omega
          have z9 : (t.extract 1 t.size).size = t.size - 1 := by rw [ByteArray.size_extract]; omega
          clear hb hbq
          go_wp2
          refine bodyPost_ret (results_tmp3 rfl _ _ _) rfl ⟨UnPost.of (by omega) (by omega) (.inl rfl), HR.out.2.2⟩
        · have hbn : (b != 34) = true := by simp [hbq]
          go_wp2_with (first
            | (go_at_call 122; refine (unquoteChar_any t 34 wr (by omega) (by omega) (HE.out.ext HR.out.2.2) (by omega)).mono ?_; rintro e w3 ⟨⟨r, mb, t', err, rfl, hr, ht2, herr⟩, hb3⟩; have hsy3 := (hb3.cell (p := ⟨1, 0, none⟩) (Nat.lt_of_lt_of_le (by decide) (HE.out.ext HR.out.2.2).size)).trans hsy2; have H3 : Hid (Below wr.heap.size wr w3 ∧ I32 r ∧ wr.heap.size ≤ w3.heap.size ∧ w.heap.size ≤ wr.heap.size) := ⟨hb3, hr, hb3.size, HR.out.2.2.size⟩; clear hr hb3; obtain rfl | ⟨te', pe', rfl⟩ := herr)
            | (go_at_call 123; refine (Tryz.utf8_AppendRune_plain w.heap.size (.slice va n vc) n xs r H3.out.2.1.1 H3.out.2.1.2 w3 (ownsRow_below HR.out.1 H3.out.1) (by omega) (by have := H3.out.2.2.1; have := H3.out.2.2.2; omega)).mono ?_; rintro e w4 ⟨v', rfl, hown4, o4, hgrow4⟩; have H4 : Hid (_ ∧ _) := ⟨hown4, hgrow4⟩; obtain ⟨ga', gc', rfl⟩ := ownsRow_shape hown4; clear hown4 hgrow4)
            | (at_builtin; refine wpList_append_own _ rfl _ _ _ rfl w.heap.size 5 i0 _ 1 1 hut hi0 hz0 hz1 hz2 rfl (by omega) _ n xs rfl ((ownsRow_below HR.out.1 H3.out.1).alloc _) ⟨w3.heap.size, 0, none⟩ 1 1 [.int .u8 (r % 256)] rfl rfl (cell_one_new _ _ _) (by intro u hu; simp at hu; subst hu; rfl) (by unfold maxLen; omega) (by omega) (by have := H3.out.2.2.1; have := H3.out.2.2.2; simp; omega) ?_; intro v' w4 hown4 hgrow4 _; have H4 : Hid (_ ∧ _) := ⟨hown4, hgrow4⟩; obtain ⟨ga', gc', rfl⟩ := ownsRow_shape hown4; clear hown4 hgrow4))
          all_goals try
            (go_region_o
             go_wp2
             refine bodyPost_ret (results_tmp3 rfl _ _ _) rfl ⟨UnPost.of (by show 0 ≤ _; omega) (Nat.le_refl _) (.inr ⟨_, _, rfl⟩), (HR.out.2.2.trans (H3.out.1.mono H3.out.2.2.2)).drew⟩)
          all_goals first
            | exact ⟨⟨t', n + 1, _, rfl, by omega, H4.out.1, by omega, HR.out.2.1.one _, (HR.out.2.2.trans ((H3.out.1.mono H3.out.2.2.2).trans (app_below (ownsRow_below HR.out.1 H3.out.1) H4.out.2 (Nat.le_refl _) (by have := H3.out.2.2.1; have := H3.out.2.2.2; omega))))⟩, ht2⟩
            | exact ⟨⟨t', n + (Lib.runeCells r).length, _, rfl, by omega, H4.out.1, by have := (Lib.runeCells_le r).2; omega, HR.out.2.1.rune r, (HR.out.2.2.trans ((H3.out.1.mono H3.out.2.2.2).trans (app_below (ownsRow_below HR.out.1 H3.out.1) H4.out.2 (Nat.le_refl _) (by have := H3.out.2.2.1; have := H3.out.2.2.2; omega))))⟩, ht2⟩
end Go.Proofs.YtblkaenlajmhnaaGreatDoor
