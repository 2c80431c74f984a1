/- QuoteToASCII, as far as lengths go: one rune. -/
import Derived.Test.YtblkaenlajmhnaaGreatDoorH8
import Derived.BigFrame
import Derived.Lib.QuoteBits
namespace Go.Proofs.YtblkaenlajmhnaaGreatDoor
open Go.RowKit
attribute [local go_sem ↓] Go.wp_at_zero Go.wp_at_succ
attribute [local go_sem] After.cell After.frozen After.const
theorem U8s.app {xs ys : List Value} (h : U8s xs) (k : U8s ys) : U8s (xs ++ ys) := fun u hu => (List.mem_append.1 hu).elim (h u) (k u)
theorem U8s.str (s : ByteArray) : U8s (Lib.strCells s) := fun u hu => by
  simp [Lib.strCells] at hu
  obtain ⟨x, _, rfl⟩ := hu
  exact ⟨_, rfl⟩
theorem and15i (x : Int) (h0 : 0 ≤ x) (h1 : x < 2147483648) : 0 ≤ bits BinOp.and IntKind.i32 x 15 ∧ bits BinOp.and IntKind.i32 x 15 < 16 := by
  obtain ⟨k, rfl⟩ := Int.eq_ofNat_of_zero_le h0
  have e := Lib.and15_i32 k (by omega)
  have e3 : bits BinOp.and IntKind.i32 (k : Int) 15 = ((k % 16 : Nat) : Int) := e
  rw [e3]
  omega
def EscPost (B N : Nat) (W0 : World) (e : Ending) (w' : World) : Prop := ∃ v' n' xs', e = .returned v' ∧ Lib.OwnBuf B 5 v' n' xs' W0 w' ∧ n' ≤ N ∧ U8s xs'
theorem EscPost.of {B N : Nat} {W0 w' : World} {v' : Value} {n' : Nat} {xs' : List Value} (h : Lib.OwnBuf B 5 v' n' xs' W0 w') (hn : n' ≤ N) (hu : U8s xs') : EscPost B N W0 (.returned v') w' := ⟨v', n', xs', rfl, h, hn, hu⟩
set_option maxHeartbeats 8000000 in
set_option maxRecDepth 1000000 in
theorem esc_any (B : Nat) (v : Value) (n : Nat) (xs : List Value) (r : Int) (W0 w : World) (hb : Lib.OwnBuf B 5 v n xs W0 w) (hu : U8s xs) (hlen : n + 10 ≤ 140737488355328) (hr0 : 0 ≤ r) (hr1 : r ≤ 2147483647) :
    Calls Tryz.prog 149 #[v, .int .i32 r, .int .u8 34, .bool true, .bool false] w (EscPost B (n + 10) W0) := by
  obtain ⟨i0, hi, hz0, hz1, hz2⟩ := info_parts Tryz.infoByte
  have t37 := Tryz.underlying111
  have t9 := Tryz.underlying9
  have HU : Hid (U8s xs ∧ 0 ≤ r ∧ r ≤ 2147483647) := ⟨hu, hr0, hr1⟩
  clear hu
  obtain ⟨m28, n28⟩ := and15i (r / 268435456) (by omega) (by omega)
  obtain ⟨m24, n24⟩ := and15i (r / 16777216) (by omega) (by omega)
  obtain ⟨m20, n20⟩ := and15i (r / 1048576) (by omega) (by omega)
  obtain ⟨m16, n16⟩ := and15i (r / 65536) (by omega) (by omega)
  obtain ⟨m12, n12⟩ := and15i (r / 4096) (by omega) (by omega)
  obtain ⟨m8, n8⟩ := and15i (r / 256) (by omega) (by omega)
  obtain ⟨m4, n4⟩ := and15i (r / 16) (by omega) (by omega)
  obtain ⟨m0, n0⟩ := and15i (r) (by omega) (by omega)
  obtain ⟨p12, q12⟩ := and15i (65533 / 4096) (by omega) (by omega)
  obtain ⟨p8, q8⟩ := and15i (65533 / 256) (by omega) (by omega)
  obtain ⟨p4, q4⟩ := and15i (65533 / 16) (by omega) (by omega)
  obtain ⟨p0, q0⟩ := and15i (65533) (by omega) (by omega)
  go_enter Tryz.func149, Tryz.ntmps149
  go_wp2_with (first
    | (go_at_call 158; refine (Tryz.strconv_IsPrint_latin r _ (by omega)).mono ?_; rintro e w1 ⟨he, hw⟩; obtain rfl := hw.symm; generalize Lib.isPrintLatin r = pb at he; subst he; cases pb)
    | (go_at_call 141; refine (Tryz.utf8_ValidRune r _).mono ?_; rintro e w1 ⟨he, hw⟩; obtain rfl := hw.symm; generalize Lib.validRune r = vb at he; subst he; cases vb)
    | (at_builtin; first
      | (refine Lib.wpList_append_byte rfl _ _ 111 rfl B 5 i0 t37 hi hz0 hz1 hz2 _ _ _ rfl W0 _ _ (by assumption) rfl (by first | omega | (simp only [Lib.size_two]; omega)) ?_; intro _ _ hb)
      | (refine Lib.wpList_append_text rfl _ _ 111 9 rfl B 5 i0 t37 t9 hi hz0 hz1 hz2 _ _ _ rfl W0 (by assumption) _ rfl (by first | omega | (simp only [Lib.size_two]; omega)) ?_; intro _ _ hb)))
  all_goals try
    (go_ret
     refine .of hb ?_ ?_
     · first
         | omega
         | (simp only [Lib.size_two]; omega)
     · repeat' first
         | exact HU.out.1
         | exact U8s.str _
         | refine U8s.one ?_ _
         | refine U8s.app ?_ ?_)
  · go_loopw [0, 11] (fun v s wr => ∃ (m : Nat) (ys : List Value) (kz : Int), s = .int .i64 kz ∧ (kz = 12 ∨ kz = 8 ∨ kz = 4 ∨ kz = 0 ∨ kz = -4) ∧ Lib.OwnBuf B 5 v m ys W0 wr ∧ U8s ys ∧ 4 * (m : Int) + kz ≤ 4 * ((n : Int) + 2) + 12) (fun _ s _ => (intOf s + 4).toNat)
    case atStart => exact ⟨_, _, 12, rfl, .inl rfl, hb, HU.out.1.app (U8s.str _), by simp only [Lib.size_two]; omega⟩
    case round =>
      clear hb
      obtain ⟨m, ys, kz, rfl, hkz, hb, huu, hmm⟩ := hrel
      have HY : Hid (U8s ys) := huu
      clear huu
      rcases hkz with rfl | rfl | rfl | rfl | rfl
      · go_wp2_with (at_builtin; refine Lib.wpList_append_byte rfl _ _ 111 rfl B 5 i0 t37 hi hz0 hz1 hz2 _ _ _ rfl W0 _ _ (by assumption) rfl (by omega) ?_; intro _ _ hb)
        exact ⟨⟨_, _, 8, rfl, by omega, hb, HY.out.one _, by omega⟩, by simp [intOf]⟩
      · go_wp2_with (at_builtin; refine Lib.wpList_append_byte rfl _ _ 111 rfl B 5 i0 t37 hi hz0 hz1 hz2 _ _ _ rfl W0 _ _ (by assumption) rfl (by omega) ?_; intro _ _ hb)
        exact ⟨⟨_, _, 4, rfl, by omega, hb, HY.out.one _, by omega⟩, by simp [intOf]⟩
      · go_wp2_with (at_builtin; refine Lib.wpList_append_byte rfl _ _ 111 rfl B 5 i0 t37 hi hz0 hz1 hz2 _ _ _ rfl W0 _ _ (by assumption) rfl (by omega) ?_; intro _ _ hb)
        exact ⟨⟨_, _, 0, rfl, by omega, hb, HY.out.one _, by omega⟩, by simp [intOf]⟩
      · go_wp2_with (at_builtin; refine Lib.wpList_append_byte rfl _ _ 111 rfl B 5 i0 t37 hi hz0 hz1 hz2 _ _ _ rfl W0 _ _ (by assumption) rfl (by omega) ?_; intro _ _ hb)
        exact ⟨⟨_, _, -4, rfl, by omega, hb, HY.out.one _, by omega⟩, by simp [intOf]⟩
      · go_wp2
        go_ret
        exact .of hb (by omega) HY.out
  · go_loopw [0, 11] (fun v s wr => ∃ (m : Nat) (ys : List Value) (kz : Int), s = .int .i64 kz ∧ (kz = 12 ∨ kz = 8 ∨ kz = 4 ∨ kz = 0 ∨ kz = -4) ∧ Lib.OwnBuf B 5 v m ys W0 wr ∧ U8s ys ∧ 4 * (m : Int) + kz ≤ 4 * ((n : Int) + 2) + 12) (fun _ s _ => (intOf s + 4).toNat)
    case atStart => exact ⟨_, _, 12, rfl, .inl rfl, hb, HU.out.1.app (U8s.str _), by simp only [Lib.size_two]; omega⟩
    case round =>
      clear hb
      obtain ⟨m, ys, kz, rfl, hkz, hb, huu, hmm⟩ := hrel
      have HY : Hid (U8s ys) := huu
      clear huu
      rcases hkz with rfl | rfl | rfl | rfl | rfl
      · go_wp2_with (at_builtin; refine Lib.wpList_append_byte rfl _ _ 111 rfl B 5 i0 t37 hi hz0 hz1 hz2 _ _ _ rfl W0 _ _ (by assumption) rfl (by omega) ?_; intro _ _ hb)
        exact ⟨⟨_, _, 8, rfl, by omega, hb, HY.out.one _, by omega⟩, by simp [intOf]⟩
      · go_wp2_with (at_builtin; refine Lib.wpList_append_byte rfl _ _ 111 rfl B 5 i0 t37 hi hz0 hz1 hz2 _ _ _ rfl W0 _ _ (by assumption) rfl (by omega) ?_; intro _ _ hb)
        exact ⟨⟨_, _, 4, rfl, by omega, hb, HY.out.one _, by omega⟩, by simp [intOf]⟩
      · go_wp2_with (at_builtin; refine Lib.wpList_append_byte rfl _ _ 111 rfl B 5 i0 t37 hi hz0 hz1 hz2 _ _ _ rfl W0 _ _ (by assumption) rfl (by omega) ?_; intro _ _ hb)
        exact ⟨⟨_, _, 0, rfl, by omega, hb, HY.out.one _, by omega⟩, by simp [intOf]⟩
      · go_wp2_with (at_builtin; refine Lib.wpList_append_byte rfl _ _ 111 rfl B 5 i0 t37 hi hz0 hz1 hz2 _ _ _ rfl W0 _ _ (by assumption) rfl (by omega) ?_; intro _ _ hb)
        exact ⟨⟨_, _, -4, rfl, by omega, hb, HY.out.one _, by omega⟩, by simp [intOf]⟩
      · go_wp2
        go_ret
        exact .of hb (by omega) HY.out
  · go_loopw [0, 11] (fun v s wr => ∃ (m : Nat) (ys : List Value) (kz : Int), s = .int .i64 kz ∧ (kz = 12 ∨ kz = 8 ∨ kz = 4 ∨ kz = 0 ∨ kz = -4) ∧ Lib.OwnBuf B 5 v m ys W0 wr ∧ U8s ys ∧ 4 * (m : Int) + kz ≤ 4 * ((n : Int) + 2) + 12) (fun _ s _ => (intOf s + 4).toNat)
    case atStart => exact ⟨_, _, 12, rfl, .inl rfl, hb, HU.out.1.app (U8s.str _), by simp only [Lib.size_two]; omega⟩
    case round =>
      clear hb
      obtain ⟨m, ys, kz, rfl, hkz, hb, huu, hmm⟩ := hrel
      have HY : Hid (U8s ys) := huu
      clear huu
      rcases hkz with rfl | rfl | rfl | rfl | rfl
      · go_wp2_with (at_builtin; refine Lib.wpList_append_byte rfl _ _ 111 rfl B 5 i0 t37 hi hz0 hz1 hz2 _ _ _ rfl W0 _ _ (by assumption) rfl (by omega) ?_; intro _ _ hb)
        exact ⟨⟨_, _, 8, rfl, by omega, hb, HY.out.one _, by omega⟩, by simp [intOf]⟩
      · go_wp2_with (at_builtin; refine Lib.wpList_append_byte rfl _ _ 111 rfl B 5 i0 t37 hi hz0 hz1 hz2 _ _ _ rfl W0 _ _ (by assumption) rfl (by omega) ?_; intro _ _ hb)
        exact ⟨⟨_, _, 4, rfl, by omega, hb, HY.out.one _, by omega⟩, by simp [intOf]⟩
      · go_wp2_with (at_builtin; refine Lib.wpList_append_byte rfl _ _ 111 rfl B 5 i0 t37 hi hz0 hz1 hz2 _ _ _ rfl W0 _ _ (by assumption) rfl (by omega) ?_; intro _ _ hb)
        exact ⟨⟨_, _, 0, rfl, by omega, hb, HY.out.one _, by omega⟩, by simp [intOf]⟩
      · go_wp2_with (at_builtin; refine Lib.wpList_append_byte rfl _ _ 111 rfl B 5 i0 t37 hi hz0 hz1 hz2 _ _ _ rfl W0 _ _ (by assumption) rfl (by omega) ?_; intro _ _ hb)
        exact ⟨⟨_, _, -4, rfl, by omega, hb, HY.out.one _, by omega⟩, by simp [intOf]⟩
      · go_wp2
        go_ret
        exact .of hb (by omega) HY.out
  · go_loopw [0, 11] (fun v s wr => ∃ (m : Nat) (ys : List Value) (kz : Int), s = .int .i64 kz ∧ (kz = 12 ∨ kz = 8 ∨ kz = 4 ∨ kz = 0 ∨ kz = -4) ∧ Lib.OwnBuf B 5 v m ys W0 wr ∧ U8s ys ∧ 4 * (m : Int) + kz ≤ 4 * ((n : Int) + 2) + 12) (fun _ s _ => (intOf s + 4).toNat)
    case atStart => exact ⟨_, _, 12, rfl, .inl rfl, hb, HU.out.1.app (U8s.str _), by simp only [Lib.size_two]; omega⟩
    case round =>
      clear hb
      obtain ⟨m, ys, kz, rfl, hkz, hb, huu, hmm⟩ := hrel
      have HY : Hid (U8s ys) := huu
      clear huu
      rcases hkz with rfl | rfl | rfl | rfl | rfl
      · go_wp2_with (at_builtin; refine Lib.wpList_append_byte rfl _ _ 111 rfl B 5 i0 t37 hi hz0 hz1 hz2 _ _ _ rfl W0 _ _ (by assumption) rfl (by omega) ?_; intro _ _ hb)
        exact ⟨⟨_, _, 8, rfl, by omega, hb, HY.out.one _, by omega⟩, by simp [intOf]⟩
      · go_wp2_with (at_builtin; refine Lib.wpList_append_byte rfl _ _ 111 rfl B 5 i0 t37 hi hz0 hz1 hz2 _ _ _ rfl W0 _ _ (by assumption) rfl (by omega) ?_; intro _ _ hb)
        exact ⟨⟨_, _, 4, rfl, by omega, hb, HY.out.one _, by omega⟩, by simp [intOf]⟩
      · go_wp2_with (at_builtin; refine Lib.wpList_append_byte rfl _ _ 111 rfl B 5 i0 t37 hi hz0 hz1 hz2 _ _ _ rfl W0 _ _ (by assumption) rfl (by omega) ?_; intro _ _ hb)
        exact ⟨⟨_, _, 0, rfl, by omega, hb, HY.out.one _, by omega⟩, by simp [intOf]⟩
      · go_wp2_with (at_builtin; refine Lib.wpList_append_byte rfl _ _ 111 rfl B 5 i0 t37 hi hz0 hz1 hz2 _ _ _ rfl W0 _ _ (by assumption) rfl (by omega) ?_; intro _ _ hb)
        exact ⟨⟨_, _, -4, rfl, by omega, hb, HY.out.one _, by omega⟩, by simp [intOf]⟩
      · go_wp2
        go_ret
        exact .of hb (by omega) HY.out
  · go_loopw [0, 12] (fun v s wr => ∃ (m : Nat) (ys : List Value) (kz : Int), s = .int .i64 kz ∧ (kz = 28 ∨ kz = 24 ∨ kz = 20 ∨ kz = 16 ∨ kz = 12 ∨ kz = 8 ∨ kz = 4 ∨ kz = 0 ∨ kz = -4) ∧ Lib.OwnBuf B 5 v m ys W0 wr ∧ U8s ys ∧ 4 * (m : Int) + kz ≤ 4 * ((n : Int) + 2) + 28) (fun _ s _ => (intOf s + 4).toNat)
    case atStart => exact ⟨_, _, 28, rfl, .inl rfl, hb, HU.out.1.app (U8s.str _), by simp only [Lib.size_two]; omega⟩
    case round =>
      clear hb
      obtain ⟨m, ys, kz, rfl, hkz, hb, huu, hmm⟩ := hrel
      have HY : Hid (U8s ys) := huu
      clear huu
      rcases hkz with rfl | rfl | rfl | rfl | rfl | rfl | rfl | rfl | rfl
      · go_wp2_with (at_builtin; refine Lib.wpList_append_byte rfl _ _ 111 rfl B 5 i0 t37 hi hz0 hz1 hz2 _ _ _ rfl W0 _ _ (by assumption) rfl (by omega) ?_; intro _ _ hb)
        exact ⟨⟨_, _, 24, rfl, by omega, hb, HY.out.one _, by omega⟩, by simp [intOf]⟩
      · go_wp2_with (at_builtin; refine Lib.wpList_append_byte rfl _ _ 111 rfl B 5 i0 t37 hi hz0 hz1 hz2 _ _ _ rfl W0 _ _ (by assumption) rfl (by omega) ?_; intro _ _ hb)
        exact ⟨⟨_, _, 20, rfl, by omega, hb, HY.out.one _, by omega⟩, by simp [intOf]⟩
      · go_wp2_with (at_builtin; refine Lib.wpList_append_byte rfl _ _ 111 rfl B 5 i0 t37 hi hz0 hz1 hz2 _ _ _ rfl W0 _ _ (by assumption) rfl (by omega) ?_; intro _ _ hb)
        exact ⟨⟨_, _, 16, rfl, by omega, hb, HY.out.one _, by omega⟩, by simp [intOf]⟩
      · go_wp2_with (at_builtin; refine Lib.wpList_append_byte rfl _ _ 111 rfl B 5 i0 t37 hi hz0 hz1 hz2 _ _ _ rfl W0 _ _ (by assumption) rfl (by omega) ?_; intro _ _ hb)
        exact ⟨⟨_, _, 12, rfl, by omega, hb, HY.out.one _, by omega⟩, by simp [intOf]⟩
      · go_wp2_with (at_builtin; refine Lib.wpList_append_byte rfl _ _ 111 rfl B 5 i0 t37 hi hz0 hz1 hz2 _ _ _ rfl W0 _ _ (by assumption) rfl (by omega) ?_; intro _ _ hb)
        exact ⟨⟨_, _, 8, rfl, by omega, hb, HY.out.one _, by omega⟩, by simp [intOf]⟩
      · go_wp2_with (at_builtin; refine Lib.wpList_append_byte rfl _ _ 111 rfl B 5 i0 t37 hi hz0 hz1 hz2 _ _ _ rfl W0 _ _ (by assumption) rfl (by omega) ?_; intro _ _ hb)
        exact ⟨⟨_, _, 4, rfl, by omega, hb, HY.out.one _, by omega⟩, by simp [intOf]⟩
      · go_wp2_with (at_builtin; refine Lib.wpList_append_byte rfl _ _ 111 rfl B 5 i0 t37 hi hz0 hz1 hz2 _ _ _ rfl W0 _ _ (by assumption) rfl (by omega) ?_; intro _ _ hb)
        exact ⟨⟨_, _, 0, rfl, by omega, hb, HY.out.one _, by omega⟩, by simp [intOf]⟩
      · go_wp2_with (at_builtin; refine Lib.wpList_append_byte rfl _ _ 111 rfl B 5 i0 t37 hi hz0 hz1 hz2 _ _ _ rfl W0 _ _ (by assumption) rfl (by omega) ?_; intro _ _ hb)
        exact ⟨⟨_, _, -4, rfl, by omega, hb, HY.out.one _, by omega⟩, by simp [intOf]⟩
      · go_wp2
        go_ret
        exact .of hb (by omega) HY.out
end Go.Proofs.YtblkaenlajmhnaaGreatDoor
