/- UnquoteChar: an octal. UnquoteChar: whatever comes. -/
import Derived.Test.YtblkaenlajmhnaaGreatDoorH5
namespace Go.Proofs.YtblkaenlajmhnaaGreatDoor
open Go.RowKit
attribute [local go_sem ↓] Go.wp_at_zero Go.wp_at_succ
attribute [local go_sem] After.cell After.frozen After.const
set_option maxRecDepth 100000 in
set_option maxHeartbeats 8000000 in
theorem uq_oct (s : ByteArray) (q : Int) (w : World) (h1 : 2 ≤ s.size) (hs : s.size ≤ 140737488355328) (henv : Env w) (hq : q = 34 ∨ q = 39)
    (e0 : ((s[0]'(by omega)).toNat : Int) = 92) (d : Int) (e1 : ((s[1]'(by omega)).toNat : Int) = d) (hd : d = 48 ∨ d = 49 ∨ d = 50 ∨ d = 51 ∨ d = 52 ∨ d = 53 ∨ d = 54 ∨ d = 55) :
    Calls Tryz.prog 122 #[.string s, .int .u8 q] w fun e w' => UqPost s.size e ∧ Below w.heap.size w w' := by
  obtain ⟨te, pe, hsy⟩ := henv.syn
  have hp : (0 : Int) < s.size := by omega
  have hp2 : (2 : Int) ≤ s.size := by omega
  have HV : Hid (I32 0) := by unfold I32; exact ⟨by omega, by omega⟩
  have f22 : ((s.size : Int) == 0) = false := by rw [beq_eq_false_iff_ne]; omega
  have f61 : decide ((s.size : Int) ≤ 1) = false := by simp; omega
  clear henv
  rcases hq with rfl | rfl
  all_goals by_cases hN : s.size < 4
  all_goals try have f97 : decide (((s.size - 2 : Nat) : Int) < 2) = false := by simp; omega
  all_goals rcases hd with rfl | rfl | rfl | rfl | rfl | rfl | rfl | rfl
  all_goals
    go_enter Tryz.func122, Tryz.ntmps122
    go_wp2_with fail
  all_goals try
    (refine bodyPost_ret (results_tmp4 rfl _ _ _) rfl ⟨UqPost.of ?_ ?_ ?_, ?_⟩
     · first
         | exact HV.out
         | (unfold I32; omega)
     · first
         | (show 0 < s.size; omega)
         | (simp only [ByteArray.size_extract]; omega)
     · first
         | exact .inl rfl
         | exact .inr ⟨_, _, rfl⟩
     · first
         | exact Below.refl _ _
         | exact (Below.refl _ _).drew)
  all_goals
    go_loop [7, 17, 18] (fun er a b => ∃ (v : Int) (j : Nat), er = .nilIface ∧ a = .int .i32 v ∧ I32 v ∧ b = .int .i64 j ∧ j ≤ 2) (fun _ _ b => 2 - (intOf b).toNat)
    case atStart => exact ⟨_, 0, rfl, rfl, by unfold I32; omega, rfl, by omega⟩
    case round =>
      obtain ⟨v, j, rfl, rfl, hv, rfl, hj⟩ := hrel
      clear HV
      have HV : Hid (I32 v) := hv
      clear hv
      have zx : (s.extract 2 s.size).size = s.size - 2 := by rw [ByteArray.size_extract]; omega
      by_cases hjn : (j : Int) < 2
      · have hi0 : (j : Int) < ((s.extract 2 s.size).size : Nat) := by omega
        go_wp2
        all_goals first
          | (refine bodyPost_ret (results_tmp4 rfl _ _ _) rfl ⟨UqPost.of ?_ ?_ ?_, ?_⟩
             · first
                 | exact HV.out
                 | (unfold I32; omega)
             · first
                 | (show 0 < s.size; omega)
                 | (simp only [ByteArray.size_extract]; omega)
             · first
                 | exact .inl rfl
                 | exact .inr ⟨_, _, rfl⟩
             · first
                 | exact Below.refl _ _
                 | exact (Below.refl _ _).drew)
          | (go_round
             case rel => exact ⟨_, j + 1, rfl, rfl, I32.bits _ _ _, by go_num, by omega⟩
             case measure => simp [intOf]; omega)
      · go_wp2
        all_goals
          (refine bodyPost_ret (results_tmp4 rfl _ _ _) rfl ⟨UqPost.of ?_ ?_ ?_, ?_⟩
           · first
               | exact HV.out
               | (unfold I32; omega)
           · first
               | (show 0 < s.size; omega)
               | (simp only [ByteArray.size_extract]; omega)
           · first
               | exact .inl rfl
               | exact .inr ⟨_, _, rfl⟩
           · first
               | exact Below.refl _ _
               | exact (Below.refl _ _).drew)
end Go.Proofs.YtblkaenlajmhnaaGreatDoor
namespace Go.Proofs.YtblkaenlajmhnaaGreatDoor
open Go.RowKit
attribute [local go_sem ↓] Go.wp_at_zero Go.wp_at_succ
attribute [local go_sem] After.cell After.frozen After.const
set_option maxRecDepth 100000 in
set_option maxHeartbeats 8000000 in
theorem unquoteChar_any (s : ByteArray) (q : Int) (w : World) (h1 : 1 ≤ s.size) (hs : s.size ≤ 140737488355328) (henv : Env w) (hq : q = 34 ∨ q = 39) :
    Calls Tryz.prog 122 #[.string s, .int .u8 q] w fun e w' => UqPost s.size e ∧ Below w.heap.size w w' := by
  by_cases hx : ∃ h2 : 2 ≤ s.size, ((s[0]'(by omega)).toNat : Int) = 92 ∧ (((s[1]'(by omega)).toNat : Int) = 120 ∨ ((s[1]'(by omega)).toNat : Int) = 117 ∨ ((s[1]'(by omega)).toNat : Int) = 85)
  · obtain ⟨h2, e0, e1 | e1 | e1⟩ := hx
    · exact uq_hex2 s q w h2 hs henv hq e0 e1
    · exact uq_hex4 s q w h2 hs henv hq e0 e1
    · exact uq_hex8 s q w h2 hs henv hq e0 e1
  by_cases ho : ∃ h2 : 2 ≤ s.size, ((s[0]'(by omega)).toNat : Int) = 92 ∧ 48 ≤ ((s[1]'(by omega)).toNat : Int) ∧ ((s[1]'(by omega)).toNat : Int) ≤ 55
  · obtain ⟨h2, e0, e1, e2⟩ := ho
    exact uq_oct s q w h2 hs henv hq e0 _ rfl (by omega)
  obtain ⟨te, pe, hsy⟩ := henv.syn
  have HE : Hid (Env w) := henv
  clear henv
  have mixed : Tryz.prog.follows .mixedOrders = true := by kernel_rfl
  have hp : (0 : Int) < s.size := by omega
  have f22 : ((s.size : Int) == 0) = false := by rw [beq_eq_false_iff_ne]; omega
  obtain ⟨r, k, hd⟩ : ∃ r k : Nat, Lib.decodeGo s = (r, k) := ⟨_, _, rfl⟩
  have hr : I32 r ∧ 1 ≤ k ∧ k ≤ s.size := by
    have hd' : Utf8.decode s 0 = (r, k) := by
      unfold Lib.decodeGo at hd
      rwa [if_neg (by omega)] at hd
    have e1 := decode_le s 0
    have e2 := Lib.decode_width_pos s 0 (by omega)
    have e3 := Lib.width_le s (by omega)
    rw [hd'] at e1 e2 e3
    unfold I32
    exact ⟨by omega, e2, e3⟩
  have HR : Hid (I32 r) := hr.1
  have c1 : (0 : Int) ≤ (k : Int) := by omega
  have c2 : (k : Int) ≤ s.size := by omega
  have HK : Hid (1 ≤ k) := hr.2.1
  clear hr
  obtain ⟨b0, hb0⟩ : ∃ b0, b0 = ((s[0]'(by omega)).toNat : Int) := ⟨_, rfl⟩
  by_cases h92 : b0 = 92
  · have e0 : ((s[0]'(by omega)).toNat : Int) = 92 := hb0.symm.trans h92
    by_cases h2 : 2 ≤ s.size
    · have f61 : decide ((s.size : Int) ≤ 1) = false := by simp; omega
      have hp2 : (2 : Int) ≤ s.size := by omega
      obtain ⟨b1, hb1⟩ : ∃ b1, ((s[1]'(by omega)).toNat : Int) = b1 := ⟨_, rfl⟩
      have g : b1 ≠ 120 ∧ b1 ≠ 117 ∧ b1 ≠ 85 ∧ ¬ (48 ≤ b1 ∧ b1 ≤ 55) := by
        rw [← hb1]
        exact ⟨fun h => hx ⟨h2, e0, .inl h⟩, fun h => hx ⟨h2, e0, .inr (.inl h)⟩, fun h => hx ⟨h2, e0, .inr (.inr h)⟩, fun h => ho ⟨h2, e0, h⟩⟩
      have g1 : (b1 == 120) = false := by rw [beq_eq_false_iff_ne]; omega
      have g2 : (b1 == 117) = false := by rw [beq_eq_false_iff_ne]; omega
      have g3 : (b1 == 85) = false := by rw [beq_eq_false_iff_ne]; omega
      have o0 : (b1 == 48) = false := by rw [beq_eq_false_iff_ne]; omega
      have o1 : (b1 == 49) = false := by rw [beq_eq_false_iff_ne]; omega
      have o2 : (b1 == 50) = false := by rw [beq_eq_false_iff_ne]; omega
      have o3 : (b1 == 51) = false := by rw [beq_eq_false_iff_ne]; omega
      have o4 : (b1 == 52) = false := by rw [beq_eq_false_iff_ne]; omega
      have o5 : (b1 == 53) = false := by rw [beq_eq_false_iff_ne]; omega
      have o6 : (b1 == 54) = false := by rw [beq_eq_false_iff_ne]; omega
      have o7 : (b1 == 55) = false := by rw [beq_eq_false_iff_ne]; omega
      have HB1 : Hid (I32 b1 ∧ I32 (wrap32 b1)) := ⟨by rw [← hb1]; have := (s[1]'(by omega)).toNat_lt; unfold I32; omega, I32.wrap _⟩
      clear hx ho g hb0 h92
      rcases hq with rfl | rfl
      all_goals
        go_enter Tryz.func122, Tryz.ntmps122
        go_wp2_with fail
      all_goals try
        (refine bodyPost_ret (results_tmp4 rfl _ _ _) rfl ⟨UqPost.of ?_ ?_ ?_, ?_⟩
         · first
             | exact HB1.out.1
             | exact HB1.out.2
             | (unfold I32; omega)
         · first
             | (show 0 < s.size; omega)
             | (simp only [ByteArray.size_extract]; omega)
         · first
             | exact .inl rfl
             | exact .inr ⟨_, _, rfl⟩
         · first
             | exact Below.refl _ _
             | exact (Below.refl _ _).drew)
    · have h1s : s.size = 1 := by omega
      have f61 : decide ((s.size : Int) ≤ 1) = true := by simp; omega
      have f62 : (s.size : Int) ≤ 1 := by omega
      clear hx ho hb0 h92
      rcases hq with rfl | rfl
      all_goals
        go_enter Tryz.func122, Tryz.ntmps122
        go_wp2_with fail
        refine bodyPost_ret (results_tmp4 rfl _ _ _) rfl ⟨UqPost.of (by unfold I32; omega) (show 0 < s.size by omega) (.inr ⟨_, _, rfl⟩), Below.refl _ _⟩
  · have e0 : ((s[0]'(by omega)).toNat : Int) = b0 := hb0.symm
    have n92 : (b0 != 92) = true := by simp [h92]
    have n92' : (b0 == 92) = false := by rw [beq_eq_false_iff_ne]; exact h92
    have HB0 : Hid (I32 b0 ∧ I32 (wrap32 b0)) := ⟨by rw [hb0]; have := (s[0]'(by omega)).toNat_lt; unfold I32; omega, I32.wrap _⟩
    clear hx ho hb0 h92
    rcases hq with rfl | rfl
    all_goals
      go_enter Tryz.func122, Tryz.ntmps122
      go_wp2_with (go_at_call 121; refine (Tryz.utf8_DecodeRuneInString s w HE.out.utf).mono ?_; rintro e w1 ⟨he, hb⟩; rw [hd] at he; subst he)
    all_goals try
      (go_region_o
       go_wp2)
    all_goals try
      (refine bodyPost_ret (results_tmp4 rfl _ _ _) rfl ⟨UqPost.of ?_ ?_ ?_, ?_⟩
       · first
           | exact HB0.out.1
           | exact HB0.out.2
           | exact HR.out
           | (unfold I32; omega)
       · first
           | (show 0 < s.size; omega)
           | (simp only [ByteArray.size_extract]; omega)
           | (have := HK.out; simp only [ByteArray.size_extract]; omega)
       · first
           | exact .inl rfl
           | exact .inr ⟨_, _, rfl⟩
       · first
           | exact Below.refl _ _
           | exact (Below.refl _ _).drew
           | exact hb.drew
           | exact hb)
end Go.Proofs.YtblkaenlajmhnaaGreatDoor
