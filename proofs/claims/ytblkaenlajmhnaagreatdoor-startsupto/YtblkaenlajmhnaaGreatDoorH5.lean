/- Unquote: what it gives, as far as lengths go. -/
import Derived.Test.YtblkaenlajmhnaaGreatDoorH3
import Derived.Shelf.Unicode.ValidAny
import Derived.Laws.RangeAny
import Derived.Lib.RuneCount
import Derived.Lib.QuoteLoop
import Derived.OpenShut
namespace Go.Proofs.YtblkaenlajmhnaaGreatDoor
open Go.RowKit
attribute [local go_sem ↓] Go.wp_at_zero Go.wp_at_succ
attribute [local go_sem] After.cell After.frozen After.const
def Err (v : Value) : Prop := v = .nilIface ∨ ∃ te pe, v = .iface te pe
def I32 (r : Int) : Prop := -2147483648 ≤ r ∧ r ≤ 2147483647
theorem I32.bits (op : BinOp) (x y : Int) : I32 (bits op .i32 x y) := by
  have h := wf_bits op .i32 x y
  simp only [Lit.wf, IntKind.min, IntKind.max, IntKind.signed, IntKind.bits, Bool.and_eq_true, decide_eq_true_eq, if_true] at h
  unfold I32
  omega
theorem I32.wrap (x : Int) : I32 (wrap32 x) := by
  unfold I32 wrap32
  omega
def HexPost (e : Ending) : Prop := ∃ v ok, e = .returned (.tuple #[.int .i32 v, .bool ok]) ∧ 0 ≤ v ∧ v < 16
theorem HexPost.of {v : Int} {ok : Bool} (h0 : 0 ≤ v) (h1 : v < 16) : HexPost (.returned (.tuple #[.int .i32 v, .bool ok])) := ⟨v, ok, rfl, h0, h1⟩
set_option maxRecDepth 100000 in
set_option maxHeartbeats 2000000 in
theorem unhex_any (b : Int) (w : World) :
    Calls Tryz.prog 140 #[.int .u8 b] w fun e w' => HexPost e ∧ w' = w := by
  go_enter Tryz.func140, Tryz.ntmps140
  go_wp2
  all_goals (go_ret2; exact ⟨.of (by omega) (by omega), rfl⟩)
def UqPost (n : Nat) (e : Ending) : Prop := ∃ r mb t err, e = .returned (.tuple #[.int .i32 r, .bool mb, .string t, err]) ∧ I32 r ∧ t.size < n ∧ Err err
theorem UqPost.of {n : Nat} {r : Int} {mb : Bool} {t : ByteArray} {err : Value} (h0 : I32 r) (h1 : t.size < n) (h2 : Err err) : UqPost n (.returned (.tuple #[.int .i32 r, .bool mb, .string t, err])) := ⟨r, mb, t, err, rfl, h0, h1, h2⟩
theorem results_tmp4 {fn : Func} {t u v x : Tmp} (h : fn.results = #[.tmp t, .tmp u, .tmp v, .tmp x]) (tmps : Array Value) (P : Program) (w : World) :
    (results fn tmps).run P w = .ok (.tuple #[tmps.getD t undef, tmps.getD u undef, tmps.getD v undef, tmps.getD x undef]) w := by
  simp [results, h]
set_option maxRecDepth 100000 in
set_option maxHeartbeats 8000000 in
theorem uq_hex2 (s : ByteArray) (q : Int) (w : World) (h1 : 2 ≤ s.size) (hs : s.size ≤ 140737488355328) (henv : Env w) (hq : q = 34 ∨ q = 39)
    (e0 : ((s[0]'(by omega)).toNat : Int) = 92) (e1 : ((s[1]'(by omega)).toNat : Int) = 120) :
    Calls Tryz.prog 122 #[.string s, .int .u8 q] w fun e w' => UqPost s.size e ∧ Below w.heap.size w w' := by
  obtain ⟨te, pe, hsy⟩ := henv.syn
  have hp : (0 : Int) < s.size := by omega
  have hp2 : (2 : Int) ≤ s.size := by omega
  have HV : Hid (I32 0) := by unfold I32; exact ⟨by omega, by omega⟩
  have f22 : ((s.size : Int) == 0) = false := by rw [beq_eq_false_iff_ne]; omega
  have f61 : decide ((s.size : Int) ≤ 1) = false := by simp; omega
  clear henv
  rcases hq with rfl | rfl
  all_goals by_cases hN : s.size < 2 + 2
  all_goals
    try have f97 : decide (((s.size - 2 : Nat) : Int) < 2) = false := by simp; omega
    go_enter Tryz.func122, Tryz.ntmps122
    go_wp2_with fail
  all_goals try
    (refine bodyPost_ret (results_tmp4 rfl _ _ _) rfl ⟨UqPost.of ?_ ?_ ?_, ?_⟩
     · first
         | exact HV.out
         | (unfold I32; omega)
     · first
         | (show 0 < s.size; omega)
         | (simp only [ByteArray.size_extract]; omega)
     · first
         | exact .inl rfl
         | exact .inr ⟨_, _, rfl⟩
     · first
         | exact Below.refl _ _
         | exact (Below.refl _ _).drew)
  all_goals
    go_loop [7, 13, 14] (fun er a b => ∃ (v : Int) (j : Nat), er = .nilIface ∧ a = .int .i32 v ∧ I32 v ∧ b = .int .i64 j ∧ j ≤ 2) (fun _ _ b => 2 - (intOf b).toNat)
    case atStart => exact ⟨0, 0, rfl, rfl, HV.out, rfl, by omega⟩
    case round =>
      obtain ⟨v, j, rfl, rfl, hv, rfl, hj⟩ := hrel
      clear HV
      have HV : Hid (I32 v) := hv
      clear hv
      have zx : (s.extract 2 s.size).size = s.size - 2 := by rw [ByteArray.size_extract]; omega
      by_cases hjn : (j : Int) < 2
      · have hi0 : (j : Int) < ((s.extract 2 s.size).size : Nat) := by omega
        go_wp2_with (go_at_call 140; refine (unhex_any _ _).mono ?_; rintro e w1 ⟨⟨v', ok, rfl, h0, h1⟩, rfl⟩; cases ok)
        · (refine bodyPost_ret (results_tmp4 rfl _ _ _) rfl ⟨UqPost.of ?_ ?_ ?_, ?_⟩
           · first
               | exact HV.out
               | (unfold I32; omega)
           · first
               | (show 0 < s.size; omega)
               | (simp only [ByteArray.size_extract]; omega)
           · first
               | exact .inl rfl
               | exact .inr ⟨_, _, rfl⟩
           · first
               | exact Below.refl _ _
               | exact (Below.refl _ _).drew)
        · go_round
          case rel => exact ⟨_, j + 1, rfl, rfl, I32.bits _ _ _, by go_num, by omega⟩
          case measure => simp [intOf]; omega
      · go_wp2_with (go_at_call 141; refine (Tryz.utf8_ValidRune _ _).mono ?_; rintro e w1 ⟨rfl, rfl⟩)
        all_goals
          (refine bodyPost_ret (results_tmp4 rfl _ _ _) rfl ⟨UqPost.of ?_ ?_ ?_, ?_⟩
           · first
               | exact HV.out
               | (unfold I32; omega)
           · first
               | (show 0 < s.size; omega)
               | (simp only [ByteArray.size_extract]; omega)
           · first
               | exact .inl rfl
               | exact .inr ⟨_, _, rfl⟩
           · first
               | exact Below.refl _ _
               | exact (Below.refl _ _).drew)
set_option maxRecDepth 100000 in
set_option maxHeartbeats 8000000 in
theorem uq_hex4 (s : ByteArray) (q : Int) (w : World) (h1 : 2 ≤ s.size) (hs : s.size ≤ 140737488355328) (henv : Env w) (hq : q = 34 ∨ q = 39)
    (e0 : ((s[0]'(by omega)).toNat : Int) = 92) (e1 : ((s[1]'(by omega)).toNat : Int) = 117) :
    Calls Tryz.prog 122 #[.string s, .int .u8 q] w fun e w' => UqPost s.size e ∧ Below w.heap.size w w' := by
  obtain ⟨te, pe, hsy⟩ := henv.syn
  have hp : (0 : Int) < s.size := by omega
  have hp2 : (2 : Int) ≤ s.size := by omega
  have HV : Hid (I32 0) := by unfold I32; exact ⟨by omega, by omega⟩
  have f22 : ((s.size : Int) == 0) = false := by rw [beq_eq_false_iff_ne]; omega
  have f61 : decide ((s.size : Int) ≤ 1) = false := by simp; omega
  clear henv
  rcases hq with rfl | rfl
  all_goals by_cases hN : s.size < 4 + 2
  all_goals
    try have f97 : decide (((s.size - 2 : Nat) : Int) < 4) = false := by simp; omega
    go_enter Tryz.func122, Tryz.ntmps122
    go_wp2_with fail
  all_goals try
    (refine bodyPost_ret (results_tmp4 rfl _ _ _) rfl ⟨UqPost.of ?_ ?_ ?_, ?_⟩
     · first
         | exact HV.out
         | (unfold I32; omega)
     · first
         | (show 0 < s.size; omega)
         | (simp only [ByteArray.size_extract]; omega)
     · first
         | exact .inl rfl
         | exact .inr ⟨_, _, rfl⟩
     · first
         | exact Below.refl _ _
         | exact (Below.refl _ _).drew)
  all_goals
    go_loop [7, 13, 14] (fun er a b => ∃ (v : Int) (j : Nat), er = .nilIface ∧ a = .int .i32 v ∧ I32 v ∧ b = .int .i64 j ∧ j ≤ 4) (fun _ _ b => 4 - (intOf b).toNat)
    case atStart => exact ⟨0, 0, rfl, rfl, HV.out, rfl, by omega⟩
    case round =>
      obtain ⟨v, j, rfl, rfl, hv, rfl, hj⟩ := hrel
      clear HV
      have HV : Hid (I32 v) := hv
      clear hv
      have zx : (s.extract 2 s.size).size = s.size - 2 := by rw [ByteArray.size_extract]; omega
      by_cases hjn : (j : Int) < 4
      · have hi0 : (j : Int) < ((s.extract 2 s.size).size : Nat) := by omega
        go_wp2_with (go_at_call 140; refine (unhex_any _ _).mono ?_; rintro e w1 ⟨⟨v', ok, rfl, h0, h1⟩, rfl⟩; cases ok)
        · (refine bodyPost_ret (results_tmp4 rfl _ _ _) rfl ⟨UqPost.of ?_ ?_ ?_, ?_⟩
           · first
               | exact HV.out
               | (unfold I32; omega)
           · first
               | (show 0 < s.size; omega)
               | (simp only [ByteArray.size_extract]; omega)
           · first
               | exact .inl rfl
               | exact .inr ⟨_, _, rfl⟩
           · first
               | exact Below.refl _ _
               | exact (Below.refl _ _).drew)
        · go_round
          case rel => exact ⟨_, j + 1, rfl, rfl, I32.bits _ _ _, by go_num, by omega⟩
          case measure => simp [intOf]; omega
      · go_wp2_with (go_at_call 141; refine (Tryz.utf8_ValidRune _ _).mono ?_; rintro e w1 ⟨rfl, rfl⟩)
        all_goals
          (refine bodyPost_ret (results_tmp4 rfl _ _ _) rfl ⟨UqPost.of ?_ ?_ ?_, ?_⟩
           · first
               | exact HV.out
               | (unfold I32; omega)
           · first
               | (show 0 < s.size; omega)
               | (simp only [ByteArray.size_extract]; omega)
           · first
               | exact .inl rfl
               | exact .inr ⟨_, _, rfl⟩
           · first
               | exact Below.refl _ _
               | exact (Below.refl _ _).drew)
set_option maxRecDepth 100000 in
set_option maxHeartbeats 8000000 in
theorem uq_hex8 (s : ByteArray) (q : Int) (w : World) (h1 : 2 ≤ s.size) (hs : s.size ≤ 140737488355328) (henv : Env w) (hq : q = 34 ∨ q = 39)
    (e0 : ((s[0]'(by omega)).toNat : Int) = 92) (e1 : ((s[1]'(by omega)).toNat : Int) = 85) :
    Calls Tryz.prog 122 #[.string s, .int .u8 q] w fun e w' => UqPost s.size e ∧ Below w.heap.size w w' := by
  obtain ⟨te, pe, hsy⟩ := henv.syn
  have hp : (0 : Int) < s.size := by omega
  have hp2 : (2 : Int) ≤ s.size := by omega
  have HV : Hid (I32 0) := by unfold I32; exact ⟨by omega, by omega⟩
  have f22 : ((s.size : Int) == 0) = false := by rw [beq_eq_false_iff_ne]; omega
  have f61 : decide ((s.size : Int) ≤ 1) = false := by simp; omega
  clear henv
  rcases hq with rfl | rfl
  all_goals by_cases hN : s.size < 8 + 2
  all_goals
    try have f97 : decide (((s.size - 2 : Nat) : Int) < 8) = false := by simp; omega
    go_enter Tryz.func122, Tryz.ntmps122
    go_wp2_with fail
  all_goals try
    (refine bodyPost_ret (results_tmp4 rfl _ _ _) rfl ⟨UqPost.of ?_ ?_ ?_, ?_⟩
     · first
         | exact HV.out
         | (unfold I32; omega)
     · first
         | (show 0 < s.size; omega)
         | (simp only [ByteArray.size_extract]; omega)
     · first
         | exact .inl rfl
         | exact .inr ⟨_, _, rfl⟩
     · first
         | exact Below.refl _ _
         | exact (Below.refl _ _).drew)
  all_goals
    go_loop [7, 13, 14] (fun er a b => ∃ (v : Int) (j : Nat), er = .nilIface ∧ a = .int .i32 v ∧ I32 v ∧ b = .int .i64 j ∧ j ≤ 8) (fun _ _ b => 8 - (intOf b).toNat)
    case atStart => exact ⟨0, 0, rfl, rfl, HV.out, rfl, by omega⟩
    case round =>
      obtain ⟨v, j, rfl, rfl, hv, rfl, hj⟩ := hrel
      clear HV
      have HV : Hid (I32 v) := hv
      clear hv
      have zx : (s.extract 2 s.size).size = s.size - 2 := by rw [ByteArray.size_extract]; omega
      by_cases hjn : (j : Int) < 8
      · have hi0 : (j : Int) < ((s.extract 2 s.size).size : Nat) := by omega
        go_wp2_with (go_at_call 140; refine (unhex_any _ _).mono ?_; rintro e w1 ⟨⟨v', ok, rfl, h0, h1⟩, rfl⟩; cases ok)
        · (refine bodyPost_ret (results_tmp4 rfl _ _ _) rfl ⟨UqPost.of ?_ ?_ ?_, ?_⟩
           · first
               | exact HV.out
               | (unfold I32; omega)
           · first
               | (show 0 < s.size; omega)
               | (simp only [ByteArray.size_extract]; omega)
           · first
               | exact .inl rfl
               | exact .inr ⟨_, _, rfl⟩
           · first
               | exact Below.refl _ _
               | exact (Below.refl _ _).drew)
        · go_round
          case rel => exact ⟨_, j + 1, rfl, rfl, I32.bits _ _ _, by go_num, by omega⟩
          case measure => simp [intOf]; omega
      · go_wp2_with (go_at_call 141; refine (Tryz.utf8_ValidRune _ _).mono ?_; rintro e w1 ⟨rfl, rfl⟩)
        all_goals
          (refine bodyPost_ret (results_tmp4 rfl _ _ _) rfl ⟨UqPost.of ?_ ?_ ?_, ?_⟩
           · first
               | exact HV.out
               | (unfold I32; omega)
           · first
               | (show 0 < s.size; omega)
               | (simp only [ByteArray.size_extract]; omega)
           · first
               | exact .inl rfl
               | exact .inr ⟨_, _, rfl⟩
           · first
               | exact Below.refl _ _
               | exact (Below.refl _ _).drew)
end Go.Proofs.YtblkaenlajmhnaaGreatDoor
