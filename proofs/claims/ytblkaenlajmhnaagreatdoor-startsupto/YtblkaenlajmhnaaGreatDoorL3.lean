/- General: worlds behind a world; a region that draws its order whose operations read and whose callees make new blocks alone: one walk serves every order. Leaf contracts of package machine: what makes a machine valid. Helpers for all walks of this seat. validCPUs. Valid, and the document's own IsMachine: each says whether it is a machine. -/
import Derived.Test.YtblkaenlajmhnaaGreatDoorRows
import Derived.WalkKit
import Derived.WalkSpells
import Derived.WalkLawsBesides
import Derived.Deep.QuietTactic
import Derived.BigQuiet
import Derived.Deep.RegionWith
import Derived.Deep.RegionHeld3
import Derived.Deep.DrawnRows
namespace Go.Proofs.YtblkaenlajmhnaaGreatDoor
open Go.RowKit
structure After (W : World) where
  val : World
  later : Below W.heap.size W val
theorem After.cell {W : World} (x : After W) {b o : Nat} (h : b < W.heap.size) : x.val.cell? ⟨b, o, none⟩ = W.cell? ⟨b, o, none⟩ := x.later.cell (p := ⟨b, o, none⟩) h
theorem After.frozen {W : World} (x : After W) {b o : Nat} (h : b < W.heap.size) : x.val.frozen? ⟨b, o, none⟩ = W.frozen? ⟨b, o, none⟩ := x.later.frozen (p := ⟨b, o, none⟩) h
theorem _root_.Go.RowKit.Below.drewN {B : Nat} {a w : World} (h : Below B a w) (n : Nat) : Below B a (w.drewN n) := ⟨h.os, h.tape, h.output, h.size, h.block⟩
theorem After.const {W : World} {p : Prop} : (After W → p) ↔ p := ⟨fun h => h ⟨W, Below.refl _ _⟩, fun h _ => h⟩
theorem bcell {W w1 : World} (hb : Below W.heap.size W w1) : (∀ b o, b < W.heap.size → w1.cell? ⟨b, o, none⟩ = W.cell? ⟨b, o, none⟩) ∧ (∀ b o, b < W.heap.size → w1.frozen? ⟨b, o, none⟩ = W.frozen? ⟨b, o, none⟩) :=
  ⟨fun b o h => hb.cell (p := ⟨b, o, none⟩) h, fun b o h => hb.frozen (p := ⟨b, o, none⟩) h⟩
theorem ext_trans {a b c : World} (h : Below a.heap.size a b) (k : Below b.heap.size b c) : Below a.heap.size a c := h.trans (k.mono h.size)
theorem wp_region_after {P : Program} {id : Nat} {Q : Exit → Act → World → Prop} {a : Act} {w : World} {l : List Oper} (hm : P.follows .mixedOrders = true) (hB : Region.lexB .any l.toArray = true)
    (h : wpQuiet P l.toArray (fun w' => ∃ x : After w, w' = x.val) (fun a' => ∀ w', (∃ x : After w, w' = x.val) → Q .normal a' w') l a) : (Code.region id l.toArray true).wp P Q a w :=
  wp_region_quiet (C := fun w' => ∃ x : After w, w' = x.val) hm hB ⟨⟨w.drew, (Below.refl _ _).drew⟩, rfl⟩ (by simpa using h)
theorem Calls.after {P : Program} {f : FuncId} {args : Array Value} {W : World} {x : After W} {v : Value}
    (h : Calls P f args x.val fun e w' => e = .returned v ∧ Below x.val.heap.size x.val w') : Calls P f args x.val fun e w'' => e = .returned v ∧ ∃ y : After W, w'' = y.val :=
  h.mono fun _ w' ⟨he, hm⟩ => ⟨he, ⟨w', ext_trans x.later hm⟩, rfl⟩
def Ans (P : Prop) (e : Ending) : Prop := ∃ r : Bool, e = .returned (.bool r) ∧ (r = true ↔ P)
theorem Ans.yes {P : Prop} (h : P) : Ans P (.returned (.bool true)) := ⟨true, rfl, by simp [h]⟩
theorem Ans.no {P : Prop} (h : ¬ P) : Ans P (.returned (.bool false)) := ⟨false, rfl, by simp [h]⟩
theorem Ans.is_true {P : Prop} {e : Ending} (h : Ans P e) (hp : P) : e = .returned (.bool true) := by
  obtain ⟨r, rfl, hr⟩ := h
  rw [hr.2 hp]
theorem Ans.is_false {P : Prop} {e : Ending} (h : Ans P e) (hp : ¬ P) : e = .returned (.bool false) := by
  obtain ⟨r, rfl, hr⟩ := h
  cases r
  · rfl
  · exact absurd (hr.1 rfl) hp
theorem Ans.cases {P : Prop} {e : Ending} (h : Ans P e) : (P ∧ e = .returned (.bool true)) ∨ (¬ P ∧ e = .returned (.bool false)) := by
  by_cases hp : P
  · exact .inl ⟨hp, h.is_true hp⟩
  · exact .inr ⟨hp, h.is_false hp⟩
theorem Ans.dec {P : Prop} [Decidable P] {e : Ending} (h : Ans P e) : e = .returned (.bool (decide P)) := by
  by_cases hp : P
  · rw [h.is_true hp]; simp [hp]
  · rw [h.is_false hp]; simp [hp]
theorem Calls.after_yes {P : Program} {f : FuncId} {args : Array Value} {W : World} {x : After W} {A : Prop} (hA : A)
    (h : Calls P f args x.val fun e w' => Ans A e ∧ Below x.val.heap.size x.val w') : Calls P f args x.val fun e w'' => e = .returned (.bool true) ∧ ∃ y : After W, w'' = y.val :=
  Calls.after (h.mono fun _ _ ⟨he, hm⟩ => ⟨he.is_true hA, hm⟩)
theorem Calls.after_no {P : Program} {f : FuncId} {args : Array Value} {W : World} {x : After W} {A : Prop} (hA : ¬ A)
    (h : Calls P f args x.val fun e w' => Ans A e ∧ Below x.val.heap.size x.val w') : Calls P f args x.val fun e w'' => e = .returned (.bool false) ∧ ∃ y : After W, w'' = y.val :=
  Calls.after (h.mono fun _ _ ⟨he, hm⟩ => ⟨he.is_false hA, hm⟩)
end Go.Proofs.YtblkaenlajmhnaaGreatDoor
namespace Go.Proofs.YtblkaenlajmhnaaGreatDoor
open Go.RowKit
def place (s n c : Int) : Prop := 0 ≤ s ∧ s < 4 ∧ 0 ≤ n ∧ n < 4 ∧ 0 ≤ c ∧ c < 24
def agr (s n c s' n' c' : Int) : Prop := ¬ (c = c' ∧ n ≠ n') ∧ (n ≠ n' ∨ s = s')
def okCs (S N C : Nat → Int) (n : Nat) : Prop := ∀ i, i < n → place (S i) (N i) (C i) ∧ ∀ j, j < i → agr (S i) (N i) (C i) (S j) (N j) (C j)
def okRs (n : Nat) (R : Nat → Int) (r : Nat) : Prop := ∀ i, i < r → 0 ≤ R i ∧ R i < n ∧ (0 < i → R (i - 1) < R i)
def okM (n : Nat) (S N C : Nat → Int) (r : Nat) (R : Nat → Int) (p : Int) : Prop := 1 ≤ n ∧ n ≤ 24 ∧ okCs S N C n ∧ okRs n R r ∧ 0 ≤ p ∧ p ≤ 3
def CpuAt (w : World) (b o n : Nat) (S N C : Nat → Int) : Prop :=
  ∀ i, i < n → w.cell? ⟨b, o + i * 3, none⟩ = some (.int .i64 (S i)) ∧ w.cell? ⟨b, o + i * 3 + 1, none⟩ = some (.int .i64 (N i)) ∧ w.cell? ⟨b, o + i * 3 + 2, none⟩ = some (.int .i64 (C i))
def IntAt (w : World) (b o n : Nat) (R : Nat → Int) : Prop := ∀ i, i < n → w.cell? ⟨b, o + i, none⟩ = some (.int .i64 (R i))
theorem CpuAt.ext {w w' : World} {b o n : Nat} {S N C : Nat → Int} (h : CpuAt w b o n S N C) (hb : Below w.heap.size w w') : CpuAt w' b o n S N C := fun i hi => by
  obtain ⟨h0, h1, h2⟩ := h i hi
  have hbb : b < w.heap.size := block_lt_of_cell h0
  exact ⟨(hb.cell (p := ⟨b, _, none⟩) hbb).trans h0, (hb.cell (p := ⟨b, _, none⟩) hbb).trans h1, (hb.cell (p := ⟨b, _, none⟩) hbb).trans h2⟩
theorem IntAt.ext {w w' : World} {b o n : Nat} {R : Nat → Int} (h : IntAt w b o n R) (hb : Below w.heap.size w w') : IntAt w' b o n R := fun i hi => by
  have h0 := h i hi
  have hbb : b < w.heap.size := block_lt_of_cell h0
  exact (hb.cell (p := ⟨b, _, none⟩) hbb).trans h0
theorem CpuAt.after {w W : World} {b o n : Nat} {S N C : Nat → Int} (h : CpuAt w b o n S N C) (hb : Below w.heap.size w W) (x : After W) : CpuAt x.val b o n S N C := h.ext (ext_trans hb x.later)
theorem IntAt.after {w W : World} {b o n : Nat} {R : Nat → Int} (h : IntAt w b o n R) (hb : Below w.heap.size w W) (x : After W) : IntAt x.val b o n R := h.ext (ext_trans hb x.later)
theorem CpuAt.mono {w : World} {b o n m : Nat} {S N C : Nat → Int} (h : CpuAt w b o n S N C) (hm : m ≤ n) : CpuAt w b o m S N C := fun i hi => h i (by omega)
set_option maxHeartbeats 400000 in
theorem agree_any (s n c s' n' c' : Int) (w : World) :
    Calls Tryz.prog 94 #[.agg #[.int .i64 s, .int .i64 n, .int .i64 c], .agg #[.int .i64 s', .int .i64 n', .int .i64 c']] w fun e w' =>
      Ans (agr s n c s' n' c') e ∧ Below w.heap.size w w' := by
  by_cases hc : c = c' <;> by_cases hn : n = n' <;> by_cases hs : s = s' <;> (
    go_enter Tryz.func94, Tryz.ntmps94
    go_wp2
    go_ret
    exact ⟨⟨_, rfl, by simp [agr, hc, hn, hs]⟩, ((Below.refl _ _).alloc (Nat.le_refl _) _).alloc (by simp) _⟩)
set_option maxHeartbeats 400000 in
theorem agreesWithAll_any (s n c : Int) (b o k cap : Nat) (S N C : Nat → Int) (w : World) (hk : k ≤ 9223372036854775807) (hcell : CpuAt w b o k S N C) :
    Calls Tryz.prog 71 #[.agg #[.int .i64 s, .int .i64 n, .int .i64 c], .slice (some ⟨b, o, none⟩) k cap] w fun e w' =>
      Ans ((∀ i, i < k → agr s n c (S i) (N i) (C i))) e ∧ Below w.heap.size w w' := by
  go_enter Tryz.func71, Tryz.ntmps71
  go_wp2
  go_loopw [9] (fun i wr => ∃ j : Nat, j ≤ k ∧ i = .int .i64 j ∧ Below w.heap.size w wr ∧ wr.cell? ⟨w.heap.size, 0, none⟩ = some (.int .i64 s) ∧ wr.cell? ⟨w.heap.size, 1, none⟩ = some (.int .i64 n) ∧ wr.cell? ⟨w.heap.size, 2, none⟩ = some (.int .i64 c) ∧ ∀ i, i < j → agr s n c (S i) (N i) (C i))
     (fun i _ => k - (intOf i).toNat)
  case atStart => exact ⟨0, Nat.zero_le _, rfl, (Below.refl _ _).alloc (Nat.le_refl _) _, by simp, by simp, by simp, fun i hi => absurd hi (Nat.not_lt_zero _)⟩
  case round =>
    obtain ⟨j, hj, rfl, hb, h0, h1, h2, hall⟩ := hrel
    have HA : Hid (∀ i, i < j → agr s n c (S i) (N i) (C i)) := hall
    clear hall
    have hbz : w.heap.size < wr.heap.size := block_lt_of_cell h0
    by_cases hlt : j < k
    · obtain ⟨c0, c1, c2⟩ := hcell j hlt
      have hbb : b < w.heap.size := block_lt_of_cell c0
      have c0 := (hb.cell (p := ⟨b, o + j * 3, none⟩) hbb).trans c0
      have c1 := (hb.cell (p := ⟨b, o + j * 3 + 1, none⟩) hbb).trans c1
      have c2 := (hb.cell (p := ⟨b, o + j * 3 + 2, none⟩) hbb).trans c2
      go_wp2_with fail
      refine (agree_any s n c (S j) (N j) (C j) _).mono ?_
      rintro e w1 ⟨⟨r, rfl, hr⟩, hb1⟩
      have hb1' : Below w.heap.size w w1 := (hb.alloc (by omega) _).trans (hb1.mono (by simp; omega))
      obtain ⟨hc1, hf1⟩ := bcell hb1
      cases r
      · have hr' : Hid (¬ agr s n c (S j) (N j) (C j)) := fun h => by simp [h] at hr
        clear hr
        go_wp2
        go_ret
        exact ⟨.no (fun h => hr'.out (h j hlt)), hb1'⟩
      · have hr' : Hid (agr s n c (S j) (N j) (C j)) := hr.1 rfl
        clear hr
        go_wp2
        go_roundw
        case rel => exact ⟨j + 1, by omega, by go_num, hb1', by rw [hc1 _ _ (by simp; omega)]; simpa [World.cell?_alloc_past _ _ _ hbz] using h0, by rw [hc1 _ _ (by simp; omega)]; simpa [World.cell?_alloc_past _ _ _ hbz] using h1, by rw [hc1 _ _ (by simp; omega)]; simpa [World.cell?_alloc_past _ _ _ hbz] using h2, fun i hi => by
            rcases Nat.lt_succ_iff_lt_or_eq.1 hi with h | h
            · exact HA.out i h
            · subst h; exact hr'.out⟩
        case measure => simp [intOf]; omega
    · have : j = k := by omega
      subst this
      go_wp2
      go_ret
      exact ⟨.yes HA.out, hb⟩
set_option maxHeartbeats 400000 in
theorem validPlace_any (s n c : Int) (w : World) :
    Calls Tryz.prog 70 #[.agg #[.int .i64 s, .int .i64 n, .int .i64 c]] w fun e w' =>
      Ans (place s n c) e ∧ Below w.heap.size w w' := by
  go_enter Tryz.func70, Tryz.ntmps70
  go_wp2
  all_goals (go_ret; exact ⟨⟨_, rfl, by simp only [place]; simp; omega⟩, (Below.refl _ _).alloc (Nat.le_refl _) _⟩)
set_option maxHeartbeats 400000 in
theorem validReserved_any (ao : Option Addr) (b o k cap n : Nat) (R : Nat → Int) (w : World) (hk : k ≤ 9223372036854775807) (hn : n ≤ 24) (ha : 0 < k → ao = some ⟨b, o, none⟩) (hcell : IntAt w b o k R) :
    Calls Tryz.prog 45 #[.slice ao k cap, .int .i64 n] w fun e w' =>
      Ans (okRs n R k) e ∧ w' = w := by
  go_enter Tryz.func45, Tryz.ntmps45
  go_wp2
  go_loop [5, 10] (fun l i => ∃ j : Nat, ∃ last : Int, j ≤ k ∧ i = .int .i64 j ∧ l = .int .i64 last ∧ -1 ≤ last ∧ last < 24 ∧ (last = if j = 0 then -1 else R (j - 1)) ∧ okRs n R j)
     (fun _ i => k - (intOf i).toNat)
  case atStart => exact ⟨0, -1, Nat.zero_le _, rfl, rfl, by omega, by omega, rfl, fun i hi => absurd hi (Nat.not_lt_zero _)⟩
  case round =>
    obtain ⟨j, last, hj, rfl, rfl, hl1, hl2, hl3, hok⟩ := hrel
    have HA : Hid (okRs n R j ∧ last = if j = 0 then -1 else R (j - 1)) := ⟨hok, hl3⟩
    clear hok hl3
    by_cases hlt : j < k
    · have c0 := hcell j hlt
      have ha' := ha (by omega)
      subst ha'
      by_cases h1 : R j ≤ last
      · go_wp2
        go_ret
        refine ⟨.no fun h => ?_, rfl⟩
        have hh := h j hlt
        have hla := HA.out.2
        by_cases hz : j = 0
        · subst hz; simp at hla; omega
        · rw [if_neg hz] at hla; have := hh.2.2 (by omega); omega
      · by_cases h2 : (n : Int) ≤ R j
        · go_wp2
          go_ret
          refine ⟨.no fun h => ?_, rfl⟩
          have hh := h j hlt
          omega
        · go_wp2
          go_round
          case rel => exact ⟨j + 1, R j, by omega, by go_num, rfl, by omega, by omega, by simp, fun i hi => by
            rcases Nat.lt_succ_iff_lt_or_eq.1 hi with h | h
            · exact HA.out.1 i h
            · subst h
              refine ⟨by omega, by omega, fun hz => ?_⟩
              have hla := HA.out.2
              rw [if_neg (by omega)] at hla
              omega⟩
          case measure => simp [intOf]; omega
    · have : j = k := by omega
      subst this
      go_wp2
      go_ret
      exact ⟨.yes HA.out.1, rfl⟩
end Go.Proofs.YtblkaenlajmhnaaGreatDoor
namespace Go.Proofs.YtblkaenlajmhnaaGreatDoor
open Go.RowKit
attribute [local go_sem ↓] Go.wp_at_zero Go.wp_at_succ
attribute [local go_sem] After.cell After.frozen After.const
set_option maxHeartbeats 1000000 in
theorem validCPUs_any (ao : Option Addr) (b o n cap : Nat) (S N C : Nat → Int) (w : World) (hn : n ≤ 9223372036854775807) (hc : n ≤ cap) (ha : 0 < n → ao = some ⟨b, o, none⟩) (hcell : CpuAt w b o n S N C) :
    Calls Tryz.prog 44 #[.slice ao n cap] w fun e w' =>
      Ans (1 ≤ n ∧ n ≤ 24 ∧ okCs S N C n) e ∧ Below w.heap.size w w' := by
  by_cases hn0 : n < 1
  · have : n = 0 := by omega
    subst this
    go_enter Tryz.func44, Tryz.ntmps44
    go_wp2
    go_ret
    exact ⟨.no (by omega), Below.refl _ _⟩
  have ha' := ha (by omega)
  subst ha'
  by_cases hn24 : 24 < n
  · go_enter Tryz.func44, Tryz.ntmps44
    go_wp2
    go_ret
    exact ⟨.no (by omega), Below.refl _ _⟩
  go_enter Tryz.func44, Tryz.ntmps44
  go_wp2
  go_loopw [15] (fun i wr => ∃ j : Nat, j ≤ n ∧ i = .int .i64 j ∧ Below w.heap.size w wr ∧ okCs S N C j) (fun i _ => n - (intOf i).toNat)
  case atStart => exact ⟨0, Nat.zero_le _, rfl, Below.refl _ _, fun i hi => absurd hi (Nat.not_lt_zero _)⟩
  case round =>
    obtain ⟨j, hj, rfl, hb, hok⟩ := hrel
    have HA : Hid (okCs S N C j) := hok
    clear hok
    have hz := hb.size
    by_cases hlt : j < n
    · obtain ⟨c0, c1, c2⟩ := hcell j hlt
      have hbb : b < w.heap.size := block_lt_of_cell c0
      have HC : Hid (CpuAt wr b o j S N C) := (hcell.mono (by omega)).ext hb
      have c0 := (hb.cell (p := ⟨b, o + j * 3, none⟩) hbb).trans c0
      have c1 := (hb.cell (p := ⟨b, o + j * 3 + 1, none⟩) hbb).trans c1
      have c2 := (hb.cell (p := ⟨b, o + j * 3 + 2, none⟩) hbb).trans c2
      have i0 : (0 : Int) ≤ (j : Int) := by omega
      have i1 : (j : Int) ≤ (cap : Int) := by omega
      clear hcell
      have HR : Hid (Below w.heap.size w wr) := hb
      by_cases hp : place (S j) (N j) (C j)
      · by_cases hg : ∀ i, i < j → agr (S j) (N j) (C j) (S i) (N i) (C i)
        · have HP : Hid (place (S j) (N j) (C j) ∧ ∀ i, i < j → agr (S j) (N j) (C j) (S i) (N i) (C i)) := ⟨hp, hg⟩
          clear hp hg
          go_wp2
          refine wp_region_after (by kernel_rfl) (by kernel_rfl) ?_
          repeat (go_big_quiet_step (first
            | (go_at_call 70; exact Calls.after_yes HP.out.1 (validPlace_any _ _ _ _))
            | (go_at_call 71; exact Calls.after_yes HP.out.2 (agreesWithAll_any (S j) (N j) (C j) b o j cap S N C _ (by omega) (HC.out.after ((Below.refl _ _).alloc (Nat.le_refl _) _) _)))))
          refine wpQuiet_nil ?_
          rintro _ ⟨⟨w1, hw1⟩, rfl⟩
          go_wp2
          go_roundw
          case rel => exact ⟨j + 1, by omega, by go_num, ext_trans HR.out (ext_trans ((Below.refl _ _).alloc (Nat.le_refl _) _) hw1), fun i hi => by
            rcases Nat.lt_succ_iff_lt_or_eq.1 hi with h | h
            · exact HA.out i h
            · subst h; exact HP.out⟩
          case measure => simp [intOf]; omega
        · have HP : Hid (place (S j) (N j) (C j) ∧ ¬ ∀ i, i < j → agr (S j) (N j) (C j) (S i) (N i) (C i)) := ⟨hp, hg⟩
          clear hp hg
          go_wp2
          refine wp_region_after (by kernel_rfl) (by kernel_rfl) ?_
          repeat (go_big_quiet_step (first
            | (go_at_call 70; exact Calls.after_yes HP.out.1 (validPlace_any _ _ _ _))
            | (go_at_call 71; exact Calls.after_no HP.out.2 (agreesWithAll_any (S j) (N j) (C j) b o j cap S N C _ (by omega) (HC.out.after ((Below.refl _ _).alloc (Nat.le_refl _) _) _)))))
          refine wpQuiet_nil ?_
          rintro _ ⟨⟨w1, hw1⟩, rfl⟩
          go_wp2
          go_ret
          exact ⟨.no fun h => HP.out.2 (h.2.2 j hlt).2, ext_trans HR.out (ext_trans ((Below.refl _ _).alloc (Nat.le_refl _) _) hw1)⟩
      · have HP : Hid (¬ place (S j) (N j) (C j)) := hp
        clear hp
        go_wp2
        refine wp_region_after (by kernel_rfl) (by kernel_rfl) ?_
        repeat (go_big_quiet_step (first
            | (go_at_call 70; exact Calls.after_no HP.out (validPlace_any _ _ _ _))))
        refine wpQuiet_nil ?_
        rintro _ ⟨⟨w1, hw1⟩, rfl⟩
        go_wp2
        go_ret
        exact ⟨.no fun h => HP.out (h.2.2 j hlt).1, ext_trans HR.out (ext_trans ((Below.refl _ _).alloc (Nat.le_refl _) _) hw1)⟩
    · have : j = n := by omega
      subst this
      go_wp2
      go_ret
      exact ⟨.yes ⟨by omega, by omega, HA.out⟩, hb⟩
end Go.Proofs.YtblkaenlajmhnaaGreatDoor
namespace Go.Proofs.YtblkaenlajmhnaaGreatDoor
open Go.RowKit
attribute [local go_sem ↓] Go.wp_at_zero Go.wp_at_succ
attribute [local go_sem] After.cell After.frozen After.const
structure Mach where
  ao : Option Addr
  b : Nat
  o : Nat
  n : Nat
  cap : Nat
  S : Nat → Int
  N : Nat → Int
  C : Nat → Int
  ro : Option Addr
  rb : Nat
  rp : Nat
  r : Nat
  rcap : Nat
  R : Nat → Int
  p : Int
def Mach.val (m : Mach) : Value := .agg #[.slice m.ao m.n m.cap, .slice m.ro m.r m.rcap, .int .i64 m.p]
structure Mach.At (m : Mach) (w : World) : Prop where
  ncap : m.n ≤ m.cap
  nmax : m.n * 24 ≤ 140737488355328
  addr : 0 < m.n → m.ao = some ⟨m.b, m.o, none⟩
  cpus : CpuAt w m.b m.o m.n m.S m.N m.C
  rc : m.r ≤ m.rcap
  rmax : m.r * 8 ≤ 140737488355328
  raddr : 0 < m.r → m.ro = some ⟨m.rb, m.rp, none⟩
  ints : IntAt w m.rb m.rp m.r m.R
theorem Mach.At.ext {m : Mach} {w w' : World} (h : m.At w) (hb : Below w.heap.size w w') : m.At w' := ⟨h.ncap, h.nmax, h.addr, h.cpus.ext hb, h.rc, h.rmax, h.raddr, h.ints.ext hb⟩
def Mach.ok (m : Mach) : Prop := okM m.n m.S m.N m.C m.r m.R m.p
set_option maxHeartbeats 1000000 in
theorem valid_any (m : Mach) (w : World) (hm : m.At w) :
    Calls Tryz.prog 26 #[m.val] w fun e w' => Ans m.ok e ∧ Below w.heap.size w w' := by
  obtain ⟨ao, b, o, n, cap, S, N, C, ro, rb, rp, r, rcap, R, p⟩ := m
  obtain ⟨ncap, nmax, addr, cpus, rc, rmax, raddr, ints⟩ := hm
  simp only [Mach.val, Mach.ok] at *
  have ints' : Hid (IntAt w rb rp r R) := ints
  have cpus' : Hid (CpuAt w b o n S N C) := cpus
  clear ints cpus
  by_cases h1 : 1 ≤ n ∧ n ≤ 24 ∧ okCs S N C n
  · have hn : n ≤ 24 := h1.2.1
    by_cases h2 : okRs n R r
    · have HP : Hid ((1 ≤ n ∧ n ≤ 24 ∧ okCs S N C n) ∧ okRs n R r) := ⟨h1, h2⟩
      clear h1 h2
      go_enter Tryz.func26, Tryz.ntmps26
      go_wp2_with (first
        | (go_at_call 44; refine (validCPUs_any ao b o n cap S N C _ (by omega) ncap addr (cpus'.out.ext ((Below.refl _ _).alloc (Nat.le_refl _) _))).mono ?_; rintro e w1 ⟨he, hb1⟩; obtain rfl := he.is_true HP.out.1; clear he; obtain ⟨hc1, hf1⟩ := bcell hb1; have hb1' := ext_trans ((Below.refl _ _).alloc (Nat.le_refl _) _) hb1)
        | (go_at_call 45; refine (validReserved_any ro rb rp r rcap n R _ (by omega) hn raddr (ints'.out.ext hb1')).mono ?_; rintro e w2 ⟨he, rfl⟩; obtain rfl := he.is_true HP.out.2; clear he))
      all_goals (go_ret; refine ⟨⟨_, rfl, ?_⟩, hb1'⟩; simp only [okM]; simp [HP.out.1, HP.out.2]; omega)
    · have HP : Hid ((1 ≤ n ∧ n ≤ 24 ∧ okCs S N C n) ∧ ¬ okRs n R r) := ⟨h1, h2⟩
      clear h1 h2
      go_enter Tryz.func26, Tryz.ntmps26
      go_wp2_with (first
        | (go_at_call 44; refine (validCPUs_any ao b o n cap S N C _ (by omega) ncap addr (cpus'.out.ext ((Below.refl _ _).alloc (Nat.le_refl _) _))).mono ?_; rintro e w1 ⟨he, hb1⟩; obtain rfl := he.is_true HP.out.1; clear he; obtain ⟨hc1, hf1⟩ := bcell hb1; have hb1' := ext_trans ((Below.refl _ _).alloc (Nat.le_refl _) _) hb1)
        | (go_at_call 45; refine (validReserved_any ro rb rp r rcap n R _ (by omega) hn raddr (ints'.out.ext hb1')).mono ?_; rintro e w2 ⟨he, rfl⟩; obtain rfl := he.is_false HP.out.2; clear he))
      go_ret
      exact ⟨.no fun h => HP.out.2 h.2.2.2.1, hb1'⟩
  · have HP : Hid (¬ (1 ≤ n ∧ n ≤ 24 ∧ okCs S N C n)) := h1
    clear h1
    go_enter Tryz.func26, Tryz.ntmps26
    go_wp2_with (go_at_call 44; refine (validCPUs_any ao b o n cap S N C _ (by omega) ncap addr (cpus'.out.ext ((Below.refl _ _).alloc (Nat.le_refl _) _))).mono ?_; rintro e w1 ⟨he, hb1⟩; obtain rfl := he.is_false HP.out; clear he; obtain ⟨hc1, hf1⟩ := bcell hb1; have hb1' := ext_trans ((Below.refl _ _).alloc (Nat.le_refl _) _) hb1)
    go_ret
    exact ⟨.no fun h => HP.out ⟨h.1, h.2.1, h.2.2.1⟩, hb1'⟩
set_option maxHeartbeats 400000 in
theorem num_any (a : Int) (w : World) :
    Calls Tryz.prog 7 #[.int .i64 a] w fun e w' => e = .returned (.int .i64 a) ∧ w' = w := by
  go_enter Tryz.func7, Tryz.ntmps7
  go_wp2
  go_ret
  exact ⟨rfl, rfl⟩
set_option maxHeartbeats 400000 in
theorem within_any (a b : Int) (w : World) :
    Calls Tryz.prog 17 #[.int .i64 a, .int .i64 b] w fun e w' => Ans (0 ≤ a ∧ a < b) e ∧ w' = w := by
  by_cases h0 : 0 ≤ a <;> by_cases h1 : a < b <;> (
    go_enter Tryz.func17, Tryz.ntmps17
    go_wp2
    go_ret
    exact ⟨⟨_, rfl, by simp [h0, h1]⟩, rfl⟩)
def among (R : Nat → Int) (k : Nat) (x : Int) : Prop := ∃ i, i < k ∧ R i = x
set_option maxHeartbeats 400000 in
theorem in_any (ao : Option Addr) (b o k cap : Nat) (R : Nat → Int) (x : Int) (w : World) (hk : k ≤ 9223372036854775807) (ha : 0 < k → ao = some ⟨b, o, none⟩) (hcell : IntAt w b o k R) :
    Calls Tryz.prog 43 #[.slice ao k cap, .int .i64 x] w fun e w' => Ans (among R k x) e ∧ w' = w := by
  go_enter Tryz.func43, Tryz.ntmps43
  go_wp2
  go_loop [5] (fun i => ∃ j : Nat, j ≤ k ∧ i = .int .i64 j ∧ ∀ i, i < j → R i ≠ x) (fun i => k - (intOf i).toNat)
  case atStart => exact ⟨0, Nat.zero_le _, rfl, fun i hi => absurd hi (Nat.not_lt_zero _)⟩
  case round =>
    obtain ⟨j, hj, rfl, hall⟩ := hrel
    have HA : Hid (∀ i, i < j → R i ≠ x) := hall
    clear hall
    by_cases hlt : j < k
    · have c0 := hcell j hlt
      have ha' := ha (by omega)
      subst ha'
      by_cases h1 : R j = x
      · have HX : Hid (R j = x) := h1
        have hb1 : (R j == x) = true := by simp [h1]
        clear h1
        go_wp2
        go_ret
        exact ⟨.yes ⟨j, hlt, HX.out⟩, rfl⟩
      · have HX : Hid (R j ≠ x) := h1
        have hb1 : (R j == x) = false := by simp [h1]
        clear h1
        go_wp2
        go_round
        case rel => exact ⟨j + 1, by omega, by go_num, fun i hi => by
            rcases Nat.lt_succ_iff_lt_or_eq.1 hi with h | h
            · exact HA.out i h
            · subst h; exact HX.out⟩
        case measure => simp [intOf]; omega
    · have : j = k := by omega
      subst this
      go_wp2
      go_ret
      exact ⟨.no fun ⟨i, hi, he⟩ => HA.out i hi he, rfl⟩
end Go.Proofs.YtblkaenlajmhnaaGreatDoor
