/- readLine: a box out of a line. -/
import Derived.Test.YtblkaenlajmhnaaGreatDoorHK
import Derived.Test.YtblkaenlajmhnaaGreatDoorHI
namespace Go.Proofs.YtblkaenlajmhnaaGreatDoor
open Go.RowKit
attribute [local go_sem ↓] Go.wp_at_zero Go.wp_at_succ
attribute [local go_sem] After.cell After.frozen After.const
theorem ints_of_row {w : World} {base : Nat} {v : Value} {n : Nat} {xs : List Value} (h : w.ownsRow base 3 1 v n xs) (hx : ∀ u ∈ xs, Num u) : ∃ R : Nat → Int, Ints w v n R ∧ ∀ i, i < n → I64 (R i) := by
  have hl : xs.length = n := by have := h.1; omega
  refine ⟨fun i => (match xs[i]? with | some (.int _ z) => z | _ => 0), ?_, fun i hi => ?_⟩
  · rcases h.2 with ⟨rfl, h0⟩ | ⟨g, cap, cur, rfl, _, hg, hn, hc, hs, ht⟩
    · rw [h0]; exact ⟨none, 0, rfl, Nat.le_refl _, by omega, fun h => absurd h (Nat.lt_irrefl _)⟩
    · refine ⟨_, cap, rfl, hn, by unfold maxLen at hc; omega, fun h0 => ⟨g, 0, rfl, fun i hi => ?_⟩⟩
      have hi' : i < xs.length := by omega
      obtain ⟨z, hz, _⟩ := hx _ (List.getElem_mem hi')
      have e : xs[i]? = some (.int .i64 z) := by rw [List.getElem?_eq_getElem hi', hz]
      have e2 := e
      rw [Nat.zero_add, cell_of_row w g i cur _ (0, 0) hg]
      rw [← ht, List.getElem?_take] at e2
      split at e2
      · simp only [e]
        simpa using e2
      · cases e2
  · have hi' : i < xs.length := by omega
    obtain ⟨z, hz, hz2⟩ := hx _ (List.getElem_mem hi')
    have e : xs[i]? = some (.int .i64 z) := by rw [List.getElem?_eq_getElem hi', hz]
    simp only [e]
    exact hz2
set_option maxRecDepth 100000 in
set_option maxHeartbeats 2000000 in
theorem sclone_any (s : ByteArray) (w : World) (hs : s.size ≤ 281474976710656) :
    Calls Tryz.prog 79 #[.string s] w fun e w' => e = .returned (.string s) ∧ Below w.heap.size w w' := by
  go_enter Tryz.func79, Tryz.ntmps79
  go_wp2_with (go_at_call 102; refine (Tryz.stringslite_Clone s w hs).mono ?_; rintro e w1 ⟨rfl, hb⟩)
  go_ret
  exact ⟨rfl, hb⟩
theorem five (l : List ByteArray) (h : l.length = 5) : ∃ f0 f1 f2 f3 f4, l = [f0, f1, f2, f3, f4] := by
  match l, h with
  | [a, b, c, d, e], _ => exact ⟨a, b, c, d, e, rfl⟩
theorem set5 {w : World} {b : Nat} {c0 c1 c2 c3 c4 : Value} {T : TypeId} (h : w.heap[b]? = some (.cells #[c0, c1, c2, c3, c4] T (0, 0))) (v0 v1 v2 v3 v4 : Value) :
    (((((w.setCell ⟨b, 0, none⟩ v0).setCell ⟨b, 1, none⟩ v1).setCell ⟨b, 2, none⟩ v2).setCell ⟨b, 3, none⟩ v3).setCell ⟨b, 4, none⟩ v4).heap[b]? = some (.cells #[v0, v1, v2, v3, v4] T (0, 0)) :=
  blk_set (i := 4) v4 (blk_set (i := 3) v3 (blk_set (i := 2) v2 (blk_set (i := 1) v1 (blk_set (i := 0) v0 h))))
theorem below5 {B b : Nat} {w0 w : World} (h : Below B w0 w) (hB : B ≤ b) (v0 v1 v2 v3 v4 : Value) : Below B w0 (((((w.setCell ⟨b, 0, none⟩ v0).setCell ⟨b, 1, none⟩ v1).setCell ⟨b, 2, none⟩ v2).setCell ⟨b, 3, none⟩ v3).setCell ⟨b, 4, none⟩ v4) :=
  ((((h.setCell (p := ⟨b, 0, none⟩) hB _).setCell (p := ⟨b, 1, none⟩) hB _).setCell (p := ⟨b, 2, none⟩) hB _).setCell (p := ⟨b, 3, none⟩) hB _).setCell (p := ⟨b, 4, none⟩) hB _
theorem GInts.nil (w : World) : GInts w (fun _ => none) (fun _ => 0) (fun _ => 0) (fun _ _ => 0) := fun _ _ => ⟨none, 0, rfl, Nat.le_refl _, Nat.zero_le _, fun h => absurd h (Nat.lt_irrefl _)⟩
theorem box_result (X : World) (b : Nat) (v0 v1 v2 v3 v4 : Value) (h : X.heap[b]? = some (.cells #[v0, v1, v2, v3, v4] 63 (0, 0))) (tmps : Array Value) (ok : Bool) (h2 : tmps.getD 2 undef = .pointer (some ⟨b, 0, none⟩)) (h3 : tmps.getD 3 undef = .bool ok) :
    (results Tryz.f49 tmps).run Tryz.prog X = .ok (.tuple #[.agg #[v0, v1, v2, v3, v4], .bool ok]) X := by
  obtain ⟨f, _⟩ := blk h
  have g0 := (f 0).trans (show _ = some v0 from rfl)
  have g1 := (f 1).trans (show _ = some v1 from rfl)
  have g2 := (f 2).trans (show _ = some v2 from rfl)
  have g3 := (f 3).trans (show _ = some v3 from rfl)
  have g4 := (f 4).trans (show _ = some v4 from rfl)
  rw [Array.getD_eq_getD_getElem?] at h2 h3
  simp [results, Tryz.results49, go_sem, h2, h3, g0, g1, g2, g3, g4]
def RowTy (B : Nat) (w : World) (v : Value) (n : Nat) : Prop := 0 < n → ∃ b o c cs f, B ≤ b ∧ v = .slice (some ⟨b, o, none⟩) n c ∧ w.heap[b]? = some (.cells cs 3 f)
def TKeep (B0 : Nat) (A B : World) : Prop := ∀ (b : Nat) (cs : Array Value) (f : Nat × Nat), B0 ≤ b → A.heap[b]? = some (.cells cs 3 f) → B.heap[b]? = some (.cells cs 3 f)
theorem TKeep.refl (B0 : Nat) (A : World) : TKeep B0 A A := fun _ _ _ _ h => h
theorem TKeep.trans {B0 : Nat} {A B C : World} (h : TKeep B0 A B) (k : TKeep B0 B C) : TKeep B0 A C := fun _ _ _ l e => k _ _ _ l (h _ _ _ l e)
theorem TKeep.below {B0 : Nat} {A B : World} (h : Below A.heap.size A B) : TKeep B0 A B := fun _ _ _ _ e => (h.block _ (Array.getElem?_eq_some_iff.1 e).1).trans e
theorem TKeep.setCell {B0 : Nat} {A : World} {b : Nat} {cs : Array Value} {T : TypeId} {f : Nat × Nat} (h : A.heap[b]? = some (.cells cs T f)) (hT : T ≠ 3) (j : Nat) (x : Value) : TKeep B0 A (A.setCell ⟨b, j, none⟩ x) := fun g cs' f' _ e => blk_other (a := ⟨b, j, none⟩) _ e (fun eq => by
  have e2 : g = b := eq
  subst e2
  rw [h] at e
  cases e
  exact hT rfl)
theorem RowTy.keep {B0 : Nat} {A B : World} {v : Value} {n : Nat} (h : RowTy B0 A v n) (k : TKeep B0 A B) : RowTy B0 B v n := fun h0 => by
  obtain ⟨b, o, c, cs, f, l, e, hb⟩ := h h0
  exact ⟨b, o, c, cs, f, l, e, k _ _ _ l hb⟩
theorem RowTy.base {B0 B1 : Nat} {A : World} {v : Value} {n : Nat} (h : RowTy B0 A v n) (hB : B1 ≤ B0) : RowTy B1 A v n := fun h0 => by
  obtain ⟨b, o, c, cs, f, l, e, hb⟩ := h h0
  exact ⟨b, o, c, cs, f, Nat.le_trans hB l, e, hb⟩
theorem Ints.keep {B0 : Nat} {A B : World} {v : Value} {n : Nat} {R : Nat → Int} (hi : Ints A v n R) (hr : RowTy B0 A v n) (k : TKeep B0 A B) : Ints B v n R := by
  obtain ⟨ao, cap, rfl, h1, h2, h3⟩ := hi
  refine ⟨ao, cap, rfl, h1, h2, fun h0 => ?_⟩
  obtain ⟨g, o, rfl, hc⟩ := h3 h0
  obtain ⟨b, o', c, cs, f, l, e, hb⟩ := hr h0
  cases e
  refine ⟨g, o, rfl, fun i hi => ?_⟩
  rw [← hc i hi]
  exact World.cell?_of_block (a := ⟨g, o + i, none⟩) ((k _ _ _ l hb).trans hb.symm)
def G4 (B0 : Nat) (X : World) (A : Nat → Option Addr) (N C : Nat → Nat) (R : Nat → Nat → Int) : Prop := GInts X A N C R ∧ ∀ q, q < 4 → RowTy B0 X (.slice (A q) (N q) (C q)) (N q)
theorem G4.keep {B0 : Nat} {X Y : World} {A : Nat → Option Addr} {N C : Nat → Nat} {R : Nat → Nat → Int} (h : G4 B0 X A N C R) (k : TKeep B0 X Y) : G4 B0 Y A N C R := ⟨fun q hq => (h.1 q hq).keep (h.2 q hq) k, fun q hq => (h.2 q hq).keep k⟩
theorem G4.base {B0 B1 : Nat} {X : World} {A : Nat → Option Addr} {N C : Nat → Nat} {R : Nat → Nat → Int} (h : G4 B0 X A N C R) (hB : B1 ≤ B0) : G4 B1 X A N C R := ⟨h.1, fun q hq => (h.2 q hq).base hB⟩
theorem G4.nil (B0 : Nat) (w : World) : G4 B0 w (fun _ => none) (fun _ => 0) (fun _ => 0) (fun _ _ => 0) := ⟨GInts.nil w, fun _ _ h => absurd h (Nat.lt_irrefl _)⟩
theorem keep5 {B0 : Nat} {w : World} {b : Nat} {c0 c1 c2 c3 c4 : Value} (h : w.heap[b]? = some (.cells #[c0, c1, c2, c3, c4] 63 (0, 0))) (v0 v1 v2 v3 v4 : Value) :
    TKeep B0 w (((((w.setCell ⟨b, 0, none⟩ v0).setCell ⟨b, 1, none⟩ v1).setCell ⟨b, 2, none⟩ v2).setCell ⟨b, 3, none⟩ v3).setCell ⟨b, 4, none⟩ v4) := by
  have k0 := blk_set (i := 0) v0 h
  have k1 := blk_set (i := 1) v1 k0
  have k2 := blk_set (i := 2) v2 k1
  have k3 := blk_set (i := 3) v3 k2
  exact ((((TKeep.setCell h (by decide) 0 v0).trans (.setCell k0 (by decide) 1 v1)).trans (.setCell k1 (by decide) 2 v2)).trans (.setCell k2 (by decide) 3 v3)).trans (.setCell k3 (by decide) 4 v4)
theorem rowTy_of_row {w : World} {base n : Nat} {v : Value} {xs : List Value} (h : w.ownsRow base 3 1 v n xs) : RowTy base w v n := fun h0 => by
  rcases h.2 with ⟨rfl, e0⟩ | ⟨g, cap, cur, rfl, hl, hg, _⟩
  · omega
  · exact ⟨g, 0, cap, cur, (0, 0), hl, rfl, hg⟩
def LR (w w2 : World) (B : Nat) (nm : ByteArray) (F : Nat → Nat) (X : World) (A : Nat → Option Addr) (N C : Nat → Nat) (R : Nat → Nat → Int) : Prop :=
  X.heap[B]? = some (.cells #[.string nm, .slice (A 0) (N 0) (C 0), .slice (A 1) (N 1) (C 1), .slice (A 2) (N 2) (C 2), .slice (A 3) (N 3) (C 3)] 63 (0, 0)) ∧ G4 w.heap.size X A N C R ∧ (∀ q, q < 4 → ∀ i, i < N q → I64 (R q i)) ∧ (∀ q, q < 4 → N q ≤ F q + 1) ∧
  X.heap[w.heap.size]? = some (.cells #[.string ⟨#[]⟩, .slice none 0 0, .slice none 0 0, .slice none 0 0, .slice none 0 0] 63 (0, 0)) ∧ Below w2.heap.size w2 X ∧ Below w.heap.size w X
theorem LR.step {w w2 : World} {B : Nat} {nm : ByteArray} {F : Nat → Nat} {wr w7 : World} {A : Nat → Option Addr} {N C : Nat → Nat} {R : Nat → Nat → Int} (h : LR w w2 B nm F wr A N C R) (hB : w2.heap.size ≤ B) (hw : w.heap.size < w2.heap.size) (hb : Below wr.heap.size wr w7) {a7 : Option Addr} {n7 c7 : Nat} {R7 : Nat → Int} (hI : Ints w7 (.slice a7 n7 c7) n7 R7) (hT : RowTy w.heap.size w7 (.slice a7 n7 c7) n7) (h64 : ∀ i, i < n7 → I64 (R7 i)) {k : Nat} (hk : k = 1 ∨ k = 2 ∨ k = 3) (hn : n7 ≤ F k + 1) :
    ∃ A' N' C' R', LR w w2 B nm F (w7.setCell ⟨B, k + 1, none⟩ (.slice a7 n7 c7)) A' N' C' R' := by
  obtain ⟨g1, g2, g3, g4, g5, g6, g7⟩ := h
  have k1 := (hb.block _ (Array.getElem?_eq_some_iff.1 g1).1).trans g1
  have k5 := (hb.block _ (Array.getElem?_eq_some_iff.1 g5).1).trans g5
  refine ⟨fun q => if q = k then a7 else A q, fun q => if q = k then n7 else N q, fun q => if q = k then c7 else C q, fun q => if q = k then R7 else R q, ?_, ?_, ?_, ?_, blk_other _ k5 (by show w.heap.size ≠ B; omega), (g6.trans (hb.mono g6.size)).setCell (p := ⟨B, k + 1, none⟩) hB _, (g7.trans (hb.mono g7.size)).setCell (p := ⟨B, k + 1, none⟩) (by show w.heap.size ≤ B; omega) _⟩
  · have e := blk_set (i := k + 1) (.slice a7 n7 c7) k1
    rcases hk with rfl | rfl | rfl <;> exact e
  · have kk : TKeep w.heap.size w7 (w7.setCell ⟨B, k + 1, none⟩ (.slice a7 n7 c7)) := .setCell k1 (by decide) _ _
    have g2' := g2.keep ((TKeep.below hb).trans kk)
    refine ⟨fun q hq => ?_, fun q hq => ?_⟩
    · by_cases c : q = k
      · simp only [c, ↓reduceIte]; exact hI.keep hT kk
      · simp only [c, ↓reduceIte]; exact g2'.1 q hq
    · by_cases c : q = k
      · simp only [c, ↓reduceIte]; exact hT.keep kk
      · simp only [c, ↓reduceIte]; exact g2'.2 q hq
  · intro q hq
    by_cases c : q = k
    · simp only [c, ↓reduceIte]; exact h64
    · simp only [c, ↓reduceIte]; exact g3 q hq
  · intro q hq
    by_cases c : q = k
    · simp only [c, ↓reduceIte]; exact hn
    · simp only [c, ↓reduceIte]; exact g4 q hq
def fsz (a b c d : Nat) : Nat → Nat := fun q => if q = 0 then a else if q = 1 then b else if q = 2 then c else d
def LinePost (L B0 : Nat) (e : Ending) (w' : World) : Prop := ∃ (nm : ByteArray) (A : Nat → Option Addr) (N C : Nat → Nat) (R : Nat → Nat → Int) (ok : Bool), e = .returned (.tuple #[BoxV nm A N C, .bool ok]) ∧ G4 B0 w' A N C R ∧ (∀ q, q < 4 → ∀ i, i < N q → I64 (R q i)) ∧ 22 * (N 0 + N 1 + N 2 + N 3) + 10 * nm.size ≤ 40 * L + 88
set_option maxRecDepth 100000 in
set_option maxHeartbeats 4000000 in
theorem readLine_any (s : ByteArray) (L : Nat) (w : World) (hs : s.size ≤ L) (hL : L ≤ 4294967000) (henv : Env w) :
    Calls Tryz.prog 49 #[.string s] w fun e w' => LinePost L w.heap.size e w' ∧ Below w.heap.size w w' := by
  have HE : Hid (Env w) := henv
  clear henv
  go_enter Tryz.func49, Tryz.ntmps49
  go_wp2_with fail
  obtain ⟨W0, hW0⟩ : ∃ W0, W0 = w.alloc (.cells #[.string ⟨#[]⟩, .slice none 0 0, .slice none 0 0, .slice none 0 0, .slice none 0 0] 63) := ⟨_, rfl⟩
  rw [← hW0]
  have k0 : W0.heap[w.heap.size]? = some (.cells #[.string ⟨#[]⟩, .slice none 0 0, .slice none 0 0, .slice none 0 0, .slice none 0 0] 63 (0, 0)) := by rw [hW0]; exact heap_alloc_new _ _
  have b0 : Below w.heap.size w W0 := by rw [hW0]; exact (Below.refl _ _).alloc (Nat.le_refl _) _
  have z0 : W0.heap.size = w.heap.size + 1 := by rw [hW0]; simp
  clear hW0
  refine (trim_any s ⟨#[10]⟩ W0 (by omega)).mono ?_
  rintro e w1 ⟨⟨t, rfl, ht⟩, rfl⟩
  go_wp2_with fail
  refine (splitN_any t w1 (by omega)).mono ?_
  rintro e w2 ⟨l, N0, rfl, hw2, h5, hl1, hlN, hsum⟩
  have k2 : w2.heap[w.heap.size]? = some (.cells #[.string ⟨#[]⟩, .slice none 0 0, .slice none 0 0, .slice none 0 0, .slice none 0 0] 63 (0, 0)) := by rw [hw2]; exact (Below.heap_alloc w1 _ _ (by omega)).trans k0
  have b2 : Below w.heap.size w w2 := by rw [hw2]; exact b0.alloc (by omega) _
  have kf : w2.heap[w1.heap.size]? = some (.cells (Lib.cellsOf l N0) 9 (0, 0)) := by rw [hw2]; exact heap_alloc_new _ _
  have z2 : w2.heap.size = w.heap.size + 2 := by rw [hw2]; simp; omega
  have H2 : Hid (w2.heap[w.heap.size]? = some (.cells #[.string ⟨#[]⟩, .slice none 0 0, .slice none 0 0, .slice none 0 0, .slice none 0 0] 63 (0, 0)) ∧ Below w.heap.size w w2 ∧ w2.heap[w1.heap.size]? = some (.cells (Lib.cellsOf l N0) 9 (0, 0)) ∧ w2.heap.size = w.heap.size + 2 ∧ w1.heap.size = w.heap.size + 1) := ⟨k2, b2, kf, z2, z0⟩
  clear hw2 b2 kf z2 b0 k0
  by_cases hl5 : l.length < 5
  · have hl5' : (l.length : Int) < 5 := by omega
    obtain ⟨q0, q0f⟩ := blk k2
    clear k2 z0
    go_wp2
    refine bodyPost_ret (box_result _ w.heap.size _ _ _ _ _ (set5 H2.out.1 _ _ _ _ _) _ false rfl rfl) rfl ⟨⟨⟨#[]⟩, fun _ => none, fun _ => 0, fun _ => 0, fun _ _ => 0, false, rfl, G4.nil _ _, fun _ _ _ h => absurd h (Nat.not_lt_zero _), by show 22 * 0 + 10 * 0 ≤ _; omega⟩, below5 H2.out.2.1 (Nat.le_refl _) _ _ _ _ _⟩
  · obtain ⟨f0, f1, f2, f3, f4, rfl⟩ := five l (by omega)
    have hs5 : f0.size + f1.size + f2.size + f3.size + f4.size ≤ t.size := by simpa [sum, Nat.add_assoc] using hsum
    have hN5 : 5 ≤ N0 := hlN
    have HF : Hid (∀ j x, ([f0, f1, f2, f3, f4] : List ByteArray)[j]? = some x → ∀ W : World, Below w2.heap.size w2 W → W.cell? ⟨w1.heap.size, j, none⟩ = some (.string x)) := fun j x hj W hb => by
      have hl : w1.heap.size < w2.heap.size := (Array.getElem?_eq_some_iff.1 H2.out.2.2.1).1
      rw [hb.cell (p := ⟨w1.heap.size, j, none⟩) hl, (blk H2.out.2.2.1).1 j]
      simp only [Lib.cellsOf, List.getElem?_toArray]
      rw [List.getElem?_append_left (by rw [List.length_map]; exact (List.getElem?_eq_some_iff.1 hj).1), List.getElem?_map, hj]
      rfl
    have c4 := HF.out 4 f4 rfl w2 (Below.refl _ _)
    have hl5n : ¬ (5 : Int) < 5 := by omega
    clear k2 z0 hsum hlN h5 hl1 hl5
    go_wp2_with fail
    refine (unquoteT_any f4 w2 (by omega) (HE.out.ext H2.out.2.1)).mono ?_
    rintro e w3 ⟨⟨nm, err, rfl, hnm, herr⟩, hb3⟩
    have k3 : w3.heap[w.heap.size]? = some (.cells #[.string ⟨#[]⟩, .slice none 0 0, .slice none 0 0, .slice none 0 0, .slice none 0 0] 63 (0, 0)) := (hb3.block _ (Array.getElem?_eq_some_iff.1 H2.out.1).1).trans H2.out.1
    have H3 : Hid (w3.heap[w.heap.size]? = some (.cells #[.string ⟨#[]⟩, .slice none 0 0, .slice none 0 0, .slice none 0 0, .slice none 0 0] 63 (0, 0)) ∧ Below w2.heap.size w2 w3 ∧ Below w.heap.size w w3 ∧ w.heap.size + 2 ≤ w3.heap.size ∧ w1.heap.size = w.heap.size + 1) := ⟨k3, hb3, H2.out.2.1.trans (hb3.mono (by have := H2.out.2.2.2.1; omega)), by have := hb3.size; have := H2.out.2.2.2.1; omega, H2.out.2.2.2.2⟩
    have c0 := HF.out 0 f0 rfl w3 hb3
    clear hb3 c4
    obtain rfl | ⟨te, pe, rfl⟩ := herr
    · clear k3
      go_wp2_with fail
      refine (readList_any f0 f0.size w3 (Nat.le_refl _) (by omega) (HE.out.ext H3.out.2.2.1)).mono ?_
      rintro e w4 ⟨hb4, v0, ok0, n0, xs0, rfl, hr0, hn0, hx0⟩
      obtain ⟨a0, cc0, rfl⟩ := ownsRow_shape hr0
      obtain ⟨R0, hR0, hI0⟩ := ints_of_row hr0 hx0
      have hT0 := (rowTy_of_row hr0).base (B1 := w.heap.size) (by have := H3.out.2.2.2.1; omega)
      have H4 : Hid (Below w3.heap.size w3 w4 ∧ (Ints w4 (.slice a0 n0 cc0) n0 R0 ∧ RowTy w.heap.size w4 (.slice a0 n0 cc0) n0) ∧ (∀ i, i < n0 → I64 (R0 i)) ∧ n0 ≤ f0.size + 1 ∧ w3.heap.size ≤ w4.heap.size) := ⟨hb4, ⟨hR0, hT0⟩, hI0, hn0, hb4.size⟩
      clear hb4 hr0 hx0 hR0 hI0 hn0 hT0 c0
      go_wp2_with fail
      refine (sclone_any nm w4 (by omega)).mono ?_
      rintro e w5 ⟨rfl, hb5⟩
      have h5z : w4.heap.size ≤ w5.heap.size := hb5.size
      have H5 : Hid (w5.heap[w.heap.size]? = some (.cells #[.string ⟨#[]⟩, .slice none 0 0, .slice none 0 0, .slice none 0 0, .slice none 0 0] 63 (0, 0)) ∧ Below w2.heap.size w2 w5 ∧ Below w.heap.size w w5 ∧ (Ints w5 (.slice a0 n0 cc0) n0 R0 ∧ RowTy w.heap.size w5 (.slice a0 n0 cc0) n0) ∧ w.heap.size + 2 ≤ w5.heap.size) := by
        have h35 : Below w3.heap.size w3 w5 := H4.out.1.trans (hb5.mono H4.out.2.2.2.2)
        have h23 := H3.out.2.1
        refine ⟨(h35.block _ (Array.getElem?_eq_some_iff.1 H3.out.1).1).trans H3.out.1, h23.trans (h35.mono h23.size), H3.out.2.2.1.trans (h35.mono (by have := H3.out.2.2.2.1; omega)), ⟨H4.out.2.1.1.ext hb5, H4.out.2.1.2.keep (TKeep.below hb5)⟩, ?_⟩
        have := H3.out.2.2.2.1; have := H4.out.2.2.2.2; omega
      clear hb5 h5z
      go_wp2_with fail
      obtain ⟨W6, hW6⟩ : ∃ W6, W6 = w5.alloc (.cells #[.string nm, .slice a0 n0 cc0, .slice none 0 0, .slice none 0 0, .slice none 0 0] 63) := ⟨_, rfl⟩
      rw [← hW6]
      have H6 : Hid (W6.heap[w5.heap.size]? = some (.cells #[.string nm, .slice a0 n0 cc0, .slice none 0 0, .slice none 0 0, .slice none 0 0] 63 (0, 0)) ∧ Below w5.heap.size w5 W6) := ⟨by rw [hW6]; exact heap_alloc_new _ _, by rw [hW6]; exact (Below.refl _ _).alloc (Nat.le_refl _) _⟩
      clear hW6
      go_loopw [8, 42] (fun okv iv wr => ∃ (kz : Int) (ok : Bool), iv = .int .i64 kz ∧ (kz = 0 ∨ kz = 1 ∨ kz = 2 ∨ kz = 3) ∧ okv = .bool ok ∧ ∃ A N C R, LR w w2 w5.heap.size nm (fsz f0.size f1.size f2.size f3.size) wr A N C R) (fun _ i _ => (3 - intOf i).toNat)
      case atStart =>
        have h56 := H6.out.2
        refine ⟨0, ok0, rfl, .inl rfl, rfl, fun q => if q = 0 then a0 else none, fun q => if q = 0 then n0 else 0, fun q => if q = 0 then cc0 else 0, fun q => if q = 0 then R0 else fun _ => 0, H6.out.1, ?_, ?_, ?_, (h56.block _ (Array.getElem?_eq_some_iff.1 H5.out.1).1).trans H5.out.1, H5.out.2.1.trans (h56.mono H5.out.2.1.size), H5.out.2.2.1.trans (h56.mono H5.out.2.2.1.size)⟩
        · refine ⟨fun q hq => ?_, fun q hq => ?_⟩
          · by_cases c : q = 0
            · simp only [c, ↓reduceIte]; exact H5.out.2.2.2.1.1.ext h56
            · simp only [c, ↓reduceIte]; exact GInts.nil _ q hq
          · by_cases c : q = 0
            · simp only [c, ↓reduceIte]; exact H5.out.2.2.2.1.2.keep (TKeep.below h56)
            · simp only [c, ↓reduceIte]; exact fun h => absurd h (Nat.lt_irrefl _)
        · intro q hq
          by_cases c : q = 0
          · simp only [c, ↓reduceIte]; exact H4.out.2.2.1
          · simp only [c, ↓reduceIte]; exact fun _ h => absurd h (Nat.not_lt_zero _)
        · intro q hq
          by_cases c : q = 0
          · subst c; exact H4.out.2.2.2.1
          · simp only [c, ↓reduceIte]; omega
      case round =>
        obtain ⟨kz, ok, rfl, hkz, rfl, A, N, C, R, hLR⟩ := hrel
        have HR : Hid (LR w w2 w5.heap.size nm (fsz f0.size f1.size f2.size f3.size) wr A N C R) := hLR
        have g1 := hLR.1
        have HS : Hid (w2.heap.size ≤ w5.heap.size ∧ w.heap.size < w2.heap.size) := ⟨H5.out.2.1.size, by have := H2.out.2.2.2.1; omega⟩
        clear hLR
        rcases hkz with rfl | rfl | rfl | rfl
        · have ck := HF.out 1 f1 rfl wr HR.out.2.2.2.2.2.1
          obtain ⟨q0, q0f⟩ := blk g1
          go_wp2_with fail
          refine (readList_any f1 f1.size wr (Nat.le_refl _) (by omega) (HE.out.ext HR.out.2.2.2.2.2.2)).mono ?_
          rintro e w7 ⟨hb7, v7, ok7, n7, xs7, rfl, hr7, hn7, hx7⟩
          obtain ⟨a7, c7, rfl⟩ := ownsRow_shape hr7
          obtain ⟨R7, hR7, hI7⟩ := ints_of_row hr7 hx7
          have g7 := (hb7.block _ (Array.getElem?_eq_some_iff.1 g1).1).trans g1
          have H7 : Hid (∃ A' N' C' R', LR w w2 w5.heap.size nm (fsz f0.size f1.size f2.size f3.size) (w7.setCell ⟨w5.heap.size, 1 + 1, none⟩ (.slice a7 n7 c7)) A' N' C' R') := HR.out.step HS.out.1 HS.out.2 hb7 hR7 ((rowTy_of_row hr7).base HR.out.2.2.2.2.2.2.size) hI7 (k := 1) (by omega) hn7
          clear q0 q0f ck g1
          obtain ⟨q0, q0f⟩ := blk g7
          clear hb7 hr7 hx7 hR7 hI7 g7 hn7
          go_wp2
          all_goals exact ⟨⟨1, _, rfl, by omega, rfl, H7.out⟩, by simp [intOf]⟩
        · have ck := HF.out 2 f2 rfl wr HR.out.2.2.2.2.2.1
          obtain ⟨q0, q0f⟩ := blk g1
          go_wp2_with fail
          refine (readList_any f2 f2.size wr (Nat.le_refl _) (by omega) (HE.out.ext HR.out.2.2.2.2.2.2)).mono ?_
          rintro e w7 ⟨hb7, v7, ok7, n7, xs7, rfl, hr7, hn7, hx7⟩
          obtain ⟨a7, c7, rfl⟩ := ownsRow_shape hr7
          obtain ⟨R7, hR7, hI7⟩ := ints_of_row hr7 hx7
          have g7 := (hb7.block _ (Array.getElem?_eq_some_iff.1 g1).1).trans g1
          have H7 : Hid (∃ A' N' C' R', LR w w2 w5.heap.size nm (fsz f0.size f1.size f2.size f3.size) (w7.setCell ⟨w5.heap.size, 2 + 1, none⟩ (.slice a7 n7 c7)) A' N' C' R') := HR.out.step HS.out.1 HS.out.2 hb7 hR7 ((rowTy_of_row hr7).base HR.out.2.2.2.2.2.2.size) hI7 (k := 2) (by omega) hn7
          clear q0 q0f ck g1
          obtain ⟨q0, q0f⟩ := blk g7
          clear hb7 hr7 hx7 hR7 hI7 g7 hn7
          go_wp2
          all_goals exact ⟨⟨2, _, rfl, by omega, rfl, H7.out⟩, by simp [intOf]⟩
        · have ck := HF.out 3 f3 rfl wr HR.out.2.2.2.2.2.1
          obtain ⟨q0, q0f⟩ := blk g1
          go_wp2_with fail
          refine (readList_any f3 f3.size wr (Nat.le_refl _) (by omega) (HE.out.ext HR.out.2.2.2.2.2.2)).mono ?_
          rintro e w7 ⟨hb7, v7, ok7, n7, xs7, rfl, hr7, hn7, hx7⟩
          obtain ⟨a7, c7, rfl⟩ := ownsRow_shape hr7
          obtain ⟨R7, hR7, hI7⟩ := ints_of_row hr7 hx7
          have g7 := (hb7.block _ (Array.getElem?_eq_some_iff.1 g1).1).trans g1
          have H7 : Hid (∃ A' N' C' R', LR w w2 w5.heap.size nm (fsz f0.size f1.size f2.size f3.size) (w7.setCell ⟨w5.heap.size, 3 + 1, none⟩ (.slice a7 n7 c7)) A' N' C' R') := HR.out.step HS.out.1 HS.out.2 hb7 hR7 ((rowTy_of_row hr7).base HR.out.2.2.2.2.2.2.size) hI7 (k := 3) (by omega) hn7
          clear q0 q0f ck g1
          obtain ⟨q0, q0f⟩ := blk g7
          clear hb7 hr7 hx7 hR7 hI7 g7 hn7
          go_wp2
          all_goals exact ⟨⟨3, _, rfl, by omega, rfl, H7.out⟩, by simp [intOf]⟩
        · obtain ⟨q0, q0f⟩ := blk g1
          have p1 := HR.out.2.2.2.2.1
          obtain ⟨p0, p0f⟩ := blk p1
          clear g1 p1
          go_wp2
          refine bodyPost_ret (box_result _ w.heap.size _ _ _ _ _ (set5 HR.out.2.2.2.2.1 _ _ _ _ _) _ ok rfl rfl) rfl ⟨⟨nm, A, N, C, R, ok, rfl, HR.out.2.1.keep (keep5 HR.out.2.2.2.2.1 _ _ _ _ _), HR.out.2.2.1, ?_⟩, below5 HR.out.2.2.2.2.2.2 (Nat.le_refl _) _ _ _ _ _⟩
          have e0 : N 0 ≤ f0.size + 1 := HR.out.2.2.2.1 0 (by omega)
          have e1 : N 1 ≤ f1.size + 1 := HR.out.2.2.2.1 1 (by omega)
          have e2 : N 2 ≤ f2.size + 1 := HR.out.2.2.2.1 2 (by omega)
          have e3 : N 3 ≤ f3.size + 1 := HR.out.2.2.2.1 3 (by omega)
          omega
    · obtain ⟨q0, q0f⟩ := blk k3
      clear k3 c0
      go_wp2
      refine bodyPost_ret (box_result _ w.heap.size _ _ _ _ _ (set5 H3.out.1 _ _ _ _ _) _ false rfl rfl) rfl ⟨⟨⟨#[]⟩, fun _ => none, fun _ => 0, fun _ => 0, fun _ _ => 0, false, rfl, G4.nil _ _, fun _ _ _ h => absurd h (Nat.not_lt_zero _), by show 22 * 0 + 10 * 0 ≤ _; omega⟩, below5 H3.out.2.2.1 (Nat.le_refl _) _ _ _ _ _⟩
end Go.Proofs.YtblkaenlajmhnaaGreatDoor
