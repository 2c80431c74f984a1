/- readList: the numbers between commas. -/
import Derived.Test.YtblkaenlajmhnaaGreatDoorH3
namespace Go.Proofs.YtblkaenlajmhnaaGreatDoor
open Go.RowKit
attribute [local go_sem] Oper.semAt_some
theorem keeps_of_below {W W' : World} (h : Below W.heap.size W W') : KeepsOthers W W' := ⟨h.size, fun k _ hk _ => (h.block k (Array.getElem?_eq_some_iff.1 hk).1).trans hk⟩
theorem Stays.row {B0 c base : Nat} {A B : World} (h : Stays B0 c A B) {e : TypeId} {size : Nat} {v : Value} {n : Nat} {xs : List Value} (hr : A.ownsRow base e size v n xs) (hb : c < base) : B.ownsRow base e size v n xs := by
  refine ⟨hr.1, ?_⟩
  rcases hr.2 with h2 | ⟨g, cap, cur, hv, hg, hh, r⟩
  · exact .inl h2
  · exact .inr ⟨g, cap, cur, hv, hg, h.same _ _ hh (by omega) (.inr rfl), r⟩
theorem Stays.below {B0 c n0 : Nat} {w A B : World} (h : Stays B0 c A B) (hw : Below n0 w A) (h0 : n0 ≤ B0) (hc : n0 ≤ c) (hs : n0 ≤ w.heap.size) : Below n0 w B :=
  ⟨h.os.trans hw.os, h.tape.trans hw.tape, h.output.trans hw.output, Nat.le_trans hw.size h.size, fun b hb => by
    have e := hw.block b hb
    have hl : b < A.heap.size := Nat.lt_of_lt_of_le hb (Nat.le_trans hs hw.size)
    rw [← e]
    exact h.same b _ (Array.getElem?_eq_getElem hl) (by omega) (.inl (by omega)) |>.trans (Array.getElem?_eq_getElem hl).symm⟩
theorem Stays.blk {B0 c : Nat} {A B : World} (h : Stays B0 c A B) {b : Nat} {cs : Array Value} {e : TypeId} {f : Nat × Nat} (hb : A.heap[b]? = some (.cells cs e f)) (hc : b ≠ c) : B.heap[b]? = some (.cells cs e f) := h.same b _ hb hc (.inr rfl)
def six (w : World) (o0 o1 o2 o3 o4 o5 : Obj) : World := (((((w.alloc o0).alloc o1).alloc o2).alloc o3).alloc o4).alloc o5
theorem six_at (w : World) (o0 o1 o2 o3 o4 o5 : Obj) : (six w o0 o1 o2 o3 o4 o5).heap.size = w.heap.size + 6 ∧ Below w.heap.size w (six w o0 o1 o2 o3 o4 o5) ∧
    (six w o0 o1 o2 o3 o4 o5).heap[w.heap.size]? = some o0 ∧ (six w o0 o1 o2 o3 o4 o5).heap[w.heap.size + 1]? = some o1 ∧ (six w o0 o1 o2 o3 o4 o5).heap[w.heap.size + 2]? = some o2 ∧
    (six w o0 o1 o2 o3 o4 o5).heap[w.heap.size + 3]? = some o3 ∧ (six w o0 o1 o2 o3 o4 o5).heap[w.heap.size + 4]? = some o4 ∧ (six w o0 o1 o2 o3 o4 o5).heap[w.heap.size + 5]? = some o5 := by
  have e : (six w o0 o1 o2 o3 o4 o5).heap = (((((w.heap.push o0).push o1).push o2).push o3).push o4).push o5 := rfl
  refine ⟨by rw [e]; simp, ?_, ?_, ?_, ?_, ?_, ?_, ?_⟩
  · exact ((((((Below.refl _ w).alloc (Nat.le_refl _) _).alloc (by simp) _).alloc (by simp; omega) _).alloc (by simp; omega) _).alloc (by simp; omega) _).alloc (by simp; omega) _
  all_goals
    rw [e]
    simp only [Array.getElem?_push, Array.size_push]
    repeat' split
    all_goals first
      | rfl
      | (exfalso; omega)
      | exact absurd trivial (by assumption)
theorem app_block {w1 w2 : World} {base : Nat} {e : TypeId} {size : Nat} {v : Value} {n : Nat} {xs : List Value} {o : Obj} (hr : w1.ownsRow base e size v n xs) (hg : (w1.alloc o).grownBy w2 v.ownBlock) {b : Nat} {q : Obj} (hb : w1.heap[b]? = some q) (hlt : b < base) : w2.heap[b]? = some q := by
  have hl := (Array.getElem?_eq_some_iff.1 hb).1
  refine (hg.block b (by simp; omega) (fun h => ?_)).trans ((Below.heap_alloc w1 o b hl).trans hb)
  have := (hr.lt b h.symm).1
  omega
theorem app_keeps {w1 w2 : World} {base : Nat} {e : TypeId} {size : Nat} {v : Value} {n : Nat} {xs : List Value} {o : Obj} (hr : w1.ownsRow base e size v n xs) (hg : (w1.alloc o).grownBy w2 v.ownBlock) : KeepsOthers w1 w2 := by
  refine (KeepsOthers.alloc w1 o).trans (KeepsOthers.of_grownBy hg fun j q hj hq => ?_)
  rcases hr.2 with ⟨h2, _⟩ | ⟨g, cap, cur, hv, _, hh, _⟩
  · rw [h2] at hj; cases hj
  · rw [hv] at hj
    cases hj
    rw [Below.heap_alloc w1 o _ (Array.getElem?_eq_some_iff.1 hh).1, hh] at hq
    cases hq
    rfl
theorem app_below {w1 w2 : World} {base B : Nat} {e : TypeId} {size : Nat} {v : Value} {n : Nat} {xs : List Value} {o : Obj} (hr : w1.ownsRow base e size v n xs) (hg : (w1.alloc o).grownBy w2 v.ownBlock) (hB : B ≤ base) (hs : B ≤ w1.heap.size) : Below B w1 w2 :=
  ((Below.refl B w1).alloc hs o).grown hg (by simp; omega) (fun k hk => by have := (hr.lt k hk).1; omega)
def Num (u : Value) : Prop := ∃ z, u = .int .i64 z ∧ I64 z
theorem splitSeq_any (s : ByteArray) (w : World) :
    Calls Tryz.prog 100 #[.string s, .string ⟨#[44]⟩] w fun e w' => e = .returned (.func (.func 143) #[] #[.pointer (some ⟨w.heap.size + 1, 0, none⟩), .pointer (some ⟨w.heap.size, 0, none⟩), .pointer (some ⟨w.heap.size + 1 + 1, 0, none⟩)]) ∧
      w' = ((w.alloc (.cells #[.string s] 9)).alloc (.cells #[.string ⟨#[44]⟩] 9)).alloc (.cells #[.int .i64 0] 3) := by
  go_enter Tryz.func100, Tryz.ntmps100
  go_wp2
  go_ret
  exact ⟨rfl, rfl⟩
set_option maxRecDepth 100000 in
set_option maxHeartbeats 4000000 in
theorem readList_in (s : ByteArray) (L : Nat) (w : World) (hs : s.size ≤ L) (hL : L ≤ 1099511627776) (henv : Env w) :
    CallsIn Fence.wide 9 Tryz.prog 78 #[.string s] w fun e w' => Below w.heap.size w w' ∧
      ∃ v ok n xs, e = .returned (.tuple #[v, .bool ok]) ∧ w'.ownsRow w.heap.size 3 1 v n xs ∧ n ≤ L + 1 ∧ ∀ u ∈ xs, Num u := by
  obtain ⟨i0, hi0, hz0, hz1, hz2⟩ := info_parts Tryz.infoInt
  have hut := Tryz.underlying23
  have HE : Hid (Env w) := henv
  clear henv
  refine callsIn_of_wp_marks Tryz.func78 rfl trivial ?_ rfl
  simp only [Tryz.ntmps78, List.size_toArray, List.length_cons, List.length_nil, Nat.reduceAdd, Nat.reduceSub, Array.replicate_succ, Array.replicate_zero, List.push_toArray, List.append_toArray, List.nil_append, List.cons_append]
  gi_wp2
  · refine ⟨_, ?_, ((Below.refl _ _).alloc (Nat.le_refl _) _).alloc (by simp) _, .slice none 0 0, true, 0, [], rfl, World.ownsRow_nil _ _ _ _, by omega, by simp⟩
    simp [results, Tryz.results78, go_sem]
  · refine ⟨trivial, ?_⟩
    refine (callsIn_wide.2 (splitSeq_any s _)).mono ?_
    rintro e w1 ⟨rfl, rfl⟩
    gi_wp2
    obtain ⟨W0, hW0⟩ : ∃ W0, W0 = six w (.cells #[.slice none 0 0] 23) (.cells #[.bool false] 4) (.cells #[.slice none 0 0] 23) (.cells #[.string s] 9) (.cells #[.string ⟨#[44]⟩] 9) (.cells #[.int .i64 0] 3) := ⟨_, rfl⟩
    obtain ⟨z0, b0, k0, k1, k2, k3, k4, k5⟩ := six_at w (.cells #[.slice none 0 0] 23) (.cells #[.bool false] 4) (.cells #[.slice none 0 0] 23) (.cells #[.string s] 9) (.cells #[.string ⟨#[44]⟩] 9) (.cells #[.int .i64 0] 3)
    rw [← hW0] at z0 b0 k0 k1 k2 k3 k4 k5
    have hch := hW0.symm
    unfold six at hch
    rw [hch]
    clear hch hW0
    refine wpIn_range_own (F := Fence.wide) (n := 9) rfl (by omega) (gf := 143) (lb := #[.pointer (some ⟨w.heap.size + 4, 0, none⟩), .pointer (some ⟨w.heap.size + 3, 0, none⟩), .pointer (some ⟨w.heap.size + 5, 0, none⟩)]) rfl trivial (enters_of Tryz.func143 (by kernel_rfl) rfl)
      (split_iter 8 (w.heap.size + 3) (w.heap.size + 4) (w.heap.size + 5) L s W0 (by omega) (by omega) hs k3 k4 k5 (by omega) (by omega)) (by omega) (fun b hb => by omega) (fun x ⟨t, hx, _⟩ => by subst hx; rfl)
      (fun k W => ∃ v n xs, W.heap[w.heap.size + 2]? = some (.cells #[v] 23 (0, 0)) ∧ W.ownsRow (w.heap.size + 6) 3 1 v n xs ∧ n ≤ k ∧ (∀ u ∈ xs, Num u) ∧
        W.heap[w.heap.size]? = some (.cells #[.slice none 0 0] 23 (0, 0)) ∧ W.heap[w.heap.size + 1]? = some (.cells #[.bool false] 4 (0, 0)) ∧ Below w.heap.size w W)
      (fun _ W => W.heap[w.heap.size]? = some (.cells #[.slice none 0 0] 23 (0, 0)) ∧ W.heap[w.heap.size + 1]? = some (.cells #[.bool false] 4 (0, 0)) ∧ Below w.heap.size w W)
      ?fI ?fIx ⟨.slice none 0 0, 0, [], k2, World.ownsRow_nil _ _ _ _, by omega, by simp, k0, k1, b0⟩
      (fun x => { tmps := #[.string s, undef, .pointer (some ⟨w.heap.size, 0, none⟩), .pointer (some ⟨w.heap.size + 1, 0, none⟩), .pointer (some ⟨w.heap.size + 1 + 1, 0, none⟩), x[0]!, undef, undef, .string s, .bool false, .string s,
        .func (.func 143) #[] #[.pointer (some ⟨w.heap.size + 4, 0, none⟩), .pointer (some ⟨w.heap.size + 3, 0, none⟩), .pointer (some ⟨w.heap.size + 5, 0, none⟩)], x[0]!, undef, undef, undef, undef, undef, undef, undef, undef, undef, undef, undef, undef], defers := [] }) ?assign ?body ?done ?stop
    case fI =>
      rintro k A Bw ⟨v, n, xs, h2, hr, hn, hx, h0, h1, hb⟩ hst
      exact ⟨v, n, xs, hst.blk h2 (by omega), hst.row hr (by omega), hn, hx, hst.blk h0 (by omega), hst.blk h1 (by omega), hst.below hb (by omega) (by omega) (Nat.le_refl _)⟩
    case fIx =>
      rintro k A Bw ⟨h0, h1, hb⟩ hst
      exact ⟨hst.blk h0 (by omega), hst.blk h1 (by omega), hst.below hb (by omega) (by omega) (Nat.le_refl _)⟩
    case assign =>
      rintro l x W K ⟨t, rfl, ht⟩ hK
      gi_wp2
      exact hK
    case body =>
      rintro l k x W hsz ⟨v, n, xs, h2, hr, hn, hx, h0, h1, hb⟩ hk ⟨t, rfl, ht⟩
      simp only [show (#[Value.string t] : Array Value)[0]! = Value.string t from rfl]
      obtain ⟨ga, gc, rfl⟩ := ownsRow_shape hr
      have HI : Hid (W.heap[w.heap.size + 2]? = some (.cells #[.slice ga n gc] 23 (0, 0)) ∧ W.ownsRow (w.heap.size + 6) 3 1 (.slice ga n gc) n xs ∧ (∀ u ∈ xs, Num u) ∧
        W.heap[w.heap.size]? = some (.cells #[.slice none 0 0] 23 (0, 0)) ∧ W.heap[w.heap.size + 1]? = some (.cells #[.bool false] 4 (0, 0)) ∧ Below w.heap.size w W) := ⟨h2, hr, hx, h0, h1, hb⟩
      clear h2 hr hx h0 h1 hb
      gi_wp2
      refine ⟨trivial, ?_⟩
      refine (CallsIn.inRound l (callsIn_wide.2 (atoi_any t W (by omega) (HE.out.ext HI.out.2.2.2.2.2)))).mono ?_
      rintro e w1 ⟨hb1, ⟨z, rfl, hz⟩ | ⟨z, te, pe, rfl⟩⟩
      · have g2 := (hb1.block _ (Array.getElem?_eq_some_iff.1 HI.out.1).1).trans HI.out.1
        have g0 := (hb1.block _ (Array.getElem?_eq_some_iff.1 HI.out.2.2.2.1).1).trans HI.out.2.2.2.1
        have g1 := (hb1.block _ (Array.getElem?_eq_some_iff.1 HI.out.2.2.2.2.1).1).trans HI.out.2.2.2.2.1
        have gr := ownsRow_below HI.out.2.1 hb1
        have HG : Hid (w1.heap[w.heap.size + 2]? = some (.cells #[.slice ga n gc] 23 (0, 0)) ∧ w1.ownsRow (w.heap.size + 6) 3 1 (.slice ga n gc) n xs ∧ w1.heap[w.heap.size]? = some (.cells #[.slice none 0 0] 23 (0, 0)) ∧ w1.heap[w.heap.size + 1]? = some (.cells #[.bool false] 4 (0, 0)) ∧ Below W.heap.size W w1 ∧ I64 z) := ⟨g2, gr, g0, g1, hb1, hz⟩
        have hz1w : W.heap.size ≤ w1.heap.size := hb1.size
        obtain ⟨q2, q2f⟩ := blk g2
        clear g0 g1 g2 gr hb1 hz
        gi_wp2_with (gi_at_builtin; refine wpListIn_append_own _ rfl _ _ 23 rfl (w.heap.size + 6) 3 i0 _ 1 8 hut hi0 hz0 hz1 hz2 rfl (by decide) _ n xs rfl (HG.out.2.1.alloc _) ⟨w1.heap.size, 0, none⟩ 1 1 [.int .i64 z] rfl rfl (cell_one_new _ _ _) (by simp [Value.oneCell']) (by unfold maxLen; omega) (by omega) (by simp; omega) ?_; intro v' w2 hown hgrow _; obtain ⟨ga', gc', rfl⟩ := ownsRow_shape hown; have a2 := app_block HG.out.2.1 hgrow HG.out.1 (by omega); obtain ⟨p2, p2f⟩ := blk a2; have HX : Hid (_ ∧ _ ∧ _) := ⟨a2, hown, hgrow⟩; clear a2 hown hgrow q2 q2f)
        obtain ⟨a2, hown, hgrow⟩ := HX.out
        have a0 := app_block HG.out.2.1 hgrow HG.out.2.2.1 (by omega)
        have a1 := app_block HG.out.2.1 hgrow HG.out.2.2.2.1 (by omega)
        have HS : Hid (∀ b, (b = w.heap.size + 3 ∨ b = w.heap.size + 4 ∨ b = w.heap.size + 5) → w2.heap[b]? = W.heap[b]?) := fun b hbb => by
          have hl : b < W.heap.size := by omega
          have e1 := HG.out.2.2.2.2.1.block b hl
          rw [← e1]
          have hl1 : b < w1.heap.size := by omega
          rw [app_block HG.out.2.1 hgrow (Array.getElem?_eq_getElem hl1) (by omega), ← Array.getElem?_eq_getElem hl1]
        have HA : Hid (w2.heap[w.heap.size + 2]? = some (.cells #[.slice ga n gc] 23 (0, 0)) ∧ w2.ownsRow (w.heap.size + 6) 3 1 (.slice ga' (n + 1) gc') (n + 1) (xs ++ [.int .i64 z]) ∧ w2.heap[w.heap.size]? = some (.cells #[.slice none 0 0] 23 (0, 0)) ∧ w2.heap[w.heap.size + 1]? = some (.cells #[.bool false] 4 (0, 0)) ∧
          KeepsOthers W w2 ∧ Below w.heap.size w w2) := ⟨a2, hown, a0, a1, (keeps_of_below HG.out.2.2.2.2.1).trans (app_keeps HG.out.2.1 hgrow), HI.out.2.2.2.2.2.trans ((HG.out.2.2.2.2.1.mono (by omega)).trans (app_below HG.out.2.1 hgrow (by omega) (by omega)))⟩
        refine ⟨(HA.out.2.2.2.2.1.trans (KeepsOthers.setCell _ _ _)).from _, fun b hbb => ?_, .slice ga' (n + 1) gc', n + 1, xs ++ [.int .i64 z], ?_, ?_, by omega, fun u hu => ?_, ?_, ?_, ?_⟩
        · rw [← HS.out b hbb]; exact Below.heap_setCell _ _ _ _ (by show b ≠ w.heap.size + 1 + 1; omega)
        · exact blk_set (i := 0) _ HA.out.1
        · exact ownsRow_setCell_below HA.out.2.1 (by show w.heap.size + 1 + 1 < w.heap.size + 6; omega) _
        · rcases List.mem_append.1 hu with hu | hu
          · exact HI.out.2.2.1 u hu
          · simp at hu; subst hu; exact ⟨z, rfl, HG.out.2.2.2.2.2⟩
        · exact blk_other (a := ⟨w.heap.size + 1 + 1, 0, none⟩) _ HA.out.2.2.1 (by simp; omega)
        · exact blk_other (a := ⟨w.heap.size + 1 + 1, 0, none⟩) _ HA.out.2.2.2.1 (by simp)
        · exact HA.out.2.2.2.2.2.setCell (by show w.heap.size ≤ w.heap.size + 1 + 1; omega) _
      · have g0 := (hb1.block _ (Array.getElem?_eq_some_iff.1 HI.out.2.2.2.1).1).trans HI.out.2.2.2.1
        have g1 := (hb1.block _ (Array.getElem?_eq_some_iff.1 HI.out.2.2.2.2.1).1).trans HI.out.2.2.2.2.1
        have HG : Hid (w1.heap[w.heap.size]? = some (.cells #[.slice none 0 0] 23 (0, 0)) ∧ w1.heap[w.heap.size + 1]? = some (.cells #[.bool false] 4 (0, 0)) ∧ Below W.heap.size W w1) := ⟨g0, g1, hb1⟩
        obtain ⟨q0, q0f⟩ := blk g0
        obtain ⟨q1, q1f⟩ := blk g1
        clear g0 g1 hb1
        gi_wp2
        refine ⟨((keeps_of_below HG.out.2.2).trans ((KeepsOthers.setCell _ _ _).trans (KeepsOthers.setCell _ _ _))).from _, fun b hbb => ?_, ?_, ?_, ?_⟩
        · rw [← HG.out.2.2.block b (by omega)]
          exact (Below.heap_setCell _ _ _ _ (by show b ≠ w.heap.size + 1; omega)).trans (Below.heap_setCell _ _ _ _ (by show b ≠ w.heap.size; omega))
        · exact blk_other (a := ⟨w.heap.size + 1, 0, none⟩) _ (blk_set (i := 0) _ HG.out.1) (by simp)
        · exact blk_set (i := 0) _ (blk_other (a := ⟨w.heap.size, 0, none⟩) _ HG.out.2.1 (by simp))
        · exact ((HI.out.2.2.2.2.2.trans (HG.out.2.2.mono (by omega))).setCell (Nat.le_refl _) _).setCell (by show w.heap.size ≤ w.heap.size + 1; omega) _
    case done =>
      rintro D k W hD hk ⟨v, n, xs, h2, hr, hn, hx, h0, h1, hb⟩ hK
      obtain ⟨ga, gc, rfl⟩ := ownsRow_shape hr
      obtain ⟨q2, q2f⟩ := blk h2
      obtain ⟨q0, q0f⟩ := blk h0
      obtain ⟨q1, q1f⟩ := blk h1
      gi_wp2
      have e0 := blk_other (a := ⟨w.heap.size + 1, 0, none⟩) (.bool true) (blk_set (i := 0) (.slice ga n gc) h0) (by simp)
      have e1 := blk_set (i := 0) (.bool true) (blk_other (a := ⟨w.heap.size, 0, none⟩) (.slice ga n gc) h1 (by simp))
      have eK : ((W.setCell ⟨w.heap.size, 0, none⟩ (.slice ga n gc)).setCell ⟨w.heap.size + 1, 0, none⟩ (.bool true)).heap[D]? = some (.deferred (some [])) :=
        (Below.heap_setCell _ _ _ _ (by show D ≠ w.heap.size + 1; omega)).trans ((Below.heap_setCell _ _ _ _ (by show D ≠ w.heap.size; omega)).trans hK)
      have er := ownsRow_setCell_below (ownsRow_setCell_below hr (a := ⟨w.heap.size, 0, none⟩) (by show w.heap.size < w.heap.size + 6; omega) (.slice ga n gc)) (a := ⟨w.heap.size + 1, 0, none⟩) (by show w.heap.size + 1 < w.heap.size + 6; omega) (.bool true)
      refine ⟨by simp, .inl ⟨_, _, rfl, run_takeDeferred eK, ?_⟩⟩
      obtain ⟨f0, _⟩ := blk ((World.putObj_heap_other (show w.heap.size ≠ D by omega)).trans e0)
      obtain ⟨f1, _⟩ := blk ((World.putObj_heap_other (show w.heap.size + 1 ≠ D by omega)).trans e1)
      refine ⟨_, ?_, ?_, .slice ga n gc, true, n, xs, rfl, ownsRow_base (ownsRow_putObj er _ eK rfl) (by omega), by omega, hx⟩
      · have f00 := (f0 0).trans (show _ = some (Value.slice ga n gc) from rfl)
        have f10 := (f1 0).trans (show _ = some (Value.bool true) from rfl)
        revert f00 f10
        generalize ((W.setCell ⟨w.heap.size, 0, none⟩ (.slice ga n gc)).setCell ⟨w.heap.size + 1, 0, none⟩ (.bool true)).putObj D (.deferred none) = X
        intro f00 f10
        simp [results, Tryz.results78, go_sem, f00, f10]
      · exact ((hb.setCell (Nat.le_refl _) _).setCell (by show w.heap.size ≤ w.heap.size + 1; omega) _).trans (belowK_b (w := w) (Nat.le_refl _) _ D _ _ (by omega) eK rfl rfl)
    case stop =>
      rintro D k W hD hk ⟨h0, h1, hb⟩ hK
      gi_wp2
      refine ⟨by simp, .inl ⟨_, _, rfl, run_takeDeferred hK, ?_⟩⟩
      obtain ⟨f0, _⟩ := blk ((World.putObj_heap_other (show w.heap.size ≠ D by omega)).trans h0)
      obtain ⟨f1, _⟩ := blk ((World.putObj_heap_other (show w.heap.size + 1 ≠ D by omega)).trans h1)
      refine ⟨_, ?_, ?_, .slice none 0 0, false, 0, [], rfl, World.ownsRow_nil _ _ _ _, by omega, by simp⟩
      · have f00 := (f0 0).trans (show _ = some (Value.slice none 0 0) from rfl)
        have f10 := (f1 0).trans (show _ = some (Value.bool false) from rfl)
        revert f00 f10
        generalize W.putObj D (.deferred none) = X
        intro f00 f10
        simp [results, Tryz.results78, go_sem, f00, f10]
      · exact hb.trans (belowK_b (w := w) (Nat.le_refl _) _ D _ _ (by omega) hK rfl rfl)
theorem readList_any (s : ByteArray) (L : Nat) (w : World) (hs : s.size ≤ L) (hL : L ≤ 1099511627776) (henv : Env w) :
    Calls Tryz.prog 78 #[.string s] w fun e w' => Below w.heap.size w w' ∧
      ∃ v ok n xs, e = .returned (.tuple #[v, .bool ok]) ∧ w'.ownsRow w.heap.size 3 1 v n xs ∧ n ≤ L + 1 ∧ ∀ u ∈ xs, Num u := callsIn_wide.1 (readList_in s L w hs hL henv)
end Go.Proofs.YtblkaenlajmhnaaGreatDoor
