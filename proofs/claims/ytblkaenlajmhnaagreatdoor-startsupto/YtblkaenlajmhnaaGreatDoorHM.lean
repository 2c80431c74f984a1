/- Read: the boxes out of a text. -/
import Derived.Test.YtblkaenlajmhnaaGreatDoorHL
namespace Go.Proofs.YtblkaenlajmhnaaGreatDoor
open Go.RowKit
attribute [local go_sem] Oper.semAt_some
def BoxCs (B0 : Nat) (X : World) (D : Nat) (x : List Value) : Prop := ∃ (nm : ByteArray) (A : Nat → Option Addr) (N C : Nat → Nat) (R : Nat → Nat → Int),
  x = [.string nm, .slice (A 0) (N 0) (C 0), .slice (A 1) (N 1) (C 1), .slice (A 2) (N 2) (C 2), .slice (A 3) (N 3) (C 3)] ∧ G4 B0 X A N C R ∧ (∀ q, q < 4 → ∀ i, i < N q → I64 (R q i)) ∧ 22 * (N 0 + N 1 + N 2 + N 3) + 10 * nm.size ≤ D
theorem BoxCs.keep {B0 : Nat} {X Y : World} {D : Nat} {x : List Value} (h : BoxCs B0 X D x) (k : TKeep B0 X Y) : BoxCs B0 Y D x := by
  obtain ⟨nm, A, N, C, R, e, g, r⟩ := h
  exact ⟨nm, A, N, C, R, e, g.keep k, r⟩
theorem BoxCs.base {B0 B1 : Nat} {X : World} {D : Nat} {x : List Value} (h : BoxCs B0 X D x) (hB : B1 ≤ B0) : BoxCs B1 X D x := by
  obtain ⟨nm, A, N, C, R, e, g, r⟩ := h
  exact ⟨nm, A, N, C, R, e, g.base hB, r⟩
theorem BoxCs.len {B0 : Nat} {X : World} {D : Nat} {x : List Value} (h : BoxCs B0 X D x) : x.length = 5 := by
  obtain ⟨nm, A, N, C, R, e, g, r⟩ := h
  rw [e]; rfl
def BoxRow (B0 : Nat) (X : World) (D : Nat) (xs : List Value) : Prop := ∃ l : List (List Value), xs = l.flatten ∧ ∀ x ∈ l, BoxCs B0 X D x
theorem BoxRow.nil (B0 : Nat) (X : World) (D : Nat) : BoxRow B0 X D [] := ⟨[], rfl, by simp⟩
theorem BoxRow.keep {B0 : Nat} {X Y : World} {D : Nat} {xs : List Value} (h : BoxRow B0 X D xs) (k : TKeep B0 X Y) : BoxRow B0 Y D xs := by
  obtain ⟨l, e, hl⟩ := h
  exact ⟨l, e, fun x hx => (hl x hx).keep k⟩
theorem BoxRow.base {B0 B1 : Nat} {X : World} {D : Nat} {xs : List Value} (h : BoxRow B0 X D xs) (hB : B1 ≤ B0) : BoxRow B1 X D xs := by
  obtain ⟨l, e, hl⟩ := h
  exact ⟨l, e, fun x hx => (hl x hx).base hB⟩
theorem BoxRow.app {B0 : Nat} {X : World} {D : Nat} {xs x : List Value} (h : BoxRow B0 X D xs) (hx : BoxCs B0 X D x) : BoxRow B0 X D (xs ++ x) := by
  obtain ⟨l, rfl, hl⟩ := h
  refine ⟨l ++ [x], by simp, fun y hy => ?_⟩
  rcases List.mem_append.1 hy with hy | hy
  · exact hl y hy
  · simp at hy; subst hy; exact hx
theorem flat5 : ∀ (l : List (List Value)), (∀ x ∈ l, x.length = 5) → l.flatten.length = l.length * 5 ∧ ∀ (i j : Nat) (x : List Value), l[i]? = some x → j < 5 → l.flatten[i * 5 + j]? = x[j]?
  | [], _ => ⟨rfl, fun i j x h => by simp at h⟩
  | y :: r, h => by
    have hy : y.length = 5 := h y (by simp)
    obtain ⟨h1, h2⟩ := flat5 r (fun x hx => h x (by simp [hx]))
    refine ⟨by simp only [List.flatten_cons, List.length_append, List.length_cons]; omega, fun i j x hi hj => ?_⟩
    cases i with
    | zero =>
      simp at hi
      subst hi
      rw [List.flatten_cons, Nat.zero_mul, Nat.zero_add, List.getElem?_append_left (by omega)]
    | succ i =>
      rw [List.getElem?_cons_succ] at hi
      rw [List.flatten_cons, List.getElem?_append_right (by omega), hy, show (i + 1) * 5 + j - 5 = i * 5 + j by omega]
      exact h2 i j x hi hj
theorem boxes_of_own {w : World} {base B0 n D : Nat} {v : Value} {xs : List Value} (h : w.ownsRow base 63 5 v n xs) (hx : BoxRow B0 w D xs) : Boxes w v n D := by
  obtain ⟨l, rfl, hl⟩ := hx
  obtain ⟨f1, f2⟩ := flat5 l (fun x hx => (hl x hx).len)
  have hn : l.length = n := by have := h.1; omega
  rcases h.2 with ⟨rfl, h0⟩ | ⟨g, cap, cur, rfl, _, hg, hc, hm, hs, ht⟩
  · rw [h0]; exact ⟨none, 0, rfl, Nat.le_refl _, by omega, fun h => absurd h (Nat.lt_irrefl _)⟩
  · refine ⟨_, cap, rfl, hc, by unfold maxLen at hm; omega, fun h0 => ⟨g, 0, rfl, (Array.getElem?_eq_some_iff.1 hg).1, fun i hi => ?_⟩⟩
    have hi' : i < l.length := by omega
    obtain ⟨nm, A, N, C, R, e, g4, r1, r2⟩ := hl _ (List.getElem_mem hi')
    have c : ∀ j u, j < 5 → (l[i])[j]? = some u → w.cell? ⟨g, 0 + i * 5 + j, none⟩ = some u := fun j u hj hu => by
      have e2 := f2 i j _ (List.getElem?_eq_getElem hi') hj
      rw [hu, ← ht, List.getElem?_take] at e2
      split at e2
      · rw [Nat.zero_add, cell_of_row w g (i * 5 + j) cur _ (0, 0) hg]
        simpa using e2
      · cases e2
    exact ⟨nm, A, N, C, R, c 0 _ (by omega) (by rw [e]; rfl), c 1 _ (by omega) (by rw [e]; rfl), c 2 _ (by omega) (by rw [e]; rfl), c 3 _ (by omega) (by rw [e]; rfl), c 4 _ (by omega) (by rw [e]; rfl), g4.1, r1, r2⟩
theorem info_box : (Tryz.prog.info? 63).map (fun i => (i.zero, i.size, i.bytes)) = some (some (.agg #[.string ⟨#[]⟩, .slice none 0 0, .slice none 0 0, .slice none 0 0, .slice none 0 0]), 5, 112) := by kernel_rfl
theorem und_boxes : Tryz.prog.underlying 35 = some (.slice 63) := by kernel_rfl
theorem two_more {w w1 : World} (h : Below w.heap.size w w1) (hz : w1.heap.size = w.heap.size + 2) (o0 o1 o2 o3 : Obj) (k0 : w1.heap[w.heap.size]? = some o0) (k1 : w1.heap[w.heap.size + 1]? = some o1) (W0 : World) (e : W0 = (w1.alloc o2).alloc o3) :
    W0.heap.size = w.heap.size + 4 ∧ Below w.heap.size w W0 ∧ W0.heap[w.heap.size]? = some o0 ∧ W0.heap[w.heap.size + 1]? = some o1 ∧ W0.heap[w.heap.size + 2]? = some o2 ∧ W0.heap[w.heap.size + 3]? = some o3 := by
  have e' : W0.heap = (w1.heap.push o2).push o3 := by rw [e]; rfl
  refine ⟨by rw [e']; simp; omega, by rw [e]; exact (h.alloc (by omega) _).alloc (by simp; omega) _, ?_, ?_, ?_, ?_⟩
  · rw [e', Array.getElem?_push, if_neg (by simp; omega), Array.getElem?_push, if_neg (by omega), k0]
  · rw [e', Array.getElem?_push, if_neg (by simp; omega), Array.getElem?_push, if_neg (by omega), k1]
  · rw [e', Array.getElem?_push, if_neg (by simp; omega), Array.getElem?_push, if_pos (by omega)]
  · rw [e', Array.getElem?_push, if_pos (by simp; omega)]
theorem lines_any (s : ByteArray) (w : World) : Calls Tryz.prog 48 #[.string s] w fun e w' => e = .returned (.func (.func 73) #[] #[.pointer (some ⟨w.heap.size, 0, none⟩)]) ∧ w' = w.alloc (.cells #[.string s] 9) := by
  go_enter Tryz.func48, Tryz.ntmps48
  go_wp2
  go_ret
  exact ⟨rfl, rfl⟩
theorem cell_five_new2 (w : World) (O : Obj) (a b c d e : Value) (t : TypeId) : ∀ j u, [a, b, c, d, e][j]? = some u → ((w.alloc O).alloc (.cells #[a, b, c, d, e] t)).cell? ((⟨w.heap.size + 1, 0, none⟩ : Addr).add j) = some u := by
  intro j u hj
  have h := heap_alloc_new (w.alloc O) (.cells #[a, b, c, d, e] t)
  rw [World.size_alloc] at h
  have e0 : (⟨w.heap.size + 1, 0, none⟩ : Addr).add j = ⟨w.heap.size + 1, j, none⟩ := by
    by_cases c : j = 0
    · subst c; rfl
    · simp [Addr.add, c]
  rw [e0, (blk h).1 j]
  simpa using hj
theorem app_tkeep {w1 w2 : World} {base B0 : Nat} {e : TypeId} {size : Nat} {v : Value} {n : Nat} {xs : List Value} {o : Obj} (hr : w1.ownsRow base e size v n xs) (he : e ≠ 3) (hg : (w1.alloc o).grownBy w2 v.ownBlock) : TKeep B0 w1 w2 := fun b cs f _ hb => by
  have hl := (Array.getElem?_eq_some_iff.1 hb).1
  refine (hg.block b (by simp; omega) (fun h => ?_)).trans ((Below.heap_alloc w1 o b hl).trans hb)
  rcases hr.2 with ⟨rfl, _⟩ | ⟨g, cap, cur, rfl, _, hh, _⟩
  · simp [Value.ownBlock] at h
  · simp [Value.ownBlock] at h
    subst h
    rw [hh] at hb
    cases hb
    exact he rfl
def ReadPost (L B0 : Nat) (e : Ending) (w' : World) : Prop := ∃ v ok n xs, e = .returned (.tuple #[v, .bool ok]) ∧ w'.ownsRow B0 63 5 v n xs ∧ n ≤ L ∧ BoxRow B0 w' (40 * L + 88) xs
set_option maxRecDepth 100000 in
set_option maxHeartbeats 4000000 in
theorem read_in (s : ByteArray) (L : Nat) (w : World) (hs : s.size ≤ L) (hL : L ≤ 1048576) (henv : Env w) :
    CallsIn Fence.wide 9 Tryz.prog 29 #[.string s] w fun e w' => Below w.heap.size w w' ∧ ReadPost L w.heap.size e w' := by
  obtain ⟨i0, hi0, hz0, hz1, hz2⟩ := info_parts info_box
  have hut := und_boxes
  have HE : Hid (Env w) := henv
  clear henv
  refine callsIn_of_wp_marks Tryz.func29 rfl trivial ?_ rfl
  simp only [Tryz.ntmps29, List.size_toArray, List.length_cons, List.length_nil, Nat.reduceAdd, Nat.reduceSub, Array.replicate_succ, Array.replicate_zero, List.push_toArray, List.append_toArray, List.nil_append, List.cons_append]
  gi_wp2
  refine ⟨trivial, ?_⟩
  refine (callsIn_wide.2 (cut_any s 10 _ (by omega))).mono ?_
  rintro e w1 ⟨⟨ca, cb, cf, rfl, hca, hcb⟩, q, rfl⟩
  obtain ⟨W1, hW1⟩ : ∃ W1, W1 = (((w.alloc (.cells #[.slice none 0 0] 35)).alloc (.cells #[.bool false] 4)).drewN q) := ⟨_, rfl⟩
  rw [← hW1]
  have k0 : W1.heap[w.heap.size]? = some (.cells #[.slice none 0 0] 35 (0, 0)) := by rw [hW1]; exact (Below.heap_alloc (w.alloc _) _ _ (by simp)).trans (heap_alloc_new w _)
  have k1 : W1.heap[w.heap.size + 1]? = some (.cells #[.bool false] 4 (0, 0)) := by
    have := heap_alloc_new (w.alloc (.cells #[.slice none 0 0] 35)) (.cells #[.bool false] 4)
    rw [World.size_alloc] at this
    rw [hW1]; exact this
  have b1 : Below w.heap.size w W1 := by rw [hW1]; exact (((Below.refl _ _).alloc (Nat.le_refl _) _).alloc (by simp) _).drewN q
  have z1 : W1.heap.size = w.heap.size + 2 := by
    rw [hW1]
    show ((w.alloc _).alloc _).heap.size = _
    simp
  clear hW1
  gi_wp2
  refine ⟨trivial, ?_⟩
  refine (callsIn_wide.2 (lines_any cb _)).mono ?_
  rintro e w2 ⟨rfl, rfl⟩
  obtain ⟨W0, hW0⟩ : ∃ W0, W0 = (W1.alloc (.cells #[.slice none 0 0] 35)).alloc (.cells #[.string cb] 9) := ⟨_, rfl⟩
  obtain ⟨z0, b0, k0', k1', k2, k3⟩ := two_more b1 z1 _ _ (.cells #[.slice none 0 0] 35) (.cells #[.string cb] 9) k0 k1 W0 hW0
  simp only [World.size_alloc, z1]
  rw [← hW0]
  clear hW0 k0 k1 b1
  gi_wp2
  refine wpIn_range_own (F := Fence.wide) (n := 9) rfl (by omega) (gf := 73) (lb := #[.pointer (some ⟨w.heap.size + 3, 0, none⟩)]) rfl trivial (enters_of Tryz.func73 (by kernel_rfl) rfl)
    (lines_iter 8 (w.heap.size + 3) L cb W0 (by omega) (by omega) (by omega) k3) (by omega) (fun b hb => by omega) (fun x ⟨t, hx, _⟩ => by subst hx; rfl)
    (fun k W => ∃ v n xs, W.heap[w.heap.size + 2]? = some (.cells #[v] 35 (0, 0)) ∧ W.ownsRow (w.heap.size + 4) 63 5 v n xs ∧ n ≤ k ∧ BoxRow (w.heap.size + 4) W (40 * L + 88) xs ∧
      W.heap[w.heap.size]? = some (.cells #[.slice none 0 0] 35 (0, 0)) ∧ W.heap[w.heap.size + 1]? = some (.cells #[.bool false] 4 (0, 0)) ∧ Below w.heap.size w W)
    (fun _ W => W.heap[w.heap.size]? = some (.cells #[.slice none 0 0] 35 (0, 0)) ∧ W.heap[w.heap.size + 1]? = some (.cells #[.bool false] 4 (0, 0)) ∧ Below w.heap.size w W)
    ?fI ?fIx ⟨.slice none 0 0, 0, [], k2, World.ownsRow_nil _ _ _ _, by omega, BoxRow.nil _ _ _, k0', k1', b0⟩
    (fun x => { tmps := #[.string s, undef, .pointer (some ⟨w.heap.size, 0, none⟩), .pointer (some ⟨w.heap.size + 1, 0, none⟩), .string ca, .string cb, .bool cf, .pointer (some ⟨w.heap.size + 2, 0, none⟩), x[0]!, undef, undef,
      .tuple #[.string ca, .string cb, .bool cf], .string s, .tuple #[.string ca, .string cb, .bool cf], .string ca, .string cb, .bool cf, .string cb, .func (.func 73) #[] #[.pointer (some ⟨w.heap.size + 2 + 1, 0, none⟩)], x[0]!,
      undef, undef, undef, undef, undef, undef, undef, undef, undef, undef, undef, undef, undef, undef, undef, undef], defers := [] }) ?assign ?body ?done ?stop
  case fI =>
    rintro k A Bw ⟨v, n, xs, h2, hr, hn, hx, h0, h1, hb⟩ hst
    exact ⟨v, n, xs, hst.blk h2 (by omega), hst.row hr (by omega), hn, hx.keep (fun b cs f hl e => hst.blk e (by omega)), hst.blk h0 (by omega), hst.blk h1 (by omega), hst.below hb (by omega) (by omega) (Nat.le_refl _)⟩
  case fIx =>
    rintro k A Bw ⟨h0, h1, hb⟩ hst
    exact ⟨hst.blk h0 (by omega), hst.blk h1 (by omega), hst.below hb (by omega) (by omega) (Nat.le_refl _)⟩
  case assign =>
    rintro l x W K ⟨t, rfl, ht⟩ hK
    gi_wp2
    exact hK
  case body =>
    rintro l k x W hsz ⟨v, n, xs, h2, hr, hn, hx, h0, h1, hb⟩ hk ⟨t, rfl, ht⟩
    simp only [show (#[Value.string t] : Array Value)[0]! = Value.string t from rfl]
    obtain ⟨ga, gc, rfl⟩ := ownsRow_shape hr
    have HI : Hid (W.heap[w.heap.size + 2]? = some (.cells #[.slice ga n gc] 35 (0, 0)) ∧ W.ownsRow (w.heap.size + 4) 63 5 (.slice ga n gc) n xs ∧ BoxRow (w.heap.size + 4) W (40 * L + 88) xs ∧
      W.heap[w.heap.size]? = some (.cells #[.slice none 0 0] 35 (0, 0)) ∧ W.heap[w.heap.size + 1]? = some (.cells #[.bool false] 4 (0, 0)) ∧ Below w.heap.size w W) := ⟨h2, hr, hx, h0, h1, hb⟩
    clear h2 hr hx h0 h1 hb
    gi_wp2
    refine ⟨trivial, ?_⟩
    refine (CallsIn.inRound l (callsIn_wide.2 (readLine_any t L W (by omega) (by omega) (HE.out.ext HI.out.2.2.2.2.2)))).mono ?_
    rintro e w1 ⟨⟨nm, A, N, C, R, ok, rfl, hG, hI64, hD⟩, hb1⟩
    unfold BoxV
    have g2 := (hb1.block _ (Array.getElem?_eq_some_iff.1 HI.out.1).1).trans HI.out.1
    have g0 := (hb1.block _ (Array.getElem?_eq_some_iff.1 HI.out.2.2.2.1).1).trans HI.out.2.2.2.1
    have g1 := (hb1.block _ (Array.getElem?_eq_some_iff.1 HI.out.2.2.2.2.1).1).trans HI.out.2.2.2.2.1
    have gr := ownsRow_below HI.out.2.1 hb1
    have hz1w : W.heap.size ≤ w1.heap.size := hb1.size
    have HG : Hid (w1.heap[w.heap.size + 2]? = some (.cells #[.slice ga n gc] 35 (0, 0)) ∧ w1.ownsRow (w.heap.size + 4) 63 5 (.slice ga n gc) n xs ∧ w1.heap[w.heap.size]? = some (.cells #[.slice none 0 0] 35 (0, 0)) ∧ w1.heap[w.heap.size + 1]? = some (.cells #[.bool false] 4 (0, 0)) ∧ Below W.heap.size W w1 ∧ BoxRow (w.heap.size + 4) w1 (40 * L + 88) xs ∧
      BoxCs (w.heap.size + 4) w1 (40 * L + 88) [.string nm, .slice (A 0) (N 0) (C 0), .slice (A 1) (N 1) (C 1), .slice (A 2) (N 2) (C 2), .slice (A 3) (N 3) (C 3)]) :=
      ⟨g2, gr, g0, g1, hb1, HI.out.2.2.1.keep (.below hb1), nm, A, N, C, R, rfl, hG.base (by omega), hI64, hD⟩
    clear gr hb1 hG hI64 hD
    have al : ∀ (b : Nat) (o : Obj), w1.heap[b]? = some o → (w1.alloc (.cells #[.string nm, .slice (A 0) (N 0) (C 0), .slice (A 1) (N 1) (C 1), .slice (A 2) (N 2) (C 2), .slice (A 3) (N 3) (C 3)] 63)).heap[b]? = some o := fun b o h => (Below.heap_alloc w1 _ b (Array.getElem?_eq_some_iff.1 h).1).trans h
    cases ok with
    | false =>
      obtain ⟨q0, q0f⟩ := blk (al _ _ g0)
      obtain ⟨q1, q1f⟩ := blk (al _ _ g1)
      have HA : Hid (_ ∧ _) := ⟨al _ _ g0, al _ _ g1⟩
      clear g0 g1 g2 al
      gi_wp2
      refine ⟨((keeps_of_below (HG.out.2.2.2.2.1.trans ((Below.refl _ _).alloc hz1w (.cells #[.string nm, .slice (A 0) (N 0) (C 0), .slice (A 1) (N 1) (C 1), .slice (A 2) (N 2) (C 2), .slice (A 3) (N 3) (C 3)] 63)))).trans ((KeepsOthers.setCell _ _ _).trans (KeepsOthers.setCell _ _ _))).from _, fun b hbb => ?_, ?_, ?_, ?_⟩
      · rw [← HG.out.2.2.2.2.1.block b (by omega), ← Below.heap_alloc w1 (.cells #[.string nm, .slice (A 0) (N 0) (C 0), .slice (A 1) (N 1) (C 1), .slice (A 2) (N 2) (C 2), .slice (A 3) (N 3) (C 3)] 63) b (by omega)]
        exact (Below.heap_setCell _ _ _ _ (by show b ≠ w.heap.size + 1; omega)).trans (Below.heap_setCell _ _ _ _ (by show b ≠ w.heap.size; omega))
      · exact blk_other (a := ⟨w.heap.size + 1, 0, none⟩) _ (blk_set (i := 0) _ HA.out.1) (by simp)
      · exact blk_set (i := 0) _ (blk_other (a := ⟨w.heap.size, 0, none⟩) _ HA.out.2 (by simp))
      · exact (((HI.out.2.2.2.2.2.trans (HG.out.2.2.2.2.1.mono (by omega))).alloc (by omega) _).setCell (Nat.le_refl _) _).setCell (by show w.heap.size ≤ w.heap.size + 1; omega) _
    | true =>
      obtain ⟨q2, q2f⟩ := blk (al _ _ g2)
      have HC : Hid (∀ (b : Nat) (o : Obj), w1.heap[b]? = some o → (w1.alloc (.cells #[.string nm, .slice (A 0) (N 0) (C 0), .slice (A 1) (N 1) (C 1), .slice (A 2) (N 2) (C 2), .slice (A 3) (N 3) (C 3)] 63)).heap[b]? = some o) := al
      have HB : Hid ((w1.alloc (.cells #[.string nm, .slice (A 0) (N 0) (C 0), .slice (A 1) (N 1) (C 1), .slice (A 2) (N 2) (C 2), .slice (A 3) (N 3) (C 3)] 63)).ownsRow (w.heap.size + 4) 63 5 (.slice ga n gc) n xs ∧ (w1.alloc (.cells #[.string nm, .slice (A 0) (N 0) (C 0), .slice (A 1) (N 1) (C 1), .slice (A 2) (N 2) (C 2), .slice (A 3) (N 3) (C 3)] 63)).heap[w.heap.size + 2]? = some (.cells #[.slice ga n gc] 35 (0, 0))) := ⟨HG.out.2.1.alloc _, al _ _ g2⟩
      clear g0 g1 g2 al
      gi_wp2_with (gi_at_builtin; refine wpListIn_append_own _ rfl _ _ 35 rfl (w.heap.size + 4) 63 i0 _ 5 112 hut hi0 hz0 hz1 hz2 rfl (by decide) _ n xs rfl (HB.out.1.alloc _) ⟨w1.heap.size + 1, 0, none⟩ 1 1 [.string nm, .slice (A 0) (N 0) (C 0), .slice (A 1) (N 1) (C 1), .slice (A 2) (N 2) (C 2), .slice (A 3) (N 3) (C 3)] rfl rfl (cell_five_new2 _ _ _ _ _ _ _ _) (by simp [Value.oneCell']) (by unfold maxLen; omega) (by omega) (by simp; omega) ?_; intro v' w2 hown hgrow _; obtain ⟨ga', gc', rfl⟩ := ownsRow_shape hown; have a2 := app_block HB.out.1 hgrow HB.out.2 (by omega); obtain ⟨p2, p2f⟩ := blk a2; have HX : Hid (_ ∧ _ ∧ _) := ⟨a2, hown, hgrow⟩; clear a2 hown hgrow q2 q2f)
      obtain ⟨a2, hown, hgrow⟩ := HX.out
      have a0 := app_block HB.out.1 hgrow (HC.out _ _ HG.out.2.2.1) (by omega)
      have a1 := app_block HB.out.1 hgrow (HC.out _ _ HG.out.2.2.2.1) (by omega)
      have b01 : Below w1.heap.size w1 (w1.alloc (.cells #[.string nm, .slice (A 0) (N 0) (C 0), .slice (A 1) (N 1) (C 1), .slice (A 2) (N 2) (C 2), .slice (A 3) (N 3) (C 3)] 63)) := (Below.refl _ _).alloc (Nat.le_refl _) _
      have tk : TKeep (w.heap.size + 4) w1 w2 := (TKeep.below b01).trans (app_tkeep HB.out.1 (by decide) hgrow)
      have hs3 : w2.heap[w.heap.size + 3]? = W.heap[w.heap.size + 3]? := by
        have hl : w.heap.size + 3 < W.heap.size := by omega
        have hl1 : w.heap.size + 3 < w1.heap.size := by omega
        rw [← HG.out.2.2.2.2.1.block _ hl, app_block HB.out.1 hgrow (HC.out _ _ (Array.getElem?_eq_getElem hl1)) (by omega), ← Array.getElem?_eq_getElem hl1]
      have HS : Hid (w2.heap[w.heap.size + 3]? = W.heap[w.heap.size + 3]?) := hs3
      have HA : Hid (KeepsOthers W w2 ∧ Below w.heap.size w w2) := ⟨(keeps_of_below (HG.out.2.2.2.2.1.trans (b01.mono hz1w))).trans (app_keeps HB.out.1 hgrow), HI.out.2.2.2.2.2.trans (((HG.out.2.2.2.2.1.mono (by omega)).trans (b01.mono (by omega))).trans (app_below HB.out.1 hgrow (by omega) (by simp; omega)))⟩
      have tk2 : TKeep (w.heap.size + 4) w2 (w2.setCell ⟨w.heap.size + 2, 0, none⟩ (.slice ga' (n + 1) gc')) := .setCell a2 (by decide) _ _
      refine ⟨(HA.out.1.trans (KeepsOthers.setCell _ _ _)).from _, fun b hbb => ?_, .slice ga' (n + 1) gc', n + 1, xs ++ [.string nm, .slice (A 0) (N 0) (C 0), .slice (A 1) (N 1) (C 1), .slice (A 2) (N 2) (C 2), .slice (A 3) (N 3) (C 3)], ?_, ?_, by omega, ?_, ?_, ?_, ?_⟩
      · subst hbb
        rw [← HS.out]; exact Below.heap_setCell _ _ _ _ (by show w.heap.size + 3 ≠ w.heap.size + 2; omega)
      · exact blk_set (i := 0) _ a2
      · exact ownsRow_setCell_below hown (by show w.heap.size + 2 < w.heap.size + 4; omega) _
      · exact (HG.out.2.2.2.2.2.1.app HG.out.2.2.2.2.2.2).keep (tk.trans tk2)
      · exact blk_other (a := ⟨w.heap.size + 2, 0, none⟩) _ a0 (by simp)
      · exact blk_other (a := ⟨w.heap.size + 2, 0, none⟩) _ a1 (by simp)
      · exact HA.out.2.setCell (by show w.heap.size ≤ w.heap.size + 2; omega) _
  case done =>
    rintro D k W hD hk ⟨v, n, xs, h2, hr, hn, hx, h0, h1, hb⟩ hK
    obtain ⟨ga, gc, rfl⟩ := ownsRow_shape hr
    have hnD : n * (40 * L + 88 + 12) ≤ 1048576 * (40 * 1048576 + 100) := Nat.mul_le_mul (by omega) (by omega)
    have HI : Hid (W.heap[w.heap.size + 2]? = some (.cells #[.slice ga n gc] 35 (0, 0)) ∧ W.ownsRow (w.heap.size + 4) 63 5 (.slice ga n gc) n xs ∧ BoxRow (w.heap.size + 4) W (40 * L + 88) xs ∧
      W.heap[w.heap.size]? = some (.cells #[.slice none 0 0] 35 (0, 0)) ∧ W.heap[w.heap.size + 1]? = some (.cells #[.bool false] 4 (0, 0)) ∧ Below w.heap.size w W ∧ W.heap[D]? = some (.deferred (some []))) := ⟨h2, hr, hx, h0, h1, hb, hK⟩
    obtain ⟨q2, q2f⟩ := blk h2
    clear h2 hr hx h0 h1 hb hK
    gi_wp2
    refine ⟨trivial, ?_⟩
    refine (callsIn_wide.2 (text_any _ n (40 * L + 88) W (boxes_of_own HI.out.2.1 HI.out.2.2.1) (by omega) (by omega) (by omega) (HE.out.ext HI.out.2.2.2.2.2.1))).mono ?_
    rintro e w4 ⟨⟨tt, rfl, htt⟩, hb4⟩
    have g2 := (hb4.block _ (Array.getElem?_eq_some_iff.1 HI.out.1).1).trans HI.out.1
    have g0 := (hb4.block _ (Array.getElem?_eq_some_iff.1 HI.out.2.2.2.1).1).trans HI.out.2.2.2.1
    have g1 := (hb4.block _ (Array.getElem?_eq_some_iff.1 HI.out.2.2.2.2.1).1).trans HI.out.2.2.2.2.1
    have gK := (hb4.block _ (Array.getElem?_eq_some_iff.1 HI.out.2.2.2.2.2.2).1).trans HI.out.2.2.2.2.2.2
    have hzW : w.heap.size ≤ W.heap.size := HI.out.2.2.2.2.2.1.size
    have H4 : Hid (w4.ownsRow (w.heap.size + 4) 63 5 (.slice ga n gc) n xs ∧ BoxRow (w.heap.size + 4) w4 (40 * L + 88) xs ∧ Below w.heap.size w w4 ∧
      w4.heap[w.heap.size]? = some (.cells #[.slice none 0 0] 35 (0, 0)) ∧ w4.heap[w.heap.size + 1]? = some (.cells #[.bool false] 4 (0, 0)) ∧ w4.heap[D]? = some (.deferred (some []))) :=
      ⟨ownsRow_below HI.out.2.1 hb4, HI.out.2.2.1.keep (.below hb4), HI.out.2.2.2.2.2.1.trans (hb4.mono hzW), g0, g1, gK⟩
    clear q2 q2f hb4 gK
    obtain ⟨q2, q2f⟩ := blk g2
    obtain ⟨q0, q0f⟩ := blk g0
    obtain ⟨q1, q1f⟩ := blk g1
    clear g0 g1 g2
    have fin : ∀ (v : Value) (ok : Bool) (n' : Nat) (xs' : List Value) (tmps : Array Value), w4.ownsRow (w.heap.size + 4) 63 5 v n' xs' → n' ≤ L → BoxRow (w.heap.size + 4) w4 (40 * L + 88) xs' → tmps.getD 2 undef = .pointer (some ⟨w.heap.size, 0, none⟩) → tmps.getD 3 undef = .pointer (some ⟨w.heap.size + 1, 0, none⟩) →
        bodyPostM Fence.wide 9 Tryz.prog Tryz.f29 (fun e w' => Below w.heap.size w w' ∧ ReadPost L w.heap.size e w') Exit.ret { tmps := tmps, defers := [{ target := .collected D, args := #[] }] } ((w4.setCell ⟨w.heap.size, 0, none⟩ v).setCell ⟨w.heap.size + 1, 0, none⟩ (.bool ok)) := fun v ok n' xs' tmps hr hn' hx t2 t3 => by
      have e0 := blk_other (a := ⟨w.heap.size + 1, 0, none⟩) (.bool ok) (blk_set (i := 0) v H4.out.2.2.2.1) (by simp)
      have e1 := blk_set (i := 0) (.bool ok) (blk_other (a := ⟨w.heap.size, 0, none⟩) v H4.out.2.2.2.2.1 (by simp))
      have eK : ((w4.setCell ⟨w.heap.size, 0, none⟩ v).setCell ⟨w.heap.size + 1, 0, none⟩ (.bool ok)).heap[D]? = some (.deferred (some [])) :=
        (Below.heap_setCell _ _ _ _ (by show D ≠ w.heap.size + 1; omega)).trans ((Below.heap_setCell _ _ _ _ (by show D ≠ w.heap.size; omega)).trans H4.out.2.2.2.2.2)
      have er := ownsRow_setCell_below (ownsRow_setCell_below hr (a := ⟨w.heap.size, 0, none⟩) (by show w.heap.size < w.heap.size + 4; omega) v) (a := ⟨w.heap.size + 1, 0, none⟩) (by show w.heap.size + 1 < w.heap.size + 4; omega) (.bool ok)
      have tk0 : TKeep (w.heap.size + 4) w4 (w4.setCell ⟨w.heap.size, 0, none⟩ v) := .setCell H4.out.2.2.2.1 (by decide) _ _
      have tk1 : TKeep (w.heap.size + 4) (w4.setCell ⟨w.heap.size, 0, none⟩ v) ((w4.setCell ⟨w.heap.size, 0, none⟩ v).setCell ⟨w.heap.size + 1, 0, none⟩ (.bool ok)) := .setCell (blk_other (a := ⟨w.heap.size, 0, none⟩) v H4.out.2.2.2.2.1 (by simp)) (by decide) _ _
      have tk2 : TKeep (w.heap.size + 4) ((w4.setCell ⟨w.heap.size, 0, none⟩ v).setCell ⟨w.heap.size + 1, 0, none⟩ (.bool ok)) (((w4.setCell ⟨w.heap.size, 0, none⟩ v).setCell ⟨w.heap.size + 1, 0, none⟩ (.bool ok)).putObj D (.deferred none)) := fun b cs f _ hb => (World.putObj_heap_other (fun e => by subst e; rw [eK] at hb; cases hb)).trans hb
      refine ⟨by simp, .inl ⟨_, _, rfl, run_takeDeferred eK, ?_⟩⟩
      obtain ⟨f0, _⟩ := blk ((World.putObj_heap_other (show w.heap.size ≠ D by omega)).trans e0)
      obtain ⟨f1, _⟩ := blk ((World.putObj_heap_other (show w.heap.size + 1 ≠ D by omega)).trans e1)
      refine ⟨_, ?_, ?_, v, ok, n', xs', rfl, ownsRow_base (ownsRow_putObj er _ eK rfl) (by omega), hn', (hx.keep ((tk0.trans tk1).trans tk2)).base (by omega)⟩
      · have f00 := (f0 0).trans (show _ = some v from rfl)
        have f10 := (f1 0).trans (show _ = some (Value.bool ok) from rfl)
        revert f00 f10
        generalize ((w4.setCell ⟨w.heap.size, 0, none⟩ v).setCell ⟨w.heap.size + 1, 0, none⟩ (.bool ok)).putObj D (.deferred none) = X
        intro f00 f10
        rw [Array.getD_eq_getD_getElem?] at t2 t3
        simp [results, Tryz.results29, go_sem, t2, t3, f00, f10]
      · exact ((H4.out.2.2.1.setCell (Nat.le_refl _) _).setCell (by show w.heap.size ≤ w.heap.size + 1; omega) _).trans (belowK_b (w := w) (Nat.le_refl _) _ D _ _ (by omega) eK rfl rfl)
    have FIN := show Hid _ from fin
    clear fin
    gi_wp2
    · exact FIN.out (.slice none 0 0) false 0 [] _ (World.ownsRow_nil _ _ _ _) (by omega) (BoxRow.nil _ _ _) rfl rfl
    · exact FIN.out (.slice ga n gc) true n xs _ H4.out.1 (by omega) H4.out.2.1 rfl rfl
  case stop =>
    rintro D k W hD hk ⟨h0, h1, hb⟩ hK
    gi_wp2
    refine ⟨by simp, .inl ⟨_, _, rfl, run_takeDeferred hK, ?_⟩⟩
    obtain ⟨f0, _⟩ := blk ((World.putObj_heap_other (show w.heap.size ≠ D by omega)).trans h0)
    obtain ⟨f1, _⟩ := blk ((World.putObj_heap_other (show w.heap.size + 1 ≠ D by omega)).trans h1)
    refine ⟨_, ?_, ?_, .slice none 0 0, false, 0, [], rfl, World.ownsRow_nil _ _ _ _, by omega, BoxRow.nil _ _ _⟩
    · have f00 := (f0 0).trans (show _ = some (Value.slice none 0 0) from rfl)
      have f10 := (f1 0).trans (show _ = some (Value.bool false) from rfl)
      revert f00 f10
      generalize W.putObj D (.deferred none) = X
      intro f00 f10
      simp [results, Tryz.results29, go_sem, f00, f10]
    · exact hb.trans (belowK_b (w := w) (Nat.le_refl _) _ D _ _ (by omega) hK rfl rfl)
theorem read_any (s : ByteArray) (L : Nat) (w : World) (hs : s.size ≤ L) (hL : L ≤ 1048576) (henv : Env w) :
    Calls Tryz.prog 29 #[.string s] w fun e w' => Below w.heap.size w w' ∧ ReadPost L w.heap.size e w' := callsIn_wide.1 (read_in s L w hs hL henv)
end Go.Proofs.YtblkaenlajmhnaaGreatDoor
