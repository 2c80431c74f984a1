/- Starts: any machine, any files, any names that run. -/
import Derived.Test.YtblkaenlajmhnaaGreatDoorI9
import Derived.Test.YtblkaenlajmhnaaGreatDoorL4
import Derived.Test.YtblkaenlajmhnaaGreatDoorR2
import Derived.Test.YtblkaenlajmhnaaGreatDoorJ1
import Derived.Test.YtblkaenlajmhnaaGreatDoorU2
namespace Go.Proofs.YtblkaenlajmhnaaGreatDoor
open Go.RowKit
attribute [local go_sem ↓] Go.wp_at_zero Go.wp_at_succ
attribute [local go_sem] After.cell After.frozen After.const
theorem BerthIs.low {w : World} {base base' bb : Nat} {m : Mach} {vc vr : Value} (h : BerthIs w base bb m vc vr) (hb : base' ≤ base) : BerthIs w base' bb m vc vr := by
  obtain ⟨h1, h2, h3, h4, h5, h6⟩ := h
  exact ⟨h1, ownsRow_base h2 hb, ownsRow_base h3 hb, Nat.le_trans hb h4, h5, h6⟩
def Told (cor : Bool) (e : Ending) : Prop := ∃ a n c, e = .returned (.slice a n c) ∧ (cor = true → n = 0)
theorem woken_boxes {m : Mach} {B0 L bb : Nat} {vc vr : Value} {cor : Bool} {w w' : World} (hL : L ≤ 1048576) (h : (cor = true ∧ BerthIs w B0 bb m vc vr) ∨ (cor = false ∧ Boxed m B0 L bb vc vr w)) (hb : Below w.heap.size w w') :
    Calls Tryz.prog 8 #[.pointer (some ⟨bb, 0, none⟩)] w' fun e w2 => Told cor e ∧ Below w'.heap.size w' w2 := by
  rcases h with ⟨rfl, hB⟩ | ⟨rfl, bv, dv, n, xs, hblk, hown, hn, hrow⟩
  · refine (boxes_nil bb B0 m vc vr w' (hB.ext hb)).mono ?_
    rintro e w2 ⟨⟨a, c, rfl⟩, hb2⟩
    exact ⟨⟨a, 0, c, rfl, fun _ => rfl⟩, hb2⟩
  · refine (boxes_any bb B0 n (40 * L + 88) _ _ _ _ _ _ bv _ _ _ xs w' ((hb.block bb (Array.getElem?_eq_some_iff.1 hblk).1).trans hblk) (by omega) (by omega) (ownsRow_below hown hb) (hrow.keep (.below hb))).mono ?_
    rintro e w2 ⟨⟨a, k, c, rfl⟩, hb2⟩
    exact ⟨⟨a, k, c, rfl, fun h => (by cases h)⟩, hb2⟩
def a1 (a : Option Addr) (q : Nat) : Option Addr := match q with | 0 => a | _ => none
def n1 (n : Nat) (q : Nat) : Nat := match q with | 0 => n | _ => 0
theorem grant1_ints {w : World} {base n c : Nat} {a : Option Addr} {m : Mach} (hn : n = (freeN m m.n).length) (h : w.ownsRow base 3 1 (.slice a n c) n (freeV m m.n)) : GInts w (a1 a) (n1 n) (n1 c) (fun _ j => (((freeN m m.n)[j]?.getD 0 : Nat) : Int)) := fun q hq => by
  subst hn
  rcases (show q = 0 ∨ q = 1 ∨ q = 2 ∨ q = 3 by omega) with rfl | rfl | rfl | rfl
  · exact freeV_ints h
  · exact ⟨none, 0, rfl, Nat.le_refl _, Nat.zero_le _, fun h => absurd h (Nat.lt_irrefl _)⟩
  · exact ⟨none, 0, rfl, Nat.le_refl _, Nat.zero_le _, fun h => absurd h (Nat.lt_irrefl _)⟩
  · exact ⟨none, 0, rfl, Nat.le_refl _, Nat.zero_le _, fun h => absurd h (Nat.lt_irrefl _)⟩
theorem same_free {w : World} {ba bb n c d : Nat} {a b : Option Addr} {m : Mach} (hn : n = (freeN m m.n).length) (h : w.ownsRow ba 3 1 (.slice a n c) n (freeV m m.n)) (h' : w.ownsRow bb 3 1 (.slice b n d) n (freeV m m.n)) :
    Calls Tryz.prog 12 #[.agg #[.slice a n c, .slice none 0 0, .slice none 0 0, .slice none 0 0], .agg #[.slice b n d, .slice none 0 0, .slice none 0 0, .slice none 0 0]] w fun e w' => e = .returned (.bool true) ∧ Below w.heap.size w w' :=
  (sameGrant_any (a1 a) (a1 b) (n1 n) (n1 c) (n1 n) (n1 d) _ _ w (grant1_ints hn h) (grant1_ints hn h')).mono (fun _ _ h => ⟨h.1.is_true (fun _ _ => ⟨rfl, fun _ _ => rfl⟩), h.2⟩)
structure Keep (m : Mach) (w wr : World) (e1 e4 cb rb : Nat) (nv : Value) (k : Nat) : Prop where
  below : Below w.heap.size w wr
  box : wr.heap[e1]? = some (.cells #[.slice m.ao m.n m.cap, .slice m.ro m.r m.rcap, .int .i64 m.p] 25 (0, 0))
  hand : wr.heap[e4]? = some (.cells #[.slice (some ⟨cb, 0, none⟩) m.n (m.n + 8), .slice (some ⟨rb, 0, none⟩) m.r (m.r + 8), .int .i64 m.p] 25 (0, 0))
  c : wr.rowIs cb 46 ((m.n + 8) * 3) (hC m)
  r : wr.rowIs rb 3 (m.r + 8) (hR m)
  names : Names wr nv k
  mach : m.At wr
theorem Keep.ext {m : Mach} {w wr w2 : World} {e1 e4 cb rb k : Nat} {nv : Value} (h : Keep m w wr e1 e4 cb rb nv k) (hb : Below wr.heap.size wr w2) : Keep m w w2 e1 e4 cb rb nv k :=
  ⟨h.below.trans (hb.mono h.below.size), (hb.block _ (Array.getElem?_eq_some_iff.1 h.box).1).trans h.box, (hb.block _ (Array.getElem?_eq_some_iff.1 h.hand).1).trans h.hand, h.c.of_block (hb.block _ h.c.lt), h.r.of_block (hb.block _ h.r.lt), h.names.ext (Nat.le_refl _) hb, h.mach.ext hb⟩
set_option maxRecDepth 100000 in
set_option maxHeartbeats 2000000 in
theorem starts_any (m : Mach) (fv nv : Value) (n k L : Nat) (w : World) (hm : m.At w) (hnm : Names w nv k) (hfl : Files w fv n L) (hfn : n * 16 ≤ 140737488355328) (hL : L ≤ 1048576) (henv : Env w) :
    Calls Tryz.prog 3 #[m.val, fv, nv] w fun e w' => e = .returned (.bool true) ∧ Below w.heap.size w w' := by
  show Calls Tryz.prog 3 #[.agg #[.slice m.ao m.n m.cap, .slice m.ro m.r m.rcap, .int .i64 m.p], fv, nv] w _
  go_enter Tryz.func3, Tryz.ntmps3
  have HM := HidI (And.intro hm (And.intro hnm (And.intro hfl henv)))
  have hm24 : m.ok → m.n ≤ 24 := fun h => by simp only [Mach.ok, okM] at h; omega
  have HT := HidI hm24
  clear hm hnm hfl henv hm24
  go_wp2_with fail
  obtain ⟨W0, hW0⟩ : ∃ W, W = w.alloc (.cells #[.slice m.ao m.n m.cap, .slice m.ro m.r m.rcap, .int .i64 m.p] 25) := ⟨_, rfl⟩
  obtain ⟨e1, he1⟩ : ∃ e, e = w.heap.size := ⟨_, rfl⟩
  have B0 : Below w.heap.size w W0 := by rw [hW0]; exact (Below.refl _ _).alloc (Nat.le_refl _) _
  have K1 : W0.heap[e1]? = some (.cells #[.slice m.ao m.n m.cap, .slice m.ro m.r m.rcap, .int .i64 m.p] 25 (0, 0)) := by rw [hW0, he1]; exact heap_alloc_new _ _
  rw [← hW0, ← he1]
  have H0 := HidI (And.intro B0 K1)
  clear hW0 he1 B0 K1
  refine Calls.mono (handed_any m W0 (HM.out.1.ext H0.out.1)) ?_
  rintro e w1 ⟨cb, rb, rfl, q1, q2, q3, q4, q5, q6⟩
  have H1 := HidI (And.intro q4 (And.intro q5 (And.intro (H0.out.1.trans (q6.mono H0.out.1.size)) ((q6.block e1 (Array.getElem?_eq_some_iff.1 H0.out.2).1).trans H0.out.2))))
  clear q1 q2 q3 q4 q5 q6 H0
  clear W0
  go_wp2_with fail
  obtain ⟨W1, hW1⟩ : ∃ W, W = w1.alloc (.cells #[.slice (some ⟨cb, 0, none⟩) m.n (m.n + 8), .slice (some ⟨rb, 0, none⟩) m.r (m.r + 8), .int .i64 m.p] 25) := ⟨_, rfl⟩
  obtain ⟨e4, he4⟩ : ∃ e, e = w1.heap.size := ⟨_, rfl⟩
  have B1 : Below w1.heap.size w1 W1 := by rw [hW1]; exact (Below.refl _ _).alloc (Nat.le_refl _) _
  have K4 : W1.heap[e4]? = some (.cells #[.slice (some ⟨cb, 0, none⟩) m.n (m.n + 8), .slice (some ⟨rb, 0, none⟩) m.r (m.r + 8), .int .i64 m.p] 25 (0, 0)) := by rw [hW1, he4]; exact heap_alloc_new _ _
  have hK : Keep m w W1 e1 e4 cb rb nv k := by
    have hbw : Below w.heap.size w W1 := H1.out.2.2.1.trans (B1.mono H1.out.2.2.1.size)
    exact ⟨hbw, (B1.block e1 (Array.getElem?_eq_some_iff.1 H1.out.2.2.2).1).trans H1.out.2.2.2, K4, H1.out.1.of_block (B1.block cb H1.out.1.lt), H1.out.2.1.of_block (B1.block rb H1.out.2.1.lt), HM.out.2.1.ext (Nat.le_refl _) hbw, HM.out.1.ext hbw⟩
  have H2 := HidI hK
  rw [← hW1, ← he4]
  clear hW1 he4 B1 K4 hK H1
  clear w1
  refine Calls.mono (restart_any m cb rb k n L fv nv W1 HM.out.1.nmax HM.out.1.rmax H2.out.c H2.out.r H2.out.names (HM.out.2.2.1.ext H2.out.below) hfn hL (HM.out.2.2.2.ext H2.out.below) HT.out) ?_
  rintro e w2 ⟨hwk, hb2⟩
  have H3 := HidI (H2.out.ext hb2)
  clear hb2
  rcases hwk with ⟨hno, rfl⟩ | ⟨hok, bb, vc, vr, cor, rfl, hbB, hor⟩
  · have HN := HidI hno
    clear hno H2
    have z1 := (blk H3.out.box).1
    go_wp2_with fail
    clear z1
    refine Calls.mono (isMachine_any m w2 H3.out.mach) ?_
    rintro e w3 ⟨ha, b3⟩
    obtain rfl := ha.is_false HN.out
    have H4 := HidI (H3.out.ext b3)
    clear ha b3
    go_wp2_with (go_at_call 7; refine Calls.mono (num_any 1 w3) ?_; rintro e w4 ⟨rfl, hw4⟩; obtain rfl := hw4.symm)
    go_ret
    exact ⟨rfl, H4.out.below⟩
  · have HN := HidI (And.intro hok hor)
    clear hok hor hbB
    clear H2
    have z1 := (blk H3.out.box).1
    go_wp2_with fail
    clear z1
    refine Calls.mono (isMachine_any m w2 H3.out.mach) ?_
    rintro e w3 ⟨ha, b3⟩
    obtain rfl := ha.is_true HN.out.1
    have H4 := HidI (And.intro (H3.out.ext b3) b3)
    have z4 := (blk H4.out.1.hand).1
    clear ha b3
    go_wp2_with (go_at_call 7; refine Calls.mono (num_any 0 w3) ?_; rintro e w4 ⟨rfl, hw4⟩; obtain rfl := hw4.symm)
    clear z4
    refine Calls.mono (restart_nil m cb rb k nv w3 HM.out.1.nmax HM.out.1.rmax H4.out.1.c H4.out.1.r H4.out.1.names) ?_
    rintro e w5 ⟨hfr, b5⟩
    have H5 := HidI (And.intro (H4.out.1.ext b5) (And.intro (H4.out.2.trans (b5.mono H4.out.2.size)) hfr))
    clear b5 hfr H4 H3
    obtain ⟨h5a, h5b, h5c⟩ := H5.out
    rcases h5c with ⟨hno, _⟩ | ⟨_, bb2, vc2, vr2, rfl, hB⟩
    · exact absurd HN.out.1 hno
    have H6 := HidI (And.intro h5a (And.intro h5b hB))
    clear h5a h5b hB H5
    go_wp2_with (go_at_call 7; refine Calls.mono (num_any 0 w5) ?_; rintro e w4 ⟨rfl, hw4⟩; obtain rfl := hw4.symm)
    refine Calls.mono (boxes_nil bb2 _ m vc2 vr2 w5 H6.out.2.2) ?_
    rintro e w6 ⟨⟨xa, xc, rfl⟩, b6⟩
    have H7 := HidI (And.intro (H6.out.1.ext b6) (And.intro (H6.out.2.1.trans (b6.mono H6.out.2.1.size)) (H6.out.2.2.ext b6)))
    clear b6 H6
    clear w5
    go_wp2_with fail
    refine Calls.mono (woken_boxes hL HN.out.2 H7.out.2.1) ?_
    rintro e w7 ⟨⟨ya, yn, yc, rfl, hyn⟩, b7⟩
    have H8 := HidI (And.intro (H7.out.1.ext b7) (And.intro (H7.out.2.2.ext b7) hyn))
    clear b7 H7 hyn
    clear w6
    go_wp2_with fail
    refine Calls.mono (berthFree_any m _ bb2 vc2 vr2 w7 H8.out.2.1 (HT.out HN.out.1)) ?_
    rintro e w8 ⟨fa, rfl, hfo, b8⟩
    obtain ⟨fx, fc, rfl⟩ := ownsRow_shape hfo
    have H9 := HidI (And.intro (H8.out.1.ext b8) (And.intro hfo H8.out.2.2))
    clear b8 H8 hfo
    obtain ⟨N, hN⟩ : ∃ N, N = (freeN m m.n).length := ⟨_, rfl⟩
    rw [← hN] at H9 ⊢
    have HNN := HidI hN
    clear hN
    have z1 := (blk (H9.out.1.ext ((Below.refl w8.heap.size w8).alloc (Nat.le_refl _) (.cells #[.slice fx N fc, .slice none 0 0, .slice none 0 0, .slice none 0 0] 39))).box).1
    go_wp2_with fail
    clear z1
    obtain ⟨W8, hW8⟩ : ∃ W, W = w8.alloc (.cells #[.slice fx N fc, .slice none 0 0, .slice none 0 0, .slice none 0 0] 39) := ⟨_, rfl⟩
    obtain ⟨e8, he8⟩ : ∃ e, e = w8.heap.size := ⟨_, rfl⟩
    have B8 : Below w8.heap.size w8 W8 := by rw [hW8]; exact (Below.refl _ _).alloc (Nat.le_refl _) _
    have K8 : W8.heap[e8]? = some (.cells #[.slice fx N fc, .slice none 0 0, .slice none 0 0, .slice none 0 0] 39 (0, 0)) := by rw [hW8, he8]; exact heap_alloc_new _ _
    have HA := HidI (And.intro (H9.out.1.ext B8) (And.intro (ownsRow_below H9.out.2.1 B8) (And.intro K8 H9.out.2.2)))
    rw [← hW8, ← he8]
    clear hW8 he8 B8 K8 H9
    clear w8
    refine Calls.mono (begin_any m W8 HA.out.1.mach) ?_
    rintro e w9 ⟨ww, cw, qw, rfl, hWd, b9⟩
    have HB := HidI (And.intro (HA.out.1.ext b9) (And.intro (ownsRow_below HA.out.2.1 b9) (And.intro ((b9.block e8 (Array.getElem?_eq_some_iff.1 HA.out.2.2.1).1).trans HA.out.2.2.1) (And.intro HA.out.2.2.2 hWd))))
    clear b9 hWd HA
    go_wp2_with fail
    refine Calls.mono (worldFree_any m _ ww cw qw w9 HB.out.2.2.2.2 HM.out.1.rmax (HT.out HN.out.1)) ?_
    rintro e wA ⟨ga, rfl, hgo, bA⟩
    obtain ⟨gx, gc, rfl⟩ := ownsRow_shape hgo
    have HC := HidI (And.intro (HB.out.1.ext bA) (And.intro (ownsRow_below HB.out.2.1 bA) (And.intro ((bA.block e8 (Array.getElem?_eq_some_iff.1 HB.out.2.2.1).1).trans HB.out.2.2.1) (And.intro HB.out.2.2.2.1 hgo))))
    clear bA hgo HB
    rw [← HNN.out] at HC ⊢
    have z8 := (blk ((((Below.refl wA.heap.size wA).alloc (Nat.le_refl _) (.cells #[.slice gx N gc, .slice none 0 0, .slice none 0 0, .slice none 0 0] 39)).block e8 (Array.getElem?_eq_some_iff.1 HC.out.2.2.1).1).trans HC.out.2.2.1)).1
    go_wp2_with fail
    obtain ⟨WA, hWA⟩ : ∃ W, W = wA.alloc (.cells #[.slice gx N gc, .slice none 0 0, .slice none 0 0, .slice none 0 0] 39) := ⟨_, rfl⟩
    have BA : Below wA.heap.size wA WA := by rw [hWA]; exact (Below.refl _ _).alloc (Nat.le_refl _) _
    rw [← hWA]
    have HD := HidI (And.intro (HC.out.1.ext BA) (And.intro (ownsRow_below HC.out.2.1 BA) (And.intro (ownsRow_below HC.out.2.2.2.2 BA) HC.out.2.2.2.1)))
    clear hWA BA HC z8
    refine Calls.mono (same_free HNN.out HD.out.2.1 HD.out.2.2.1) ?_
    rintro e wB ⟨rfl, bB⟩
    have HE := HidI (And.intro (HD.out.1.ext bB).below HD.out.2.2.2)
    clear bB HD
    have hend : (!cor || decide ((yn : Int) = 0)) = true := by
      cases cor with
      | false => rfl
      | true => have := HE.out.2 rfl; subst this; rfl
    cases cor with
    | false =>
      go_wp2_with fail
      go_ret
      exact ⟨rfl, HE.out.1⟩
    | true =>
      obtain rfl := HE.out.2 rfl
      go_wp2_with fail
      go_ret
      exact ⟨rfl, HE.out.1⟩
end Go.Proofs.YtblkaenlajmhnaaGreatDoor
