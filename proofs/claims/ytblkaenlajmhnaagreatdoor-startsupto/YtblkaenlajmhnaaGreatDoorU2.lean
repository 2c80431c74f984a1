/- Free of a new berth, by the program. -/
import Derived.Test.YtblkaenlajmhnaaGreatDoorU1
namespace Go.Proofs.YtblkaenlajmhnaaGreatDoor
open Go.RowKit
attribute [local go_sem ↓] Go.wp_at_zero Go.wp_at_succ
attribute [local go_sem] After.cell After.frozen After.const
theorem HidI {p : Prop} (h : p) : Hid p := h
set_option maxRecDepth 100000 in
set_option maxHeartbeats 1000000 in
theorem indexFuncB0_any (f : Value) (w : World) : Calls Tryz.prog 54 #[.slice none 0 0, f] w fun e w' => e = .returned (.int .i64 (-1)) ∧ w' = w := by
  go_enter Tryz.func54, Tryz.ntmps54
  go_wp2
  refine wp_loop_rounds 1 ?_
  rw [rounds_succ]
  go_wp2
  go_ret
  exact ⟨rfl, rfl⟩
set_option maxRecDepth 100000 in
set_option maxHeartbeats 1000000 in
theorem containsFuncB0_any (f : Value) (w : World) : Calls Tryz.prog 66 #[.slice none 0 0, f] w fun e w' => e = .returned (.bool false) ∧ w' = w := by
  go_enter Tryz.func66, Tryz.ntmps66
  go_wp2_with (go_at_call 54; refine (indexFuncB0_any f _).mono ?_; rintro e w1 ⟨rfl, hw⟩; obtain rfl := hw.symm)
  go_ret
  exact ⟨rfl, rfl⟩
set_option maxRecDepth 100000 in
set_option maxHeartbeats 1000000 in
theorem isOwned0_any (bb : Nat) (r x : Int) (w : World) (h6 : w.cell? ⟨bb, 6, none⟩ = some (.slice none 0 0)) : Calls Tryz.prog 41 #[.pointer (some ⟨bb, 0, none⟩), .int .i64 r, .int .i64 x] w fun e w' => e = .returned (.bool false) ∧ Below w.heap.size w w' := by
  have hbl : bb < w.heap.size := block_lt_of_cell h6
  go_enter Tryz.func41, Tryz.ntmps41
  go_wp2_with (go_at_call 66; refine (containsFuncB0_any _ _).mono ?_; rintro e w1 ⟨rfl, hw⟩; obtain rfl := hw.symm)
  go_ret
  exact ⟨rfl, ((Below.refl _ _).alloc (Nat.le_refl _) _).alloc (by simp) _⟩
set_option maxRecDepth 100000 in
set_option maxHeartbeats 1000000 in
theorem freeFn0_any (bb pb pr : Nat) (r x : Int) (w : World) (h6 : w.cell? ⟨bb, 6, none⟩ = some (.slice none 0 0)) (hp : w.cell? ⟨pb, 0, none⟩ = some (.pointer (some ⟨bb, 0, none⟩))) (hr : w.cell? ⟨pr, 0, none⟩ = some (.int .i64 r)) :
    Calls Tryz.prog 40 #[.int .i64 x, .pointer (some ⟨pb, 0, none⟩), .pointer (some ⟨pr, 0, none⟩)] w fun e w' => e = .returned (.bool false) ∧ Below w.heap.size w w' := by
  go_enter Tryz.func40, Tryz.ntmps40
  go_wp2_with (go_at_call 41; refine (isOwned0_any bb r x _ h6).mono ?_; rintro e w1 ⟨rfl, hb⟩)
  go_ret
  exact ⟨rfl, hb⟩
set_option maxRecDepth 100000 in
set_option maxHeartbeats 1000000 in
theorem indexFunc0_any (pb pr : Nat) (v f : Value) (n : Nat) (R : Nat → Int) (W w : World) (hb0 : Below W.heap.size W w) (h : Ints W v n R) (hf : f = .func (.func 40) #[] #[.pointer (some ⟨pb, 0, none⟩), .pointer (some ⟨pr, 0, none⟩)])
    (hcall : ∀ x W', Below W.heap.size W W' → Calls Tryz.prog 40 #[.int .i64 x, .pointer (some ⟨pb, 0, none⟩), .pointer (some ⟨pr, 0, none⟩)] W' fun e w' => e = .returned (.bool false) ∧ Below W'.heap.size W' w') :
    Calls Tryz.prog 64 #[v, f] w fun e w' => e = .returned (.int .i64 (-1)) ∧ Below w.heap.size w w' := by
  obtain ⟨ao, cap, rfl, hc, hm, ha⟩ := h
  subst hf
  have HC := HidI hcall
  clear hcall
  go_enter Tryz.func64, Tryz.ntmps64
  go_wp2
  go_loopw [8] (fun i wr => ∃ k : Nat, k ≤ n ∧ i = .int .i64 k ∧ Below w.heap.size w wr) (fun i _ => n - (intOf i).toNat)
  case atStart => exact ⟨0, by omega, rfl, Below.refl _ _⟩
  case round =>
    obtain ⟨k, hk, rfl, hb⟩ := hrel
    have HB := HidI (And.intro hb (ext_trans hb0 hb))
    by_cases hlt : k < n
    · obtain ⟨b, o, rfl, hi⟩ := ha (by omega)
      have u0 := (hi.ext HB.out.2) k hlt
      have kn : (k : Int) < n := by omega
      clear hi ha hb hb0
      go_wp2_with (go_at_call 40; refine (HC.out _ _ HB.out.2).mono ?_; rintro e w1 ⟨rfl, hb1⟩; have HB1 := HidI hb1; clear hb1)
      go_roundw
      case rel => exact ⟨k + 1, by omega, by go_num, ext_trans HB.out.1 HB1.out⟩
      case measure => simp [intOf]; omega
    · have : k = n := by omega
      subst this
      clear ha hb hb0
      go_wp2
      go_ret
      exact ⟨rfl, HB.out.1⟩
set_option maxRecDepth 100000 in
set_option maxHeartbeats 1000000 in
theorem deleteFunc0_any (pb pr : Nat) (ao : Option Addr) (cap : Nat) (f : Value) (n : Nat) (R : Nat → Int) (w : World) (h : Ints w (.slice ao n cap) n R) (hf : f = .func (.func 40) #[] #[.pointer (some ⟨pb, 0, none⟩), .pointer (some ⟨pr, 0, none⟩)])
    (hcall : ∀ x W', Below w.heap.size w W' → Calls Tryz.prog 40 #[.int .i64 x, .pointer (some ⟨pb, 0, none⟩), .pointer (some ⟨pr, 0, none⟩)] W' fun e w' => e = .returned (.bool false) ∧ Below W'.heap.size W' w') :
    Calls Tryz.prog 38 #[.slice ao n cap, f] w fun e w' => e = .returned (.slice ao n cap) ∧ Below w.heap.size w w' := by
  have HC := HidI (And.intro h (And.intro hcall hf))
  clear hcall h hf
  go_enter Tryz.func38, Tryz.ntmps38
  go_wp2_with (go_at_call 64; refine (indexFunc0_any pb pr _ _ n R w w (Below.refl _ _) HC.out.1 HC.out.2.2 HC.out.2.1).mono ?_; rintro e w1 ⟨rfl, hb⟩)
  go_ret
  exact ⟨rfl, hb⟩
set_option maxRecDepth 100000 in
set_option maxHeartbeats 1000000 in
theorem usable0_any (m : Mach) (bb : Nat) (ca ra : Option Addr) (cc rc : Nat) (w : World) (hn : m.n ≤ 24) (hb : w.heap[bb]? = some (.cells (newB (.slice ca m.n cc) (.slice ra m.r rc) m.p) 57 (0, 0))) (hr : Ints w (.slice ra m.r rc) m.r m.R) :
    Calls Tryz.prog 39 #[.pointer (some ⟨bb, 0, none⟩), .int .i64 0] w fun e w' => ∃ v, e = .returned v ∧ w'.ownsRow w.heap.size 3 1 v (freeN m m.n).length (freeV m m.n) ∧ Below w.heap.size w w' := by
  unfold newB at hb
  obtain ⟨q0, q0f⟩ := blk hb
  have HR := HidI hr
  clear hb hr
  go_enter Tryz.func39, Tryz.ntmps39
  go_wp2_with (go_at_call 65; refine (unreserved_any m (.slice ca m.n cc) (.slice ra m.r rc) ca cc _ rfl hn HR.out).mono ?_; rintro e w1 ⟨v, rfl, hown, hb1⟩)
  go_ret
  exact ⟨_, rfl, hown, hb1⟩
set_option maxRecDepth 100000 in
set_option maxHeartbeats 1000000 in
theorem usableK_any (bb k : Nat) (hk : k = 1 ∨ k = 2 ∨ k = 3) (vc vr : Value) (p : Int) (w : World) (hb : w.heap[bb]? = some (.cells (newB vc vr p) 57 (0, 0))) :
    Calls Tryz.prog 39 #[.pointer (some ⟨bb, 0, none⟩), .int .i64 k] w fun e w' => e = .returned (.slice none 0 0) ∧ w' = w := by
  unfold newB at hb
  obtain ⟨q0, q0f⟩ := blk hb
  clear hb
  rcases hk with rfl | rfl | rfl <;> (
    go_enter Tryz.func39, Tryz.ntmps39
    go_wp2
    refine wp_loop_rounds 1 ?_
    rw [rounds_succ]
    go_wp2
    go_ret
    exact ⟨rfl, rfl⟩)
theorem freeV_ints {w : World} {base : Nat} {v : Value} {m : Mach} (h : w.ownsRow base 3 1 v (freeN m m.n).length (freeV m m.n)) : Ints w v (freeN m m.n).length (fun j => (((freeN m m.n)[j]?.getD 0 : Nat) : Int)) := by
  rcases h.2 with ⟨rfl, h0⟩ | ⟨g, cap, cur, rfl, _, hg, hn, hc, hs, ht⟩
  · rw [h0]; exact ⟨none, 0, rfl, Nat.le_refl _, by omega, fun h => absurd h (Nat.lt_irrefl _)⟩
  · refine ⟨_, cap, rfl, hn, by unfold maxLen at hc; omega, fun h0 => ⟨g, 0, rfl, fun i hi => ?_⟩⟩
    have e : (freeV m m.n)[i]? = some (.int .i64 (((freeN m m.n)[i]?.getD 0 : Nat) : Int)) := by simp [freeV, hi]
    rw [Nat.zero_add, cell_of_row w g i cur _ (0, 0) hg]
    rw [← ht, List.getElem?_take] at e
    split at e
    · simpa using e
    · cases e
set_option maxRecDepth 100000 in
set_option maxHeartbeats 1000000 in
theorem free0_any (m : Mach) (bb : Nat) (ca ra : Option Addr) (cc rc : Nat) (w : World) (hn : m.n ≤ 24) (hb : w.heap[bb]? = some (.cells (newB (.slice ca m.n cc) (.slice ra m.r rc) m.p) 57 (0, 0))) (hr : Ints w (.slice ra m.r rc) m.r m.R) :
    Calls Tryz.prog 20 #[.pointer (some ⟨bb, 0, none⟩), .int .i64 0] w fun e w' => ∃ v, e = .returned v ∧ w'.ownsRow w.heap.size 3 1 v (freeN m m.n).length (freeV m m.n) ∧ Below w.heap.size w w' := by
  have hbl : bb < w.heap.size := (Array.getElem?_eq_some_iff.1 hb).1
  have HI := HidI (And.intro hb hr)
  clear hb hr
  go_enter Tryz.func20, Tryz.ntmps20
  go_wp2_with fail
  obtain ⟨W, hW⟩ : ∃ W, W = (w.alloc (.cells #[.pointer (some ⟨bb, 0, none⟩)] 29)).alloc (.cells #[.int .i64 0] 3) := ⟨_, rfl⟩
  have hA : Below w.heap.size w W := by rw [hW]; exact ((Below.refl _ _).alloc (Nat.le_refl _) _).alloc (by simp) _
  have hk0 : W.heap[w.heap.size]? = some (.cells #[.pointer (some ⟨bb, 0, none⟩)] 29 (0, 0)) := by rw [hW]; exact heap_alloc2_old _ _ _
  have hk1 : W.heap[w.heap.size + 1]? = some (.cells #[.int .i64 0] 3 (0, 0)) := by rw [hW]; exact heap_alloc2_new _ _ _
  rw [← hW]
  refine (usable0_any m bb ca ra cc rc W hn ((hA.block bb hbl).trans HI.out.1) (HI.out.2.ext hA)).mono ?_
  rintro e w1 ⟨v, rfl, hown, hb1⟩
  obtain ⟨va, vc, rfl⟩ := ownsRow_shape hown
  have l1 : w.heap.size + 1 < W.heap.size := (Array.getElem?_eq_some_iff.1 hk1).1
  have HA := HidI (And.intro hown (And.intro (hA.trans (hb1.mono (by omega))) (And.intro ((hb1.block _ (by omega)).trans hk0) ((hb1.block _ l1).trans hk1))))
  clear hW hA hk0 hk1 hown hb1
  go_wp2_with (go_at_call 38; refine (deleteFunc0_any w.heap.size (w.heap.size + 1) _ _ _ _ _ _ (freeV_ints HA.out.1) rfl (fun x W' hW' => freeFn0_any bb w.heap.size (w.heap.size + 1) 0 x W' (by
    have hb := (hW'.block bb (Nat.lt_of_lt_of_le hbl HA.out.2.1.size)).trans ((HA.out.2.1.block bb hbl).trans HI.out.1)
    unfold newB at hb
    obtain ⟨q, _⟩ := blk hb
    exact q 6) (by
    have hl := (Array.getElem?_eq_some_iff.1 HA.out.2.2.1).1
    obtain ⟨q, _⟩ := blk ((hW'.block _ hl).trans HA.out.2.2.1)
    exact q 0) (by
    have hl := (Array.getElem?_eq_some_iff.1 HA.out.2.2.2).1
    obtain ⟨q, _⟩ := blk ((hW'.block _ hl).trans HA.out.2.2.2)
    exact q 0))).mono ?_; rintro e w2 ⟨rfl, hb2⟩)
  go_ret
  exact ⟨_, rfl, ownsRow_base (ownsRow_below HA.out.1 hb2) (by omega), ext_trans HA.out.2.1 hb2⟩
set_option maxRecDepth 100000 in
set_option maxHeartbeats 1000000 in
theorem freeK_any (bb k : Nat) (hk : k = 1 ∨ k = 2 ∨ k = 3) (vc vr : Value) (p : Int) (w : World) (hb : w.heap[bb]? = some (.cells (newB vc vr p) 57 (0, 0))) :
    Calls Tryz.prog 20 #[.pointer (some ⟨bb, 0, none⟩), .int .i64 k] w fun e w' => e = .returned (.slice none 0 0) ∧ Below w.heap.size w w' := by
  have hbl : bb < w.heap.size := (Array.getElem?_eq_some_iff.1 hb).1
  have HI := HidI hb
  clear hb
  go_enter Tryz.func20, Tryz.ntmps20
  go_wp2_with fail
  obtain ⟨W, hW⟩ : ∃ W, W = (w.alloc (.cells #[.pointer (some ⟨bb, 0, none⟩)] 29)).alloc (.cells #[.int .i64 k] 3) := ⟨_, rfl⟩
  have hA : Below w.heap.size w W := by rw [hW]; exact ((Below.refl _ _).alloc (Nat.le_refl _) _).alloc (by simp) _
  have hk0 : W.heap[w.heap.size]? = some (.cells #[.pointer (some ⟨bb, 0, none⟩)] 29 (0, 0)) := by rw [hW]; exact heap_alloc2_old _ _ _
  have hk1 : W.heap[w.heap.size + 1]? = some (.cells #[.int .i64 k] 3 (0, 0)) := by rw [hW]; exact heap_alloc2_new _ _ _
  rw [← hW]
  refine (usableK_any bb k hk vc vr p W ((hA.block bb hbl).trans HI.out)).mono ?_
  rintro e w1 ⟨rfl, hw1⟩
  obtain rfl := hw1.symm
  have l1 : w.heap.size + 1 < W.heap.size := (Array.getElem?_eq_some_iff.1 hk1).1
  have HA := HidI (And.intro hA (And.intro hk0 hk1))
  clear hW hA hk0 hk1 hw1
  go_wp2_with (go_at_call 38; refine (deleteFunc0_any w.heap.size (w.heap.size + 1) none 0 _ 0 (fun _ => 0) _ ⟨none, 0, rfl, Nat.le_refl _, by omega, fun h => absurd h (Nat.lt_irrefl _)⟩ rfl (fun x W' hW' => freeFn0_any bb w.heap.size (w.heap.size + 1) k x W' (by
    have hb := (hW'.block bb (Nat.lt_of_lt_of_le hbl HA.out.1.size)).trans ((HA.out.1.block bb hbl).trans HI.out)
    unfold newB at hb
    obtain ⟨q, _⟩ := blk hb
    exact q 6) (by
    have hl := (Array.getElem?_eq_some_iff.1 HA.out.2.1).1
    obtain ⟨q, _⟩ := blk ((hW'.block _ hl).trans HA.out.2.1)
    exact q 0) (by
    have hl := (Array.getElem?_eq_some_iff.1 HA.out.2.2).1
    obtain ⟨q, _⟩ := blk ((hW'.block _ hl).trans HA.out.2.2)
    exact q 0))).mono ?_; rintro e w2 ⟨rfl, hb2⟩)
  go_ret
  exact ⟨rfl, ext_trans HA.out.1 hb2⟩
set_option maxRecDepth 100000 in
set_option maxHeartbeats 2000000 in
theorem berthFree_any (m : Mach) (base bb : Nat) (vc vr : Value) (w : World) (hm : BerthIs w base bb m vc vr) (hn : m.n ≤ 24) :
    Calls Tryz.prog 9 #[.pointer (some ⟨bb, 0, none⟩)] w fun e w' => ∃ v, e = .returned (.agg #[v, .slice none 0 0, .slice none 0 0, .slice none 0 0]) ∧ w'.ownsRow w.heap.size 3 1 v (freeN m m.n).length (freeV m m.n) ∧ Below w.heap.size w w' := by
  obtain ⟨hb, hc, hr, _⟩ := hm
  obtain ⟨ca, cc, rfl⟩ := ownsRow_shape hc
  have hri := ints_of_own hr
  obtain ⟨ra, rc, rfl⟩ := ownsRow_shape hr
  have hbl : bb < w.heap.size := (Array.getElem?_eq_some_iff.1 hb).1
  have HI := HidI (And.intro hri hb)
  clear hb hc hr hri
  go_enter Tryz.func9, Tryz.ntmps9
  go_wp2_with fail
  have bA := (Below.refl w.heap.size w).alloc (Nat.le_refl _) (.cells #[.slice none 0 0, .slice none 0 0, .slice none 0 0, .slice none 0 0] 39)
  refine (free0_any m bb ca ra cc rc _ hn ((bA.block bb hbl).trans HI.out.2) (HI.out.1.ext bA)).mono ?_
  rintro e w1 ⟨v, rfl, hown, hb1⟩
  obtain ⟨va, vcap, rfl⟩ := ownsRow_shape hown
  have k0 := (hb1.block w.heap.size (by simp)).trans (heap_alloc_new w _)
  have hb1w : Below w.heap.size w w1 := ext_trans ((Below.refl _ _).alloc (Nat.le_refl _) _) hb1
  have hz1 : w.heap.size < w1.heap.size := by have := hb1.size; simp at this; omega
  have H1 : Hid (w1.ownsRow (w.heap.size + 1) 3 1 (.slice va (freeN m m.n).length vcap) (freeN m m.n).length (freeV m m.n) ∧ Below w.heap.size w w1 ∧ w1.heap[w.heap.size]? = some (.cells #[.slice none 0 0, .slice none 0 0, .slice none 0 0, .slice none 0 0] 39 (0, 0)) ∧ w.heap.size < w1.heap.size) := ⟨by simpa using hown, hb1w, k0, hz1⟩
  clear hown hb1 k0 hb1w bA
  go_wp2_with fail
  go_loopw [8] (fun i wr => ∃ k : Nat, k ≤ 3 ∧ i = .int .i64 k ∧ Below w1.heap.size w1 wr ∧ w1.heap.size < wr.heap.size ∧ wr.heap[w1.heap.size]? = some (.cells #[.slice va (freeN m m.n).length vcap, .slice none 0 0, .slice none 0 0, .slice none 0 0] 39 (0, 0))) (fun i _ => 3 - (intOf i).toNat)
  case atStart => exact ⟨0, by omega, rfl, (Below.refl _ _).alloc (Nat.le_refl _) _, by simp, heap_alloc_new _ _⟩
  case round =>
    obtain ⟨k, hk, rfl, hb, hz, hg⟩ := hrel
    have kb := (hb.block bb (by omega)).trans ((H1.out.2.1.block bb hbl).trans HI.out.2)
    have kz := (hb.block w.heap.size hz1).trans H1.out.2.2.1
    have HR := HidI (And.intro hb (And.intro hg (And.intro kb kz)))
    obtain ⟨q1, q1f⟩ := blk hg
    obtain ⟨q2, q2f⟩ := blk kz
    clear hb hg kb kz
    by_cases hlt : k < 3
    · rcases (show k = 0 ∨ k = 1 ∨ k = 2 by omega) with rfl | rfl | rfl <;> (
        go_wp2_with fail
        refine (freeK_any bb _ (by first | exact .inl rfl | exact .inr (.inl rfl) | exact .inr (.inr rfl)) _ _ m.p _ HR.out.2.2.1).mono ?_
        rintro e w2 ⟨rfl, hb2⟩
        have hbl2 : Below w1.heap.size w1 w2 := ext_trans HR.out.1 hb2
        have kg := (hb2.block w1.heap.size hz).trans HR.out.2.1
        have HS := HidI (And.intro hbl2 kg)
        have hz2 : w1.heap.size < w2.heap.size := Nat.lt_of_lt_of_le hz hb2.size
        obtain ⟨q3, q3f⟩ := blk kg
        clear hbl2 kg hb2 q1 q1f q2 q2f hz
        go_wp2_with fail
        go_roundw
        case rel =>
          have hz' := hz2
          rw [← World.size_setCell w2 _ (.slice none 0 0)] at hz'
          first
            | exact ⟨1, by omega, rfl, HS.out.1.setCell (Nat.le_refl _) _, hz', blk_set _ HS.out.2⟩
            | exact ⟨2, by omega, rfl, HS.out.1.setCell (Nat.le_refl _) _, hz', blk_set _ HS.out.2⟩
            | exact ⟨3, by omega, rfl, HS.out.1.setCell (Nat.le_refl _) _, hz', blk_set _ HS.out.2⟩
        case measure => simp [intOf])
    · have : k = 3 := by omega
      subst this
      go_wp2_with fail
      have z3 := blk_set (i := 3) (.slice none 0 0) (blk_set (i := 2) (.slice none 0 0) (blk_set (i := 1) (.slice none 0 0) (blk_set (i := 0) (.slice va (freeN m m.n).length vcap) HR.out.2.2.2)))
      simp only [List.setIfInBounds_toArray, List.set_cons_zero, List.set_cons_succ] at z3
      obtain ⟨z, _⟩ := blk z3
      refine bodyPost_ret (v := .agg #[.slice va (freeN m m.n).length vcap, .slice none 0 0, .slice none 0 0, .slice none 0 0]) (by simp [results, Tryz.results9, go_sem, z]) rfl ⟨_, rfl, ?_, ?_⟩
      · exact ownsRow_base (ownsRow_setCell_below (ownsRow_setCell_below (ownsRow_setCell_below (ownsRow_setCell_below (ownsRow_below H1.out.1 HR.out.1) (Nat.lt_succ_self _) _) (Nat.lt_succ_self _) _) (Nat.lt_succ_self _) _) (Nat.lt_succ_self _) _) (by omega)
      · exact (((((ext_trans H1.out.2.1 HR.out.1).setCell (Nat.le_refl _) _).setCell (Nat.le_refl _) _).setCell (Nat.le_refl _) _).setCell (Nat.le_refl _) _)
end Go.Proofs.YtblkaenlajmhnaaGreatDoor
