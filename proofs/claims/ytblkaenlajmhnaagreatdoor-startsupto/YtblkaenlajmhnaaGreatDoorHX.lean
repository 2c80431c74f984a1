/- runningOf. -/
import Derived.Test.YtblkaenlajmhnaaGreatDoorHW
namespace Go.Proofs.YtblkaenlajmhnaaGreatDoor
open Go.RowKit
attribute [local go_sem ↓] Go.wp_at_zero Go.wp_at_succ
attribute [local go_sem] After.cell After.frozen After.const
set_option maxRecDepth 100000 in
theorem deleteB_nil (f nv : Value) (rb k : Nat) (w : World) (hr : w.heap[rb]? = some (.cells #[nv] 27 (0, 0))) (hn : Names w nv k) (hf : f = .func (.func 32) #[] #[.pointer (some ⟨rb, 0, none⟩)]) :
    Calls Tryz.prog 31 #[.slice none 0 0, f] w fun e w' => e = .returned (.slice none 0 0) ∧ Below w.heap.size w w' := by
  have HX := HidI (And.intro hr (And.intro hn hf))
  clear hr hn hf
  go_enter Tryz.func31, Tryz.ntmps31
  go_wp2_with fail
  refine (indexB_any _ _ nv rb k 0 0 w ⟨none, 0, rfl, Nat.le_refl _, by omega, fun h => absurd h (Nat.lt_irrefl _)⟩ HX.out.1 HX.out.2.1 HX.out.2.2).mono ?_
  rintro e w1 ⟨⟨z, rfl, hz1, hz2⟩, hb1⟩
  obtain rfl : z = -1 := by omega
  have H1 := HidI hb1
  clear hb1
  go_wp2
  go_ret
  exact ⟨rfl, H1.out⟩
def Some5 (B0 base n D : Nat) (e : Ending) (w' : World) : Prop := ∃ v' n' xs', n' ≤ n ∧ e = .returned v' ∧ w'.ownsRow base 63 5 v' n' xs' ∧ BoxRow B0 w' D xs'
set_option maxRecDepth 100000 in
set_option maxHeartbeats 1000000 in
theorem runningOf_any (v nv : Value) (base B0 n k D : Nat) (xs : List Value) (w : World) (hmax : n ≤ 1048576) (h : w.ownsRow base 63 5 v n xs) (hx : BoxRow B0 w D xs) (hn : Names w nv k) :
    Calls Tryz.prog 15 #[v, nv] w fun e w' => Some5 B0 w.heap.size n D e w' ∧ Below w.heap.size w w' := by
  have hn0 := hn
  obtain ⟨na, nc, rfl, _⟩ := hn0
  obtain ⟨W0, hW0⟩ : ∃ W0, W0 = w.alloc (.cells #[.slice na k nc] 27) := ⟨_, rfl⟩
  have b0 : Below w.heap.size w W0 := by rw [hW0]; exact (Below.refl _ _).alloc (Nat.le_refl _) _
  have k0 : W0.heap[w.heap.size]? = some (.cells #[.slice na k nc] 27 (0, 0)) := by rw [hW0]; exact heap_alloc_new _ _
  have HX := HidI (And.intro b0 (And.intro k0 (And.intro (ownsRow_below h b0) (And.intro (hx.keep (.below b0)) (hn.ext (Nat.le_refl _) b0)))))
  clear h hx hn b0 k0
  go_enter Tryz.func15, Tryz.ntmps15
  go_wp2_with fail
  rw [← hW0]
  clear hW0
  refine (cloneB_any v base B0 n D xs W0 hmax HX.out.2.2.1 HX.out.2.2.2.1).mono ?_
  rintro e w1 ⟨⟨v1, rfl, hown⟩, hb1⟩
  have H1 := HidI (And.intro hown hb1)
  have hz0 : w.heap.size ≤ W0.heap.size := HX.out.1.size
  clear hb1
  rcases hown.2 with ⟨rfl, h0⟩ | ⟨g, cap, cur, rfl, _⟩
  · clear hown
    go_wp2_with fail
    refine (deleteB_nil _ (.slice na k nc) w.heap.size k w1 ((H1.out.2.block _ (Array.getElem?_eq_some_iff.1 HX.out.2.1).1).trans HX.out.2.1) (HX.out.2.2.2.2.ext (Nat.le_refl _) H1.out.2) rfl).mono ?_
    rintro e w2 ⟨rfl, hb2⟩
    have H2 := HidI hb2
    clear hb2
    go_wp2
    go_ret
    exact ⟨⟨_, 0, [], by omega, rfl, World.ownsRow_nil _ _ _ _, BoxRow.nil _ _ _⟩, HX.out.1.trans ((H1.out.2.mono hz0).trans (H2.out.mono (Nat.le_trans hz0 H1.out.2.size)))⟩
  · obtain ⟨l, rfl, hl⟩ := HX.out.2.2.2.1
    have hrow : Row B0 w1 W0.heap.size g n cap D l := ⟨hown, fun x hx => (hl x hx).keep (.below H1.out.2)⟩
    have HR := HidI hrow
    clear hown hrow hl
    go_wp2_with fail
    refine (deleteB_any _ (.slice na k nc) w.heap.size k B0 g n cap D l W0 w1 H1.out.2 HX.out.2.1 HX.out.2.2.2.2 rfl HR.out hmax).mono ?_
    rintro e w2 ⟨⟨n', l', hn', rfl, hrow'⟩, hb2⟩
    have H2 := HidI (And.intro hrow' hb2)
    clear hrow' hb2
    go_wp2
    go_ret
    exact ⟨⟨_, n', _, hn', rfl, ownsRow_base H2.out.1.1 hz0, l', rfl, H2.out.1.2⟩, HX.out.1.trans (H2.out.2.mono hz0)⟩
end Go.Proofs.YtblkaenlajmhnaaGreatDoor
