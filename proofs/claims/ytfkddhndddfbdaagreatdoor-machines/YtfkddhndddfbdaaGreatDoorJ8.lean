/- Book.looks. -/
import Derived.Test.YtfkddhndddfbdaaGreatDoorJ7
namespace Go.Proofs.YtfkddhndddfbdaaGreatDoor
open Go.RowKit
attribute [local go_sem ↓] Go.wp_at_zero Go.wp_at_succ

set_option maxRecDepth 100000 in
set_option maxHeartbeats 4000000 in
theorem looksMany_any (g : Nat) (G : Nat → Value) (c : Nat → Nat) (w : World) (n : Nat) (Li Lb Lo : List (Value × Nat)) (ws : List GW) (Eb Eo : List (Value × Value)) (hs : St c w g G n Li Lb Lo) (hw : Wt c w G ws Eb Eo)
    (h1 : ws.length ≤ 100) (h2 : Eb.length ≤ 100) (h3 : Eo.length ≤ 100) (hn : n ≤ 100000000000) (hi : Li.length ≤ 100000000000) (hb : Lb.length ≤ 100000000000) (ho : Lo.length ≤ 100000000000) (hm : 7 < ws.length + Eb.length + Eo.length) :
    Calls Tryz.prog 27 #[.pointer (some ⟨g, 11, none⟩)] w fun e w' => e = .returned (.bool true) ∧ ∃ c' G' Li' Lb' Lo', St c' w' g G' (n + 4 * ws.length + Eb.length + Eo.length) Li' Lb' Lo' ∧ Wt c' w' G' [] [] [] ∧ (∀ j, j < 11 → G' j = G j) ∧
      Li'.length = Li.length + 16 * ws.length ∧ Lb'.length = Lb.length + 4 * Eb.length ∧ Lo'.length = Lo.length + 4 * Eo.length ∧ Turn (fun z => z ≠ 0 ∧ z ≠ 14) c w c' w' := by
  have H0 : Hid (St c w g G n Li Lb Lo ∧ Wt c w G ws Eb Eo) := ⟨hs, hw⟩
  obtain ⟨a1, c1, e1⟩ := ownsRow_shape hw.g.rows.1
  obtain ⟨a3, c3, e3⟩ := ownsRow_shape hw.b.rows.1
  obtain ⟨a5, c5, e5⟩ := ownsRow_shape hw.o.rows.1
  have g18 := hs.row.cell (i := 18) (by omega)
  have g20 := hs.row.cell (i := 20) (by omega)
  have g22 := hs.row.cell (i := 22) (by omega)
  rw [e1] at g18
  rw [e3] at g20
  rw [e5] at g22
  have hsum : (7 : Int) < (ws.length : Int) + Eb.length + Eo.length := by omega
  have hlt := Hid.in (show ws.length ≤ 100 ∧ Eb.length ≤ 100 ∧ Eo.length ≤ 100 from ⟨h1, h2, h3⟩)
  clear hs hw e1 e3 e5 hm
  go_enter Tryz.func27, Tryz.ntmps27
  go_wp2_with fail
  go_quiet (fail)
  have hB : ∀ k, St c (w.drewN k) g G n Li Lb Lo ∧ Wt c (w.drewN k) G ws Eb Eo := fun k => ⟨H0.out.1.below ((Below.refl _ _).drewN k), H0.out.2.turn ((Turn.refl H0.out.1.top).below ((Below.refl _ _).drewN k)) (fun _ _ h => h)⟩
  have HB := Hid.in hB
  clear hB
  go_wp2_with (go_at_call 80; refine (settles_any g G c _ n Li Lb Lo ws Eb Eo (HB.out _).1 (HB.out _).2 h1 h2 h3 hn hi hb ho).mono ?_; rintro e w2 ⟨rfl, hr⟩; have HR := Hid.in hr; clear hr)
  go_ret
  obtain ⟨c', G', Li', Lb', Lo', r1, r2, r3, r4, r5, r6, r7⟩ := HR.out
  exact ⟨rfl, c', G', Li', Lb', Lo', r1, r2, r3, r4, r5, r6, ((Turn.refl H0.out.1.top).below ((Below.refl _ _).drewN _)).trans r7⟩
end Go.Proofs.YtfkddhndddfbdaaGreatDoor
