/- Game.ends at a new berth. -/
import Derived.Test.YtfkddhndddfbdaaGreatDoorJ11
namespace Go.Proofs.YtfkddhndddfbdaaGreatDoor
open Go.RowKit
attribute [local go_sem ↓] Go.wp_at_zero Go.wp_at_succ

set_option maxRecDepth 100000 in
set_option maxHeartbeats 1000000 in
theorem gameEnds0_any (g base bb ww cw qw : Nat) (m : Mach) (vc vr : Value) (G : Nat → Value) (c : Nat → Nat) (w : World) (n : Nat) (Li Lb Lo : List (Value × Nat)) (Eo : List (Value × Value)) (oa : Option Addr) (oc : Nat) (hs : St c w g G n Li Lb Lo) (hw : Wt c w G [] [] Eo) (h2 : Two c w base bb ww cw qw m vc vr)
    (h0 : G 0 = .pointer (some ⟨bb, 0, none⟩)) (h1 : G 1 = .pointer (some ⟨ww, 0, none⟩)) (h6 : G 6 = .slice oa 0 oc) (h3 : Eo.length ≤ 10) (h3' : 2 ≤ Eo.length) (hmn : m.n ≤ 24) (hmr : m.r * 8 ≤ 140737488355328) (hn : n ≤ 100000) (hi : Li.length ≤ 100000) (hb : Lb.length ≤ 100000) (ho : Lo.length ≤ 100000) :
    Calls Tryz.prog 28 #[.pointer (some ⟨g, 0, none⟩)] w fun e w' => e = .returned (.bool true) ∧ ∃ c', Turn (fun z => z ≠ 0 ∧ z ≠ 14) c w c' w' := by
  have H0 := Hid.in (And.intro hs (And.intro hw (And.intro h2 (And.intro h0 (And.intro h1 h6)))))
  clear hs hw h2 h0 h1 h6
  go_enter Tryz.func28, Tryz.ntmps28
  go_wp2_with (go_at_call 71; refine Calls.mono (gameLooks0_any g base bb ww cw qw m vc vr G c w n Li Lb Lo Eo oa oc H0.out.1 H0.out.2.1 H0.out.2.2.1 H0.out.2.2.2.1 H0.out.2.2.2.2.1 H0.out.2.2.2.2.2 h3 h3' hmn hmr hn hi hb ho) ?_; rintro e w1 ⟨rfl, c1, G1, n1, Li1, Lb1, Lo1, oa1, oc1, k1, k2, _, _, k3, k4, k5, k6, k7⟩; have H1 := Hid.in (And.intro k1 (And.intro k2 (And.intro k3 (And.intro k4 (And.intro k5 (And.intro k6 k7)))))); clear k1 k2 k3 k4 k5 k6 k7)
  go_wp2_with (go_at_call 80; refine Calls.mono (settles_any g G1 c1 w1 n1 Li1 Lb1 Lo1 _ _ _ H1.out.1 H1.out.2.1 (by simp) (by simp) (by simp) (by have := H1.out.2.2.1; omega) (by have := H1.out.2.2.2.1; omega) (by have := H1.out.2.2.2.2.1; omega) (by have := H1.out.2.2.2.2.2.1; omega)) ?_; rintro e w2 ⟨rfl, c2, G2, Li2, Lb2, Lo2, _, _, _, _, _, _, k7⟩; have H2 := Hid.in k7; clear k7)
  go_ret
  exact ⟨rfl, c2, H1.out.2.2.2.2.2.2.trans H2.out⟩
end Go.Proofs.YtfkddhndddfbdaaGreatDoor
