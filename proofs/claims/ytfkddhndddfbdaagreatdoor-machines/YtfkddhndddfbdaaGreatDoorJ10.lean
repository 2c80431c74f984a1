/- Game.looks at a new berth. -/
import Derived.Test.YtfkddhndddfbdaaGreatDoorJ9
import Derived.Test.YtfkddhndddfbdaaGreatDoorU2
import Derived.Test.YtfkddhndddfbdaaGreatDoorR2
namespace Go.Proofs.YtfkddhndddfbdaaGreatDoor
open Go.RowKit
attribute [local go_sem ↓] Go.wp_at_zero Go.wp_at_succ

theorem kept_boxes {c c' : Nat → Nat} {w w' : World} {g n : Nat} {G G' : Nat → Value} {Li Lb Lo : List (Value × Nat)} {ws : List GW} {Eb Eo Eb' : List (Value × Value)} (hs : St c w g G n Li Lb Lo) (hw : Wt c w G ws Eb Eo) (hr : w'.rowIs g 67 24 G') (hc : c' g = 1) (hG : ∀ j, j ≠ 20 → j ≠ 21 → G' j = G j)
    (hE : WaitE 10 11 100 38 101 5 c' w' (G' 20) (G' 21) Eb') (t : Turn (fun z => z = 1 ∨ z = 10 ∨ z = 11) c w c' w') : St c' w' g G' n Li Lb Lo ∧ Wt c' w' G' ws Eb' Eo := by
  refine ⟨⟨hr, hc, t.top, (hG 14 (by omega) (by omega)).trans hs.cnt, ?_, ?_, ?_⟩, ⟨?_, hE, ?_⟩⟩
  · rw [hG 11 (by omega) (by omega), hG 15 (by omega) (by omega)]; exact hs.ints.turn t (by omega) (by omega) (by omega)
  · rw [hG 12 (by omega) (by omega), hG 16 (by omega) (by omega)]; exact hs.boxes.turn t (by omega) (by omega) (by omega)
  · rw [hG 13 (by omega) (by omega), hG 17 (by omega) (by omega)]; exact hs.ops.turn t (by omega) (by omega) (by omega)
  · rw [hG 18 (by omega) (by omega), hG 19 (by omega) (by omega)]; exact hw.g.turn t (by omega) (by omega) (by omega) (by omega)
  · rw [hG 22 (by omega) (by omega), hG 23 (by omega) (by omega)]; exact hw.o.turn t (by omega) (by omega) (by omega)
theorem kept_grant {c c' : Nat → Nat} {w w' : World} {g n : Nat} {G G' : Nat → Value} {Li Lb Lo : List (Value × Nat)} {ws ws' : List GW} {Eb Eo : List (Value × Value)} (hs : St c w g G n Li Lb Lo) (hw : Wt c w G ws Eb Eo) (hr : w'.rowIs g 67 24 G') (hc : c' g = 1) (hG : ∀ j, j ≠ 18 → j ≠ 19 → G' j = G j)
    (hE : WaitG c' w' (G' 18) (G' 19) ws') (t : Turn (fun z => z = 1 ∨ z = 8 ∨ z = 9) c w c' w') : St c' w' g G' n Li Lb Lo ∧ Wt c' w' G' ws' Eb Eo := by
  refine ⟨⟨hr, hc, t.top, (hG 14 (by omega) (by omega)).trans hs.cnt, ?_, ?_, ?_⟩, ⟨hE, ?_, ?_⟩⟩
  · rw [hG 11 (by omega) (by omega), hG 15 (by omega) (by omega)]; exact hs.ints.turn t (by omega) (by omega) (by omega)
  · rw [hG 12 (by omega) (by omega), hG 16 (by omega) (by omega)]; exact hs.boxes.turn t (by omega) (by omega) (by omega)
  · rw [hG 13 (by omega) (by omega), hG 17 (by omega) (by omega)]; exact hs.ops.turn t (by omega) (by omega) (by omega)
  · rw [hG 20 (by omega) (by omega), hG 21 (by omega) (by omega)]; exact hw.b.turn t (by omega) (by omega) (by omega)
  · rw [hG 22 (by omega) (by omega), hG 23 (by omega) (by omega)]; exact hw.o.turn t (by omega) (by omega) (by omega)

/-- The berth, and the document's, whose blocks nobody else writes. -/
structure Two (c : Nat → Nat) (w : World) (base bb ww cw qw : Nat) (m : Mach) (vc vr : Value) : Prop where
  berth : BerthIs w base bb m vc vr
  world : WorldIs w base ww cw qw m
  cb : c bb = 0
  cvc : ∀ b, vc.ownBlock = some b → c b = 0
  cvr : ∀ b, vr.ownBlock = some b → c b = 0
  cww : c ww = 0
  ccw : c cw = 0
  cqw : c qw = 0
theorem berthIs_cells {w : World} {base bb : Nat} {m : Mach} {vc vr : Value} (h : BerthIs w base bb m vc vr) : w.cell? ⟨bb, 6, none⟩ = some (.slice none 0 0) ∧ w.cell? ⟨bb, 7, none⟩ = some (.slice none 0 0) := by
  have hb := h.blk
  unfold newB at hb
  obtain ⟨z, _⟩ := blk hb
  exact ⟨z 6, z 7⟩
theorem Two.turn {S : Nat → Prop} {c c' : Nat → Nat} {w w' : World} {base bb ww cw qw : Nat} {m : Mach} {vc vr : Value} (h : Two c w base bb ww cw qw m vc vr) (t : Turn S c w c' w') (h0 : ¬ S 0) : Two c' w' base bb ww cw qw m vc vr := by
  have k : ∀ b, b < w.heap.size → c b = 0 → w'.heap[b]? = w.heap[b]? ∧ c' b = 0 := fun b hb hc => by
    obtain ⟨k1, k2⟩ := t.keep b hb (by rw [hc]; exact h0)
    exact ⟨k1, k2.trans hc⟩
  have lb : bb < w.heap.size := (Array.getElem?_eq_some_iff.1 h.berth.blk).1
  have lw : ww < w.heap.size := (Array.getElem?_eq_some_iff.1 h.world.blk).1
  refine ⟨⟨(k bb lb h.cb).1.trans h.berth.blk, ?_, ?_, h.berth.base⟩, ⟨(k ww lw h.cww).1.trans h.world.blk, h.world.cpus.of_block (k cw h.world.cpus.lt h.ccw).1, h.world.res.of_block (k qw h.world.res.lt h.cqw).1, h.world.base⟩, (k bb lb h.cb).2, ?_, ?_, (k ww lw h.cww).2, (k cw h.world.cpus.lt h.ccw).2, (k qw h.world.res.lt h.cqw).2⟩
  · have hb : ∀ b, vc.ownBlock = some b → w'.heap[b]? = w.heap[b]? := fun b hb => (k b (h.berth.cpus.lt b hb).2 (h.cvc b hb)).1
    refine ⟨h.berth.cpus.1, ?_⟩
    rcases h.berth.cpus.2 with h2 | ⟨g, cap, cur, hv, hg, hh, r⟩
    · exact .inl h2
    · exact .inr ⟨g, cap, cur, hv, hg, by rw [hb g (by rw [hv]; rfl)]; exact hh, r⟩
  · have hb : ∀ b, vr.ownBlock = some b → w'.heap[b]? = w.heap[b]? := fun b hb => (k b (h.berth.res.lt b hb).2 (h.cvr b hb)).1
    refine ⟨h.berth.res.1, ?_⟩
    rcases h.berth.res.2 with h2 | ⟨g, cap, cur, hv, hg, hh, r⟩
    · exact .inl h2
    · exact .inr ⟨g, cap, cur, hv, hg, by rw [hb g (by rw [hv]; rfl)]; exact hh, r⟩
  · exact fun b hb => (k b (h.berth.cpus.lt b hb).2 (h.cvc b hb)).2
  · exact fun b hb => (k b (h.berth.res.lt b hb).2 (h.cvr b hb)).2

def freeI (m : Mach) : List Int := (freeN m m.n).map (fun i : Nat => (i : Int))
theorem freeV_eq (m : Mach) : freeV m m.n = IL (freeI m) := by unfold freeV IL freeI; rw [List.map_map]; rfl
def g1A (ao : Option Addr) : Nat → Option Addr | 0 => ao | _ => none
def g1N (n : Nat) : Nat → Nat | 0 => n | _ => 0
def g1X (xs : List Int) : Nat → List Int | 0 => xs | _ => []

theorem g1_ints {w : World} {base n ac : Nat} {ao : Option Addr} {xs : List Int} (h : w.ownsRow base 3 1 (.slice ao n ac) n (IL xs)) : GInts w (g1A ao) (g1N n) (g1N ac) (fun q j => (g1X xs q).getD j 0) := fun q hq => by
  rcases (show q = 0 ∨ q = 1 ∨ q = 2 ∨ q = 3 by omega) with rfl | rfl | rfl | rfl
  · exact ints_of_IL h
  · exact ints_of_IL (xs := []) (World.ownsRow_nil w 0 _ _)
  · exact ints_of_IL (xs := []) (World.ownsRow_nil w 0 _ _)
  · exact ints_of_IL (xs := []) (World.ownsRow_nil w 0 _ _)
theorem sameGrant1_any (ao bo : Option Addr) (n ac bc ba bb : Nat) (xs : List Int) (w : World) (h : w.ownsRow ba 3 1 (.slice ao n ac) n (IL xs)) (h' : w.ownsRow bb 3 1 (.slice bo n bc) n (IL xs)) :
    Calls Tryz.prog 24 #[.agg #[.slice ao n ac, .slice none 0 0, .slice none 0 0, .slice none 0 0], .agg #[.slice bo n bc, .slice none 0 0, .slice none 0 0, .slice none 0 0]] w fun e w' => e = .returned (.bool true) ∧ Below w.heap.size w w' :=
  (sameGrant_any (g1A ao) (g1A bo) (g1N n) (g1N ac) (g1N n) (g1N bc) (fun q j => (g1X xs q).getD j 0) (fun q j => (g1X xs q).getD j 0) w (g1_ints h) (g1_ints h')).mono (fun _ _ h => ⟨h.1.is_true (sameG_refl _ _), h.2⟩)
theorem keepGrant1_any (g : Nat) (G : Nat → Value) (c : Nat → Nat) (w : World) (n : Nat) (Li Lb Lo : List (Value × Nat)) (ws : List GW) (Eb Eo : List (Value × Value)) (ao : Option Addr) (k ac : Nat) (xs : List Int) (hs : St c w g G n Li Lb Lo) (hw : Wt c w G ws Eb Eo)
    (hv : RowC c w (1000 + 4 * ws.length) 3 1 (.slice ao k ac) k (IL xs)) (hk : k ≤ 1000) (hl : ws.length ≤ 1000) :
    Calls Tryz.prog 126 #[.pointer (some ⟨g, 11, none⟩), .agg #[.slice ao k ac, .slice none 0 0, .slice none 0 0, .slice none 0 0]] w fun e w' => e = .returned (.tuple #[]) ∧ ∃ c' G' x, St c' w' g G' n Li Lb Lo ∧ Wt c' w' G' (ws ++ [x]) Eb Eo ∧ (∀ j, j ≠ 18 → j ≠ 19 → G' j = G j) ∧ Turn (fun y => y = 1 ∨ y = 8 ∨ y = 9) c w c' w' := by
  refine (keepGrant_any g G c w (g1A ao) (g1N k) (g1N ac) (g1X xs) ws hs.row hs.col hs.top hw.g (fun q hq => ?_) (by omega)).mono ?_
  · rcases (show q = 0 ∨ q = 1 ∨ q = 2 ∨ q = 3 by omega) with rfl | rfl | rfl | rfl
    · exact ⟨hv, by show k + 3 ≤ _; omega⟩
    · exact ⟨RowC.nil _ _ _ _ _, by show 0 + 3 ≤ _; omega⟩
    · exact ⟨RowC.nil _ _ _ _ _, by show 0 + 3 ≤ _; omega⟩
    · exact ⟨RowC.nil _ _ _ _ _, by show 0 + 3 ≤ _; omega⟩
  · rintro e w' ⟨he, c', G', x, k1, k2, k3, k4, _, _, _, _, k5⟩
    have k6 := kept_grant hs hw k1 k2 k3 k4 k5
    exact ⟨he, c', G', x, k6.1, k6.2, k3, k5⟩

/-- Three grants that were told, in variables of their own. -/
structure Told3 (w2 W : World) (e8 e9 e10 : Nat) (a3 a4 a5 : Option Addr) (p3 p4 p5 N : Nat) (xs : List Int) : Prop where
  below : Below w2.heap.size w2 W
  x : W.ownsRow w2.heap.size 3 1 (.slice a3 N p3) N (IL xs)
  z : ∃ B, (∀ b, (Value.slice a3 N p3).ownBlock = some b → b < B) ∧ w2.heap.size ≤ B ∧ W.ownsRow B 3 1 (.slice a4 N p4) N (IL xs)
  y : W.ownsRow 0 3 1 (.slice a5 N p5) N (IL xs)
  k8 : W.heap[e8]? = some (.cells #[.slice a3 N p3, .slice none 0 0, .slice none 0 0, .slice none 0 0] 42 (0, 0))
  k9 : W.heap[e9]? = some (.cells #[.slice a4 N p4, .slice none 0 0, .slice none 0 0, .slice none 0 0] 42 (0, 0))
  k10 : W.heap[e10]? = some (.cells #[.slice a5 N p5, .slice none 0 0, .slice none 0 0, .slice none 0 0] 42 (0, 0))
theorem Told3.mono {w2 W W' : World} {e8 e9 e10 : Nat} {a3 a4 a5 : Option Addr} {p3 p4 p5 N : Nat} {xs : List Int} (h : Told3 w2 W e8 e9 e10 a3 a4 a5 p3 p4 p5 N xs) (hb : Below W.heap.size W W') : Told3 w2 W' e8 e9 e10 a3 a4 a5 p3 p4 p5 N xs := by
  have k : ∀ e o, W.heap[e]? = some o → W'.heap[e]? = some o := fun e o he => (hb.block e (Array.getElem?_eq_some_iff.1 he).1).trans he
  obtain ⟨B, z1, z2, z3⟩ := h.z
  exact ⟨ext_trans h.below hb, ownsRow_below h.x hb, ⟨B, z1, z2, ownsRow_below z3 hb⟩, ownsRow_below h.y hb, k _ _ h.k8, k _ _ h.k9, k _ _ h.k10⟩
theorem own_type {w : World} {base : Nat} {e e' : TypeId} {size : Nat} {v : Value} {n : Nat} {xs : List Value} {b : Nat} {cs : Array Value} {fr : Nat × Nat} (h : w.ownsRow base e size v n xs) (hb : w.heap[b]? = some (.cells cs e' fr)) (hne : e ≠ e') : v.ownBlock ≠ some b := by
  intro ho
  rcases h.2 with ⟨rfl, _⟩ | ⟨g, cap, cur, rfl, _, hg, _⟩
  · cases ho
  · have : g = b := Option.some.inj ho
    subst this
    rw [hg] at hb
    injection hb with hb
    injection hb with _ h2 _
    exact hne h2
/-- .. get colours of their own. -/
theorem told3_dye {c : Nat → Nat} {w2 W : World} {e8 e9 e10 : Nat} {a3 a4 a5 : Option Addr} {p3 p4 p5 N : Nat} {xs : List Int} (h : Told3 w2 W e8 e9 e10 a3 a4 a5 p3 p4 p5 N xs) (_ : Top c w2) (l8 : w2.heap.size ≤ e8) (l9 : w2.heap.size ≤ e9) :
    ∃ c', Turn (fun _ => False) c w2 c' W ∧ RowC c' W 1000 3 1 (.slice a3 N p3) N (IL xs) ∧ RowC c' W 1004 3 1 (.slice a4 N p4) N (IL xs) ∧ c' e8 = 0 ∧ c' e9 = 0 := by
  obtain ⟨B, z1, z2, z3⟩ := h.z
  have b8 : e8 < W.heap.size := (Array.getElem?_eq_some_iff.1 h.k8).1
  have b9 : e9 < W.heap.size := (Array.getElem?_eq_some_iff.1 h.k9).1
  have x8 := own_type h.x h.k8 (by decide)
  have x9 := own_type h.x h.k9 (by decide)
  have y8 := own_type z3 h.k8 (by decide)
  have y9 := own_type z3 h.k9 (by decide)
  have ev : ∀ k, w2.heap.size ≤ k → k < W.heap.size → dye c w2 W (fun b => if (Value.slice a3 N p3).ownBlock = some b then 1000 else if (Value.slice a4 N p4).ownBlock = some b then 1004 else 0) k = if (Value.slice a3 N p3).ownBlock = some k then 1000 else if (Value.slice a4 N p4).ownBlock = some k then 1004 else 0 := fun k h1 h2 => by
    unfold dye; rw [if_neg (by omega), if_pos h2]
  refine ⟨dye c w2 W (fun b => if (Value.slice a3 N p3).ownBlock = some b then 1000 else if (Value.slice a4 N p4).ownBlock = some b then 1004 else 0), Turn.dyed h.below _, ⟨ownsRow_base h.x (Nat.zero_le _), fun b hb => ?_⟩, ⟨ownsRow_base z3 (Nat.zero_le _), fun b hb => ?_⟩, ?_, ?_⟩
  · rw [ev b (h.x.lt b hb).1 (h.x.lt b hb).2, if_pos hb]
  · have hB := (z3.lt b hb).1
    rw [ev b (by omega) (z3.lt b hb).2, if_neg (fun e => by have := z1 b e; omega), if_pos hb]
  · rw [ev e8 l8 b8, if_neg x8, if_neg y8]
  · rw [ev e9 l9 b9, if_neg x9, if_neg y9]
theorem St.turn {S : Nat → Prop} {c c' : Nat → Nat} {w w' : World} {g : Nat} {G : Nat → Value} {n : Nat} {Li Lb Lo : List (Value × Nat)} (h : St c w g G n Li Lb Lo) (t : Turn S c w c' w') (hS : ∀ z, 1 ≤ z → z ≤ 14 → ¬ S z) : St c' w' g G n Li Lb Lo := by
  have k := t.keep g h.row.lt (by rw [h.col]; exact hS 1 (by omega) (by omega))
  exact ⟨h.row.of_block k.1, k.2.trans h.col, t.top, h.cnt, h.ints.turn t (hS _ (by omega) (by omega)) (hS _ (by omega) (by omega)) (hS _ (by omega) (by omega)), h.boxes.turn t (hS _ (by omega) (by omega)) (hS _ (by omega) (by omega)) (hS _ (by omega) (by omega)), h.ops.turn t (hS _ (by omega) (by omega)) (hS _ (by omega) (by omega)) (hS _ (by omega) (by omega))⟩
/-- A block of colour 0 is as it was. -/
theorem Turn.blk0 {S : Nat → Prop} {c c' : Nat → Nat} {w w' : World} {k : Nat} {o : Obj} (t : Turn S c w c' w') (h0 : ¬ S 0) (hc : c k = 0) (hk : w.heap[k]? = some o) : c' k = 0 ∧ w'.heap[k]? = some o := by
  have q := t.keep k (Array.getElem?_eq_some_iff.1 hk).1 (by rw [hc]; exact h0)
  exact ⟨q.2.trans hc, q.1.trans hk⟩
end Go.Proofs.YtfkddhndddfbdaaGreatDoor
