/- Whose block is it: a colour for each block of the heap; what a step leaves as it was, by colours. -/
import Derived.Test.YtfkddhndddfbdaaGreatDoorB1
import Derived.Test.YtfkddhndddfbdaaGreatDoorS1
import Derived.Maps.AppendAt
namespace Go.Proofs.YtfkddhndddfbdaaGreatDoor
open Go.RowKit

def Top (c : Nat → Nat) (w : World) : Prop := ∀ k, w.heap.size ≤ k → c k = 0
/-- From w to w' only blocks whose colour S names have turned; new blocks have colours of their own. -/
structure Turn (S : Nat → Prop) (c : Nat → Nat) (w : World) (c' : Nat → Nat) (w' : World) : Prop where
  os : w'.os = w.os
  tape : w'.tape = w.tape
  output : w'.output = w.output
  size : w.heap.size ≤ w'.heap.size
  keep : ∀ k, k < w.heap.size → ¬ S (c k) → w'.heap[k]? = w.heap[k]? ∧ c' k = c k
  top : Top c' w'

theorem Turn.refl {S : Nat → Prop} {c : Nat → Nat} {w : World} (h : Top c w) : Turn S c w c w := ⟨rfl, rfl, rfl, Nat.le_refl _, fun _ _ _ => ⟨rfl, rfl⟩, h⟩
theorem Turn.trans {S : Nat → Prop} {c c' c'' : Nat → Nat} {w w' w'' : World} (h : Turn S c w c' w') (k : Turn S c' w' c'' w'') : Turn S c w c'' w'' :=
  ⟨k.os.trans h.os, k.tape.trans h.tape, k.output.trans h.output, Nat.le_trans h.size k.size, fun b hb hs => by
    obtain ⟨h1, h2⟩ := h.keep b hb hs
    obtain ⟨k1, k2⟩ := k.keep b (Nat.lt_of_lt_of_le hb h.size) (by rw [h2]; exact hs)
    exact ⟨k1.trans h1, k2.trans h2⟩, k.top⟩
theorem Turn.mono {S S' : Nat → Prop} {c c' : Nat → Nat} {w w' : World} (h : Turn S c w c' w') (hs : ∀ x, S x → S' x) : Turn S' c w c' w' :=
  ⟨h.os, h.tape, h.output, h.size, fun b hb hn => h.keep b hb (fun e => hn (hs _ e)), h.top⟩
theorem Turn.drew {S : Nat → Prop} {c c' : Nat → Nat} {w w' : World} (h : Turn S c w c' w') : Turn S c w c' w'.drew := ⟨h.os, h.tape, h.output, h.size, h.keep, h.top⟩
theorem Turn.drewN {S : Nat → Prop} {c c' : Nat → Nat} {w w' : World} (h : Turn S c w c' w') (n : Nat) : Turn S c w c' (w'.drewN n) := ⟨h.os, h.tape, h.output, h.size, h.keep, h.top⟩
/-- Behind what makes new blocks alone: the new ones without a colour. -/
theorem Turn.below {S : Nat → Prop} {c c' : Nat → Nat} {w w1 w' : World} (h : Turn S c w c' w1) (hb : Below w1.heap.size w1 w') : Turn S c w c' w' :=
  ⟨hb.os.trans h.os, hb.tape.trans h.tape, hb.output.trans h.output, Nat.le_trans h.size hb.size, fun k hk hn => by
    obtain ⟨h1, h2⟩ := h.keep k hk hn
    exact ⟨(hb.block k (Nat.lt_of_lt_of_le hk h.size)).trans h1, h2⟩, fun k hk => h.top k (Nat.le_trans hb.size hk)⟩
/-- New blocks get colours. -/
def dye (c : Nat → Nat) (w w1 : World) (f : Nat → Nat) : Nat → Nat := fun k => if k < w.heap.size then c k else if k < w1.heap.size then f k else 0
theorem Turn.dyed {S : Nat → Prop} {c : Nat → Nat} {w w1 : World} (hb : Below w.heap.size w w1) (f : Nat → Nat) : Turn S c w (dye c w w1 f) w1 :=
  ⟨hb.os, hb.tape, hb.output, hb.size, fun k hk _ => ⟨hb.block k hk, by unfold dye; rw [if_pos hk]⟩, fun k hk => by unfold dye; have := hb.size; rw [if_neg (by omega), if_neg (by omega)]⟩
theorem Turn.set {S : Nat → Prop} {c c' : Nat → Nat} {w w1 : World} (h : Turn S c w c' w1) {a : Addr} (ha : ∀ k, k < w.heap.size → k = a.block → S (c k)) (v : Value) : Turn S c w c' (w1.setCell a v) :=
  ⟨h.os, h.tape, h.output, by simpa using h.size, fun k hk hn => by
    obtain ⟨h1, h2⟩ := h.keep k hk hn
    exact ⟨(Below.heap_setCell _ _ _ _ (fun e => hn (ha k hk e))).trans h1, h2⟩, fun k hk => h.top k (by simpa using hk)⟩

/-- A row of the colour x. -/
def RowC (c : Nat → Nat) (w : World) (x : Nat) (e size : Nat) (v : Value) (n : Nat) (xs : List Value) : Prop := w.ownsRow 0 e size v n xs ∧ ∀ b, v.ownBlock = some b → c b = x
theorem RowC.nil (c : Nat → Nat) (w : World) (x e size : Nat) : RowC c w x e size (.slice none 0 0) 0 [] := ⟨World.ownsRow_nil _ _ _ _, fun b h => by cases h⟩
theorem ownsRow_of_block {w w' : World} {base : Nat} {e : TypeId} {size : Nat} {v : Value} {n : Nat} {xs : List Value} (h : w.ownsRow base e size v n xs) (hb : ∀ b, v.ownBlock = some b → w'.heap[b]? = w.heap[b]?) : w'.ownsRow base e size v n xs := by
  refine ⟨h.1, ?_⟩
  rcases h.2 with h2 | ⟨g, cap, cur, hv, hg, hh, r⟩
  · exact .inl h2
  · exact .inr ⟨g, cap, cur, hv, hg, by rw [hb g (by rw [hv]; rfl)]; exact hh, r⟩
theorem RowC.lt {c : Nat → Nat} {w : World} {x e size : Nat} {v : Value} {n : Nat} {xs : List Value} (h : RowC c w x e size v n xs) : ∀ b, v.ownBlock = some b → b < w.heap.size := fun b hb => (h.1.lt b hb).2
theorem RowC.turn {S : Nat → Prop} {c c' : Nat → Nat} {w w' : World} {x e size : Nat} {v : Value} {n : Nat} {xs : List Value} (h : RowC c w x e size v n xs) (t : Turn S c w c' w') (hx : ¬ S x) : RowC c' w' x e size v n xs :=
  ⟨ownsRow_of_block h.1 (fun b hb => (t.keep b (h.lt b hb) (by rw [h.2 b hb]; exact hx)).1), fun b hb => by rw [(t.keep b (h.lt b hb) (by rw [h.2 b hb]; exact hx)).2]; exact h.2 b hb⟩

/-- A slice all of whose elements are alike (sz cells each, cell j of each 'pat j'), of the colour 14: nobody writes there any more. -/
def Fill (sz : Nat) (pat : Nat → Value) (c : Nat → Nat) (w : World) (v : Value) : Prop :=
  ∃ ao n cap, v = .slice ao n cap ∧ n ≤ cap ∧ cap ≤ maxLen ∧ (0 < n → ∃ b, ao = some ⟨b, 0, none⟩ ∧ c b = 14 ∧ b < w.heap.size ∧ ∀ i j, i < n → j < sz → w.cell? ⟨b, i * sz + j, none⟩ = some (pat j))
theorem Fill.turn {S : Nat → Prop} {sz : Nat} {pat : Nat → Value} {c c' : Nat → Nat} {w w' : World} {v : Value} (h : Fill sz pat c w v) (t : Turn S c w c' w') (hx : ¬ S 14) : Fill sz pat c' w' v := by
  obtain ⟨ao, n, cap, rfl, h1, h2, h3⟩ := h
  refine ⟨ao, n, cap, rfl, h1, h2, fun h0 => ?_⟩
  obtain ⟨b, rfl, hc, hb, hcell⟩ := h3 h0
  obtain ⟨k1, k2⟩ := t.keep b hb (by rw [hc]; exact hx)
  exact ⟨b, rfl, k2.trans hc, Nat.lt_of_lt_of_le hb t.size, fun i j hi hj => (World.cell?_of_block (w := w) (a := ⟨b, i * sz + j, none⟩) k1).trans (hcell i j hi hj)⟩

/-- Slices that were marked, and their marks. -/
structure MK (c : Nat → Nat) (w : World) (x xm : Nat) (e sz : Nat) (pat : Nat → Nat → Value) (v vm : Value) (L : List (Value × Nat)) : Prop where
  rows : RowC c w x e 1 v L.length (L.map Prod.fst)
  marks : RowC c w xm 3 1 vm L.length (L.map (fun p => Value.int .i64 (p.2 : Int)))
  fill : ∀ p, p ∈ L → Fill sz (pat p.2) c w p.1
  small : ∀ p, p ∈ L → p.2 ≤ 1000000000000
theorem MK.turn {S : Nat → Prop} {c c' : Nat → Nat} {w w' : World} {x xm e sz : Nat} {pat : Nat → Nat → Value} {v vm : Value} {L : List (Value × Nat)} (h : MK c w x xm e sz pat v vm L) (t : Turn S c w c' w') (h1 : ¬ S x) (h2 : ¬ S xm) (h3 : ¬ S 14) : MK c' w' x xm e sz pat v vm L :=
  ⟨h.rows.turn t h1, h.marks.turn t h2, fun p hp => (h.fill p hp).turn t h3, h.small⟩

/-- append to a row of the colour x: what has turned, by colours. -/
theorem append_turn {c : Nat → Nat} {w w1 : World} {x e size : Nat} {v v' : Value} {n n' : Nat} {xs xs' : List Value} (ht : Top c w) (h : RowC c w x e size v n xs) (hown : w1.ownsRow 0 e size v' n' xs') (hg : w.grownBy w1 v.ownBlock) (hat : v'.ownBlock = v.ownBlock ∨ v'.ownBlock = some w.heap.size) :
    ∃ c', Turn (fun y => y = x) c w c' w1 ∧ RowC c' w1 x e size v' n' xs' ∧ (∀ k, k < w.heap.size → c' k = c k) := by
  refine ⟨fun k => if v'.ownBlock = some k then x else c k, ⟨hg.os, hg.tape, hg.output, hg.size, fun k hk hn => ⟨hg.block k hk (fun e => hn (h.2 k e.symm)), ?_⟩, fun k hk => ?_⟩, ⟨hown, fun b hb => by show (if v'.ownBlock = some b then x else c b) = x; rw [if_pos hb]⟩, fun k hk => ?_⟩
  · rcases hat with h1 | h1
    · rw [h1]
      by_cases h2 : v.ownBlock = some k
      · rw [if_pos h2]; exact (h.2 k h2).symm
      · rw [if_neg h2]
    · rw [h1, if_neg (by intro e; have := Option.some.inj e; omega)]
  · show (if v'.ownBlock = some k then x else c k) = 0
    rw [if_neg (fun e => by have := (hown.lt k e).2; omega)]
    exact ht k (Nat.le_trans hg.size hk)
  · show (if v'.ownBlock = some k then x else c k) = c k
    rcases hat with h1 | h1
    · rw [h1]
      by_cases h2 : v.ownBlock = some k
      · rw [if_pos h2]; exact (h.2 k h2).symm
      · rw [if_neg h2]
    · rw [h1, if_neg (by intro e; have := Option.some.inj e; omega)]
/-- The same, behind the kit's law on where the new slice lies. -/
theorem append_lies {c : Nat → Nat} {w w1 : World} {x e size : Nat} {v : Value} {n n' g cap H : Nat} {xs xs' : List Value} (ht : Top c w) (h : RowC c w x e size v n xs) (hown : w1.ownsRow 0 e size (.slice (some ⟨g, 0, none⟩) n' cap) n' xs') (hg : w.grownBy w1 v.ownBlock) (hat : v.ownBlock = some g ∨ g = H) (hH : w.heap.size = H) :
    ∃ c', Turn (fun y => y = x) c w c' w1 ∧ RowC c' w1 x e size (.slice (some ⟨g, 0, none⟩) n' cap) n' xs' ∧ (∀ k, k < w.heap.size → c' k = c k) :=
  append_turn ht h hown hg (by rcases hat with e | e
                               · exact .inl e.symm
                               · exact .inr (by rw [e, hH]; rfl))
theorem RowC.set {c : Nat → Nat} {w : World} {x e size : Nat} {v : Value} {n : Nat} {xs : List Value} (h : RowC c w x e size v n xs) {a : Addr} (ha : c a.block ≠ x) (u : Value) : RowC c (w.setCell a u) x e size v n xs :=
  ⟨ownsRow_of_block h.1 (fun b hb => Below.heap_setCell _ _ _ _ (fun e => ha (by rw [← e]; exact h.2 b hb))), h.2⟩
/-- 'b.F = append(b.F, ..)': the field j of the game's block g, whose row has the colour x. -/
theorem field_app {S : Nat → Prop} {c c' : Nat → Nat} {w wr WA w1 : World} {g j x e sz L L' g' cap T H : Nat} {G' : Nat → Value} {xs xs' : List Value} (hT : wr.rowIs g T 24 G') (hcg : c' g = 1) (htn : Turn S c w c' wr) (h1 : S 1) (hx : S x) (hx1 : x ≠ 1)
    (hm : RowC c' wr x e sz (G' j) L xs) (hA : Below wr.heap.size wr WA) (hown : w1.ownsRow 0 e sz (.slice (some ⟨g', 0, none⟩) L' cap) L' xs') (hg : WA.grownBy w1 (G' j).ownBlock) (hat : (G' j).ownBlock = some g' ∨ g' = H) (hH : WA.heap.size = H) :
    ∃ c'', (w1.setCell ⟨g, j, none⟩ (.slice (some ⟨g', 0, none⟩) L' cap)).rowIs g T 24 (fun i => if i = j then .slice (some ⟨g', 0, none⟩) L' cap else G' i) ∧ c'' g = 1 ∧
      RowC c'' (w1.setCell ⟨g, j, none⟩ (.slice (some ⟨g', 0, none⟩) L' cap)) x e sz (.slice (some ⟨g', 0, none⟩) L' cap) L' xs' ∧ Turn S c w c'' (w1.setCell ⟨g, j, none⟩ (.slice (some ⟨g', 0, none⟩) L' cap)) ∧
      Turn (fun y => y = 1 ∨ y = x) c' wr c'' (w1.setCell ⟨g, j, none⟩ (.slice (some ⟨g', 0, none⟩) L' cap)) ∧ (∀ k, k < wr.heap.size → c'' k = c' k) := by
  have tA : Turn (fun _ => False) c' wr c' WA := (Turn.refl htn.top).below hA
  have hmA := hm.turn tA (fun h => h)
  obtain ⟨c'', t1, rc, hk⟩ := append_lies tA.top hmA hown hg hat hH
  have hgl : g < wr.heap.size := hT.lt
  have hgA : g < WA.heap.size := Nat.lt_of_lt_of_le hgl hA.size
  have hg1 : c'' g = 1 := (hk g hgA).trans hcg
  have r1 := (hT.of_block ((t1.keep g hgA (by rw [hcg]; exact fun e => hx1 e.symm)).1.trans (tA.keep g hgl (fun h => h)).1)).set j (.slice (some ⟨g', 0, none⟩) L' cap)
  have tB : Turn (fun y => y = 1 ∨ y = x) c' wr c'' (w1.setCell ⟨g, j, none⟩ (.slice (some ⟨g', 0, none⟩) L' cap)) :=
    ((tA.mono (fun _ h => h.elim)).trans (t1.mono (fun y h => .inr h))).set (fun k _ e => .inl (by rw [e]; exact hcg)) _
  exact ⟨c'', r1, hg1, rc.set (by rw [show (⟨g, j, none⟩ : Addr).block = g from rfl, hg1]; exact fun e => hx1 e.symm) _,
    htn.trans (tB.mono (fun y h => by rcases h with rfl | rfl <;> assumption)), tB, fun k hk' => hk k (Nat.lt_of_lt_of_le hk' hA.size)⟩
end Go.Proofs.YtfkddhndddfbdaaGreatDoor
