/- A range over a function whose iterator keeps a cell of its own between two rounds (block c): what it promises, and the law of the statement. -/
import Derived.RangeFuncNested
import Derived.RangeFuncBound
import Derived.RangeFuncCalls
import Derived.RangeFuncLeaves
import Derived.Shelf.Abstract
import Derived.Shelf.RegionOpen
import Derived.WalkKit
import Derived.OwnWalkIn
import Derived.TacticsInMore
import Derived.LoopNIn
import Derived.LoopIn
namespace Go.Proofs.YtblkaenlajmhnaaGreatDoor
open Go.RowKit
structure But (c : Nat) (A B : World) : Prop where
  os : B.os = A.os
  tape : B.tape = A.tape
  output : B.output = A.output
  size : A.heap.size ≤ B.heap.size
  block : ∀ b, b < A.heap.size → b ≠ c → B.heap[b]? = A.heap[b]?
theorem But.refl (c : Nat) (A : World) : But c A A := ⟨rfl, rfl, rfl, Nat.le_refl _, fun _ _ _ => rfl⟩
theorem But.trans {c : Nat} {A B C : World} (h : But c A B) (k : But c B C) : But c A C :=
  ⟨k.os.trans h.os, k.tape.trans h.tape, k.output.trans h.output, Nat.le_trans h.size k.size, fun b hb hc => (k.block b (Nat.lt_of_lt_of_le hb h.size) hc).trans (h.block b hb hc)⟩
theorem But.of_below {c : Nat} {A B : World} (h : Below A.heap.size A B) : But c A B := ⟨h.os, h.tape, h.output, h.size, fun b hb _ => h.block b hb⟩
theorem But.setCell {c : Nat} (A : World) (o : Nat) (v : Value) : But c A (A.setCell ⟨c, o, none⟩ v) :=
  ⟨(Below.refl 0 A |>.setCell (p := ⟨c, o, none⟩) (Nat.zero_le _) v).os, (Below.refl 0 A |>.setCell (p := ⟨c, o, none⟩) (Nat.zero_le _) v).tape, (Below.refl 0 A |>.setCell (p := ⟨c, o, none⟩) (Nat.zero_le _) v).output,
    (Below.refl 0 A |>.setCell (p := ⟨c, o, none⟩) (Nat.zero_le _) v).size, fun _ _ hc => Below.heap_setCell _ _ _ _ (fun e => hc e)⟩
theorem But.below {c B0 : Nat} {A B : World} (h : But c A B) (hc : B0 ≤ c) (hB : B0 ≤ A.heap.size) : Below B0 A B := ⟨h.os, h.tape, h.output, h.size, fun b hb => h.block b (Nat.lt_of_lt_of_le hb hB) (by omega)⟩
structure Stays (B0 c : Nat) (A B : World) : Prop where
  os : B.os = A.os
  tape : B.tape = A.tape
  output : B.output = A.output
  size : A.heap.size ≤ B.heap.size
  same : ∀ b o, A.heap[b]? = some o → b ≠ c → (b < B0 ∨ o.isCells = true) → B.heap[b]? = some o
theorem Stays.of_but {B0 c : Nat} {A B : World} (h : But c A B) : Stays B0 c A B := ⟨h.os, h.tape, h.output, h.size, fun b _ hb hc _ => (h.block b (Array.getElem?_eq_some_iff.1 hb).1 hc).trans hb⟩
theorem Stays.putObj {B0 c : Nat} {A : World} {l : Nat} {o : Obj} (o' : Obj) (hl : A.heap[l]? = some o) (ho : o.isCells = false) (hB : B0 ≤ l) : Stays B0 c A (A.putObj l o') :=
  ⟨rfl, rfl, rfl, by simp, fun b q hb _ hq => (World.putObj_heap_other (fun e => by
    subst e
    rw [hl] at hb; cases hb
    rcases hq with hq | hq
    · omega
    · rw [ho] at hq; cases hq)).trans hb⟩
theorem Stays.cell {B0 c : Nat} {A B : World} (h : Stays B0 c A B) {b o : Nat} {v : Value} (hb : A.cell? ⟨b, o, none⟩ = some v) (hc : b ≠ c) : B.cell? ⟨b, o, none⟩ = some v := by
  cases ho : A.heap[b]? with
  | none => simp [World.cell?, ho] at hb
  | some q =>
    cases q with
    | cells cs e f =>
      have := h.same b _ ho hc (.inr rfl)
      simp [World.cell?, ho] at hb
      simp [World.cell?, this, hb]
    | _ => simp [World.cell?, ho] at hb
def Firm (B0 c : Nat) (I : Nat → World → Prop) : Prop := ∀ k A B, I k A → Stays B0 c A B → I k B
def Iter (F : Fence) (n : Nat) (P : Program) (gf : Nat) (lb : Array Value) (Ok : Array Value → Prop) (S : Nat → Prop) (c N : Nat) (w : World) : Prop :=
  ∀ (l : Nat) (J Jx : Nat → World → Prop) (W : World), (∀ b, S b → W.heap[b]? = w.heap[b]?) → (∀ k A B, J k A → But c A B → J k B) → (∀ k A B, Jx k A → But c A B → Jx k B) →
    (∀ k x W1, J k W1 → k < N → Ok x → YieldAt F (n - 1) P l x W1 fun e W' => (∀ b, S b → W'.heap[b]? = W1.heap[b]?) ∧ ((e = .returned (.bool true) ∧ J (k + 1) W') ∨ (e = .returned (.bool false) ∧ Jx (k + 1) W'))) →
    J 0 W → CallsIn F n P gf (#[.func (.yield l) #[] #[]] ++ lb) W fun e W' => (∃ v, e = .returned v) ∧ ((∃ k, k ≤ N ∧ J k W') ∨ ∃ k, k ≤ N ∧ Jx k W')
def roundOut (B0 : Nat) (S : Nat → Prop) (I Ix : Nat → World → Prop) (k : Nat) (W : World) : Exit → Act → World → Prop
  | .normal, _, W' => KeepsFrom B0 W W' ∧ (∀ b, S b → W'.heap[b]? = W.heap[b]?) ∧ I k W'
  | .ret, _, W' => KeepsFrom B0 W W' ∧ (∀ b, S b → W'.heap[b]? = W.heap[b]?) ∧ Ix k W'
  | _, _, _ => False
theorem wpIn_range_own {F : Fence} {n : Nat} {P : Program} {g : Operand} {ps : Array Tmp} {assign body : Code} {Q : Exit → Act → World → Prop} {a : Act} {w : World}
    (hro : F.round = none) (h1 : 1 ≤ n) {gf : Nat} {lb : Array Value} (hg : a.eval g = .func (.func gf) #[] lb) (hFg : F.fn gf) (eg : ∀ args w, (callFunc gf args).run P w = .ok (.enter gf args) w)
    {Ok : Array Value → Prop} {S : Nat → Prop} {c N : Nat} (hseq : Iter F (n - 1) P gf lb Ok S c N w) (hc : c < w.heap.size) (hS : ∀ b, S b → b < w.heap.size) (hps : ∀ x, Ok x → x.size = ps.size)
    (I Ix : Nat → World → Prop) (hI : Firm w.heap.size c I) (hIx : Firm w.heap.size c Ix) (h0 : I 0 w) (a₁ : Array Value → Act)
    (hassign : ∀ (l : Nat) (x : Array Value) (W : World) (K : Act → World → Prop), Ok x → K (a₁ x) W →
      assign.wpIn (F.inRound l) (n - 1 - 1) P (Exit.then K (fun _ _ _ => False)) { tmps := (ps.zip x).foldl (fun t (p, v) => t.setIfInBounds p v) a.tmps, defers := [] } W)
    (hbody : ∀ (l k : Nat) (x : Array Value) (W : World), w.heap.size ≤ W.heap.size → I k W → k < N → Ok x → body.wpIn (F.inRound l) (n - 1 - 1) P (roundOut w.heap.size S I Ix (k + 1) W) (a₁ x) W)
    (hdone : ∀ (D k : Nat) (W : World), w.heap.size ≤ D → k ≤ N → I k W → W.heap[D]? = some (.deferred (some [])) → Q .normal { a with defers := { target := .collected D, args := #[] } :: a.defers } W)
    (hstop : ∀ (D k : Nat) (W : World), w.heap.size ≤ D → k ≤ N → Ix k W → W.heap[D]? = some (.deferred (some [])) → Code.ret.wpIn F n P Q { a with defers := { target := .collected D, args := #[] } :: a.defers } W) :
    (Code.rangeFunc g ps assign body).wpIn F n P Q a w := by
  refine wpIn_rangeFunc fun fn hfn => ?_
  rw [hro]
  let L : Nat := w.heap.size + 1
  let rec0 : LoopState → Option Code → Loop := fun st pe => { state := st, pending := pe, fn, tmps := a.tmps, params := ps, assign, body, defers := w.heap.size }
  let W1 : World := (w.alloc (.deferred (some []))).alloc (.loop (rec0 .ready none))
  have sz1 : W1.heap.size = w.heap.size + 2 := by show ((w.alloc _).alloc _).heap.size = _; simp
  have eL : W1.heap[L]? = some (.loop (rec0 .ready none)) := by
    have := World.alloc_heap_new (w.alloc (.deferred (some []))) (.loop (rec0 .ready none))
    rwa [World.size_alloc] at this
  have eD : W1.heap[w.heap.size]? = some (.deferred (some [])) := (Below.heap_alloc _ _ _ (by simp)).trans (World.alloc_heap_new w _)
  have bW : Below w.heap.size w W1 := ((Below.refl _ w).alloc (Nat.le_refl _) _).alloc (by simp) _
  have iW : I 0 W1 := hI _ _ _ h0 (.of_but (.of_below bW))
  have cW : ∀ b, S b → W1.heap[b]? = w.heap[b]? := fun b hb => bW.block b (hS b hb)
  have sL : ∀ b, S b → b ≠ L := fun b hb => by have := hS b hb; show b ≠ w.heap.size + 1; omega
  have nL : c ≠ L := by show c ≠ w.heap.size + 1; omega
  refine ⟨L, [{ target := .collected w.heap.size, args := #[] }], W1, { target := .fn (.func gf) lb, args := #[.func (.yield L) #[] #[]] }, W1, gf, #[.func (.yield L) #[] #[]] ++ lb, W1,
    run_enterLoop_outer _ _ _ _ _, by simp only [resolve, hg]; simp [go_sem, L], fun f' hf' => by simp [Target.leads] at hf'; subst hf'; exact hFg, by simp [invoke, go_sem, eg], fun _ => h1, ?_⟩
  refine (hseq L (fun k W => I k W ∧ W.heap[L]? = some (.loop (rec0 .ready none)) ∧ W.heap[w.heap.size]? = some (.deferred (some [])))
    (fun k W => Ix k W ∧ W.heap[L]? = some (.loop (rec0 .done (some .ret))) ∧ W.heap[w.heap.size]? = some (.deferred (some []))) W1 cW ?_ ?_ ?_ ⟨iW, eL, eD⟩).mono ?_
  · rintro k A B ⟨h2, h3, h4⟩ hb
    exact ⟨hI _ _ _ h2 (.of_but hb), (hb.block _ (Array.getElem?_eq_some_iff.1 h3).1 (Ne.symm nL)).trans h3, (hb.block _ (Array.getElem?_eq_some_iff.1 h4).1 (by omega)).trans h4⟩
  · rintro k A B ⟨h2, h3, h4⟩ hb
    exact ⟨hIx _ _ _ h2 (.of_but hb), (hb.block _ (Array.getElem?_eq_some_iff.1 h3).1 (Ne.symm nL)).trans h3, (hb.block _ (Array.getElem?_eq_some_iff.1 h4).1 (by omega)).trans h4⟩
  · rintro k x W ⟨hi, hl, hd⟩ hk hx
    have ltL : L < W.heap.size := (Array.getElem?_eq_some_iff.1 hl).1
    have yl := run_yield (P := P) (args := x) hl (hps x hx)
    refine ⟨fn, _, assign, body, yl, roundIn_of_wpIn hfn (hassign _ x W _ hx ⟨_, run_beginRound hl rfl, ?_⟩)⟩
    let W2 : World := W.putObj L (.loop { rec0 .ready none with state := .busy })
    have l2 : W2.heap[L]? = some (.loop { rec0 .ready none with state := .busy }) := World.putObj_heap_same ltL
    have d2 : W2.heap[w.heap.size]? = some (.deferred (some [])) := (World.putObj_heap_other (by show w.heap.size ≠ w.heap.size + 1; omega)).trans hd
    have c2 : ∀ b, S b → W2.heap[b]? = W.heap[b]? := fun b hb => World.putObj_heap_other (sL b hb)
    have i2 : I k W2 := hI _ _ _ hi (Stays.putObj _ hl rfl (by show w.heap.size ≤ w.heap.size + 1; omega))
    have back : ∀ (j : Option Code) (W3 : World), KeepsFrom w.heap.size W2 W3 → (∀ b, S b → W3.heap[b]? = W2.heap[b]?) →
        (Instr.endRound L j).run P W3 = .ok (.bool j.isNone) (W3.putObj L (.loop (rec0 (if j.isNone then .ready else .done) j))) ∧ W3.heap[L]? = some (.loop { rec0 .ready none with state := .busy }) ∧
        (W3.putObj L (.loop (rec0 (if j.isNone then .ready else .done) j))).heap[L]? = some (.loop (rec0 (if j.isNone then .ready else .done) j)) ∧
        (W3.putObj L (.loop (rec0 (if j.isNone then .ready else .done) j))).heap[w.heap.size]? = some (.deferred (some [])) ∧
        (∀ b, S b → (W3.putObj L (.loop (rec0 (if j.isNone then .ready else .done) j))).heap[b]? = W.heap[b]?) := fun j W3 k3 c3 => by
      have l3 := k3.same _ _ (by show w.heap.size ≤ w.heap.size + 1; omega) l2 rfl
      exact ⟨run_endRound (P := P) j l3, l3, World.putObj_heap_same (Array.getElem?_eq_some_iff.1 l3).1, (World.putObj_heap_other (by show w.heap.size ≠ w.heap.size + 1; omega)).trans (k3.same _ _ (Nat.le_refl _) d2 rfl),
        fun b hb => (World.putObj_heap_other (sL b hb)).trans ((c3 b hb).trans (c2 b hb))⟩
    refine wpIn_mono (hbody _ k x W2 (by show w.heap.size ≤ (W.putObj L _).heap.size; simp; omega) i2 hk hx) fun e a3 W3 hp => ?_
    cases e with
    | normal =>
      obtain ⟨k3, c3, i3⟩ := hp
      obtain ⟨r, l3, l4, d4, c4⟩ := back none W3 k3 c3
      exact ⟨_, _, r, c4, .inl ⟨rfl, hI _ _ _ i3 (Stays.putObj _ l3 rfl (by show w.heap.size ≤ w.heap.size + 1; omega)), l4, d4⟩⟩
    | ret =>
      obtain ⟨k3, c3, i3⟩ := hp
      obtain ⟨r, l3, l4, d4, c4⟩ := back (some .ret) W3 k3 c3
      exact ⟨_, _, r, c4, .inr ⟨rfl, hIx _ _ _ i3 (Stays.putObj _ l3 rfl (by show w.heap.size ≤ w.heap.size + 1; omega)), l4, d4⟩⟩
    | exit id => exact hp.elim
    | goto t => exact hp.elim
    | panic ch => exact hp.elim
    | outgrown => exact hp.elim
  · rintro e W2 ⟨⟨v, rfl⟩, ⟨k, hk, hi, hl, hd⟩ | ⟨k, hk, hi, hl, hd⟩⟩
    · exact ⟨none, _, run_endLoop (P := P) hl (by simp [rec0]), hdone _ k _ (Nat.le_refl _) hk (hI _ _ _ hi (Stays.putObj _ hl rfl (by show w.heap.size ≤ w.heap.size + 1; omega))) ((World.putObj_heap_other (by show w.heap.size ≠ w.heap.size + 1; omega)).trans hd)⟩
    · exact ⟨some .ret, _, run_endLoop (P := P) hl (by simp [rec0]), hstop _ k _ (Nat.le_refl _) hk (hIx _ _ _ hi (Stays.putObj _ hl rfl (by show w.heap.size ≤ w.heap.size + 1; omega))) ((World.putObj_heap_other (by show w.heap.size ≠ w.heap.size + 1; omega)).trans hd)⟩
end Go.Proofs.YtblkaenlajmhnaaGreatDoor
