/- A machine that comes in, opened: what the walks ask of it. -/
import Derived.Test.YtblkaenlajmhnaaGreatDoorL3
import Derived.ProofKit
import Derived.SizedLaws
import Derived.Deep.Slices
import Derived.Lib.SmallJoins
namespace Go.Proofs.YtblkaenlajmhnaaGreatDoor
open Go.ChangeShapes Go.WideShapes Go.ChangeAt Go.RowKit Go.Deep Go.Joins
set_option maxRecDepth 100000 in
theorem cpu_of_trod {H : Type} {enc : TypeId × Value → H} {W : World} {n : Nat} {a : Addr} {cs : List Value} {x : DataW H × List MemPlace} {sp : Nat → Bool} (hc : W.cells? 0 a 3 = some cs) (h : DataW.trod enc Tryz.prog W 0 sp true n 46 cs = some x) :
    ∃ z : Int × Int × Int, W.cell? a = some (.int .i64 z.1) ∧ W.cell? (a.add 1) = some (.int .i64 z.2.1) ∧ W.cell? (a.add 2) = some (.int .i64 z.2.2) := by
  obtain ⟨y0, y1, y2, k, rfl, hl, h0, h1, h2⟩ := trod_struct3 Tryz.underlying46 h
  obtain ⟨_, hlen, hat⟩ := World.cells?_some hc
  match cs, hlen with
  | [c0, c1, c2], _ =>
    have i1 : Tryz.prog.cellsOf 3 = 1 := by kernel_rfl
    simp only [i1, List.drop, List.take] at h0 h1 h2
    obtain ⟨z0, e0, _, _⟩ := DataW.trod_int Tryz.underlying3 h0
    obtain ⟨z1, e1, _, _⟩ := DataW.trod_int Tryz.underlying3 h1
    obtain ⟨z2, e2, _, _⟩ := DataW.trod_int Tryz.underlying3 h2
    simp only [List.cons.injEq, and_true] at e0 e1 e2
    subst e0 e1 e2
    exact ⟨(z0, z1, z2), by simpa [Addr.add] using hat 0 (by omega), hat 1 (by omega), hat 2 (by omega)⟩
set_option maxRecDepth 100000 in
theorem mach_of_trod {H : Type} {enc : TypeId × Value → H} {W : World} {base : Nat} {v0 : Value} {d0 : DataW H} {p0 : List MemPlace} (hv : Value.okWide Tryz.prog W .any base 25 v0)
    (h : DataW.Trod enc Tryz.prog W 0 (fun _ => true) true 25 v0 d0 p0) (hsz : ∀ x ∈ d0.weights Tryz.prog 25, x ≤ reachBytes) : ∃ m : Mach, v0 = m.val ∧ m.At W := by
  obtain ⟨c0, c1, c2, y0, y1, y2, n, rfl, rfl, rfl, h0, h1, h2⟩ := open_agg3 Tryz.underlying25 (by kernel_rfl) (by kernel_rfl) hv h
  obtain ⟨p, e2, _, _⟩ := DataW.trod_int Tryz.underlying3 h2
  simp only [List.cons.injEq, and_true] at e2
  subst e2
  have b3 : Tryz.prog.bytesOf 3 = 8 := by kernel_rfl
  have bc : Tryz.prog.bytesOf 46 = 24 := by kernel_rfl
  have hr : ∃ (ro : Option Addr) (rb rp r rcap : Nat) (R : Nat → Int), c1 = .slice ro r rcap ∧ r ≤ rcap ∧ r * 8 ≤ 140737488355328 ∧ (0 < r → ro = some ⟨rb, rp, none⟩) ∧ IntAt W rb rp r R := by
    rcases open_ints Tryz.underlying23 Tryz.underlying3 (by kernel_rfl) h1 with ⟨hcs, hx⟩ | ⟨a, len, cap, zs, hcs, _, hl, hm, hz, hx, hcell, hwz⟩
    · simp only [List.cons.injEq, and_true] at hcs
      subst hcs
      exact ⟨none, 0, 0, 0, 0, fun _ => 0, rfl, Nat.le_refl _, by omega, fun h => absurd h (by omega), fun i hi => absurd hi (by omega)⟩
    · simp only [List.cons.injEq, and_true] at hcs
      subst hcs
      subst hx
      simp only [if_true] at hz
      have hs : (len + (cap - len)) * 8 ≤ reachBytes := by
        have := hsz ((len + (cap - len)) * 8) (by simp [DataW.weights, DataW.weightsEach, Tryz.underlying25, Tryz.underlying23, b3, lits, hz, Nat.min_eq_left hl])
        exact this
      obtain ⟨rb, rp, spot⟩ := a
      refine ⟨_, rb, rp, len, cap, fun i => zs.getD i 0, rfl, hl, by simp only [reachBytes] at hs; omega, fun hpos => ?_, fun i hi => ?_⟩
      · have hsn : spot = none := by simpa [Addr.add] using World.cell?_spot (hcell 0 (by omega))
        rw [hsn]
      · have hc := hcell i (by omega)
        have hsn : spot = none := by simpa [Addr.add] using World.cell?_spot (hcell 0 (by omega))
        subst hsn
        rw [Go.WideShapes.add_plain] at hc
        exact hc
  have hcp : ∃ (ao : Option Addr) (b o k cap : Nat) (S N C : Nat → Int), c0 = .slice ao k cap ∧ k ≤ cap ∧ k * 24 ≤ 140737488355328 ∧ (0 < k → ao = some ⟨b, o, none⟩) ∧ CpuAt W b o k S N C := by
    rcases open_slice Tryz.underlying22 h0 with ⟨hcs, hx⟩ | ⟨a, len, cap, m, n', D, Pl, hcs, _, hl, hm, hmm, hx, hel⟩
    · simp only [List.cons.injEq, and_true] at hcs
      subst hcs
      exact ⟨none, 0, 0, 0, 0, fun _ => 0, fun _ => 0, fun _ => 0, rfl, Nat.le_refl _, by omega, fun h => absurd h (by omega), fun i hi => absurd hi (by omega)⟩
    · simp only [List.cons.injEq, and_true] at hcs
      subst hcs
      subst hx
      simp only [if_true] at hmm
      subst hmm
      have cc : Tryz.prog.cellsOf 46 = 3 := by kernel_rfl
      rw [cc] at hel
      have hs : (len + (m - len)) * 24 ≤ reachBytes := by
        have := hsz ((len + (m - len)) * 24) (by simp [DataW.weights, DataW.weightsEach, Tryz.underlying25, Tryz.underlying22, bc])
        exact this
      obtain ⟨Z, hZ⟩ := choose_lt (α := Int × Int × Int) (p := fun i z => W.cell? (a.add (i * 3)) = some (.int .i64 z.1) ∧ W.cell? ((a.add (i * 3)).add 1) = some (.int .i64 z.2.1) ∧ W.cell? ((a.add (i * 3)).add 2) = some (.int .i64 z.2.2)) (fun i hi => by
        obtain ⟨cs, q1, q2⟩ := hel i hi
        exact cpu_of_trod q1 q2)
      obtain ⟨b, o, spot⟩ := a
      refine ⟨_, b, o, len, m, fun i => (Z i).1, fun i => (Z i).2.1, fun i => (Z i).2.2, rfl, hl, by simp only [reachBytes] at hs; omega, fun hpos => ?_, fun i hi => ?_⟩
      · have hsn : spot = none := by simpa [Addr.add] using World.cell?_spot (hZ 0 (by omega)).1
        rw [hsn]
      · have hc := hZ i (by omega)
        have hsn : spot = none := by simpa [Addr.add] using World.cell?_spot (hZ 0 (by omega)).1
        subst hsn
        simp only [Go.WideShapes.add_plain] at hc
        exact hc
  obtain ⟨ro, rb, rp, r, rcap, R, rfl, q1, q2, q3, q4⟩ := hr
  obtain ⟨ao, b, o, k, cap, S, N, C, rfl, u1, u2, u3, u4⟩ := hcp
  exact ⟨⟨ao, b, o, k, cap, S, N, C, ro, rb, rp, r, rcap, R, p⟩, rfl, ⟨u1, u2, u3, u4, q1, q2, q3, q4⟩⟩
end Go.Proofs.YtblkaenlajmhnaaGreatDoor
