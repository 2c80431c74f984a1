/- clear of boxes; DeleteFunc; runningOf. -/
import Derived.Test.YtblkaenlajmhnaaGreatDoorHV
namespace Go.Proofs.YtblkaenlajmhnaaGreatDoor
open Go.RowKit
attribute [local go_sem ↓] Go.wp_at_zero Go.wp_at_succ
attribute [local go_sem] After.cell After.frozen After.const
theorem clear_box (w : World) (ty : TypeId) (b o n c : Nat) (hc : ∀ j, j < n * 5 → (w.cell? ⟨b, o + j, none⟩).isSome = true) (hf : ∀ j, j < n * 5 → w.frozen? ⟨b, o + j, none⟩ = false) :
    ∃ vs, (Builtin.clear_ #[35] ty #[.slice (some ⟨b, o, none⟩) n c]).run Tryz.prog w = .ok (.tuple #[]) (w.setCells b o vs) := by
  cases n with
  | zero => exact ⟨[], by simp [Builtin.clear_, run_underlying und_boxes, World.setCells]⟩
  | succ m =>
    refine ⟨(Builtin.zeroCells #[.string ⟨#[]⟩, .slice none 0 0, .slice none 0 0, .slice none 0 0, .slice none 0 0] (m + 1)).toList, ?_⟩
    have hl : (Builtin.zeroCells #[.string ⟨#[]⟩, .slice none 0 0, .slice none 0 0, .slice none 0 0, .slice none 0 0] (m + 1)).toList.length = (m + 1) * 5 := by simp [Builtin.zeroCells]
    have hst := run_storeCells_cells (P := Tryz.prog) b o (Builtin.zeroCells #[.string ⟨#[]⟩, .slice none 0 0, .slice none 0 0, .slice none 0 0, .slice none 0 0] (m + 1)).toList 0 w (by rw [hl]; simpa using hc) (by rw [hl]; simpa using hf) (fun v hv => by
      simp only [Builtin.zeroCells, Array.toList_map, List.mem_map] at hv
      obtain ⟨i, _, rfl⟩ := hv
      have h5 : i % 5 < 5 := Nat.mod_lt _ (by omega)
      show (#[Value.string ⟨#[]⟩, .slice none 0 0, .slice none 0 0, .slice none 0 0, .slice none 0 0][i % 5]!).oneCell' = true
      generalize i % 5 = k at h5
      match k, h5 with
      | 0, _ => rfl
      | 1, _ => rfl
      | 2, _ => rfl
      | 3, _ => rfl
      | 4, _ => rfl)
    simp only [Nat.add_zero] at hst
    have hz5 : (Value.agg #[.string ⟨#[]⟩, .slice none 0 0, .slice none 0 0, .slice none 0 0, .slice none 0 0]).cells = #[.string ⟨#[]⟩, .slice none 0 0, .slice none 0 0, .slice none 0 0, .slice none 0 0] := rfl
    generalize hq : (Builtin.zeroCells #[.string ⟨#[]⟩, .slice none 0 0, .slice none 0 0, .slice none 0 0, .slice none 0 0] (m + 1)).toList = vs at hst ⊢
    simp [Builtin.clear_, run_underlying und_boxes, hz5, hq, hst]
theorem Row.ext {B0 base g n cap D : Nat} {w w' : World} {l : List (List Value)} (h : Row B0 w base g n cap D l) (hb : Below w.heap.size w w') : Row B0 w' base g n cap D l := ⟨ownsRow_below h.1 hb, fun x hx => (h.2 x hx).keep (.below hb)⟩
theorem Row.boxes {B0 base g n cap D : Nat} {w : World} {l : List (List Value)} (h : Row B0 w base g n cap D l) : Boxes w (.slice (some ⟨g, 0, none⟩) n cap) n D := boxes_of_own h.1 ⟨l, rfl, h.2⟩
def InRow (B0 : Nat) (w : World) (g i D : Nat) (nm : ByteArray) (A : Nat → Option Addr) (N C : Nat → Nat) : Prop := BoxCs B0 w D [.string nm, .slice (A 0) (N 0) (C 0), .slice (A 1) (N 1) (C 1), .slice (A 2) (N 2) (C 2), .slice (A 3) (N 3) (C 3)] ∧
  w.cell? ⟨g, i * 5, none⟩ = some (.string nm) ∧ w.cell? ⟨g, i * 5 + 1, none⟩ = some (.slice (A 0) (N 0) (C 0)) ∧ w.cell? ⟨g, i * 5 + 2, none⟩ = some (.slice (A 1) (N 1) (C 1)) ∧ w.cell? ⟨g, i * 5 + 3, none⟩ = some (.slice (A 2) (N 2) (C 2)) ∧ w.cell? ⟨g, i * 5 + 4, none⟩ = some (.slice (A 3) (N 3) (C 3))
theorem Row.at {B0 base g n cap D i : Nat} {w : World} {l : List (List Value)} (h : Row B0 w base g n cap D l) (hi : i < n) : ∃ nm A N C, InRow B0 w g i D nm A N C := by
  have hl := h.len
  have hi' : i < l.length := by omega
  have hc := row_cells h.1
  have f0 := flat5 l (fun y hy => (h.2 y hy).len)
  have hb := h.2 _ (List.getElem_mem hi')
  obtain ⟨nm, A, N, C, R, e, r⟩ := hb
  have c : ∀ j u, j < 5 → (l[i])[j]? = some u → w.cell? ⟨g, i * 5 + j, none⟩ = some u := fun j u hj hu => hc _ u (by rw [f0.2 i j _ (List.getElem?_eq_getElem hi') hj]; exact hu)
  rw [e] at c
  exact ⟨nm, A, N, C, ⟨nm, A, N, C, R, rfl, r⟩, c 0 _ (by omega) rfl, c 1 _ (by omega) rfl, c 2 _ (by omega) rfl, c 3 _ (by omega) rfl, c 4 _ (by omega) rfl⟩
theorem Row.thaw {B0 base g n cap D : Nat} {w : World} {l : List (List Value)} (h : Row B0 w base g n cap D l) : ∀ j, w.frozen? ⟨g, j, none⟩ = false := by
  obtain ⟨cur, _, hg, _⟩ := h.blk
  exact (Go.Proofs.YtblkaenlajmhnaaGreatDoor.blk hg).2
def Kept (B0 base g n cap D : Nat) (e : Ending) (w' : World) : Prop := ∃ (n' : Nat) (l' : List (List Value)), n' ≤ n ∧ e = .returned (.slice (some ⟨g, 0, none⟩) n' cap) ∧ Row B0 w' base g n' cap D l'
theorem set5_cells (w : World) (g o : Nat) (v0 v1 v2 v3 v4 : Value) : w.setCells g o [v0, v1, v2, v3, v4] = ((((w.setCell ⟨g, o, none⟩ v0).setCell ⟨g, o + 1, none⟩ v1).setCell ⟨g, o + 2, none⟩ v2).setCell ⟨g, o + 3, none⟩ v3).setCell ⟨g, o + 4, none⟩ v4 := rfl
set_option maxRecDepth 100000 in
set_option maxHeartbeats 1000000 in
theorem deleteB_any (f nv : Value) (rb k B0 g n cap D : Nat) (l : List (List Value)) (wB w : World) (hb : Below wB.heap.size wB w) (hr : wB.heap[rb]? = some (.cells #[nv] 27 (0, 0))) (hn : Names wB nv k) (hf : f = .func (.func 32) #[] #[.pointer (some ⟨rb, 0, none⟩)])
    (h : Row B0 w wB.heap.size g n cap D l) (hmax : n ≤ 1048576) :
    Calls Tryz.prog 31 #[.slice (some ⟨g, 0, none⟩) n cap, f] w fun e w' => Kept B0 wB.heap.size g n cap D e w' ∧ Below wB.heap.size wB w' := by
  subst hf
  have hrl := (Array.getElem?_eq_some_iff.1 hr).1
  have HX : Hid ((∀ W : World, Below wB.heap.size wB W → W.heap[rb]? = some (.cells #[nv] 27 (0, 0)) ∧ Names W nv k) ∧ Below wB.heap.size wB w ∧ Row B0 w wB.heap.size g n cap D l) := ⟨fun W hW => ⟨(hW.block _ hrl).trans hr, hn.ext (Nat.le_refl _) hW⟩, hb, h⟩
  clear hb hr hn h
  go_enter Tryz.func31, Tryz.ntmps31
  go_wp2_with fail
  refine (indexB_any _ _ nv rb k n D w HX.out.2.2.boxes (HX.out.1 _ HX.out.2.1).1 (HX.out.1 _ HX.out.2.1).2 rfl).mono ?_
  rintro e w1 ⟨⟨z, rfl, hz1, hz2⟩, hb1⟩
  have H1 : Hid (Row B0 w1 wB.heap.size g n cap D l ∧ Below wB.heap.size wB w1) := ⟨HX.out.2.2.ext hb1, HX.out.2.1.trans (hb1.mono HX.out.2.1.size)⟩
  clear hb1
  by_cases hz : z = -1
  · subst hz
    go_wp2
    go_ret
    exact ⟨⟨n, l, Nat.le_refl _, rfl, H1.out.1⟩, H1.out.2⟩
  · obtain ⟨i0, rfl⟩ : ∃ i0 : Nat, z = i0 := ⟨z.toNat, by omega⟩
    have hi0 : i0 < n := by omega
    have hz' : ((i0 : Int) == -1) = false := by simp
    go_wp2
    go_loopw [5, 6] (fun a b wr => ∃ (i j : Nat) (l' : List (List Value)), a = .int .i64 i ∧ b = .int .i64 j ∧ i < j ∧ j ≤ n ∧ Row B0 wr wB.heap.size g n cap D l' ∧ Below wB.heap.size wB wr) (fun _ b _ => n - (intOf b).toNat)
    case atStart => exact ⟨i0, i0 + 1, l, rfl, by go_num, by omega, by omega, H1.out.1, H1.out.2⟩
    case round =>
      obtain ⟨i, j, l', rfl, rfl, hij, hjn, hrow, hbw⟩ := hrel
      have HR : Hid (Row B0 wr wB.heap.size g n cap D l' ∧ Below wB.heap.size wB wr) := ⟨hrow, hbw⟩
      by_cases hlt : j < n
      · have kn : (j : Int) < n := by omega
        obtain ⟨nm, A, N, C, hbox, e0, e1, e2, e3, e4⟩ := hrow.at hlt
        clear hrow hbw
        have b0 : Below wr.heap.size wr (wr.alloc (.cells #[.string nm, .slice (A 0) (N 0) (C 0), .slice (A 1) (N 1) (C 1), .slice (A 2) (N 2) (C 2), .slice (A 3) (N 3) (C 3)] 63)) := (Below.refl _ _).alloc (Nat.le_refl _) _
        have k0 : (wr.alloc (.cells #[.string nm, .slice (A 0) (N 0) (C 0), .slice (A 1) (N 1) (C 1), .slice (A 2) (N 2) (C 2), .slice (A 3) (N 3) (C 3)] 63)).heap[wr.heap.size]? = some (.cells #[.string nm, .slice (A 0) (N 0) (C 0), .slice (A 1) (N 1) (C 1), .slice (A 2) (N 2) (C 2), .slice (A 3) (N 3) (C 3)] 63 (0, 0)) := heap_alloc_new _ _
        have HB := HidI (And.intro (HR.out.2.trans (b0.mono HR.out.2.size)) (And.intro (HR.out.1.ext b0) (And.intro (hbox.keep (.below b0)) k0)))
        clear b0 k0 hbox
        go_wp2_with fail
        refine (runs_any nm _ _ _ _ nv rb k _ (HX.out.1 _ HB.out.1).1 (HX.out.1 _ HB.out.1).2).mono ?_
        rintro e w2 ⟨⟨b1, rfl⟩, hb2⟩
        have k2 := (hb2.block wr.heap.size (Array.getElem?_eq_some_iff.1 HB.out.2.2.2).1).trans HB.out.2.2.2
        have hrow2 := HB.out.2.1.ext hb2
        obtain ⟨nm', A', N', C', _, d0, d1, d2, d3, d4⟩ := hrow2.at (show i < n by omega)
        have dF := hrow2.thaw
        have H2 := HidI (And.intro (HB.out.1.trans (hb2.mono HB.out.1.size)) (And.intro hrow2 (HB.out.2.2.1.keep (.below hb2))))
        obtain ⟨q0, q0f⟩ := blk k2
        have b3 : (i : Int) < n := by omega
        clear k2 hrow2 hb2 e0 e1 e2 e3 e4
        cases b1 with
        | true =>
          go_wp2
          go_roundw
          case rel => exact ⟨i, j + 1, l', rfl, by go_num, by omega, by omega, H2.out.2.1, H2.out.1⟩
          case measure => simp [intOf]; omega
        | false =>
          have hbg : wB.heap.size ≤ g := by
            obtain ⟨_, hb, _⟩ := H2.out.2.1.blk
            exact hb
          have s1 := H2.out.2.1.set (show i < n by omega) H2.out.2.2
          have s2 := below_cells hbg [.string nm, .slice (A 0) (N 0) (C 0), .slice (A 1) (N 1) (C 1), .slice (A 2) (N 2) (C 2), .slice (A 3) (N 3) (C 3)] (i * 5) w2 H2.out.1
          rw [set5_cells] at s1 s2
          have HS := HidI (And.intro s1 s2)
          clear s1 s2 hbg
          go_wp2
          refine ⟨⟨i + 1, j + 1, _, by go_num, by go_num, by omega, by omega, HS.out.1, HS.out.2⟩, ?_⟩
          simp [intOf]; omega
      · obtain rfl : j = n := by omega
        obtain ⟨cur, hbg, hg, hcap, _, hcs, _⟩ := hrow.blk
        have h5 : (j - i) * 5 + i * 5 = j * 5 := by omega
        have h6 : j * 5 ≤ cap * 5 := Nat.mul_le_mul_right 5 hcap
        obtain ⟨vs, hclr⟩ := clear_box wr 0 g (i * 5) (j - i) (cap - i) (fun q hq => by rw [(blk hg).1, Array.getElem?_eq_getElem (by omega)]; rfl) (fun q _ => (blk hg).2 _)
        have hne : ¬ cap = i := by omega
        have hij' : (i : Int) ≤ j := by omega
        have hjc : (j : Int) ≤ cap := by omega
        have hic : (i : Int) ≤ cap := by omega
        have HG : Hid (wB.heap.size ≤ g) := hbg
        clear hrow hbw hg hcs h5 h6 hbg
        go_wp2
        go_ret
        exact ⟨⟨i, l'.take i, by omega, rfl, HR.out.1.cut (by omega) vs⟩, below_cells HG.out vs (i * 5) wr HR.out.2⟩
end Go.Proofs.YtblkaenlajmhnaaGreatDoor
