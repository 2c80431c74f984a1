/- Disk.Replace on a disk on which nothing was done. change. -/
import Derived.Test.YtblkaenlajmhnaaGreatDoorHZ
import Derived.Test.YtblkaenlajmhnaaGreatDoorH0
namespace Go.Proofs.YtblkaenlajmhnaaGreatDoor
open Go.RowKit
attribute [local go_sem ↓] Go.wp_at_zero Go.wp_at_succ
attribute [local go_sem] After.cell After.frozen After.const
def Book (bb base : Nat) (c0 c1 c2 c3 c4 c5 c6 : Value) (n : Nat) (w : World) : Prop := ∃ v xs, w.heap[bb]? = some (.cells #[c0, c1, c2, c3, c4, c5, c6, v, .bool false, .int .i64 0] 57 (0, 0)) ∧ w.ownsRow base 105 4 v n xs
set_option maxRecDepth 100000 in
set_option maxHeartbeats 2000000 in
theorem replace_any (bb : Nat) (c0 c1 c2 c3 c4 c5 c6 : Value) (nm bytes : ByteArray) (w : World) (hnm : nm.size ≤ 1000) (hb : w.heap[bb]? = some (.cells #[c0, c1, c2, c3, c4, c5, c6, .slice none 0 0, .bool false, .int .i64 0] 57 (0, 0))) :
    Calls Tryz.prog 34 #[.pointer (some ⟨bb, 7, none⟩), .string nm, .string bytes] w fun e w' => e = .returned .nilIface ∧ (But bb w w' ∧ Book bb w.heap.size c0 c1 c2 c3 c4 c5 c6 4 w') := by
  have hbl := (Array.getElem?_eq_some_iff.1 hb).1
  have H0 := HidI hb
  clear hb
  go_enter Tryz.func34, Tryz.ntmps34
  go_wp2_with fail
  refine (replacing_any nm bytes w hnm).mono ?_
  rintro e W1 ⟨nm1, fresh, by1, rfl, hW1⟩
  have k1 : W1.heap[w.heap.size]? = some (.cells (opCells nm1 fresh by1) 105 (0, 0)) := by rw [hW1]; exact heap_alloc_new _ _
  have b1 : Below w.heap.size w W1 := by rw [hW1]; exact (Below.refl _ _).alloc (Nat.le_refl _) _
  have z1 : W1.heap.size = w.heap.size + 1 := by rw [hW1]; simp
  have H1 := HidI (And.intro k1 (And.intro b1 ((b1.block bb hbl).trans H0.out)))
  clear hW1 k1 b1
  go_wp2
  go_loopw [14] (fun i wr => ∃ j : Nat, j ≤ 4 ∧ i = .int .i64 j ∧ But bb W1 wr ∧ Book bb W1.heap.size c0 c1 c2 c3 c4 c5 c6 j wr) (fun i _ => 4 - (intOf i).toNat)
  case atStart => exact ⟨0, by omega, rfl, But.refl _ _, _, [], H1.out.2.2, World.ownsRow_nil _ _ _ _⟩
  case round =>
    obtain ⟨j, hj, rfl, hbut, v, xs, hblk, hown⟩ := hrel
    have HR := HidI (And.intro hbut (And.intro hblk hown))
    have kk := (hbut.block w.heap.size (by omega) (by omega)).trans H1.out.1
    unfold opCells at kk
    obtain ⟨q0, q0f⟩ := blk kk
    have hal : ∀ o : Obj, (wr.alloc o).heap[bb]? = some (.cells #[c0, c1, c2, c3, c4, c5, c6, v, .bool false, .int .i64 0] 57 (0, 0)) := fun o => (Below.heap_alloc wr o bb (Array.getElem?_eq_some_iff.1 hblk).1).trans hblk
    have HS := HidI hal
    have HZ : Hid (W1.heap.size ≤ wr.heap.size) := hbut.size
    have step : ∀ (k : Int) (s1 s2 s3 : ByteArray) (e : Ending) (w' : World), Done bb W1.heap.size (j + 1) (wr.alloc (.cells #[.int .i64 k, .string s1, .string s2, .string s3] 105)) (xs ++ [.int .i64 k, .string s1, .string s2, .string s3]) w' → But bb W1 w' ∧ Book bb W1.heap.size c0 c1 c2 c3 c4 c5 c6 (j + 1) w' := fun k s1 s2 s3 e w' hd => by
      obtain ⟨v', w2, rfl, h1, h2, h3⟩ := hd
      have hal := (Below.heap_alloc wr (.cells #[.int .i64 k, .string s1, .string s2, .string s3] 105) bb (Array.getElem?_eq_some_iff.1 hblk).1).trans hblk
      have hsz : W1.heap.size ≤ wr.heap.size := hbut.size
      have b2 : Below W1.heap.size wr w2 := ((Below.refl _ _).alloc hsz _).trans h2
      have c := But.setCell (c := bb) w2 7 v'
      exact ⟨⟨c.os.trans (b2.os.trans hbut.os), c.tape.trans (b2.tape.trans hbut.tape), c.output.trans (b2.output.trans hbut.output), Nat.le_trans hbut.size (Nat.le_trans b2.size c.size), fun b hb hc => (c.block b (by have := hbut.size; have := b2.size; omega) hc).trans ((b2.block b hb).trans (hbut.block b hb hc))⟩, v', _, blk_set (i := 7) v' (h1.trans hal), h3⟩
    have HT := HidI step
    clear step hbut hblk hown kk hal
    by_cases hlt : j < 4
    · have hj4 : j = 0 ∨ j = 1 ∨ j = 2 ∨ j = 3 := by omega
      rcases hj4 with rfl | rfl | rfl | rfl
      all_goals
        go_wp2_with (go_at_call 57; refine (do_any bb W1.heap.size _ c0 c1 c2 c3 c4 c5 c6 v _ _ _ _ xs _ (HS.out _) (by omega) (by have := HZ.out; simp; omega) (HR.out.2.2.alloc _) (by omega)).mono ?_; rintro e w3 ⟨rfl, hd⟩; have H3 := HidI (HT.out _ _ _ _ .outgrown _ hd); clear hd)
        go_roundw
        case rel => exact ⟨_, by omega, by go_num, H3.out⟩
        case measure => simp [intOf]
    · obtain rfl : j = 4 := by omega
      go_wp2
      go_ret
      exact ⟨rfl, (But.of_below H1.out.2.1).trans HR.out.1, v, xs, HR.out.2.1, ownsRow_base HR.out.2.2 (by omega)⟩
end Go.Proofs.YtblkaenlajmhnaaGreatDoor
namespace Go.Proofs.YtblkaenlajmhnaaGreatDoor
open Go.RowKit
attribute [local go_sem ↓] Go.wp_at_zero Go.wp_at_succ
attribute [local go_sem] After.cell After.frozen After.const
def Changed (bb : Nat) (c0 c1 c2 c3 c4 c5 c6 v : Value) (w : World) (e : Ending) (w' : World) : Prop := (∃ z : Int, e = .returned (.int .i64 z)) ∧ But bb w w' ∧ (Book bb w.heap.size c0 c1 c2 c3 c4 c5 c6 4 w' ∨ Book bb w.heap.size c0 c1 c2 c3 c4 c5 v 4 w')
theorem Env.but {w w' : World} {bb : Nat} (h : Env w) (hb : But bb w w') (hbb : 14 ≤ bb) : ∃ te pe, w'.cell? ⟨0, 0, none⟩ = some (.iface te pe) := by
  obtain ⟨te, pe, e⟩ := h.fail
  have hl : (0 : Nat) < w.heap.size := Nat.lt_of_lt_of_le (by decide) h.size
  exact ⟨te, pe, (World.cell?_of_block (a := ⟨0, 0, none⟩) (hb.block _ hl (Nat.ne_of_lt (Nat.lt_of_lt_of_le (by decide) hbb)))).trans e⟩
set_option maxRecDepth 100000 in
set_option maxHeartbeats 2000000 in
theorem change_any (bb n D : Nat) (c0 c1 c2 c3 c4 c5 c6 v : Value) (w : World) (hbb : 14 ≤ bb) (henv : Env w) (hb : w.heap[bb]? = some (.cells #[c0, c1, c2, c3, c4, c5, c6, .slice none 0 0, .bool false, .int .i64 0] 57 (0, 0))) (h : Boxes w v n D) (hn : n * (D + 12) ≤ 140737488355000) (hnD : n ≤ 1099511627776) (hD : D ≤ 1099511627776) :
    Calls Tryz.prog 16 #[.pointer (some ⟨bb, 0, none⟩), v] w fun e w' => Changed bb c0 c1 c2 c3 c4 c5 c6 v w e w' := by
  have hbl := (Array.getElem?_eq_some_iff.1 hb).1
  have bd : Below w.heap.size w w.drew := (Below.refl _ _).drew
  have H0 := HidI (And.intro hb (And.intro (henv.ext bd) (h.ext bd)))
  have HEn := HidI henv
  obtain ⟨ao, cap, rfl, _⟩ := h
  clear hb henv
  go_enter Tryz.func16, Tryz.ntmps16
  go_wp2_with fail
  go_region_with (first
    | (go_at_call 35; refine (text_any _ n D w.drew H0.out.2.2 hn hnD hD H0.out.2.1).mono ?_; rintro e w1 ⟨⟨t, rfl, _⟩, hb1⟩; have H1 := HidI hb1; clear hb1)
    | (go_at_call 34; refine (replace_any bb c0 c1 c2 c3 c4 c5 c6 ⟨#[98, 111, 120, 101, 115]⟩ t w1 (by decide) ((H1.out.block bb hbl).trans H0.out.1)).mono ?_; rintro e w2 ⟨rfl, hd⟩; have H2 := HidI hd; clear hd))
  have hw2 : But bb w w2 := (But.of_below (bd.trans H1.out)).trans H2.out.1
  have hs : w.heap.size ≤ w1.heap.size := (bd.trans H1.out).size
  obtain ⟨te, pe, hfl⟩ := HEn.out.but hw2 hbb
  obtain ⟨dv, dxs, hblk, hown⟩ := H2.out.2
  have H3 := HidI (And.intro hw2 (And.intro hblk (ownsRow_base hown hs)))
  obtain ⟨q0, q0f⟩ := blk hblk
  clear hw2 hblk hown bd
  go_wp2_with (go_at_call 36; refine (isNil_any _ te pe rfl _).mono ?_; rintro e w3 ⟨⟨b3, rfl⟩, hw3⟩; obtain rfl := hw3.symm; cases b3)
  · go_ret
    exact ⟨⟨0, rfl⟩, H3.out.1.trans (But.setCell w2 6 _), .inr ⟨dv, dxs, blk_set (i := 6) _ H3.out.2.1, ownsRow_setCell_below H3.out.2.2 (a := ⟨bb, 6, none⟩) hbl _⟩⟩
  · go_ret
    exact ⟨⟨11, rfl⟩, H3.out.1, .inl ⟨dv, dxs, H3.out.2.1, H3.out.2.2⟩⟩
end Go.Proofs.YtblkaenlajmhnaaGreatDoor
