/- Files and texts: what Restart reads of the files. -/
import Derived.Test.YtblkaenlajmhnaaGreatDoorU1
import Derived.Deep.MidRow
namespace Go.Proofs.YtblkaenlajmhnaaGreatDoor
open Go.RowKit
attribute [local go_sem ↓] Go.wp_at_zero Go.wp_at_succ
attribute [local go_sem] After.cell After.frozen After.const
theorem Tryz.infoStr : (Tryz.prog.info? 9).map (fun i => (i.zero, i.size, i.bytes)) = some (some (.string ByteArray.empty), 1, 16) := by kernel_rfl
def Short (L : Nat) (u : Value) : Prop := ∃ s : ByteArray, u = .string s ∧ s.size ≤ L
def Files (w : World) (v : Value) (n L : Nat) : Prop := ∃ ao cap, v = .slice ao n cap ∧ n ≤ cap ∧ n ≤ 9223372036854775807 ∧
  (0 < n → ∃ b o, ao = some ⟨b, o, none⟩ ∧ b < w.heap.size ∧ ∀ i, i < n → ∃ s t : ByteArray, w.cell? ⟨b, o + i * 2, none⟩ = some (.string s) ∧ w.cell? ⟨b, o + i * 2 + 1, none⟩ = some (.string t) ∧ s.size ≤ L ∧ t.size ≤ L)
theorem Files.ext {w w' : World} {v : Value} {n L : Nat} (h : Files w v n L) (hb : Below w.heap.size w w') : Files w' v n L := by
  obtain ⟨ao, cap, rfl, h1, h2, h3⟩ := h
  refine ⟨ao, cap, rfl, h1, h2, fun h0 => ?_⟩
  obtain ⟨b, o, rfl, hl, hi⟩ := h3 h0
  refine ⟨b, o, rfl, Nat.lt_of_lt_of_le hl hb.size, fun i hin => ?_⟩
  obtain ⟨s, t, e1, e2, l1, l2⟩ := hi i hin
  exact ⟨s, t, (hb.cell (p := ⟨b, _, none⟩) hl).trans e1, (hb.cell (p := ⟨b, _, none⟩) hl).trans e2, l1, l2⟩
set_option maxRecDepth 100000 in
set_option maxHeartbeats 2000000 in
theorem textsOf_any (v : Value) (n L : Nat) (w : World) (hn : n * 16 ≤ 140737488355328) (h : Files w v n L) :
    Calls Tryz.prog 28 #[v] w fun e w' => ∃ v' k xs, e = .returned v' ∧ w'.ownsRow w.heap.size 9 1 v' k xs ∧ k ≤ n ∧ (∀ u ∈ xs, Short L u) ∧ Below w.heap.size w w' := by
  have hF := h
  obtain ⟨ao, cap, rfl, _, hm, _⟩ := h
  obtain ⟨i0, hi, hz0, hz1, hz2⟩ := info_parts Tryz.infoStr
  have hu := Tryz.underlying27
  have HF : Hid (Files w (.slice ao n cap) n L) := hF
  clear hF
  go_enter Tryz.func28, Tryz.ntmps28
  go_wp2_with fail
  go_loopw [3, 8] (fun v i wr => ∃ (k m : Nat) (xs : List Value), k ≤ n ∧ i = .int .i64 k ∧ wr.ownsRow w.heap.size 9 1 v m xs ∧ m ≤ k ∧ (∀ u ∈ xs, Short L u) ∧ Below w.heap.size w wr) (fun _ i _ => n - (intOf i).toNat)
  case atStart => exact ⟨0, 0, [], by omega, rfl, World.ownsRow_nil _ _ _ _, by omega, by simp, Below.refl _ _⟩
  case round =>
    obtain ⟨k, m, xs, hk, rfl, hown, hmk, hxs, hb⟩ := hrel
    have HR : Hid (wr.ownsRow w.heap.size 9 1 u3 m xs ∧ (∀ u ∈ xs, Short L u) ∧ Below w.heap.size w wr) := ⟨hown, hxs, hb⟩
    have hz : w.heap.size ≤ wr.heap.size := hb.size
    by_cases hlt : k < n
    · have kn : (k : Int) < n := by omega
      obtain ⟨ao', cap', he, _, _, hF⟩ := HF.out.ext hb
      cases he
      obtain ⟨b, o, rfl, hbl, hF⟩ := hF (by omega)
      obtain ⟨s, t, e1, e2, l1, l2⟩ := hF k hlt
      have HL : Hid (t.size ≤ L) := l2
      clear hF hb hown hxs l1 l2
      go_wp2_with (at_builtin; refine wpList_append_own _ rfl _ _ _ rfl w.heap.size 9 i0 _ 1 16 hu hi hz0 hz1 hz2 rfl (by omega) _ m xs rfl ((HR.out.1.alloc _).alloc _) ⟨wr.heap.size + 1, 0, none⟩ 1 1 [.string t] (by rfl) rfl (by simpa using cell_one_new (wr.alloc _) _ _) (by intro u hu; simp at hu; subst hu; rfl) (by unfold maxLen; omega) (by omega) (by simp; omega) ?_; intro v' w1 hown hgrow _)
      · have HO : Hid (w1.ownsRow w.heap.size 9 1 v' (m + 1) (xs ++ [.string t]) ∧ (∀ u ∈ xs ++ [Value.string t], Short L u) ∧ Below w.heap.size w w1) := by
          refine ⟨hown, fun u hu => ?_, ((HR.out.2.2.alloc hz _).alloc (by simp; omega) _).grown hgrow (by simp; omega) (fun q hq => (HR.out.1.lt q hq).1)⟩
          rcases List.mem_append.1 hu with hu | hu
          · exact HR.out.2.1 u hu
          · simp at hu; subst hu; exact ⟨t, rfl, HL.out⟩
        clear hown hgrow
        go_wp2
        go_roundw
        case rel => exact ⟨k + 1, m + 1, _, by omega, by go_num, HO.out.1, by omega, HO.out.2.1, HO.out.2.2⟩
        case measure => simp [intOf]; omega
      · go_roundw
        case rel => exact ⟨k + 1, m, xs, by omega, by go_num, HR.out.1.alloc _, by omega, HR.out.2.1, HR.out.2.2.alloc hz _⟩
        case measure => simp [intOf]; omega
    · obtain rfl : k = n := by omega
      clear hb hown hxs
      go_wp2_with fail
      go_ret
      exact ⟨_, m, xs, rfl, HR.out.1, hmk, HR.out.2.1, HR.out.2.2⟩
end Go.Proofs.YtblkaenlajmhnaaGreatDoor
