/- QuoteToASCII, as far as lengths go: the whole. -/
import Derived.Test.YtblkaenlajmhnaaGreatDoorHF
import Derived.Test.YtblkaenlajmhnaaGreatDoorHC
namespace Go.Proofs.YtblkaenlajmhnaaGreatDoor
open Go.RowKit
attribute [local go_sem ↓] Go.wp_at_zero Go.wp_at_succ
attribute [local go_sem] After.cell After.frozen After.const
theorem conv_ownF {base : Nat} {w : World} {v : Value} {n : Nat} {xs : List Value} (h : w.ownsRowF base 5 1 v n xs) (hu : U8s xs) : ∃ str : ByteArray, str.size = n ∧ (convert 111 9 v).run Tryz.prog w = .ok (.string str) w := by
  have hl : xs.length = n := by have := h.1; omega
  rcases h.2 with ⟨rfl, h0⟩ | ⟨g, cap, cur, fz, rfl, _, hg, hf, hn, hc, hs, ht⟩
  · refine ⟨ByteArray.empty, ?_, run_convert_bytes_nil (P := Tryz.prog) (w := w) 111 5 Tryz.underlying111 Tryz.underlying5 0 0 _ Tryz.underlying9⟩
    subst h0
    rfl
  · have hz : ∃ zs : List Int, xs = zs.map (fun z => Value.int .u8 z) := by
      clear hl ht h
      induction xs with
      | nil => exact ⟨[], rfl⟩
      | cons x r ih =>
        obtain ⟨zs, rfl⟩ := ih (fun u hm => hu u (List.mem_cons_of_mem _ hm))
        obtain ⟨z, rfl⟩ := hu x (List.mem_cons_self)
        exact ⟨z :: zs, rfl⟩
    obtain ⟨zs, rfl⟩ := hz
    have hzl : zs.length = n := by simpa using hl
    refine ⟨strOfNums zs, ?_, run_convert_bytes_arg (P := Tryz.prog) (w := w) 111 5 Tryz.underlying111 Tryz.underlying5 g 0 n cap zs hzl (fun i hi => ?_) _ Tryz.underlying9⟩
    · simp [strOfNums, ByteArray.size, hzl]
    · have e : (zs.map (fun z => Value.int .u8 z))[i]? = some (.int .u8 (zs.getD i 0)) := by simp [hzl, hi, List.getD]
      rw [Nat.zero_add, cell_of_row w g i cur _ fz hg]
      rw [← ht, List.getElem?_take] at e
      split at e
      · simpa using e
      · cases e
set_option maxRecDepth 100000 in
set_option maxHeartbeats 4000000 in
theorem quoteWith_any (s : ByteArray) (w : World) (hs : s.size ≤ 1099511627776) (henv : Env w) :
    Calls Tryz.prog 106 #[.string s, .int .u8 34, .bool true, .bool false] w fun e w' => TextUpTo (10 * s.size + 2) e ∧ Below w.heap.size w w' := by
  obtain ⟨i0, hi0, hz0, hz1, hz2⟩ := info_parts Tryz.infoByte
  have hut := Tryz.underlying111
  have hC : (3 * (s.size : Int) / 2) = ((3 * s.size / 2 : Nat) : Int) := by omega
  obtain ⟨w2, hrun, hown, hgrow⟩ := run_make_own (P := Tryz.prog) w w.heap.size 111 5 i0 _ 1 hut hi0 hz0 hz1 .i64 .i64 (3 * s.size / 2) (by rw [hz2]; omega) (by unfold maxLen; omega) (Nat.le_refl _)
  rw [← hC] at hrun
  have hb0 : Lib.OwnBuf w.heap.size 5 (.slice (some ⟨w.heap.size, 0, none⟩) 0 (3 * s.size / 2)) 0 [] w w2 := ⟨World.ownsRowF_of hown, (Below.refl _ _).grown hgrow (Nat.le_refl _) (fun k hk => by cases hk), hgrow.size⟩
  have HB : Hid (Lib.OwnBuf w.heap.size 5 (.slice (some ⟨w.heap.size, 0, none⟩) 0 (3 * s.size / 2)) 0 [] w w2 ∧ Env w) := ⟨hb0, henv⟩
  clear hown hgrow hb0 henv hC
  go_enter Tryz.func106, Tryz.ntmps106
  go_wp2_with (go_at_call 128; refine (quotedWith_any w.heap.size _ 0 (3 * s.size / 2) [] s w w2 HB.out.1 (by intro u hu; cases hu) (by omega) (by omega) (by omega) HB.out.2.size (Nat.le_refl _) HB.out.2).mono ?_; rintro e w3 ⟨v', n', xs', rfl, hb, hn, hu⟩; obtain ⟨str, hstr, hcv⟩ := conv_ownF hb.1 hu; have hB : Below w.heap.size w w3 := hb.2.1; clear hb hu)
  go_ret
  exact ⟨⟨str, rfl, by omega⟩, hB⟩
theorem quoteASCII_any (s : ByteArray) (w : World) (hs : s.size ≤ 1099511627776) (henv : Env w) :
    Calls Tryz.prog 86 #[.string s] w fun e w' => TextUpTo (10 * s.size + 2) e ∧ Below w.heap.size w w' := by
  go_enter Tryz.func86, Tryz.ntmps86
  go_wp2_with (go_at_call 106; refine (quoteWith_any s w hs henv).mono ?_; rintro e w1 ⟨⟨t, rfl, ht⟩, hb⟩)
  go_ret
  exact ⟨⟨t, rfl, ht⟩, hb⟩
end Go.Proofs.YtblkaenlajmhnaaGreatDoor
