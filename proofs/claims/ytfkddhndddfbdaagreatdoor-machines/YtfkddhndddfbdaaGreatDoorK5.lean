/- markBoxes, markOps of lists that hold nothing. -/
import Derived.Test.YtfkddhndddfbdaaGreatDoorK4
namespace Go.Proofs.YtfkddhndddfbdaaGreatDoor
open Go.RowKit
attribute [local go_sem ↓] Go.wp_at_zero Go.wp_at_succ
attribute [local go_sem] After.cell After.frozen After.const

theorem Tryz.infoBox : (Tryz.prog.info? 101).map (fun i => (i.zero, i.size, i.bytes)) = some (some (.agg #[.string ⟨#[]⟩, .slice none 0 0, .slice none 0 0, .slice none 0 0, .slice none 0 0]), 5, 112) := by kernel_rfl
theorem Tryz.infoOp : (Tryz.prog.info? 155).map (fun i => (i.zero, i.size, i.bytes)) = some (some (.agg #[.int .i64 0, .string ⟨#[]⟩, .string ⟨#[]⟩, .string ⟨#[]⟩]), 4, 56) := by kernel_rfl
theorem Tryz.infoBoxes : (Tryz.prog.info? 38).map (fun i => (i.zero, i.size, i.bytes)) = some (some (.slice none 0 0), 1, 24) := by kernel_rfl
theorem Tryz.infoOps : (Tryz.prog.info? 58).map (fun i => (i.zero, i.size, i.bytes)) = some (some (.slice none 0 0), 1, 24) := by kernel_rfl
/-- The name of the box that bears the mark m. -/
def boxName (m : Nat) : ByteArray := strOfNums [63, (m : Int) % 256, (m : Int) / 256 % 256]

set_option maxRecDepth 100000 in
set_option maxHeartbeats 4000000 in
theorem box_any (m : Nat) (w : World) (hm : m ≤ 1000000000000) :
    Calls Tryz.prog 148 #[.int .i64 (m : Int)] w fun e w' => e = .returned (.agg #[.string (boxName m), .slice none 0 0, .slice none 0 0, .slice none 0 0, .slice none 0 0]) ∧ Below w.heap.size w w' := by
  have hc := run_convert_bytes_arg (P := Tryz.prog) ((w.alloc (.cells #[.string ⟨#[]⟩, .slice none 0 0, .slice none 0 0, .slice none 0 0, .slice none 0 0] 101)).alloc (.cells #[.int .u8 63, .int .u8 ((m : Int) % 256), .int .u8 ((m : Int) / 256 % 256)] 5)) 220 5 Tryz.underlying220 Tryz.underlying5 (w.heap.size + 1) 0 3 3 [63, (m : Int) % 256, (m : Int) / 256 % 256] rfl
    (fun i hi => by
      rw [cell_of_row _ _ _ _ _ _ (heap_alloc2_new _ _ _)]
      rcases (show i = 0 ∨ i = 1 ∨ i = 2 by omega) with rfl | rfl | rfl <;> rfl) 9 Tryz.underlying9
  change _ = Result.ok (Value.string (boxName m)) _ at hc
  go_enter Tryz.func148, Tryz.ntmps148
  go_wp2_with fail
  obtain ⟨z, _⟩ := blk (heap_alloc2_old w (.cells #[.string (boxName m), .slice none 0 0, .slice none 0 0, .slice none 0 0, .slice none 0 0] 101) (.cells #[.int .u8 63, .int .u8 ((m : Int) % 256), .int .u8 ((m : Int) / 256 % 256)] 5))
  exact bodyPost_ret (v := .agg #[.string (boxName m), .slice none 0 0, .slice none 0 0, .slice none 0 0, .slice none 0 0]) (by simp [results, Tryz.results148, go_sem, z]) rfl ⟨rfl, ((Below.refl _ _).alloc (Nat.le_refl _) _).alloc (by simp) _⟩
end Go.Proofs.YtfkddhndddfbdaaGreatDoor
