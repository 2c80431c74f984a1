/- What the listed variables give: all that Restart and what it calls reads of them. -/
import Derived.Test.YtblkaenlajmhnaaGreatDoorH3
import Derived.Test.YtblkaenlajmhnaaGreatDoorRows
import Derived.Lib.LaidU8T
import Derived.PinnedBridge
import Derived.MakeChecks
import Derived.LaidLaws
namespace Go.Proofs.YtblkaenlajmhnaaGreatDoor
open Go.Lib Go.RowKit
theorem iface_of_reads {w : World} {n : String} {g ti : Nat} {ms : Array (String × TypeId)} {nm : String} {d : DataW Unit} (hg : Tryz.prog.globalNamed n = some g) (ht : (Tryz.prog.globals[g]?).map (·.type) = some ti) (hi : Tryz.prog.underlying ti = some (.interface ms))
    (h : VarReads Tryz.prog w n (.iface nm d)) : ∃ te pe, w.cell? ⟨g, 0, none⟩ = some (.iface te pe) := by
  obtain ⟨g0, t0, cs, fuel, p, hg0, ht0, hv, hd⟩ := h
  obtain rfl := Option.some.inj (hg.symm.trans hg0)
  obtain rfl := Option.some.inj (ht.symm.trans ht0)
  obtain ⟨f1, u, v, e, _, _⟩ := iface_of_trod hi hd
  refine ⟨u, v, ?_⟩
  rw [World.var?_cell hg hv 0, ← Array.getElem?_toList, e]
  rfl
theorem tab_of_reads {w : World} {n : String} {g t e N : Nat} {k : IntKind} {zs : List Int} (hg : Tryz.prog.globalNamed n = some g) (ht : (Tryz.prog.globals[g]?).map (·.type) = some t) (hu : Tryz.prog.underlying t = some (.array N e)) (he : Tryz.prog.underlying e = some (.int k)) (hce : Tryz.prog.cellsOf e = 1) (hct : Tryz.prog.cellsOf t = N)
    (h : VarReads Tryz.prog w n (tabData k zs)) : TabIs Tryz.prog w n k zs := by
  obtain ⟨g0, t0, cs, fuel, p, hg0, ht0, hv, hd⟩ := h
  obtain rfl := Option.some.inj (hg.symm.trans hg0)
  obtain rfl := Option.some.inj (ht.symm.trans ht0)
  have hcs := cells_of_tab hu he hce hct hd
  unfold TabIs
  rw [hv]
  obtain ⟨l⟩ := cs
  exact congrArg (fun l => some (Array.mk l)) hcs
def rhoU : Go.Shelf.Ren := ⟨fun x => x, fun n => if n = 5 then 5 else if n = 119 then 195 else if n = 138 then 197 else 198, fun n => if n = 3 then 3 else 4⟩
theorem u8types : U8Types Tryz.prog rhoU := ⟨by kernel_rfl, by kernel_rfl, by kernel_rfl, by kernel_rfl⟩
theorem u8extra : U8Extra Tryz.prog rhoU := ⟨by kernel_rfl, by kernel_rfl, by kernel_rfl, by kernel_rfl, by kernel_rfl, by kernel_rfl, by kernel_rfl⟩
theorem pow10_laid : (Rows.laid_internal_strconv_uint64pow10 : DataW Unit) = tabData .u64 Lib.pow10Tab := by kernel_rfl
theorem db64_laid : (Rows.laid_math_bits_deBruijn64tab : DataW Unit) = tabData .u8 (Lib.deBruijn64tab.map fun n => ((n : Nat) : Int)) := by kernel_rfl
theorem accept_laid : (Rows.laid_unicode_utf8_acceptRanges : DataW Unit) = acceptData := by kernel_rfl
theorem first_laid : Rows.laid_unicode_utf8_first = firstData := Pinned.utf8First_eq
set_option maxRecDepth 100000 in
theorem env_of_laid {w : World} (hs : Tryz.prog.globals.size ≤ w.heap.size)
    (h0 : VarReads Tryz.prog w "strconv.ErrSyntax" Rows.laid_strconv_ErrSyntax) (h1 : VarReads Tryz.prog w "strconv.ErrRange" Rows.laid_strconv_ErrRange) (h2 : VarReads Tryz.prog w "berth/disk.ErrFailed" Rows.laid_berth_disk_ErrFailed)
    (h3 : VarReads Tryz.prog w "internal/strconv.uint64pow10" Rows.laid_internal_strconv_uint64pow10) (h4 : VarReads Tryz.prog w "unicode/utf8.first" Rows.laid_unicode_utf8_first) (h5 : VarReads Tryz.prog w "unicode/utf8.acceptRanges" Rows.laid_unicode_utf8_acceptRanges)
    (h6 : VarReads Tryz.prog w "math/bits.deBruijn64tab" Rows.laid_math_bits_deBruijn64tab) : Env w := by
  rw [pow10_laid] at h3
  rw [first_laid] at h4
  rw [accept_laid] at h5
  rw [db64_laid] at h6
  have hn : Tryz.prog.globals.size = 14 := by kernel_rfl
  refine ⟨by omega, iface_of_reads (ti := 78) (by kernel_rfl) (by kernel_rfl) Tryz.underlying78 h0, iface_of_reads (ti := 78) (by kernel_rfl) (by kernel_rfl) Tryz.underlying78 h1, iface_of_reads (ti := 78) (by kernel_rfl) (by kernel_rfl) Tryz.underlying78 h2,
    tab_of_reads (g := 5) (t := 211) (e := 147) (N := 20) (by kernel_rfl) (by kernel_rfl) (by kernel_rfl) (by kernel_rfl) (by kernel_rfl) (by kernel_rfl) h3, utf8Tabs_of_readsT u8types u8extra h4 h5, fun j hj => ?_⟩
  have ht := tab_of_reads (g := 13) (t := 230) (e := 5) (N := 64) (by kernel_rfl) (by kernel_rfl) (by kernel_rfl) (by kernel_rfl) (by kernel_rfl) (by kernel_rfl) h6
  have := ht.cell (g := 13) (by kernel_rfl) j (by simpa using hj)
  rw [this]
  simp [List.getD, hj]
end Go.Proofs.YtblkaenlajmhnaaGreatDoor
