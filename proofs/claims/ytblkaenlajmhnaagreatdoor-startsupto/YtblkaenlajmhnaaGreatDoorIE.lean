/- A start for the witness of Starts: the settled heap, with what the listed variables hold laid in it. -/
import Derived.Test.YtblkaenlajmhnaaGreatDoorRows
import Derived.ProofKit
import Derived.LaidLaws
import Derived.MakeChecks
import Derived.Lib.LaidIn
import Derived.Great.LaidInts
import Derived.KernelRfl
namespace Go.Proofs.YtblkaenlajmhnaaGreatDoor
open Go.ChangeShapes Go.WideShapes Go.ChangeAt Go.RowKit Go.Great
def putCells (cs : Array Value) : Obj → Obj
  | .cells _ t f => .cells cs t f
  | o => o
def litOne : DataW Unit → List Value
  | .lit (.int k n) => [.int k n]
  | _ => []
def litTwo : DataW Unit → List Value
  | .agg ps => ps.flatMap litOne
  | d => litOne d
def litAll : DataW Unit → List Value
  | .agg ps => ps.flatMap litTwo
  | d => litTwo d
def datCells (d : DataW Unit) : Array Value := (litAll d).toArray
def ofNats (l : List Nat) : List Int := l.map fun (n : Nat) => (n : Int)
def over (k : IntKind) (l : List Nat) : Array Value := ((ofNats l).map (Value.int k)).toArray
def row1 (b : Nat) (l : List Nat) : Array Value := #[.slice (some ⟨b, 0, none⟩) (ofNats l).length (ofNats l).length]
def tabled (h : Array Obj) : Array Obj :=
  (((((((((((((h.modify 0 (putCells #[.iface 221 (.pointer (some ⟨24, 0, none⟩))])).modify 5 (putCells (datCells Rows.laid_internal_strconv_uint64pow10))).modify 12 (putCells (datCells Rows.laid_math_bits_deBruijn32tab))).modify 13 (putCells (datCells Rows.laid_math_bits_deBruijn64tab))).modify 4 (putCells (datCells Rows.laid_unicode_utf8_acceptRanges))).modify 3
    (putCells (datCells Rows.laid_unicode_utf8_first))).modify 7 (putCells (row1 19 Pinned.isPrint16Z))).modify 8 (putCells (row1 20 Pinned.isNotPrint16Z))).modify 9 (putCells (row1 21 Pinned.isPrint32Z))).modify 10 (putCells (row1 22 Pinned.isNotPrint32Z))).modify 11 (putCells (row1 23 Pinned.isGraphicZ))).modify 1
    (putCells #[.iface 221 (.pointer (some ⟨25, 0, none⟩))])).modify 6 (putCells #[.iface 221 (.pointer (some ⟨26, 0, none⟩))])) ++
  #[.cells (over .u16 Pinned.isPrint16Z) 224, .cells (over .u16 Pinned.isNotPrint16Z) 224, .cells (over .u32 Pinned.isPrint32Z) 190, .cells (over .u16 Pinned.isNotPrint32Z) 224, .cells (over .u16 Pinned.isGraphicZ) 224,
    .cells #[.string ⟨#[116, 104, 101, 32, 100, 105, 115, 107, 32, 111, 112, 101, 114, 97, 116, 105, 111, 110, 32, 102, 97, 105, 108, 101, 100]⟩] 223, .cells #[.string ⟨#[105, 110, 118, 97, 108, 105, 100, 32, 115, 121, 110, 116, 97, 120]⟩] 223, .cells #[.string ⟨#[118, 97, 108, 117, 101, 32, 111, 117, 116, 32, 111, 102, 32, 114, 97, 110, 103, 101]⟩] 223]
theorem nats_wf (k : IntKind) (l : List Nat) (h : ((ofNats l).all fun n => (Lit.int k n).wf) = true) : ∀ n ∈ ofNats l, (Lit.int k n).wf = true := fun n hn => List.all_eq_true.1 h n hn
set_option maxRecDepth 1000000 in
theorem pieceA (os : Os) (args : Array Value) : LaidIn Tryz.prog (({ World.settled Tryz.prog os with heap := tabled (World.settled Tryz.prog os).heap } : World).forCall (fun _ _ => 0) ⟨#[], args, []⟩).memory (Rows.startsUptoRow.laid.take 7) [12, 13, 5, 4, 6, 26, 1, 25, 0, 24] :=
  LaidIn.of_run [12, 13, 5, 4, 6, 26, 1, 25, 0, 24] 10 (by kernel_rfl) (by kernel_rfl) (by kernel_rfl) (by kernel_rfl)
set_option maxRecDepth 1000000 in
theorem pieceF (os : Os) (args : Array Value) : LaidIn Tryz.prog (({ World.settled Tryz.prog os with heap := tabled (World.settled Tryz.prog os).heap } : World).forCall (fun _ _ => 0) ⟨#[], args, []⟩).memory [("unicode/utf8.first", Rows.laid_unicode_utf8_first)] [3] :=
  LaidIn.of_run [3] 10 (by kernel_rfl) (by kernel_rfl) (by kernel_rfl) (by kernel_rfl)
set_option maxRecDepth 1000000 in
theorem piece11 (os : Os) (args : Array Value) : LaidIn Tryz.prog (({ World.settled Tryz.prog os with heap := tabled (World.settled Tryz.prog os).heap } : World).forCall (fun _ _ => 0) ⟨#[], args, []⟩).memory [("strconv.isGraphic", Rows.laid_strconv_isGraphic)] [11, 23] := by
  have e : Rows.laid_strconv_isGraphic = .slice ((ofNats Pinned.isGraphicZ).map fun n => .lit (.int .u16 n)) [] := by kernel_rfl
  rw [e]
  exact laidIn_ints (name := "strconv.isGraphic") (g := 11) (R := 23) (t := 225) (e := 224) (tg := 225) (k := .u16) (zs := ofNats Pinned.isGraphicZ) (by kernel_rfl) (by kernel_rfl) (by kernel_rfl) (by kernel_rfl) (by kernel_rfl) (Nat.le_of_ble_eq_true (by kernel_rfl)) (nats_wf _ _ (by kernel_rfl)) (by kernel_rfl) (by kernel_rfl) (Nat.ne_of_beq_eq_false (by kernel_rfl))
set_option maxRecDepth 1000000 in
theorem piece8 (os : Os) (args : Array Value) : LaidIn Tryz.prog (({ World.settled Tryz.prog os with heap := tabled (World.settled Tryz.prog os).heap } : World).forCall (fun _ _ => 0) ⟨#[], args, []⟩).memory [("strconv.isNotPrint16", Rows.laid_strconv_isNotPrint16)] [8, 20] := by
  have e : Rows.laid_strconv_isNotPrint16 = .slice ((ofNats Pinned.isNotPrint16Z).map fun n => .lit (.int .u16 n)) [] := by kernel_rfl
  rw [e]
  exact laidIn_ints (name := "strconv.isNotPrint16") (g := 8) (R := 20) (t := 225) (e := 224) (tg := 225) (k := .u16) (zs := ofNats Pinned.isNotPrint16Z) (by kernel_rfl) (by kernel_rfl) (by kernel_rfl) (by kernel_rfl) (by kernel_rfl) (Nat.le_of_ble_eq_true (by kernel_rfl)) (nats_wf _ _ (by kernel_rfl)) (by kernel_rfl) (by kernel_rfl) (Nat.ne_of_beq_eq_false (by kernel_rfl))
set_option maxRecDepth 1000000 in
theorem piece10 (os : Os) (args : Array Value) : LaidIn Tryz.prog (({ World.settled Tryz.prog os with heap := tabled (World.settled Tryz.prog os).heap } : World).forCall (fun _ _ => 0) ⟨#[], args, []⟩).memory [("strconv.isNotPrint32", Rows.laid_strconv_isNotPrint32)] [10, 22] := by
  have e : Rows.laid_strconv_isNotPrint32 = .slice ((ofNats Pinned.isNotPrint32Z).map fun n => .lit (.int .u16 n)) [] := by kernel_rfl
  rw [e]
  exact laidIn_ints (name := "strconv.isNotPrint32") (g := 10) (R := 22) (t := 225) (e := 224) (tg := 225) (k := .u16) (zs := ofNats Pinned.isNotPrint32Z) (by kernel_rfl) (by kernel_rfl) (by kernel_rfl) (by kernel_rfl) (by kernel_rfl) (Nat.le_of_ble_eq_true (by kernel_rfl)) (nats_wf _ _ (by kernel_rfl)) (by kernel_rfl) (by kernel_rfl) (Nat.ne_of_beq_eq_false (by kernel_rfl))
set_option maxRecDepth 1000000 in
theorem piece7 (os : Os) (args : Array Value) : LaidIn Tryz.prog (({ World.settled Tryz.prog os with heap := tabled (World.settled Tryz.prog os).heap } : World).forCall (fun _ _ => 0) ⟨#[], args, []⟩).memory [("strconv.isPrint16", Rows.laid_strconv_isPrint16)] [7, 19] := by
  have e : Rows.laid_strconv_isPrint16 = .slice ((ofNats Pinned.isPrint16Z).map fun n => .lit (.int .u16 n)) [] := by kernel_rfl
  rw [e]
  exact laidIn_ints (name := "strconv.isPrint16") (g := 7) (R := 19) (t := 225) (e := 224) (tg := 225) (k := .u16) (zs := ofNats Pinned.isPrint16Z) (by kernel_rfl) (by kernel_rfl) (by kernel_rfl) (by kernel_rfl) (by kernel_rfl) (Nat.le_of_ble_eq_true (by kernel_rfl)) (nats_wf _ _ (by kernel_rfl)) (by kernel_rfl) (by kernel_rfl) (Nat.ne_of_beq_eq_false (by kernel_rfl))
set_option maxRecDepth 1000000 in
theorem piece9 (os : Os) (args : Array Value) : LaidIn Tryz.prog (({ World.settled Tryz.prog os with heap := tabled (World.settled Tryz.prog os).heap } : World).forCall (fun _ _ => 0) ⟨#[], args, []⟩).memory [("strconv.isPrint32", Rows.laid_strconv_isPrint32)] [9, 21] := by
  have e : Rows.laid_strconv_isPrint32 = .slice ((ofNats Pinned.isPrint32Z).map fun n => .lit (.int .u32 n)) [] := by kernel_rfl
  rw [e]
  exact laidIn_ints (name := "strconv.isPrint32") (g := 9) (R := 21) (t := 227) (e := 190) (tg := 227) (k := .u32) (zs := ofNats Pinned.isPrint32Z) (by kernel_rfl) (by kernel_rfl) (by kernel_rfl) (by kernel_rfl) (by kernel_rfl) (Nat.le_of_ble_eq_true (by kernel_rfl)) (nats_wf _ _ (by kernel_rfl)) (by kernel_rfl) (by kernel_rfl) (Nat.ne_of_beq_eq_false (by kernel_rfl))
set_option maxRecDepth 1000000 in
theorem tabled_met (os : Os) (args : Array Value) : laidMetH Tryz.prog Rows.startsUptoRow.laid (({ World.settled Tryz.prog os with heap := tabled (World.settled Tryz.prog os).heap } : World).forCall (fun _ _ => 0) ⟨#[], args, []⟩).memory := by
  rw [MakeChecks.laidMetH_plain _ _ _ (by kernel_rfl)]
  exact ((pieceA os args).append ((piece11 os args).append ((piece8 os args).append ((piece10 os args).append ((piece7 os args).append ((piece9 os args).append (pieceF os args) (by kernel_rfl)) (by kernel_rfl)) (by kernel_rfl)) (by kernel_rfl)) (by kernel_rfl)) (by kernel_rfl)).met
set_option maxRecDepth 1000000 in
theorem tabled_shaped (os : Os) (args : Array Value) : (({ World.settled Tryz.prog os with heap := tabled (World.settled Tryz.prog os).heap } : World).forCall (fun _ _ => 0) ⟨#[], args, []⟩).Shaped Tryz.prog :=
  World.shaped_of_RefB (by kernel_rfl) (by kernel_rfl)
end Go.Proofs.YtblkaenlajmhnaaGreatDoor
