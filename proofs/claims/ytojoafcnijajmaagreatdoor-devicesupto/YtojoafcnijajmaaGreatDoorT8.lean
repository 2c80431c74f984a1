/- Part 8 of the proof that Devices answers true and leaves its input as it was, for input of bulk at most the bound of its row: XJ Y0 XM X2. -/
import Derived.Test.YtojoafcnijajmaaGreatDoorT7
import Derived.Conc.Machine
set_option linter.unusedVariables false
namespace Go.Proofs.YtojoafcnijajmaaGreatDoor
open Go
def shutL:List Nat:=[40,38,39,41]
@[go_sem] theorem pcall5 (args:Array Value) (w:World):Sem.run (patch shutL Tryz.prog) (callFunc 5 args) w = .ok (.enter 5 args) w:=patch_enter Tryz.func5 (by kernel_rfl) (by kernel_rfl) args w
@[go_sem] theorem pcall25 (args:Array Value) (w:World):Sem.run (patch shutL Tryz.prog) (callFunc 25 args) w = .ok (.enter 25 args) w:=patch_enter Tryz.func25 (by kernel_rfl) (by kernel_rfl) args w
@[go_sem] theorem pcall28 (args:Array Value) (w:World):Sem.run (patch shutL Tryz.prog) (callFunc 28 args) w = .ok (.enter 28 args) w:=patch_enter Tryz.func28 (by kernel_rfl) (by kernel_rfl) args w
@[go_sem] theorem pcall29 (args:Array Value) (w:World):Sem.run (patch shutL Tryz.prog) (callFunc 29 args) w = .ok (.enter 29 args) w:=patch_enter Tryz.func29 (by kernel_rfl) (by kernel_rfl) args w
@[go_sem] theorem pcall66 (args:Array Value) (w:World):Sem.run (patch shutL Tryz.prog) (callFunc 66 args) w = .ok (.enter 66 args) w:=patch_enter Tryz.func66 (by kernel_rfl) (by kernel_rfl) args w
@[go_sem] theorem pcall70 (args:Array Value) (w:World):Sem.run (patch shutL Tryz.prog) (callFunc 70 args) w = .ok (.enter 70 args) w:=patch_enter Tryz.func70 (by kernel_rfl) (by kernel_rfl) args w
@[go_sem] theorem pcall30 (args:Array Value) (w:World):Sem.run (patch shutL Tryz.prog) (callFunc 30 args) w = .ok (.enter 30 args) w:=patch_enter Tryz.func30 (by kernel_rfl) (by kernel_rfl) args w
@[go_sem] theorem pcall71 (args:Array Value) (w:World):Sem.run (patch shutL Tryz.prog) (callFunc 71 args) w = .ok (.enter 71 args) w:=patch_enter Tryz.func71 (by kernel_rfl) (by kernel_rfl) args w
@[go_sem] theorem pcall72 (args:Array Value) (w:World):Sem.run (patch shutL Tryz.prog) (callFunc 72 args) w = .ok (.enter 72 args) w:=patch_enter Tryz.func72 (by kernel_rfl) (by kernel_rfl) args w
@[go_sem] theorem pcall14 (args:Array Value) (w:World):Sem.run (patch shutL Tryz.prog) (callFunc 14 args) w = .ok (.enter 14 args) w:=patch_enter Tryz.func14 (by kernel_rfl) (by kernel_rfl) args w
@[go_sem] theorem pcall15 (args:Array Value) (w:World):Sem.run (patch shutL Tryz.prog) (callFunc 15 args) w = .ok (.enter 15 args) w:=patch_enter Tryz.func15 (by kernel_rfl) (by kernel_rfl) args w
@[go_sem] theorem pcall16 (args:Array Value) (w:World):Sem.run (patch shutL Tryz.prog) (callFunc 16 args) w = .ok (.enter 16 args) w:=patch_enter Tryz.func16 (by kernel_rfl) (by kernel_rfl) args w
@[go_sem] theorem pcall17 (args:Array Value) (w:World):Sem.run (patch shutL Tryz.prog) (callFunc 17 args) w = .ok (.enter 17 args) w:=patch_enter Tryz.func17 (by kernel_rfl) (by kernel_rfl) args w
@[go_sem] theorem pcall10 (args:Array Value) (w:World):Sem.run (patch shutL Tryz.prog) (callFunc 10 args) w = .ok (.enter 10 args) w:=patch_enter Tryz.func10 (by kernel_rfl) (by kernel_rfl) args w
@[go_sem] theorem pcall62 (args:Array Value) (w:World):Sem.run (patch shutL Tryz.prog) (callFunc 62 args) w = .ok (.enter 62 args) w:=patch_enter Tryz.func62 (by kernel_rfl) (by kernel_rfl) args w
@[go_sem] theorem pcall19 (args:Array Value) (w:World):Sem.run (patch shutL Tryz.prog) (callFunc 19 args) w = .ok (.enter 19 args) w:=patch_enter Tryz.func19 (by kernel_rfl) (by kernel_rfl) args w
@[go_sem] theorem pcall59 (args:Array Value) (w:World):Sem.run (patch shutL Tryz.prog) (callFunc 59 args) w = .ok (.enter 59 args) w:=patch_enter Tryz.func59 (by kernel_rfl) (by kernel_rfl) args w
@[go_sem] theorem pcall140 (args:Array Value) (w:World):Sem.run (patch shutL Tryz.prog) (callFunc 140 args) w = .ok (.enter 140 args) w:=patch_enter Tryz.func140 (by kernel_rfl) (by kernel_rfl) args w
@[go_sem] theorem pcall56 (args:Array Value) (w:World):Sem.run (patch shutL Tryz.prog) (callFunc 56 args) w = .ok (.enter 56 args) w:=patch_enter Tryz.func56 (by kernel_rfl) (by kernel_rfl) args w
@[go_sem] theorem pcall60 (args:Array Value) (w:World):Sem.run (patch shutL Tryz.prog) (callFunc 60 args) w = .ok (.enter 60 args) w:=patch_enter Tryz.func60 (by kernel_rfl) (by kernel_rfl) args w
@[go_sem] theorem pcall61 (args:Array Value) (w:World):Sem.run (patch shutL Tryz.prog) (callFunc 61 args) w = .ok (.enter 61 args) w:=patch_enter Tryz.func61 (by kernel_rfl) (by kernel_rfl) args w
@[go_sem] theorem pcall142 (args:Array Value) (w:World):Sem.run (patch shutL Tryz.prog) (callFunc 142 args) w = .ok (.enter 142 args) w:=patch_enter Tryz.func142 (by kernel_rfl) (by kernel_rfl) args w
@[go_sem] theorem pcall143 (args:Array Value) (w:World):Sem.run (patch shutL Tryz.prog) (callFunc 143 args) w = .ok (.enter 143 args) w:=patch_enter Tryz.func143 (by kernel_rfl) (by kernel_rfl) args w
@[go_sem] theorem pcall144 (args:Array Value) (w:World):Sem.run (patch shutL Tryz.prog) (callFunc 144 args) w = .ok (.enter 144 args) w:=patch_enter Tryz.func144 (by kernel_rfl) (by kernel_rfl) args w
@[go_sem] theorem pcall26 (args:Array Value) (w:World):Sem.run (patch shutL Tryz.prog) (callFunc 26 args) w = .ok (.enter 26 args) w:=patch_enter Tryz.func26 (by kernel_rfl) (by kernel_rfl) args w
@[go_sem] theorem pcall27 (args:Array Value) (w:World):Sem.run (patch shutL Tryz.prog) (callFunc 27 args) w = .ok (.enter 27 args) w:=patch_enter Tryz.func27 (by kernel_rfl) (by kernel_rfl) args w
@[go_sem] theorem pcall31 (args:Array Value) (w:World):Sem.run (patch shutL Tryz.prog) (callFunc 31 args) w = .ok (.enter 31 args) w:=patch_enter Tryz.func31 (by kernel_rfl) (by kernel_rfl) args w
@[go_sem] theorem pcall32 (args:Array Value) (w:World):Sem.run (patch shutL Tryz.prog) (callFunc 32 args) w = .ok (.enter 32 args) w:=patch_enter Tryz.func32 (by kernel_rfl) (by kernel_rfl) args w
@[go_sem] theorem pcall33 (args:Array Value) (w:World):Sem.run (patch shutL Tryz.prog) (callFunc 33 args) w = .ok (.enter 33 args) w:=patch_enter Tryz.func33 (by kernel_rfl) (by kernel_rfl) args w
@[go_sem] theorem pcall34 (args:Array Value) (w:World):Sem.run (patch shutL Tryz.prog) (callFunc 34 args) w = .ok (.enter 34 args) w:=patch_enter Tryz.func34 (by kernel_rfl) (by kernel_rfl) args w
@[go_sem] theorem pcall35 (args:Array Value) (w:World):Sem.run (patch shutL Tryz.prog) (callFunc 35 args) w = .ok (.enter 35 args) w:=patch_enter Tryz.func35 (by kernel_rfl) (by kernel_rfl) args w
@[go_sem] theorem pcall36 (args:Array Value) (w:World):Sem.run (patch shutL Tryz.prog) (callFunc 36 args) w = .ok (.enter 36 args) w:=patch_enter Tryz.func36 (by kernel_rfl) (by kernel_rfl) args w
@[go_sem] theorem pcall37 (args:Array Value) (w:World):Sem.run (patch shutL Tryz.prog) (callFunc 37 args) w = .ok (.enter 37 args) w:=patch_enter Tryz.func37 (by kernel_rfl) (by kernel_rfl) args w
@[go_sem] theorem pcall42 (args:Array Value) (w:World):Sem.run (patch shutL Tryz.prog) (callFunc 42 args) w = .ok (.enter 42 args) w:=patch_enter Tryz.func42 (by kernel_rfl) (by kernel_rfl) args w
@[go_sem] theorem pcall43 (args:Array Value) (w:World):Sem.run (patch shutL Tryz.prog) (callFunc 43 args) w = .ok (.enter 43 args) w:=patch_enter Tryz.func43 (by kernel_rfl) (by kernel_rfl) args w
@[go_sem] theorem pcall44 (args:Array Value) (w:World):Sem.run (patch shutL Tryz.prog) (callFunc 44 args) w = .ok (.enter 44 args) w:=patch_enter Tryz.func44 (by kernel_rfl) (by kernel_rfl) args w
@[go_sem] theorem pcall23 (args:Array Value) (w:World):Sem.run (patch shutL Tryz.prog) (callFunc 23 args) w = .ok (.enter 23 args) w:=patch_enter Tryz.func23 (by kernel_rfl) (by kernel_rfl) args w
@[go_sem] theorem pcall22 (args:Array Value) (w:World):Sem.run (patch shutL Tryz.prog) (callFunc 22 args) w = .ok (.enter 22 args) w:=patch_enter Tryz.func22 (by kernel_rfl) (by kernel_rfl) args w
@[go_sem] theorem pcall139 (args:Array Value) (w:World):Sem.run (patch shutL Tryz.prog) (callFunc 139 args) w = .ok (.enter 139 args) w:=patch_enter Tryz.func139 (by kernel_rfl) (by kernel_rfl) args w
@[go_sem] theorem pcall50 (args:Array Value) (w:World):Sem.run (patch shutL Tryz.prog) (callFunc 50 args) w = .ok (.enter 50 args) w:=patch_enter Tryz.func50 (by kernel_rfl) (by kernel_rfl) args w
@[go_sem] theorem pcall45 (args:Array Value) (w:World):Sem.run (patch shutL Tryz.prog) (callFunc 45 args) w = .ok (.enter 45 args) w:=patch_enter Tryz.func45 (by kernel_rfl) (by kernel_rfl) args w
@[go_sem] theorem pcall46 (args:Array Value) (w:World):Sem.run (patch shutL Tryz.prog) (callFunc 46 args) w = .ok (.enter 46 args) w:=patch_enter Tryz.func46 (by kernel_rfl) (by kernel_rfl) args w
@[go_sem] theorem pcall100 (args:Array Value) (w:World):Sem.run (patch shutL Tryz.prog) (callFunc 100 args) w = .ok (.enter 100 args) w:=patch_enter Tryz.func100 (by kernel_rfl) (by kernel_rfl) args w
@[go_sem] theorem pcall127 (args:Array Value) (w:World):Sem.run (patch shutL Tryz.prog) (callFunc 127 args) w = .ok (.enter 127 args) w:=patch_enter Tryz.func127 (by kernel_rfl) (by kernel_rfl) args w
@[go_sem] theorem pcall55 (args:Array Value) (w:World):Sem.run (patch shutL Tryz.prog) (callFunc 55 args) w = .ok (.enter 55 args) w:=patch_enter Tryz.func55 (by kernel_rfl) (by kernel_rfl) args w
@[go_sem] theorem pcall128 (args:Array Value) (w:World):Sem.run (patch shutL Tryz.prog) (callFunc 128 args) w = .ok (.enter 128 args) w:=patch_enter Tryz.func128 (by kernel_rfl) (by kernel_rfl) args w
@[go_sem] theorem pcall129 (args:Array Value) (w:World):Sem.run (patch shutL Tryz.prog) (callFunc 129 args) w = .ok (.enter 129 args) w:=patch_enter Tryz.func129 (by kernel_rfl) (by kernel_rfl) args w
@[go_sem] theorem pcall146 (args:Array Value) (w:World):Sem.run (patch shutL Tryz.prog) (callFunc 146 args) w = .ok (.enter 146 args) w:=patch_enter Tryz.func146 (by kernel_rfl) (by kernel_rfl) args w
@[go_sem] theorem pcall63 (args:Array Value) (w:World):Sem.run (patch shutL Tryz.prog) (callFunc 63 args) w = .ok (.enter 63 args) w:=patch_enter Tryz.func63 (by kernel_rfl) (by kernel_rfl) args w
@[go_sem] theorem pcall65 (args:Array Value) (w:World):Sem.run (patch shutL Tryz.prog) (callFunc 65 args) w = .ok (.enter 65 args) w:=patch_enter Tryz.func65 (by kernel_rfl) (by kernel_rfl) args w
@[go_sem] theorem pcall67 (args:Array Value) (w:World):Sem.run (patch shutL Tryz.prog) (callFunc 67 args) w = .ok (.enter 67 args) w:=patch_enter Tryz.func67 (by kernel_rfl) (by kernel_rfl) args w
@[go_sem] theorem pcall68 (args:Array Value) (w:World):Sem.run (patch shutL Tryz.prog) (callFunc 68 args) w = .ok (.enter 68 args) w:=patch_enter Tryz.func68 (by kernel_rfl) (by kernel_rfl) args w
@[go_sem] theorem pcall69 (args:Array Value) (w:World):Sem.run (patch shutL Tryz.prog) (callFunc 69 args) w = .ok (.enter 69 args) w:=patch_enter Tryz.func69 (by kernel_rfl) (by kernel_rfl) args w
@[go_sem] theorem pcall73 (args:Array Value) (w:World):Sem.run (patch shutL Tryz.prog) (callFunc 73 args) w = .ok (.enter 73 args) w:=patch_enter Tryz.func73 (by kernel_rfl) (by kernel_rfl) args w
@[go_sem] theorem pcall74 (args:Array Value) (w:World):Sem.run (patch shutL Tryz.prog) (callFunc 74 args) w = .ok (.enter 74 args) w:=patch_enter Tryz.func74 (by kernel_rfl) (by kernel_rfl) args w
@[go_sem] theorem pcall75 (args:Array Value) (w:World):Sem.run (patch shutL Tryz.prog) (callFunc 75 args) w = .ok (.enter 75 args) w:=patch_enter Tryz.func75 (by kernel_rfl) (by kernel_rfl) args w
@[go_sem] theorem pcall76 (args:Array Value) (w:World):Sem.run (patch shutL Tryz.prog) (callFunc 76 args) w = .ok (.enter 76 args) w:=patch_enter Tryz.func76 (by kernel_rfl) (by kernel_rfl) args w
@[go_sem] theorem pcall77 (args:Array Value) (w:World):Sem.run (patch shutL Tryz.prog) (callFunc 77 args) w = .ok (.enter 77 args) w:=patch_enter Tryz.func77 (by kernel_rfl) (by kernel_rfl) args w
@[go_sem] theorem pcall78 (args:Array Value) (w:World):Sem.run (patch shutL Tryz.prog) (callFunc 78 args) w = .ok (.enter 78 args) w:=patch_enter Tryz.func78 (by kernel_rfl) (by kernel_rfl) args w
@[go_sem] theorem pcall79 (args:Array Value) (w:World):Sem.run (patch shutL Tryz.prog) (callFunc 79 args) w = .ok (.enter 79 args) w:=patch_enter Tryz.func79 (by kernel_rfl) (by kernel_rfl) args w
@[go_sem] theorem pcall80 (args:Array Value) (w:World):Sem.run (patch shutL Tryz.prog) (callFunc 80 args) w = .ok (.enter 80 args) w:=patch_enter Tryz.func80 (by kernel_rfl) (by kernel_rfl) args w
@[go_sem] theorem pcall81 (args:Array Value) (w:World):Sem.run (patch shutL Tryz.prog) (callFunc 81 args) w = .ok (.enter 81 args) w:=patch_enter Tryz.func81 (by kernel_rfl) (by kernel_rfl) args w
@[go_sem] theorem pcall82 (args:Array Value) (w:World):Sem.run (patch shutL Tryz.prog) (callFunc 82 args) w = .ok (.enter 82 args) w:=patch_enter Tryz.func82 (by kernel_rfl) (by kernel_rfl) args w
@[go_sem] theorem pcall93 (args:Array Value) (w:World):Sem.run (patch shutL Tryz.prog) (callFunc 93 args) w = .ok (.enter 93 args) w:=patch_enter Tryz.func93 (by kernel_rfl) (by kernel_rfl) args w
@[go_sem] theorem pcall94 (args:Array Value) (w:World):Sem.run (patch shutL Tryz.prog) (callFunc 94 args) w = .ok (.enter 94 args) w:=patch_enter Tryz.func94 (by kernel_rfl) (by kernel_rfl) args w
@[go_sem] theorem pcall95 (args:Array Value) (w:World):Sem.run (patch shutL Tryz.prog) (callFunc 95 args) w = .ok (.enter 95 args) w:=patch_enter Tryz.func95 (by kernel_rfl) (by kernel_rfl) args w
@[go_sem] theorem pcall96 (args:Array Value) (w:World):Sem.run (patch shutL Tryz.prog) (callFunc 96 args) w = .ok (.enter 96 args) w:=patch_enter Tryz.func96 (by kernel_rfl) (by kernel_rfl) args w
@[go_sem] theorem pcall52 (args:Array Value) (w:World):Sem.run (patch shutL Tryz.prog) (callFunc 52 args) w = .ok (.enter 52 args) w:=patch_enter Tryz.func52 (by kernel_rfl) (by kernel_rfl) args w
@[go_sem] theorem pcall54 (args:Array Value) (w:World):Sem.run (patch shutL Tryz.prog) (callFunc 54 args) w = .ok (.enter 54 args) w:=patch_enter Tryz.func54 (by kernel_rfl) (by kernel_rfl) args w
@[go_sem] theorem pcall57 (args:Array Value) (w:World):Sem.run (patch shutL Tryz.prog) (callFunc 57 args) w = .ok (.enter 57 args) w:=patch_enter Tryz.func57 (by kernel_rfl) (by kernel_rfl) args w
@[go_sem] theorem pcall198 (args:Array Value) (w:World):Sem.run (patch shutL Tryz.prog) (callFunc 198 args) w = .ok (.enter 198 args) w:=patch_enter Tryz.func198 (by kernel_rfl) (by kernel_rfl) args w
@[go_sem] theorem pcall110 (args:Array Value) (w:World):Sem.run (patch shutL Tryz.prog) (callFunc 110 args) w = .ok (.enter 110 args) w:=patch_enter Tryz.func110 (by kernel_rfl) (by kernel_rfl) args w
@[go_sem] theorem pcall111 (args:Array Value) (w:World):Sem.run (patch shutL Tryz.prog) (callFunc 111 args) w = .ok (.enter 111 args) w:=patch_enter Tryz.func111 (by kernel_rfl) (by kernel_rfl) args w
@[go_sem] theorem pcall97 (args:Array Value) (w:World):Sem.run (patch shutL Tryz.prog) (callFunc 97 args) w = .ok (.enter 97 args) w:=patch_enter Tryz.func97 (by kernel_rfl) (by kernel_rfl) args w
@[go_sem] theorem pcall98 (args:Array Value) (w:World):Sem.run (patch shutL Tryz.prog) (callFunc 98 args) w = .ok (.enter 98 args) w:=patch_enter Tryz.func98 (by kernel_rfl) (by kernel_rfl) args w
@[go_sem] theorem pcall99 (args:Array Value) (w:World):Sem.run (patch shutL Tryz.prog) (callFunc 99 args) w = .ok (.enter 99 args) w:=patch_enter Tryz.func99 (by kernel_rfl) (by kernel_rfl) args w
@[go_sem] theorem pcall226 (args:Array Value) (w:World):Sem.run (patch shutL Tryz.prog) (callFunc 226 args) w = .ok (.enter 226 args) w:=patch_enter Tryz.func226 (by kernel_rfl) (by kernel_rfl) args w
@[go_sem] theorem pcall191 (args:Array Value) (w:World):Sem.run (patch shutL Tryz.prog) (callFunc 191 args) w = .ok (.enter 191 args) w:=patch_enter Tryz.func191 (by kernel_rfl) (by kernel_rfl) args w
@[go_sem] theorem pcall126 (args:Array Value) (w:World):Sem.run (patch shutL Tryz.prog) (callFunc 126 args) w = .ok (.enter 126 args) w:=patch_enter Tryz.func126 (by kernel_rfl) (by kernel_rfl) args w
@[go_sem] theorem pcall192 (args:Array Value) (w:World):Sem.run (patch shutL Tryz.prog) (callFunc 192 args) w = .ok (.enter 192 args) w:=patch_enter Tryz.func192 (by kernel_rfl) (by kernel_rfl) args w
@[go_sem] theorem pcall190 (args:Array Value) (w:World):Sem.run (patch shutL Tryz.prog) (callFunc 190 args) w = .ok (.enter 190 args) w:=patch_enter Tryz.func190 (by kernel_rfl) (by kernel_rfl) args w
@[go_sem] theorem pcall141 (args:Array Value) (w:World):Sem.run (patch shutL Tryz.prog) (callFunc 141 args) w = .ok (.enter 141 args) w:=patch_enter Tryz.func141 (by kernel_rfl) (by kernel_rfl) args w
@[go_sem] theorem pcall145 (args:Array Value) (w:World):Sem.run (patch shutL Tryz.prog) (callFunc 145 args) w = .ok (.enter 145 args) w:=patch_enter Tryz.func145 (by kernel_rfl) (by kernel_rfl) args w
@[go_sem] theorem pcall168 (args:Array Value) (w:World):Sem.run (patch shutL Tryz.prog) (callFunc 168 args) w = .ok (.enter 168 args) w:=patch_enter Tryz.func168 (by kernel_rfl) (by kernel_rfl) args w
@[go_sem] theorem pcall169 (args:Array Value) (w:World):Sem.run (patch shutL Tryz.prog) (callFunc 169 args) w = .ok (.enter 169 args) w:=patch_enter Tryz.func169 (by kernel_rfl) (by kernel_rfl) args w
@[go_sem] theorem pcall125 (args:Array Value) (w:World):Sem.run (patch shutL Tryz.prog) (callFunc 125 args) w = .ok (.enter 125 args) w:=patch_enter Tryz.func125 (by kernel_rfl) (by kernel_rfl) args w
@[go_sem] theorem pcall130 (args:Array Value) (w:World):Sem.run (patch shutL Tryz.prog) (callFunc 130 args) w = .ok (.enter 130 args) w:=patch_enter Tryz.func130 (by kernel_rfl) (by kernel_rfl) args w
@[go_sem] theorem pcall131 (args:Array Value) (w:World):Sem.run (patch shutL Tryz.prog) (callFunc 131 args) w = .ok (.enter 131 args) w:=patch_enter Tryz.func131 (by kernel_rfl) (by kernel_rfl) args w
@[go_sem] theorem pcall132 (args:Array Value) (w:World):Sem.run (patch shutL Tryz.prog) (callFunc 132 args) w = .ok (.enter 132 args) w:=patch_enter Tryz.func132 (by kernel_rfl) (by kernel_rfl) args w
@[go_sem] theorem pcall185 (args:Array Value) (w:World):Sem.run (patch shutL Tryz.prog) (callFunc 185 args) w = .ok (.enter 185 args) w:=patch_enter Tryz.func185 (by kernel_rfl) (by kernel_rfl) args w
@[go_sem] theorem pcall170 (args:Array Value) (w:World):Sem.run (patch shutL Tryz.prog) (callFunc 170 args) w = .ok (.enter 170 args) w:=patch_enter Tryz.func170 (by kernel_rfl) (by kernel_rfl) args w
@[go_sem] theorem pcall171 (args:Array Value) (w:World):Sem.run (patch shutL Tryz.prog) (callFunc 171 args) w = .ok (.enter 171 args) w:=patch_enter Tryz.func171 (by kernel_rfl) (by kernel_rfl) args w
@[go_sem] theorem pcall225 (args:Array Value) (w:World):Sem.run (patch shutL Tryz.prog) (callFunc 225 args) w = .ok (.enter 225 args) w:=patch_enter Tryz.func225 (by kernel_rfl) (by kernel_rfl) args w
@[go_sem] theorem pcall199 (args:Array Value) (w:World):Sem.run (patch shutL Tryz.prog) (callFunc 199 args) w = .ok (.enter 199 args) w:=patch_enter Tryz.func199 (by kernel_rfl) (by kernel_rfl) args w
@[go_sem] theorem pcall195 (args:Array Value) (w:World):Sem.run (patch shutL Tryz.prog) (callFunc 195 args) w = .ok (.enter 195 args) w:=patch_enter Tryz.func195 (by kernel_rfl) (by kernel_rfl) args w
@[go_sem] theorem pcall196 (args:Array Value) (w:World):Sem.run (patch shutL Tryz.prog) (callFunc 196 args) w = .ok (.enter 196 args) w:=patch_enter Tryz.func196 (by kernel_rfl) (by kernel_rfl) args w
@[go_sem] theorem pcall206 (args:Array Value) (w:World):Sem.run (patch shutL Tryz.prog) (callFunc 206 args) w = .ok (.enter 206 args) w:=patch_enter Tryz.func206 (by kernel_rfl) (by kernel_rfl) args w
@[go_sem] theorem pcall227 (args:Array Value) (w:World):Sem.run (patch shutL Tryz.prog) (callFunc 227 args) w = .ok (.enter 227 args) w:=patch_enter Tryz.func227 (by kernel_rfl) (by kernel_rfl) args w
@[go_sem] theorem pcall252 (args:Array Value) (w:World):Sem.run (patch shutL Tryz.prog) (callFunc 252 args) w = .ok (.enter 252 args) w:=patch_enter Tryz.func252 (by kernel_rfl) (by kernel_rfl) args w
end Go.Proofs.YtojoafcnijajmaaGreatDoor

namespace Go.Proofs.YtojoafcnijajmaaGreatDoor
open Go
structure BD where
  n:Nat
  N:Nat → Int
  r:Nat
  R:Nat → Int
  dn:Nat → Nat
  dN:Nat → Nat → Int
  dH:Nat → Nat → Bool
structure BD.ok (D:BD):Prop where
  few:D.n ≤ 24
  nodes:∀ i,i < D.n → 0 ≤ D.N i ∧ D.N i < 4
  res:D.r ≤ 24
  devs:∀ k,k < 3 → D.dn k ≤ 16 ∧ ∀ i,i < D.dn k → 0 ≤ D.dN k i ∧ D.dN k i < 4
def ListC (w:World) (v:Value) (n:Nat) (cells:Nat → Nat → World → Prop):Prop:=∃ ao cap,v = .slice ao n cap ∧ n ≤ cap ∧ n ≤ 1000000 ∧ (0 < n → ∃ b o,ao = some ⟨b,o,none⟩ ∧ cells b o w)
def cpuC (D:BD) (b o:Nat) (w:World):Prop:=∀ i,i < D.n → w.cell? ⟨b,o + 3 * i + 1,none⟩ = some (.int .i64 (D.N i))
def resC (D:BD) (b o:Nat) (w:World):Prop:=∀ i,i < D.r → w.cell? ⟨b,o + i,none⟩ = some (.int .i64 (D.R i))
def devC (D:BD) (k:Nat) (b o:Nat) (w:World):Prop:=∀ i,i < D.dn k → w.cell? ⟨b,o + 2 * i,none⟩ = some (.int .i64 (D.dN k i)) ∧ w.cell? ⟨b,o + 2 * i + 1,none⟩ = some (.bool (D.dH k i))
structure BerthC (w:World) (bb:Nat) (D:BD):Prop where
  cpus:∃ v,w.cell? ⟨bb,0,none⟩ = some v ∧ ListC w v D.n (cpuC D)
  res:∃ v,w.cell? ⟨bb,1,none⟩ = some v ∧ ListC w v D.r (resC D)
  pol:∃ p,w.cell? ⟨bb,2,none⟩ = some (.int .i64 p)
  devs:∀ k,k < 3 → ∃ v,w.cell? ⟨bb,3 + k,none⟩ = some v ∧ ListC w v (D.dn k) (devC D k)
  boxes:w.cell? ⟨bb,6,none⟩ = some (.slice none 0 0)
section
variable {K:Nat → Prop} {p:Nat → Nat → Prop} {w u:World} {G:Nat}
theorem ListC.carry {v x:Value} {n:Nat} {cells:Nat → Nat → World → Prop} (h:ListC w v n cells) (hv:VR p v x) (hc:∀ b c o,p b c → cells b o w → cells c o u):ListC u x n cells:=by
  obtain ⟨ao,cap,rfl,h1,h2,h3⟩:=h
  obtain ⟨ao',rfl,ho⟩:=hv.slice_inv
  refine ⟨ao',cap,rfl,h1,h2,fun hn=>?_⟩
  obtain ⟨b,o,rfl,hb⟩:=h3 hn
  obtain ⟨a',rfl,ha⟩:=ho.some_inv
  replace ha:=ha.resolve_right (fun h=>by omega)
  obtain ⟨b',o',s'⟩:=a'
  obtain ⟨ha1,ha2,ha3⟩:=ha
  simp only at ha1 ha2 ha3
  subst ha2 ha3
  exact ⟨b',o,rfl,hc b b' o ha1 hb⟩
theorem BerthC.carry {bb cc:Nat} {D:BD} (h:BerthC w bb D) (hw:WR G K p w u) (hp:p bb cc):BerthC u cc D:=by
  have ha:∀ b c i,p b c → AR p ⟨b,i,none⟩ ⟨c,i,none⟩:=fun b c i h=>⟨h,rfl,rfl⟩
  have hi:∀ b c i k n,p b c → w.cell? ⟨b,i,none⟩ = some (.int k n) → u.cell? ⟨c,i,none⟩ = some (.int k n):=fun b c i k n hbc hc=>by
    obtain ⟨x,h1,h2⟩:=hw.cell (ha b c i hbc) hc
    rw [h2.int_inv] at h1
    exact h1
  have hbo:∀ b c i n,p b c → w.cell? ⟨b,i,none⟩ = some (.bool n) → u.cell? ⟨c,i,none⟩ = some (.bool n):=fun b c i n hbc hc=>by
    obtain ⟨x,h1,h2⟩:=hw.cell (ha b c i hbc) hc
    rw [h2.bool_inv] at h1
    exact h1
  refine ⟨?_,?_,?_,fun k hk=>?_,?_⟩
  · obtain ⟨v,h1,h2⟩:=h.cpus
    obtain ⟨x,h3,h4⟩:=hw.cell (ha bb cc 0 hp) h1
    exact ⟨x,h3,h2.carry h4 fun b c o hbc hh i hl=>hi _ _ _ _ _ hbc (hh i hl)⟩
  · obtain ⟨v,h1,h2⟩:=h.res
    obtain ⟨x,h3,h4⟩:=hw.cell (ha bb cc 1 hp) h1
    exact ⟨x,h3,h2.carry h4 fun b c o hbc hh i hl=>hi _ _ _ _ _ hbc (hh i hl)⟩
  · obtain ⟨q,h1⟩:=h.pol
    exact ⟨q,hi _ _ _ _ _ hp h1⟩
  · obtain ⟨v,h1,h2⟩:=h.devs k hk
    obtain ⟨x,h3,h4⟩:=hw.cell (ha bb cc (3 + k) hp) h1
    exact ⟨x,h3,h2.carry h4 fun b c o hbc hh i hl=>⟨hi _ _ _ _ _ hbc (hh i hl).1,hbo _ _ _ _ hbc (hh i hl).2⟩⟩
  · obtain ⟨x,h3,h4⟩:=hw.cell (ha bb cc 6 hp) h.boxes
    obtain ⟨b,rfl,hb⟩:=h4.slice_inv
    obtain rfl:=hb.none_inv
    exact h3
theorem BerthC.same {bb:Nat} {D:BD} (h:BerthC w bb D) (hc:∀ a v,w.cell? a = some v → u.cell? a = some v):BerthC u bb D:=by
  refine ⟨?_,?_,?_,fun k hk=>?_,hc _ _ h.boxes⟩
  · obtain ⟨v,h1,ao,cap,h2,h3,h4,h5⟩:=h.cpus
    exact ⟨v,hc _ _ h1,ao,cap,h2,h3,h4,fun hn=>let ⟨b,o,e,hh⟩:=h5 hn; ⟨b,o,e,fun i hi=>hc _ _ (hh i hi)⟩⟩
  · obtain ⟨v,h1,ao,cap,h2,h3,h4,h5⟩:=h.res
    exact ⟨v,hc _ _ h1,ao,cap,h2,h3,h4,fun hn=>let ⟨b,o,e,hh⟩:=h5 hn; ⟨b,o,e,fun i hi=>hc _ _ (hh i hi)⟩⟩
  · obtain ⟨q,h1⟩:=h.pol
    exact ⟨q,hc _ _ h1⟩
  · obtain ⟨v,h1,ao,cap,h2,h3,h4,h5⟩:=h.devs k hk
    exact ⟨v,hc _ _ h1,ao,cap,h2,h3,h4,fun hn=>let ⟨b,o,e,hh⟩:=h5 hn; ⟨b,o,e,fun i hi=>⟨hc _ _ (hh i hi).1,hc _ _ (hh i hi).2⟩⟩⟩
end
def simpleV (Z:Nat → Prop):Value → Prop
  | .int _ _ | .bool _ | .string _ | .pointer none | .slice none _ _=>True
  | .pointer (some a)=>Z a.block
  | .slice (some a) _ _=>Z a.block
  | _=>False
def Closed (w:World) (Z:Nat → Prop):Prop:=∀ b,Z b → ∃ xs e,w.heap[b]? = some (.cells xs e) ∧ ∀ v ∈ xs.toList,simpleV Z v
theorem simple_self {p q:Nat → Nat → Prop} {Z:Nat → Prop} {v u:Value} (h:VR p v u) (hs:simpleV Z v) (hq:∀ b c,p b c → Z b → q c c):VR q u u:=by
  cases v with
  | int k n=>obtain rfl:=h.int_inv; exact VR.int _ _
  | bool b=>obtain rfl:=h.bool_inv; exact VR.bool _
  | string b=>obtain rfl:=h.string_inv; exact VR.string _
  | pointer o =>
    obtain ⟨o',rfl,ho⟩:=h.ptr_inv
    cases o with
    | none=>obtain rfl:=ho.none_inv; exact VR.ptr trivial
    | some a =>
      obtain ⟨a',rfl,ha⟩:=ho.some_inv
      exact VR.ptr ⟨hq _ _ ha.1 hs,rfl,rfl⟩
  | slice o l c =>
    obtain ⟨o',rfl,ho⟩:=h.slice_inv
    cases o with
    | none=>obtain rfl:=ho.none_inv; exact VR.slice trivial
    | some a =>
      obtain ⟨a',rfl,ha⟩:=ho.some_inv
      exact VR.sliceS (ha.imp (fun ha=>⟨hq _ _ ha.1 hs,rfl,rfl⟩) id)
  | _=>exact hs.elim
def frz:Obj → Obj
  | .cells xs e _=>.cells xs e (0,xs.size)
  | o=>o
theorem frozen_copy (Z:Nat → Prop) (u:World):∃ wL:World,wL.heap.size = u.heap.size ∧ (∀ c,Z c → wL.heap[c]? = (u.heap[c]?).map frz) ∧ ∀ c,¬ Z c → wL.heap[c]? = u.heap[c]?:=by
  classical
  refine ⟨{ u with heap:=u.heap.mapIdx fun c o=>if Z c then frz o else o },by simp,fun c hc=>?_,fun c hc=>?_⟩
  · show (u.heap.mapIdx _)[c]? = _
    rw [Array.getElem?_mapIdx]
    cases u.heap[c]? with
    | none=>rfl
    | some o=>simp [hc]
  · show (u.heap.mapIdx _)[c]? = _
    rw [Array.getElem?_mapIdx]
    cases u.heap[c]? with
    | none=>rfl
    | some o=>simp [hc]
theorem worker_copy {G:Nat} {K0:Nat → Prop} {p:Nat → Nat → Prop} {w u:World} (hw:WR G K0 p w u) {Zl:Nat → Prop} (hz:Closed w Zl) {B B' bb rB nB:Nat} {x y:Int} {t1 t2 t3:TypeId} (hB:p B B') (hZB:Zl B)
    (hbb:u.heap[bb]? = some (.cells #[.pointer (some ⟨B',0,none⟩)] t1)) (hrB:u.heap[rB]? = some (.cells #[.int .i64 x] t2)) (hnB:u.heap[nB]? = some (.cells #[.int .i64 y] t3))
    (hr:∀ b,¬ p b rB) (hn:∀ b,¬ p b nB) (hbr:bb ≠ rB) (hbn:bb ≠ nB) :
    ∃ wL,WR G (fun c=>(∃ b,p b c ∧ Zl b) ∨ c = bb) (fun b c=>b = c ∧ (((∃ b,p b c ∧ Zl b) ∨ c = bb) ∨ c = rB ∨ c = nB)) wL u ∧ ∀ a v,u.cell? a = some v → wL.cell? a = some v:=by
  obtain ⟨wL,hs,hk,hn'⟩:=frozen_copy (fun c=>(∃ b,p b c ∧ Zl b) ∨ c = bb) u
  have nk:∀ c,(c = rB ∨ c = nB) → ¬ ((∃ b,p b c ∧ Zl b) ∨ c = bb):=fun c hc hx=>by
    rcases hc with rfl | rfl
    · rcases hx with ⟨b,h1,_⟩ | h
      · exact hr b h1
      · exact hbr h.symm
    · rcases hx with ⟨b,h1,_⟩ | h
      · exact hn b h1
      · exact hbn h.symm
  refine ⟨wL,⟨fun b c b' c' h h'=>?_,fun b c h=>?_,fun c hc=>⟨rfl,.inl hc⟩,fun b c h hne=>absurd h.1 hne,⟨by rw [hs]; exact hw.big.2,hw.big.2⟩⟩,fun a v hv=>?_⟩
  · obtain ⟨rfl,_⟩:=h
    obtain ⟨rfl,_⟩:=h'
    exact Iff.rfl
  · obtain ⟨rfl,hc⟩:=h
    rcases hc with hc | hc
    · have h1:=hk b hc
      rcases hc with ⟨b0,hb0,hz0⟩ | rfl
      · obtain ⟨xs,e,g1,g2⟩:=hz b0 hz0
        rcases hw.rows b0 b hb0 with ⟨xs',ys,e',f,g,m1,m2,m3,m4,m5⟩ | ⟨a,a',l,m1,_⟩
        · rw [g1] at m1
          simp only [Option.some.injEq,Obj.cells.injEq] at m1
          obtain ⟨rfl,rfl,rfl⟩:=m1
          rw [m2] at h1
          refine .inl ⟨ys,ys,e,(0,ys.size),g,h1,m2,⟨rfl,fun i v u' hv hu=>?_⟩,fun _=>⟨rfl,Nat.le_refl _⟩,fun hn=>absurd (.inl ⟨b0,hb0,hz0⟩) hn⟩
          rw [hv] at hu
          obtain rfl:=Option.some.inj hu
          have hi:i < ys.size:=(Array.getElem?_eq_some_iff.1 hv).1
          have hix:i < xs.size:=by rw [m3.1]; exact hi
          refine simple_self (p:=p) (Z:=Zl) (m3.2 i xs[i] v (Array.getElem?_eq_getElem hix) hv) (g2 _ (by simp)) fun b c hbc hZ=>⟨rfl,.inl (.inl ⟨b,hbc,hZ⟩)⟩
        · rw [g1] at m1; cases m1
      · rw [hbb] at h1
        refine .inl ⟨_,_,_,_,_,h1,hbb,⟨rfl,fun i v u' hv hu=>?_⟩,fun _=>⟨rfl,Nat.le_refl _⟩,fun hn=>absurd (.inr rfl) hn⟩
        rw [hv] at hu
        obtain rfl:=Option.some.inj hu
        have hi:i = 0:=by
          have:=(Array.getElem?_eq_some_iff.1 hv).1
          simp at this
          exact this
        subst hi
        have:v = .pointer (some ⟨B',0,none⟩):=by simpa using hv.symm
        subst this
        exact VR.ptr ⟨⟨rfl,.inl (.inl ⟨B,hB,hZB⟩)⟩,rfl,rfl⟩
    · have h1:=hn' b (nk b hc)
      have key:∀ z t,u.heap[b]? = some (.cells #[.int .i64 z] t) → Mate (fun c=>(∃ b,p b c ∧ Zl b) ∨ c = bb) (fun b c=>b = c ∧ (((∃ b,p b c ∧ Zl b) ∨ c = bb) ∨ c = rB ∨ c = nB)) wL u b b:=fun z t hu=>by
        rw [hu] at h1
        refine .inl ⟨_,_,_,_,_,h1,hu,⟨rfl,fun i v u' hv hu'=>?_⟩,fun hx=>absurd hx (nk b hc),fun _=>⟨rfl,rfl⟩⟩
        rw [hv] at hu'
        obtain rfl:=Option.some.inj hu'
        have hi:i = 0:=by
          have:=(Array.getElem?_eq_some_iff.1 hv).1
          simp at this
          exact this
        subst hi
        have:v = .int .i64 z:=by simpa using hv.symm
        subst this
        exact VR.int _ _
      rcases hc with rfl | rfl
      · exact key x t2 hrB
      · exact key y t3 hnB
  · have:wL.cell? a = u.cell? a:=by
      unfold World.cell?
      by_cases hc:(∃ b,p b a.block ∧ Zl b) ∨ a.block = bb
      · rw [hk _ hc]
        cases u.heap[a.block]? with
        | none=>rfl
        | some o=>cases o <;> rfl
      · rw [hn' _ hc]
    rw [this]; exact hv
end Go.Proofs.YtojoafcnijajmaaGreatDoor

namespace Go.Proofs.YtojoafcnijajmaaGreatDoor
open Go
section
variable {C:Cfg} {P Q:Program}
theorem sgC_plain (hc:CfgOk C) {f:Nat} (hf:f ≠ C.root):∀ c,plainCode C P f c = true → sgC C c = c
  | .seq a b,h=>by
    simp only [plainCode,Bool.and_eq_true] at h
    simp only [sgC,sgC_plain hc hf a h.1,sgC_plain hc hf b h.2]
  | .cond c a b,h=>by
    simp only [plainCode,Bool.and_eq_true] at h
    simp only [sgC,sgC_plain hc hf a h.1.2,sgC_plain hc hf b h.2]
  | .block _ a,h=>by simp only [sgC,sgC_plain hc hf a h]
  | .loop a,h=>by simp only [sgC,sgC_plain hc hf a h]
  | .region id ops d,h=>by
    simp only [sgC,Code.region.injEq,and_true,true_and]
    refine Array.ext (by simp) fun i h1 h2=>?_
    rw [Array.getElem_map]
    refine hc.idle _ ?_
    have:=okOp.parts (Array.all_eq_true'.1 h ops[i] (Array.getElem_mem h2))
    cases hm:C.mark ops[i] with
    | false=>rfl
    | true=>exact absurd (this.2.1 hm) hf
  | .skip,_=>rfl
  | .ret,_=>rfl
  | .exit _,_=>rfl
  | .label _,_=>rfl
  | .goto _,h=>by cases h
  | .scope _,h=>by cases h
  | .rangeFunc ..,h=>by cases h
  | .refuse _,h=>by cases h
def PB (C:Cfg) (P Q:Program) (g:Nat):Prop:=∃ fn c,P.funcs[g]? = some fn ∧ (fn.name == "runtime.NumGoroutine") = false ∧ fn.body = some c ∧ Q.funcs[g]? = some fn ∧ plainCode C P g c = true
def PS (P Q:Program) (g:Nat):Prop:=∃ fn c fn',P.funcs[g]? = some fn ∧ (fn.name == "runtime.NumGoroutine") = false ∧ fn.body = some c ∧ Q.funcs[g]? = some fn' ∧ (fn'.name == "runtime.NumGoroutine") = false ∧ fn'.body.isNone = false
theorem all_cons {p:Nat → Prop} {a:Nat} {l:List Nat} (h:p a) (t:∀ g ∈ l,p g):∀ g ∈ a :: l,p g:=fun g hg=>by
  rcases List.mem_cons.1 hg with rfl | hg
  · exact h
  · exact t g hg
theorem all_nil {p:Nat → Prop}:∀ g ∈ ([]:List Nat),p g:=fun g hg=>by cases hg
theorem PlainBodies.of (hc:CfgOk C) (hv:∀ g ∈ valList,g ∈ C.fns) (l:List Nat) (hl:∀ g,g ∈ C.fns ↔ g ∈ l ∨ g ∈ C.sp) (hd:∀ g ∈ C.sp,g ∉ l) (hr:∀ g ∈ l,g ≠ C.root) (h:∀ g ∈ l,PB C P Q g) (hs:∀ g ∈ C.sp,PS P Q g):PlainBodies C P Q:=by
  refine ⟨hc,hv,fun g hg=>?_,fun g hg hns=>hr g (((hl g).1 hg).resolve_right hns)⟩
  rcases (hl g).1 hg with hg | hg
  · obtain ⟨fn,c,h1,h2,h3,h4,h5⟩:=h g hg
    exact ⟨fn,c,fn,h1,h2,h3,h4,h2,by rw [h3]; rfl,fun _=>⟨h5,by rw [sgC_plain hc (hr g hg) c h5]; exact h3,rfl,rfl⟩⟩
  · obtain ⟨fn,c,fn',h1,h2,h3,h4,h5,h6⟩:=hs g hg
    exact ⟨fn,c,fn',h1,h2,h3,h4,h5,h6,fun hn=>absurd hg hn⟩
end
def isFlag (n:Int):Op → Bool
  | .move (.const (.int .i64 m))=>m == 160160160160000 + n
  | _=>false
def markW (o:Oper):Bool:=o.guard.isNone && (isFlag 0 o.op || isFlag 6 o.op || isFlag 7 o.op)
def opW (o:Op):Op :=
  if isFlag 0 o then .load 82 (.tmp 4) else if isFlag 6 o then .indexAddr 82 (.tmp 19) (.tmp 20) else .store 86 (.tmp 25) (.tmp 24)
def sgW (o:Oper):Oper:=if markW o then { o with op:=opW o.op } else o
def fnsW:List Nat:=[55,126,190,225,54,125,56,128,129,193,194,
  192,226,127,191,57,130,131,195,227,251,252,132,196]
end Go.Proofs.YtojoafcnijajmaaGreatDoor

namespace Go.Proofs.YtojoafcnijajmaaGreatDoor
open Go Go.Conc
section
variable {C β:Type} (R E:C → C → Prop) (ρ:β → β → Prop)
def VRel (n:Nat) (y x:(Nat → C) × β):Prop :=
  (∀ i,i < n → E (y.1 i) (x.1 i) ∨ R (y.1 i) (x.1 i)) ∧ ((∃ k,k < n ∧ R (y.1 k) (x.1 k)) ∨ ρ y.2 x.2)
variable {R E ρ}
theorem acc_moved (hE:∀ x y z,E y x → R z y → R z x) {x y:C} (h:Acc R x) (e:E y x):Acc R y:=⟨y,fun z hz=>h.inv (hE x y z e hz)⟩
theorem acc_vec (hρ:WellFounded ρ) (hE:∀ x y z,E y x → R z y → R z x):∀ (n:Nat) (p:(Nat → C) × β),(∀ i,i < n → Acc R (p.1 i)) → Acc (VRel R E ρ n) p
  | 0,p,_=>by
    obtain ⟨x,μ⟩:=p
    induction μ using hρ.induction generalizing x with
    | _ μ ih =>
      refine ⟨_,fun y hy=>?_⟩
      rcases hy.2 with ⟨k,hk,_⟩ | h
      · exact absurd hk (Nat.not_lt_zero _)
      · exact ih y.2 h y.1 (fun i hi=>absurd hi (Nat.not_lt_zero _))
  | n + 1,p,hp=>by
    have claim:∀ c,Acc R c → ∀ p,Acc (VRel R E ρ n) p → (∀ i,i < n → Acc R (p.1 i)) → (∀ z,R z (p.1 n) → R z c) → Acc (VRel R E ρ (n + 1)) p:=by
      intro c hc
      induction hc with
      | intro c _ ihc =>
        intro p hp
        induction hp with
        | intro p _ ihp =>
          intro ha hs
          refine ⟨_,fun y hy=>?_⟩
          have ma:∀ i,i < n → Acc R (y.1 i):=fun i hi=>(hy.1 i (by omega)).elim (fun e=>acc_moved hE (ha i hi) e) fun r=>(ha i hi).inv r
          by_cases hn:R (y.1 n) (p.1 n)
          · exact ihc _ (hs _ hn) y (acc_vec hρ hE n y ma) ma fun z hz=>hz
          · have he:E (y.1 n) (p.1 n):=(hy.1 n (Nat.lt_succ_self _)).resolve_right hn
            refine ihp y ⟨fun i hi=>hy.1 i (by omega),hy.2.imp (fun ⟨k,hk,hr⟩=>⟨k,?_,hr⟩) id⟩ ma fun z hz=>hs z (hE _ _ z he hz)
            rcases Nat.lt_succ_iff_lt_or_eq.1 hk with h | rfl
            · exact h
            · exact absurd hr hn
    exact claim (p.1 n) (hp n (Nat.lt_succ_self _)) p (acc_vec hρ hE n p fun i hi=>hp i (by omega)) (fun i hi=>hp i (by omega)) fun z hz=>hz
end
end Go.Proofs.YtojoafcnijajmaaGreatDoor
