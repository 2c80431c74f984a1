/- Part 24 of the proof that Devices answers true and leaves its input as it was, for input of bulk at most the bound of its row: ZL0 ZD1 ZD2 ZD3 ZL1 ZL2. -/
import Derived.Test.YtojoafcnijajmaaGreatDoorT8
import Derived.Test.YtojoafcnijajmaaGreatDoorRows
import Derived.WalkKit
import Derived.WalkSpells
import Derived.WalkLawsBesides
import Derived.Deep.QuietTactic
import Derived.BigQuiet
import Derived.Deep.RegionWith
import Derived.Deep.RegionHeld3
import Derived.Deep.DrawnRows
import Derived.Deep.OwnRows
namespace Go.Proofs.YtojoafcnijajmaaGreatDoor.Z
open Go.RowKit
structure After (W:World) where
  val:World
  later:Below W.heap.size W val
theorem After.cell {W:World} (x:After W) {b o:Nat} (h:b < W.heap.size):x.val.cell? ⟨b,o,none⟩ = W.cell? ⟨b,o,none⟩:=x.later.cell (p:=⟨b,o,none⟩) h
theorem After.frozen {W:World} (x:After W) {b o:Nat} (h:b < W.heap.size):x.val.frozen? ⟨b,o,none⟩ = W.frozen? ⟨b,o,none⟩:=x.later.frozen (p:=⟨b,o,none⟩) h
theorem _root_.Go.RowKit.Below.drewN {B:Nat} {a w:World} (h:Below B a w) (n:Nat):Below B a (w.drewN n):=⟨h.os,h.tape,h.output,h.size,h.block⟩
theorem After.const {W:World} {p:Prop}:(After W → p) ↔ p:=⟨fun h=>h ⟨W,Below.refl _ _⟩,fun h _=>h⟩
theorem bcell {W w1:World} (hb:Below W.heap.size W w1):(∀ b o,b < W.heap.size → w1.cell? ⟨b,o,none⟩ = W.cell? ⟨b,o,none⟩) ∧ (∀ b o,b < W.heap.size → w1.frozen? ⟨b,o,none⟩ = W.frozen? ⟨b,o,none⟩) :=
  ⟨fun b o h=>hb.cell (p:=⟨b,o,none⟩) h,fun b o h=>hb.frozen (p:=⟨b,o,none⟩) h⟩
theorem ext_trans {a b c:World} (h:Below a.heap.size a b) (k:Below b.heap.size b c):Below a.heap.size a c:=h.trans (k.mono h.size)
theorem wp_region_after {P:Program} {id:Nat} {Q:Exit → Act → World → Prop} {a:Act} {w:World} {l:List Oper} (hm:P.follows .mixedOrders = true) (hB:Region.lexB .any l.toArray = true)
    (h:wpQuiet P l.toArray (fun w'=>∃ x:After w,w' = x.val) (fun a'=>∀ w',(∃ x:After w,w' = x.val) → Q .normal a' w') l a):(Code.region id l.toArray true).wp P Q a w :=
  wp_region_quiet (C:=fun w'=>∃ x:After w,w' = x.val) hm hB ⟨⟨w.drew,(Below.refl _ _).drew⟩,rfl⟩ (by simpa using h)
theorem Calls.after {P:Program} {f:FuncId} {args:Array Value} {W:World} {x:After W} {v:Value}
    (h:Calls P f args x.val fun e w'=>e = .returned v ∧ Below x.val.heap.size x.val w'):Calls P f args x.val fun e w''=>e = .returned v ∧ ∃ y:After W,w'' = y.val :=
  h.mono fun _ w' ⟨he,hm⟩=>⟨he,⟨w',ext_trans x.later hm⟩,rfl⟩
def Ans (P:Prop) (e:Ending):Prop:=∃ r:Bool,e = .returned (.bool r) ∧ (r = true ↔ P)
theorem Ans.yes {P:Prop} (h:P):Ans P (.returned (.bool true)):=⟨true,rfl,by simp [h]⟩
theorem Ans.no {P:Prop} (h:¬ P):Ans P (.returned (.bool false)):=⟨false,rfl,by simp [h]⟩
theorem Ans.is_true {P:Prop} {e:Ending} (h:Ans P e) (hp:P):e = .returned (.bool true):=by
  obtain ⟨r,rfl,hr⟩:=h
  rw [hr.2 hp]
theorem Ans.is_false {P:Prop} {e:Ending} (h:Ans P e) (hp:¬ P):e = .returned (.bool false):=by
  obtain ⟨r,rfl,hr⟩:=h
  cases r
  · rfl
  · exact absurd (hr.1 rfl) hp
theorem Ans.cases {P:Prop} {e:Ending} (h:Ans P e):(P ∧ e = .returned (.bool true)) ∨ (¬ P ∧ e = .returned (.bool false)):=by
  by_cases hp:P
  · exact .inl ⟨hp,h.is_true hp⟩
  · exact .inr ⟨hp,h.is_false hp⟩
theorem Calls.after_yes {P:Program} {f:FuncId} {args:Array Value} {W:World} {x:After W} {A:Prop} (hA:A)
    (h:Calls P f args x.val fun e w'=>Ans A e ∧ Below x.val.heap.size x.val w'):Calls P f args x.val fun e w''=>e = .returned (.bool true) ∧ ∃ y:After W,w'' = y.val :=
  Calls.after (h.mono fun _ _ ⟨he,hm⟩=>⟨he.is_true hA,hm⟩)
theorem Calls.after_no {P:Program} {f:FuncId} {args:Array Value} {W:World} {x:After W} {A:Prop} (hA:¬ A)
    (h:Calls P f args x.val fun e w'=>Ans A e ∧ Below x.val.heap.size x.val w'):Calls P f args x.val fun e w''=>e = .returned (.bool false) ∧ ∃ y:After W,w'' = y.val :=
  Calls.after (h.mono fun _ _ ⟨he,hm⟩=>⟨he.is_false hA,hm⟩)
end Go.Proofs.YtojoafcnijajmaaGreatDoor.Z

namespace Go.Proofs.YtojoafcnijajmaaGreatDoor.Z
open Go.RowKit
def pop (m:Nat):Nat:=m % 2 + m / 2 % 2 + m / 4 % 2 + m / 8 % 2
set_option maxRecDepth 100000 in
set_option maxHeartbeats 4000000 in
theorem onesCount64_any (m:Nat) (h:m < 16) (w:World):Calls (patch shutL Tryz.prog) 252 #[.int .u64 m] w fun e w'=>e = .returned (.int .i64 (pop m)) ∧ w' = w:=by
  obtain rfl | rfl | rfl | rfl | rfl | rfl | rfl | rfl | rfl | rfl | rfl | rfl | rfl | rfl | rfl | rfl:m = 0 ∨ m = 1 ∨ m = 2 ∨ m = 3 ∨ m = 4 ∨ m = 5 ∨ m = 6 ∨ m = 7 ∨ m = 8 ∨ m = 9 ∨ m = 10 ∨ m = 11 ∨ m = 12 ∨ m = 13 ∨ m = 14 ∨ m = 15:=by omega
  all_goals (
    go_enter (pf Tryz.func252 (by rfl)),Tryz.ntmps252
    go_wp2_with (first | (go_at_call 185; go_enter (pf Tryz.func185 (by rfl)),Tryz.ntmps185) | (go_at_call 110; go_enter (pf Tryz.func110 (by rfl)),Tryz.ntmps110))
    go_ret
    exact ⟨by kernel_rfl,rfl⟩)
theorem width_any (m:Nat) (h:m < 16) (w:World):Calls (patch shutL Tryz.prog) 195 #[.int .u64 m] w fun e w'=>e = .returned (.int .i64 (pop m)) ∧ w' = w:=by
  go_enter (pf Tryz.func195 (by rfl)),Tryz.ntmps195
  go_wp2_with (first
    | (go_at_call 227; go_enter (pf Tryz.func227 (by rfl)),Tryz.ntmps227)
    | (go_at_call 252; refine (onesCount64_any m h _).mono ?_; rintro e w1 ⟨he,hw⟩; obtain rfl:=he; obtain rfl:=hw.symm))
  go_ret
  exact ⟨rfl,rfl⟩
def has (m k:Nat):Bool:=m / 2 ^ k % 2 == 1
set_option maxRecDepth 100000 in
set_option maxHeartbeats 4000000 in
theorem has_any (m k:Nat) (h:m < 16) (hk:k < 4) (w:World):Calls (patch shutL Tryz.prog) 196 #[.int .u64 m,.int .i64 k] w fun e w'=>e = .returned (.bool (has m k)) ∧ w' = w:=by
  obtain rfl | rfl | rfl | rfl:k = 0 ∨ k = 1 ∨ k = 2 ∨ k = 3:=by omega
  all_goals (
    obtain rfl | rfl | rfl | rfl | rfl | rfl | rfl | rfl | rfl | rfl | rfl | rfl | rfl | rfl | rfl | rfl:m = 0 ∨ m = 1 ∨ m = 2 ∨ m = 3 ∨ m = 4 ∨ m = 5 ∨ m = 6 ∨ m = 7 ∨ m = 8 ∨ m = 9 ∨ m = 10 ∨ m = 11 ∨ m = 12 ∨ m = 13 ∨ m = 14 ∨ m = 15:=by omega
    all_goals (
      go_enter (pf Tryz.func196 (by rfl)),Tryz.ntmps196
      go_wp2_with (first | (go_at_call 185; go_enter (pf Tryz.func185 (by rfl)),Tryz.ntmps185) | (go_at_call 110; go_enter (pf Tryz.func110 (by rfl)),Tryz.ntmps110))
      go_ret
      exact ⟨by kernel_rfl,rfl⟩))
end Go.Proofs.YtojoafcnijajmaaGreatDoor.Z

namespace Go.Proofs.YtojoafcnijajmaaGreatDoor.Z
open Go.RowKit
def wsum (c:Nat → Int) (m:Nat):Nat → Int
  | 0=>0
  | k + 1=>wsum c m k + if has m k then c k else 0
theorem wsum_le {c:Nat → Int} (m:Nat) {b:Int} (hb:0 ≤ b) (h:∀ k,k < 4 → 0 ≤ c k ∧ c k ≤ b):∀ j,j ≤ 4 → 0 ≤ wsum c m j ∧ wsum c m j ≤ j * b
  | 0,_=>⟨Int.le_refl _,by simp [wsum]⟩
  | j + 1,hj=>by
    have h1:=wsum_le m hb h j (by omega)
    have h2:=h j (by omega)
    unfold wsum
    have e:((j + 1:Nat):Int) * b = j * b + b:=by rw [Int.natCast_add,Int.add_mul]; simp
    rw [e]
    split <;> constructor <;> omega
theorem index0 (a b c d:Value) (w:World):Sem.run (patch shutL Tryz.prog) (Instr.index 119 (.agg #[a,b,c,d]) (.int .i64 0)) w = .ok a w:=by kernel_rfl
theorem index1 (a b c d:Value) (w:World):Sem.run (patch shutL Tryz.prog) (Instr.index 119 (.agg #[a,b,c,d]) (.int .i64 1)) w = .ok b w:=by kernel_rfl
theorem index2 (a b c d:Value) (w:World):Sem.run (patch shutL Tryz.prog) (Instr.index 119 (.agg #[a,b,c,d]) (.int .i64 2)) w = .ok c w:=by kernel_rfl
theorem index3 (a b c d:Value) (w:World):Sem.run (patch shutL Tryz.prog) (Instr.index 119 (.agg #[a,b,c,d]) (.int .i64 3)) w = .ok d w:=by kernel_rfl
set_option maxRecDepth 100000 in
set_option maxHeartbeats 4000000 in
theorem mwithin_any (c:Nat → Int) (m:Nat) (hm:m < 16) (hc:∀ k,k < 4 → 0 ≤ c k ∧ c k ≤ 24) (w:World) :
    Calls (patch shutL Tryz.prog) 132 #[.agg #[.int .i64 (c 0),.int .i64 (c 1),.int .i64 (c 2),.int .i64 (c 3)],.int .u64 m] w fun e w'=>e = .returned (.int .i64 (wsum c m 4)) ∧ Below w.heap.size w w':=by
  have HC:Hid (∀ k,k < 4 → 0 ≤ c k ∧ c k ≤ 24):=hc
  clear hc
  have x0:=index0
  have x1:=index1
  have x2:=index2
  have x3:=index3
  go_enter (pf Tryz.func132 (by rfl)),Tryz.ntmps132
  go_wp2_with fail
  go_loop [5,9] (fun s i=>∃ j:Nat,j ≤ 4 ∧ i = .int .i64 j ∧ s = .int .i64 (wsum c m j)) (fun _ i=>4 - (intOf i).toNat)
  case atStart=>exact ⟨0,by omega,rfl,rfl⟩
  case round =>
    obtain ⟨j,hj,rfl,rfl⟩:=hrel
    have hs:=wsum_le m (b:=24) (by omega) HC.out j hj
    obtain ⟨s,hs0⟩ : ∃ s,s = wsum c m j:=⟨_,rfl⟩
    rw [← hs0] at hs ⊢
    by_cases hlt:j < 4
    · have hcj:=HC.out j hlt
      have hnext:wsum c m (j + 1) = s + if has m j then c j else 0:=by rw [hs0]; rfl
      obtain ⟨j',hj'⟩ : ∃ j',j' = j + 1:=⟨_,rfl⟩
      rw [← hj'] at hnext
      have HN:Hid (wsum c m j' = s + if has m j then c j else 0):=hnext
      have HJ:Hid (j' = j + 1 ∧ j' ≤ 4):=⟨hj',by omega⟩
      clear hnext hs0 hj'
      have hj4:j = 0 ∨ j = 1 ∨ j = 2 ∨ j = 3:=by omega
      cases hh:has m j
      all_goals (
        rcases hj4 with rfl | rfl | rfl | rfl
        all_goals (
          go_wp2_with (go_at_call 196; refine (has_any m _ hm (by omega) _).mono ?_; rintro e w1 ⟨he,hw⟩; rw [hh] at he; obtain rfl:=he; obtain rfl:=hw.symm)
          go_roundw
          case rel=>exact ⟨j',HJ.out.2,by rw [HJ.out.1]; rfl,by first | (simp [HN.out,hh]; done) | (rw [HN.out,hh]; go_num)⟩
          case measure=>simp [intOf]))
    · have:j = 4:=by omega
      subst this
      go_wp2_with fail
      go_ret
      exact ⟨by first | rfl | (rw [hs0]; rfl),(Below.refl _ _).alloc (Nat.le_refl _) _⟩
end Go.Proofs.YtojoafcnijajmaaGreatDoor.Z

namespace Go.Proofs.YtojoafcnijajmaaGreatDoor.Z
open Go.RowKit
attribute [local go_sem ↓] Go.wp_at_zero Go.wp_at_succ
def ordTo (W M:Nat):List Nat:=(List.range W).flatMap (fun k=>(List.range 16).filter fun m=>pop m == k && decide (0 < m)) ++ (List.range M).filter fun m=>pop m == W && decide (0 < m)
def ordV (W M:Nat):List Value:=(ordTo W M).map fun m:Nat=>Value.int .u64 (m:Int)
theorem ordTo_hit {W M:Nat} (h:pop M = W) (h0:0 < M):ordTo W (M + 1) = ordTo W M ++ [M]:=by
  unfold ordTo; rw [show List.range (M + 1) = List.range M ++ [M] from List.range_succ,List.filter_append,← List.append_assoc]; simp [h,h0]
theorem ordTo_miss {W M:Nat} (h:pop M ≠ W):ordTo W (M + 1) = ordTo W M:=by
  unfold ordTo; rw [show List.range (M + 1) = List.range M ++ [M] from List.range_succ,List.filter_append,← List.append_assoc]; simp [h]
theorem ordTo_next (W:Nat):ordTo (W + 1) 1 = ordTo W 16:=by
  unfold ordTo
  rw [show List.range (W + 1) = List.range W ++ [W] from List.range_succ,List.flatMap_append,List.append_assoc]
  congr 1
  have e:List.range 1 = [0]:=rfl
  rw [e]
  simp
theorem ordTo_le {W M:Nat} (hM:M ≤ 16):(ordTo W M).length ≤ 16 * W + 16:=by
  unfold ordTo
  rw [List.length_append,List.length_flatMap]
  have h1:((List.range M).filter fun m=>pop m == W && decide (0 < m)).length ≤ 16:=Nat.le_trans (List.length_filter_le _ _) (by simpa using hM)
  have h2:∀ l:List Nat,(l.map fun k=>((List.range 16).filter fun m=>pop m == k && decide (0 < m)).length).sum ≤ 16 * l.length:=fun l=>by
    induction l with
    | nil=>simp
    | cons k l ih =>
      have:=List.length_filter_le (fun m=>pop m == k && decide (0 < m)) (List.range 16)
      simp only [List.map_cons,List.sum_cons,List.length_cons,List.length_range] at this ⊢
      omega
  have:=h2 (List.range W)
  rw [List.length_range] at this
  omega
theorem infoMask:((patch shutL Tryz.prog).info? 190).map (fun i=>(i.zero,i.size,i.bytes)) = some (some (.int .u64 0),1,8):=by kernel_rfl
set_option maxRecDepth 100000 in
set_option maxHeartbeats 4000000 in
theorem inOrder_any (w:World):Calls (patch shutL Tryz.prog) 131 #[] w fun e w'=>∃ v,e = .returned v ∧ w'.ownsRow w.heap.size 190 1 v (ordTo 5 1).length (ordV 5 1) ∧ Below w.heap.size w w':=by
  obtain ⟨i0,hi,hz0,hz1,hz2⟩:=info_parts infoMask
  have hu:=((patch_underlying shutL Tryz.prog 188).trans Tryz.underlying188)
  go_enter (pf Tryz.func131 (by rfl)),Tryz.ntmps131
  go_wp2_with fail
  go_loopw [1,2] (fun v i wr=>∃ W:Nat,1 ≤ W ∧ W ≤ 5 ∧ i = .int .i64 W ∧ wr.ownsRow w.heap.size 190 1 v (ordTo W 1).length (ordV W 1) ∧ Below w.heap.size w wr) (fun _ i _=>5 - (intOf i).toNat)
  case atStart=>exact ⟨1,by omega,by omega,rfl,World.ownsRow_nil _ _ _ _,Below.refl _ _⟩
  case round =>
    obtain ⟨W,hW1,hW5,rfl,hown,hb⟩:=hrel
    have HR:Hid (wr.ownsRow w.heap.size 190 1 u1 (ordTo W 1).length (ordV W 1) ∧ Below w.heap.size w wr):=⟨hown,hb⟩
    clear hown hb
    by_cases hlt:W ≤ 4
    · have hlt':decide ((W:Int) ≤ 4) = true:=decide_eq_true (by omega)
      go_wp2_with fail
      go_loopw [1,3] (fun v i wi=>∃ M:Nat,1 ≤ M ∧ M ≤ 16 ∧ i = .int .u64 M ∧ wi.ownsRow w.heap.size 190 1 v (ordTo W M).length (ordV W M) ∧ Below w.heap.size w wi) (fun _ i _=>16 - (intOf i).toNat)
      case atStart=>exact ⟨1,by omega,by omega,rfl,HR.out.1,HR.out.2⟩
      case round =>
        obtain ⟨M,hM1,hM16,rfl,hown,hb⟩:=hrel
        have HI:Hid (wr.ownsRow w.heap.size 190 1 u1 (ordTo W M).length (ordV W M) ∧ Below w.heap.size w wr):=⟨hown,hb⟩
        have hz:w.heap.size ≤ wr.heap.size:=hb.size
        clear hown hb
        by_cases hM:M ≤ 15
        · have hlen:=ordTo_le (W:=W) (M:=M) (by omega)
          by_cases hp:pop M = W
          · go_wp2_with (first
              | (go_at_call 195; refine (width_any M (by omega) _).mono ?_; rintro e w1 ⟨he,hw⟩; rw [hp] at he; obtain rfl:=he; obtain rfl:=hw.symm)
              | (at_builtin; refine wpList_append_own _ rfl _ _ _ rfl w.heap.size 190 i0 _ 1 8 hu hi hz0 hz1 hz2 rfl (by omega) _ (ordTo W M).length (ordV W M) rfl (HI.out.1.alloc _) ⟨wr.heap.size,0,none⟩ 1 1 [.int .u64 M] rfl rfl (cell_one_new _ _ _) (by intro u hu; simp at hu; subst hu; rfl) (by unfold maxLen; omega) (by omega) (by simp; omega) ?_; intro v' w1 hown hgrow _))
            have HO:Hid (w1.ownsRow w.heap.size 190 1 v' (ordTo W (M + 1)).length (ordV W (M + 1)) ∧ Below w.heap.size w w1):=by
              refine ⟨?_,(HI.out.2.alloc (by omega) _).grown hgrow (by simp; omega) (fun q hq=>(HI.out.1.lt q hq).1)⟩
              unfold ordV; rw [ordTo_hit hp (by omega)]
              simpa [ordV] using hown
            clear hown hgrow
            go_wp2_with fail
            go_roundw
            case rel=>exact ⟨M + 1,by omega,by omega,by go_num,HO.out.1,HO.out.2⟩
            case measure=>simp [intOf]; omega
          · have hp':¬ (pop M:Int) = W:=fun h=>hp (by exact_mod_cast h)
            go_wp2_with (go_at_call 195; refine (width_any M (by omega) _).mono ?_; rintro e w1 ⟨he,hw⟩; obtain rfl:=he; obtain rfl:=hw.symm)
            go_roundw
            case rel=>exact ⟨M + 1,by omega,by omega,by go_num,by unfold ordV; rw [ordTo_miss hp]; exact HI.out.1,HI.out.2⟩
            case measure=>simp [intOf]; omega
        · have:M = 16:=by omega
          subst this
          go_wp2_with fail
          go_roundw
          case rel=>exact ⟨W + 1,by omega,by omega,by go_num,by unfold ordV; rw [ordTo_next]; exact HI.out.1,HI.out.2⟩
          case measure=>simp [intOf]; omega
    · have:W = 5:=by omega
      subst this
      go_wp2_with fail
      go_ret
      exact ⟨_,rfl,HR.out.1,HR.out.2⟩
end Go.Proofs.YtojoafcnijajmaaGreatDoor.Z

namespace Go.Proofs.YtojoafcnijajmaaGreatDoor.Z
open Go.RowKit
def place (s n c:Int):Prop:=0 ≤ s ∧ s < 4 ∧ 0 ≤ n ∧ n < 4 ∧ 0 ≤ c ∧ c < 24
def agr (s n c s' n' c':Int):Prop:=¬ (c = c' ∧ n ≠ n') ∧ (n ≠ n' ∨ s = s')
def okCs (S N C:Nat → Int) (n:Nat):Prop:=∀ i,i < n → place (S i) (N i) (C i) ∧ ∀ j,j < i → agr (S i) (N i) (C i) (S j) (N j) (C j)
def okRs (n:Nat) (R:Nat → Int) (r:Nat):Prop:=∀ i,i < r → 0 ≤ R i ∧ R i < n ∧ (0 < i → R (i - 1) < R i)
def okM (n:Nat) (S N C:Nat → Int) (r:Nat) (R:Nat → Int) (p:Int):Prop:=1 ≤ n ∧ n ≤ 24 ∧ okCs S N C n ∧ okRs n R r ∧ 0 ≤ p ∧ p ≤ 3
def CpuAt (w:World) (b o n:Nat) (S N C:Nat → Int):Prop :=
  ∀ i,i < n → w.cell? ⟨b,o + i * 3,none⟩ = some (.int .i64 (S i)) ∧ w.cell? ⟨b,o + i * 3 + 1,none⟩ = some (.int .i64 (N i)) ∧ w.cell? ⟨b,o + i * 3 + 2,none⟩ = some (.int .i64 (C i))
def IntAt (w:World) (b o n:Nat) (R:Nat → Int):Prop:=∀ i,i < n → w.cell? ⟨b,o + i,none⟩ = some (.int .i64 (R i))
theorem CpuAt.ext {w w':World} {b o n:Nat} {S N C:Nat → Int} (h:CpuAt w b o n S N C) (hb:Below w.heap.size w w'):CpuAt w' b o n S N C:=fun i hi=>by
  obtain ⟨h0,h1,h2⟩:=h i hi
  have hbb:b < w.heap.size:=block_lt_of_cell h0
  exact ⟨(hb.cell (p:=⟨b,_,none⟩) hbb).trans h0,(hb.cell (p:=⟨b,_,none⟩) hbb).trans h1,(hb.cell (p:=⟨b,_,none⟩) hbb).trans h2⟩
theorem IntAt.ext {w w':World} {b o n:Nat} {R:Nat → Int} (h:IntAt w b o n R) (hb:Below w.heap.size w w'):IntAt w' b o n R:=fun i hi=>by
  have h0:=h i hi
  have hbb:b < w.heap.size:=block_lt_of_cell h0
  exact (hb.cell (p:=⟨b,_,none⟩) hbb).trans h0
theorem CpuAt.after {w W:World} {b o n:Nat} {S N C:Nat → Int} (h:CpuAt w b o n S N C) (hb:Below w.heap.size w W) (x:After W):CpuAt x.val b o n S N C:=h.ext (ext_trans hb x.later)
theorem CpuAt.mono {w:World} {b o n m:Nat} {S N C:Nat → Int} (h:CpuAt w b o n S N C) (hm:m ≤ n):CpuAt w b o m S N C:=fun i hi=>h i (by omega)
set_option maxHeartbeats 400000 in
theorem agree_any (s n c s' n' c':Int) (w:World) :
    Calls (patch shutL Tryz.prog) 206 #[.agg #[.int .i64 s,.int .i64 n,.int .i64 c],.agg #[.int .i64 s',.int .i64 n',.int .i64 c']] w fun e w' =>
      Ans (agr s n c s' n' c') e ∧ Below w.heap.size w w':=by
  by_cases hc:c = c' <;> by_cases hn:n = n' <;> by_cases hs:s = s' <;> (
    go_enter (pf Tryz.func206 (by rfl)),Tryz.ntmps206
    go_wp2_with (first | (go_at_call 185; go_enter (pf Tryz.func185 (by rfl)),Tryz.ntmps185) | (go_at_call 110; go_enter (pf Tryz.func110 (by rfl)),Tryz.ntmps110))
    go_ret
    exact ⟨⟨_,rfl,by simp [agr,hc,hn,hs]⟩,((Below.refl _ _).alloc (Nat.le_refl _) _).alloc (by simp) _⟩)
set_option maxHeartbeats 400000 in
theorem agreesWithAll_any (s n c:Int) (b o k cap:Nat) (S N C:Nat → Int) (w:World) (hk:k ≤ 9223372036854775807) (hcell:CpuAt w b o k S N C) :
    Calls (patch shutL Tryz.prog) 171 #[.agg #[.int .i64 s,.int .i64 n,.int .i64 c],.slice (some ⟨b,o,none⟩) k cap] w fun e w' =>
      Ans ((∀ i,i < k → agr s n c (S i) (N i) (C i))) e ∧ Below w.heap.size w w':=by
  go_enter (pf Tryz.func171 (by rfl)),Tryz.ntmps171
  go_wp2_with (first | (go_at_call 185; go_enter (pf Tryz.func185 (by rfl)),Tryz.ntmps185) | (go_at_call 110; go_enter (pf Tryz.func110 (by rfl)),Tryz.ntmps110))
  go_loopw [9] (fun i wr=>∃ j:Nat,j ≤ k ∧ i = .int .i64 j ∧ Below w.heap.size w wr ∧ wr.cell? ⟨w.heap.size,0,none⟩ = some (.int .i64 s) ∧ wr.cell? ⟨w.heap.size,1,none⟩ = some (.int .i64 n) ∧ wr.cell? ⟨w.heap.size,2,none⟩ = some (.int .i64 c) ∧ ∀ i,i < j → agr s n c (S i) (N i) (C i))
     (fun i _=>k - (intOf i).toNat)
  case atStart=>exact ⟨0,Nat.zero_le _,rfl,(Below.refl _ _).alloc (Nat.le_refl _) _,by simp,by simp,by simp,fun i hi=>absurd hi (Nat.not_lt_zero _)⟩
  case round =>
    obtain ⟨j,hj,rfl,hb,h0,h1,h2,hall⟩:=hrel
    have HA:Hid (∀ i,i < j → agr s n c (S i) (N i) (C i)):=hall
    clear hall
    have hbz:w.heap.size < wr.heap.size:=block_lt_of_cell h0
    by_cases hlt:j < k
    · obtain ⟨c0,c1,c2⟩:=hcell j hlt
      have hbb:b < w.heap.size:=block_lt_of_cell c0
      have c0:=(hb.cell (p:=⟨b,o + j * 3,none⟩) hbb).trans c0
      have c1:=(hb.cell (p:=⟨b,o + j * 3 + 1,none⟩) hbb).trans c1
      have c2:=(hb.cell (p:=⟨b,o + j * 3 + 2,none⟩) hbb).trans c2
      go_wp2_with fail
      refine (agree_any s n c (S j) (N j) (C j) _).mono ?_
      rintro e w1 ⟨⟨r,rfl,hr⟩,hb1⟩
      have hb1':Below w.heap.size w w1:=(hb.alloc (by omega) _).trans (hb1.mono (by simp; omega))
      obtain ⟨hc1,hf1⟩:=bcell hb1
      cases r
      · have hr':Hid (¬ agr s n c (S j) (N j) (C j)):=fun h=>by simp [h] at hr
        clear hr
        go_wp2_with (first | (go_at_call 185; go_enter (pf Tryz.func185 (by rfl)),Tryz.ntmps185) | (go_at_call 110; go_enter (pf Tryz.func110 (by rfl)),Tryz.ntmps110))
        go_ret
        exact ⟨.no (fun h=>hr'.out (h j hlt)),hb1'⟩
      · have hr':Hid (agr s n c (S j) (N j) (C j)):=hr.1 rfl
        clear hr
        go_wp2_with (first | (go_at_call 185; go_enter (pf Tryz.func185 (by rfl)),Tryz.ntmps185) | (go_at_call 110; go_enter (pf Tryz.func110 (by rfl)),Tryz.ntmps110))
        go_roundw
        case rel=>exact ⟨j + 1,by omega,by go_num,hb1',by rw [hc1 _ _ (by simp; omega)]; simpa [World.cell?_alloc_past _ _ _ hbz] using h0,by rw [hc1 _ _ (by simp; omega)]; simpa [World.cell?_alloc_past _ _ _ hbz] using h1,by rw [hc1 _ _ (by simp; omega)]; simpa [World.cell?_alloc_past _ _ _ hbz] using h2,fun i hi=>by
            rcases Nat.lt_succ_iff_lt_or_eq.1 hi with h | h
            · exact HA.out i h
            · subst h; exact hr'.out⟩
        case measure=>simp [intOf]; omega
    · have:j = k:=by omega
      subst this
      go_wp2_with (first | (go_at_call 185; go_enter (pf Tryz.func185 (by rfl)),Tryz.ntmps185) | (go_at_call 110; go_enter (pf Tryz.func110 (by rfl)),Tryz.ntmps110))
      go_ret
      exact ⟨.yes HA.out,hb⟩
set_option maxHeartbeats 400000 in
theorem validPlace_any (s n c:Int) (w:World) :
    Calls (patch shutL Tryz.prog) 170 #[.agg #[.int .i64 s,.int .i64 n,.int .i64 c]] w fun e w' =>
      Ans (place s n c) e ∧ Below w.heap.size w w':=by
  go_enter (pf Tryz.func170 (by rfl)),Tryz.ntmps170
  go_wp2_with (first | (go_at_call 185; go_enter (pf Tryz.func185 (by rfl)),Tryz.ntmps185) | (go_at_call 110; go_enter (pf Tryz.func110 (by rfl)),Tryz.ntmps110))
  all_goals (go_ret; exact ⟨⟨_,rfl,by simp only [place]; simp; omega⟩,(Below.refl _ _).alloc (Nat.le_refl _) _⟩)
set_option maxHeartbeats 400000 in
theorem validReserved_any (ao:Option Addr) (b o k cap n:Nat) (R:Nat → Int) (w:World) (hk:k ≤ 9223372036854775807) (hn:n ≤ 24) (ha:0 < k → ao = some ⟨b,o,none⟩) (hcell:IntAt w b o k R) :
    Calls (patch shutL Tryz.prog) 98 #[.slice ao k cap,.int .i64 n] w fun e w' =>
      Ans (okRs n R k) e ∧ w' = w:=by
  go_enter (pf Tryz.func98 (by rfl)),Tryz.ntmps98
  go_wp2_with (first | (go_at_call 185; go_enter (pf Tryz.func185 (by rfl)),Tryz.ntmps185) | (go_at_call 110; go_enter (pf Tryz.func110 (by rfl)),Tryz.ntmps110))
  go_loop [5,10] (fun l i=>∃ j:Nat,∃ last:Int,j ≤ k ∧ i = .int .i64 j ∧ l = .int .i64 last ∧ -1 ≤ last ∧ last < 24 ∧ (last = if j = 0 then -1 else R (j - 1)) ∧ okRs n R j)
     (fun _ i=>k - (intOf i).toNat)
  case atStart=>exact ⟨0,-1,Nat.zero_le _,rfl,rfl,by omega,by omega,rfl,fun i hi=>absurd hi (Nat.not_lt_zero _)⟩
  case round =>
    obtain ⟨j,last,hj,rfl,rfl,hl1,hl2,hl3,hok⟩:=hrel
    have HA:Hid (okRs n R j ∧ last = if j = 0 then -1 else R (j - 1)):=⟨hok,hl3⟩
    clear hok hl3
    by_cases hlt:j < k
    · have c0:=hcell j hlt
      have ha':=ha (by omega)
      subst ha'
      by_cases h1:R j ≤ last
      · go_wp2_with (first | (go_at_call 185; go_enter (pf Tryz.func185 (by rfl)),Tryz.ntmps185) | (go_at_call 110; go_enter (pf Tryz.func110 (by rfl)),Tryz.ntmps110))
        go_ret
        refine ⟨.no fun h=>?_,rfl⟩
        have hh:=h j hlt
        have hla:=HA.out.2
        by_cases hz:j = 0
        · subst hz; simp at hla; omega
        · rw [if_neg hz] at hla; have:=hh.2.2 (by omega); omega
      · by_cases h2:(n:Int) ≤ R j
        · go_wp2_with (first | (go_at_call 185; go_enter (pf Tryz.func185 (by rfl)),Tryz.ntmps185) | (go_at_call 110; go_enter (pf Tryz.func110 (by rfl)),Tryz.ntmps110))
          go_ret
          refine ⟨.no fun h=>?_,rfl⟩
          have hh:=h j hlt
          omega
        · go_wp2_with (first | (go_at_call 185; go_enter (pf Tryz.func185 (by rfl)),Tryz.ntmps185) | (go_at_call 110; go_enter (pf Tryz.func110 (by rfl)),Tryz.ntmps110))
          go_round
          case rel=>exact ⟨j + 1,R j,by omega,by go_num,rfl,by omega,by omega,by simp,fun i hi=>by
            rcases Nat.lt_succ_iff_lt_or_eq.1 hi with h | h
            · exact HA.out.1 i h
            · subst h
              refine ⟨by omega,by omega,fun hz=>?_⟩
              have hla:=HA.out.2
              rw [if_neg (by omega)] at hla
              omega⟩
          case measure=>simp [intOf]; omega
    · have:j = k:=by omega
      subst this
      go_wp2_with (first | (go_at_call 185; go_enter (pf Tryz.func185 (by rfl)),Tryz.ntmps185) | (go_at_call 110; go_enter (pf Tryz.func110 (by rfl)),Tryz.ntmps110))
      go_ret
      exact ⟨.yes HA.out.1,rfl⟩
end Go.Proofs.YtojoafcnijajmaaGreatDoor.Z

namespace Go.Proofs.YtojoafcnijajmaaGreatDoor.Z
open Go.RowKit
attribute [local go_sem ↓] Go.wp_at_zero Go.wp_at_succ
attribute [local go_sem] After.cell After.frozen After.const
set_option maxHeartbeats 1000000 in
theorem validCPUs_any (ao:Option Addr) (b o n cap:Nat) (S N C:Nat → Int) (w:World) (hn:n ≤ 9223372036854775807) (hc:n ≤ cap) (ha:0 < n → ao = some ⟨b,o,none⟩) (hcell:CpuAt w b o n S N C) :
    Calls (patch shutL Tryz.prog) 97 #[.slice ao n cap] w fun e w' =>
      Ans (1 ≤ n ∧ n ≤ 24 ∧ okCs S N C n) e ∧ Below w.heap.size w w':=by
  by_cases hn0:n < 1
  · have:n = 0:=by omega
    subst this
    go_enter (pf Tryz.func97 (by rfl)),Tryz.ntmps97
    go_wp2_with (first | (go_at_call 185; go_enter (pf Tryz.func185 (by rfl)),Tryz.ntmps185) | (go_at_call 110; go_enter (pf Tryz.func110 (by rfl)),Tryz.ntmps110))
    go_ret
    exact ⟨.no (by omega),Below.refl _ _⟩
  have ha':=ha (by omega)
  subst ha'
  by_cases hn24:24 < n
  · go_enter (pf Tryz.func97 (by rfl)),Tryz.ntmps97
    go_wp2_with (first | (go_at_call 185; go_enter (pf Tryz.func185 (by rfl)),Tryz.ntmps185) | (go_at_call 110; go_enter (pf Tryz.func110 (by rfl)),Tryz.ntmps110))
    go_ret
    exact ⟨.no (by omega),Below.refl _ _⟩
  go_enter (pf Tryz.func97 (by rfl)),Tryz.ntmps97
  go_wp2_with (first | (go_at_call 185; go_enter (pf Tryz.func185 (by rfl)),Tryz.ntmps185) | (go_at_call 110; go_enter (pf Tryz.func110 (by rfl)),Tryz.ntmps110))
  go_loopw [15] (fun i wr=>∃ j:Nat,j ≤ n ∧ i = .int .i64 j ∧ Below w.heap.size w wr ∧ okCs S N C j) (fun i _=>n - (intOf i).toNat)
  case atStart=>exact ⟨0,Nat.zero_le _,rfl,Below.refl _ _,fun i hi=>absurd hi (Nat.not_lt_zero _)⟩
  case round =>
    obtain ⟨j,hj,rfl,hb,hok⟩:=hrel
    have HA:Hid (okCs S N C j):=hok
    clear hok
    have hz:=hb.size
    by_cases hlt:j < n
    · obtain ⟨c0,c1,c2⟩:=hcell j hlt
      have hbb:b < w.heap.size:=block_lt_of_cell c0
      have HC:Hid (CpuAt wr b o j S N C):=(hcell.mono (by omega)).ext hb
      have c0:=(hb.cell (p:=⟨b,o + j * 3,none⟩) hbb).trans c0
      have c1:=(hb.cell (p:=⟨b,o + j * 3 + 1,none⟩) hbb).trans c1
      have c2:=(hb.cell (p:=⟨b,o + j * 3 + 2,none⟩) hbb).trans c2
      have i0:(0:Int) ≤ (j:Int):=by omega
      have i1:(j:Int) ≤ (cap:Int):=by omega
      clear hcell
      have HR:Hid (Below w.heap.size w wr):=hb
      by_cases hp:place (S j) (N j) (C j)
      · by_cases hg:∀ i,i < j → agr (S j) (N j) (C j) (S i) (N i) (C i)
        · have HP:Hid (place (S j) (N j) (C j) ∧ ∀ i,i < j → agr (S j) (N j) (C j) (S i) (N i) (C i)):=⟨hp,hg⟩
          clear hp hg
          go_wp2_with (first | (go_at_call 185; go_enter (pf Tryz.func185 (by rfl)),Tryz.ntmps185) | (go_at_call 110; go_enter (pf Tryz.func110 (by rfl)),Tryz.ntmps110))
          refine wp_region_after (by kernel_rfl) (by kernel_rfl) ?_
          repeat (go_big_quiet_step (first
            | (go_at_call 170; exact Calls.after_yes HP.out.1 (validPlace_any _ _ _ _))
            | (go_at_call 171; exact Calls.after_yes HP.out.2 (agreesWithAll_any (S j) (N j) (C j) b o j cap S N C _ (by omega) (HC.out.after ((Below.refl _ _).alloc (Nat.le_refl _) _) _)))))
          refine wpQuiet_nil ?_
          rintro _ ⟨⟨w1,hw1⟩,rfl⟩
          go_wp2_with (first | (go_at_call 185; go_enter (pf Tryz.func185 (by rfl)),Tryz.ntmps185) | (go_at_call 110; go_enter (pf Tryz.func110 (by rfl)),Tryz.ntmps110))
          go_roundw
          case rel=>exact ⟨j + 1,by omega,by go_num,ext_trans HR.out (ext_trans ((Below.refl _ _).alloc (Nat.le_refl _) _) hw1),fun i hi=>by
            rcases Nat.lt_succ_iff_lt_or_eq.1 hi with h | h
            · exact HA.out i h
            · subst h; exact HP.out⟩
          case measure=>simp [intOf]; omega
        · have HP:Hid (place (S j) (N j) (C j) ∧ ¬ ∀ i,i < j → agr (S j) (N j) (C j) (S i) (N i) (C i)):=⟨hp,hg⟩
          clear hp hg
          go_wp2_with (first | (go_at_call 185; go_enter (pf Tryz.func185 (by rfl)),Tryz.ntmps185) | (go_at_call 110; go_enter (pf Tryz.func110 (by rfl)),Tryz.ntmps110))
          refine wp_region_after (by kernel_rfl) (by kernel_rfl) ?_
          repeat (go_big_quiet_step (first
            | (go_at_call 170; exact Calls.after_yes HP.out.1 (validPlace_any _ _ _ _))
            | (go_at_call 171; exact Calls.after_no HP.out.2 (agreesWithAll_any (S j) (N j) (C j) b o j cap S N C _ (by omega) (HC.out.after ((Below.refl _ _).alloc (Nat.le_refl _) _) _)))))
          refine wpQuiet_nil ?_
          rintro _ ⟨⟨w1,hw1⟩,rfl⟩
          go_wp2_with (first | (go_at_call 185; go_enter (pf Tryz.func185 (by rfl)),Tryz.ntmps185) | (go_at_call 110; go_enter (pf Tryz.func110 (by rfl)),Tryz.ntmps110))
          go_ret
          exact ⟨.no fun h=>HP.out.2 (h.2.2 j hlt).2,ext_trans HR.out (ext_trans ((Below.refl _ _).alloc (Nat.le_refl _) _) hw1)⟩
      · have HP:Hid (¬ place (S j) (N j) (C j)):=hp
        clear hp
        go_wp2_with (first | (go_at_call 185; go_enter (pf Tryz.func185 (by rfl)),Tryz.ntmps185) | (go_at_call 110; go_enter (pf Tryz.func110 (by rfl)),Tryz.ntmps110))
        refine wp_region_after (by kernel_rfl) (by kernel_rfl) ?_
        repeat (go_big_quiet_step (first
            | (go_at_call 170; exact Calls.after_no HP.out (validPlace_any _ _ _ _))))
        refine wpQuiet_nil ?_
        rintro _ ⟨⟨w1,hw1⟩,rfl⟩
        go_wp2_with (first | (go_at_call 185; go_enter (pf Tryz.func185 (by rfl)),Tryz.ntmps185) | (go_at_call 110; go_enter (pf Tryz.func110 (by rfl)),Tryz.ntmps110))
        go_ret
        exact ⟨.no fun h=>HP.out (h.2.2 j hlt).1,ext_trans HR.out (ext_trans ((Below.refl _ _).alloc (Nat.le_refl _) _) hw1)⟩
    · have:j = n:=by omega
      subst this
      go_wp2_with (first | (go_at_call 185; go_enter (pf Tryz.func185 (by rfl)),Tryz.ntmps185) | (go_at_call 110; go_enter (pf Tryz.func110 (by rfl)),Tryz.ntmps110))
      go_ret
      exact ⟨.yes ⟨by omega,by omega,HA.out⟩,hb⟩
end Go.Proofs.YtojoafcnijajmaaGreatDoor.Z
