/- Part 30 of the proof that Devices answers true and leaves its input as it was, for input of bulk at most the bound of its row: ZJ2 ZK1. -/
import Derived.Test.YtojoafcnijajmaaGreatDoorT8
import Derived.Test.YtojoafcnijajmaaGreatDoorT29
import Derived.Deep.RegionHeld3
import Derived.Deep.RegionLaw
import Derived.Deep.AppendLies
namespace Go.Proofs.YtojoafcnijajmaaGreatDoor.Z
open Go.RowKit
attribute [local go_sem ↓] Go.wp_at_zero Go.wp_at_succ
attribute [local go_sem] After.cell After.frozen After.const
def IL (xs:List Int):List Value:=xs.map (fun x=>Value.int .i64 x)
theorem IL_one (xs:List Int):∀ u ∈ IL xs,u.oneCell' = true:=fun u hu=>by
  obtain ⟨x,_,rfl⟩:=List.mem_map.1 hu
  rfl
theorem ints_of_IL {w:World} {base n:Nat} {v:Value} {xs:List Int} (h:w.ownsRow base 3 1 v n (IL xs)):Ints w v n (fun j=>xs.getD j 0):=by
  have hl:xs.length = n:=by have:=h.1; simpa [IL] using this
  rcases h.2 with ⟨rfl,h0⟩ | ⟨g,cap,cur,rfl,_,hg,hn,hc,hs,ht⟩
  · rw [h0]; exact ⟨none,0,rfl,Nat.le_refl _,by omega,fun h=>absurd h (Nat.lt_irrefl _)⟩
  · refine ⟨_,cap,rfl,hn,by unfold maxLen at hc; omega,fun h0=>⟨g,0,rfl,fun i hi=>?_⟩⟩
    rw [Nat.zero_add,h.cellAt i (by omega)]
    simp [IL,List.getD,show i < xs.length by omega]
set_option maxRecDepth 100000 in
set_option maxHeartbeats 1000000 in
theorem copiedInts_any (v:Value) (n base:Nat) (xs:List Int) (w:World) (h:w.ownsRow base 3 1 v n (IL xs)) (hn:n ≤ 1000000000000) :
    Calls (patch shutL Tryz.prog) 199 #[v] w fun e w'=>∃ ao cap,e = .returned (.slice ao n cap) ∧ w'.ownsRow w.heap.size 3 1 (.slice ao n cap) n (IL xs) ∧ Below w.heap.size w w':=by
  obtain ⟨i0,hi,hz0,hz1,hz2⟩:=info_parts Tryz.infoInt
  have hu:=((patch_underlying shutL Tryz.prog 23).trans Tryz.underlying23)
  have hl:(IL xs).length = n * 1:=h.1
  rcases h.2 with ⟨rfl,h0⟩ | ⟨g,cap,cur,rfl,_,hg,hnc,hc,hs,ht⟩
  · subst h0
    have hx:xs = []:=List.eq_nil_of_length_eq_zero (by simpa [IL] using hl)
    subst hx
    clear h hl
    go_enter (pf Tryz.func199 (by rfl)),Tryz.ntmps199
    go_wp2_with (first | (go_at_call 185; go_enter (pf Tryz.func185 (by rfl)),Tryz.ntmps185) | (go_at_call 110; go_enter (pf Tryz.func110 (by rfl)),Tryz.ntmps110))
    go_ret
    exact ⟨none,0,rfl,World.ownsRow_nil _ _ _ _,Below.refl _ _⟩
  · have HC:Hid (∀ j u,(IL xs)[j]? = some u → w.cell? ((⟨g,0,none⟩ : Addr).add j) = some u):=h.cells (g:=g) rfl
    clear h hg hs ht
    go_enter (pf Tryz.func199 (by rfl)),Tryz.ntmps199
    go_wp2_with (at_builtin; refine wpList_append_own_at _ rfl _ _ _ rfl w.heap.size 3 i0 _ 1 8 hu hi hz0 hz1 hz2 rfl (by omega) (.slice none 0 0) 0 [] rfl (World.ownsRow_nil _ _ _ _) ⟨g,0,none⟩ n cap (IL xs) rfl hl HC.out (IL_one xs) (by unfold maxLen; omega) (by omega) (Nat.le_refl _) ?_; intro v' w1 hown hgrow _ _; obtain ⟨ao,cp,rfl⟩:=ownsRow_shape hown; have HO:Hid (w1.ownsRow w.heap.size 3 1 (.slice ao (0 + n) cp) (0 + n) ([] ++ IL xs) ∧ Below w.heap.size w w1):=⟨hown,below_of_grown hgrow (fun k hk=>by cases hk)⟩; clear hown hgrow)
    go_ret
    exact ⟨ao,cp,by simp,by simpa using HO.out.1,HO.out.2⟩
set_option maxRecDepth 100000 in
set_option maxHeartbeats 2000000 in
theorem copiedGrant_any (A:Nat → Option Addr) (N C:Nat → Nat) (X:Nat → List Int) (w:World) (h:∀ q,q < 4 → w.ownsRow 0 3 1 (.slice (A q) (N q) (C q)) (N q) (IL (X q))) (hN:∀ q,q < 4 → N q ≤ 1000000000000) :
    Calls (patch shutL Tryz.prog) 141 #[GVal A N C] w fun e w'=>∃ A' C',e = .returned (GVal A' N C') ∧ (∀ q,q < 4 → w'.ownsRow w.heap.size 3 1 (.slice (A' q) (N q) (C' q)) (N q) (IL (X q))) ∧ Below w.heap.size w w':=by
  unfold GVal
  obtain ⟨W0,hW0⟩ : ∃ W0,W0 = (w.alloc (.cells #[.slice (A 0) (N 0) (C 0),.slice (A 1) (N 1) (C 1),.slice (A 2) (N 2) (C 2),.slice (A 3) (N 3) (C 3)] 44)).alloc (.cells #[.slice none 0 0,.slice none 0 0,.slice none 0 0,.slice none 0 0] 44):=⟨_,rfl⟩
  have hB0:Below w.heap.size w W0:=by rw [hW0]; exact ((Below.refl _ _).alloc (Nat.le_refl _) _).alloc (by simp) _
  have k0:W0.heap[w.heap.size]? = some (.cells #[.slice (A 0) (N 0) (C 0),.slice (A 1) (N 1) (C 1),.slice (A 2) (N 2) (C 2),.slice (A 3) (N 3) (C 3)] 44 (0,0)):=by rw [hW0]; exact heap_alloc2_old _ _ _
  have k1:W0.heap[w.heap.size + 1]? = some (.cells #[.slice none 0 0,.slice none 0 0,.slice none 0 0,.slice none 0 0] 44 (0,0)):=by rw [hW0]; exact heap_alloc2_new _ _ _
  have hs0:w.heap.size + 1 < W0.heap.size:=by rw [hW0]; simp
  have HB:Hid (Below w.heap.size w W0):=hB0
  obtain ⟨q0,q0f⟩:=blk k0
  have HK:Hid (W0.heap[w.heap.size]? = some (.cells #[.slice (A 0) (N 0) (C 0),.slice (A 1) (N 1) (C 1),.slice (A 2) (N 2) (C 2),.slice (A 3) (N 3) (C 3)] 44 (0,0)) ∧ W0.heap[w.heap.size + 1]? = some (.cells #[.slice none 0 0,.slice none 0 0,.slice none 0 0,.slice none 0 0] 44 (0,0))):=⟨k0,k1⟩
  have hv:Hid (∀ q,q < 4 → w.ownsRow 0 3 1 (.slice (A q) (N q) (C q)) (N q) (IL (X q))):=h
  clear hB0 k0 k1 h
  go_enter (pf Tryz.func141 (by rfl)),Tryz.ntmps141
  go_wp2_with (go_at_call 199; rw [← hW0]; clear hW0; refine (copiedInts_any (.slice (A 0) (N 0) (C 0)) (N 0) 0 (X 0) W0 (ownsRow_below (hv.out 0 (by omega)) HB) (hN 0 (by omega))).mono ?_; rintro e w1 ⟨a0,c0,rfl,o0,b0⟩)
  obtain ⟨D,hD⟩ : ∃ D,D = w1.heap.size:=⟨_,rfl⟩
  have kD:(w1.alloc (.cells #[.slice a0 (N 0) c0,.slice none 0 0,.slice none 0 0,.slice none 0 0] 44)).heap[D]? = some (.cells #[.slice a0 (N 0) c0,.slice none 0 0,.slice none 0 0,.slice none 0 0] 44 (0,0)):=by rw [hD]; exact heap_alloc_new _ _
  have hDs:W0.heap.size ≤ D:=by rw [hD]; exact b0.size
  have hne:∀ b,(Value.slice a0 (N 0) c0).ownBlock = some b → b < D:=fun b hb=>by rw [hD]; exact (o0.lt b hb).2
  have H1:Hid ((w1.alloc (.cells #[.slice a0 (N 0) c0,.slice none 0 0,.slice none 0 0,.slice none 0 0] 44)).heap[D]? = some (.cells #[.slice a0 (N 0) c0,.slice none 0 0,.slice none 0 0,.slice none 0 0] 44 (0,0)) ∧ (w1.alloc (.cells #[.slice a0 (N 0) c0,.slice none 0 0,.slice none 0 0,.slice none 0 0] 44)).ownsRow W0.heap.size 3 1 (.slice a0 (N 0) c0) (N 0) (IL (X 0)) ∧ Below W0.heap.size W0 (w1.alloc (.cells #[.slice a0 (N 0) c0,.slice none 0 0,.slice none 0 0,.slice none 0 0] 44)) ∧ (∀ b,(Value.slice a0 (N 0) c0).ownBlock = some b → b < D) ∧ D < (w1.alloc (.cells #[.slice a0 (N 0) c0,.slice none 0 0,.slice none 0 0,.slice none 0 0] 44)).heap.size):=⟨kD,ownsRow_base (o0.alloc _) (by omega),b0.alloc b0.size _,hne,by rw [hD]; simp⟩
  rw [← hD]
  clear o0 b0 kD hne hD
  go_loopw [4] (fun i wr=>∃ q:Nat,q ≤ 3 ∧ i = .int .i64 q ∧ ∃ f:Nat → Value,wr.heap[D]? = some (.cells #[f 0,f 1,f 2,f 3] 44 (0,0)) ∧ (∀ j,j ≤ q → ∃ a c,f j = .slice a (N j) c ∧ wr.ownsRow W0.heap.size 3 1 (.slice a (N j) c) (N j) (IL (X j)) ∧ ∀ b,(Value.slice a (N j) c).ownBlock = some b → b ≠ D) ∧ Below W0.heap.size W0 wr ∧ D < wr.heap.size) (fun i _=>3 - (intOf i).toNat)
  case atStart=>exact ⟨0,by omega,rfl,fun j=>if j = 0 then .slice a0 (N 0) c0 else .slice none 0 0,H1.out.1,fun j hj=>by
    obtain rfl:j = 0:=by omega
    exact ⟨a0,c0,rfl,H1.out.2.1,fun b hb=>by have:=H1.out.2.2.2.1 b hb; omega⟩,H1.out.2.2.1,H1.out.2.2.2.2⟩
  case round =>
    obtain ⟨q,hq,rfl,f,h1,h2,h3,h4⟩:=hrel
    have HR:Hid (wr.heap[D]? = some (.cells #[f 0,f 1,f 2,f 3] 44 (0,0)) ∧ (∀ j,j ≤ q → ∃ a c,f j = .slice a (N j) c ∧ wr.ownsRow W0.heap.size 3 1 (.slice a (N j) c) (N j) (IL (X j)) ∧ ∀ b,(Value.slice a (N j) c).ownBlock = some b → b ≠ D) ∧ Below W0.heap.size W0 wr ∧ D < wr.heap.size):=⟨h1,h2,h3,h4⟩
    obtain ⟨y0,y0f⟩:=blk ((h3.block w.heap.size (by omega)).trans HK.out.1)
    clear h1 h2 h3 h4 q0 q0f
    by_cases hlt:q < 3
    · have hcall:=copiedInts_any (.slice (A (q + 1)) (N (q + 1)) (C (q + 1))) (N (q + 1)) 0 (X (q + 1)) wr (ownsRow_below (hv.out (q + 1) (by omega)) (HB.out.trans (HR.out.2.2.1.mono (by omega)))) (hN (q + 1) (by omega))
      have HC:Hid _:=hcall
      have hstep:∀ (w2:World) a2 c2,w2.ownsRow wr.heap.size 3 1 (.slice a2 (N (q + 1)) c2) (N (q + 1)) (IL (X (q + 1))) → Below wr.heap.size wr w2 → ∃ f':Nat → Value,(w2.setCell ⟨D,q + 1,none⟩ (.slice a2 (N (q + 1)) c2)).heap[D]? = some (.cells #[f' 0,f' 1,f' 2,f' 3] 44 (0,0)) ∧
          (∀ j,j ≤ q + 1 → ∃ a c,f' j = .slice a (N j) c ∧ (w2.setCell ⟨D,q + 1,none⟩ (.slice a2 (N (q + 1)) c2)).ownsRow W0.heap.size 3 1 (.slice a (N j) c) (N j) (IL (X j)) ∧ ∀ b,(Value.slice a (N j) c).ownBlock = some b → b ≠ D) ∧ Below W0.heap.size W0 (w2.setCell ⟨D,q + 1,none⟩ (.slice a2 (N (q + 1)) c2)) ∧ D < (w2.setCell ⟨D,q + 1,none⟩ (.slice a2 (N (q + 1)) c2)).heap.size:=by
        intro w2 a2 c2 o2 b2
        have hD2:=HR.out.2.2.2
        have hz:=b2.size
        refine ⟨fun j=>if j = q + 1 then .slice a2 (N (q + 1)) c2 else f j,?_,?_,(ext_trans HR.out.2.2.1 b2).setCell hDs _,by simp; omega⟩
        · rw [blk_set _ ((b2.block D hD2).trans HR.out.1)]
          rcases (show q = 0 ∨ q = 1 ∨ q = 2 by omega) with rfl | rfl | rfl <;> simp
        · intro j hj
          by_cases hjq:j = q + 1
          · subst hjq
            refine ⟨a2,c2,if_pos rfl,?_,fun b hb e=>?_⟩
            · exact ownsRow_base (ownsRow_of_block o2 (fun b hb=>Below.heap_setCell _ _ _ _ (fun e=>by have h1:=(o2.lt b hb).1; have h2:b = D:=e; omega))) (by omega)
            · have h1:=(o2.lt b hb).1; omega
          · obtain ⟨a,c,hf,ho,hb⟩:=HR.out.2.1 j (by omega)
            refine ⟨a,c,(if_neg hjq).trans hf,?_,hb⟩
            exact ownsRow_of_block (ownsRow_of_block ho (fun b hb=>b2.block b (ho.lt b hb).2)) (fun b hb'=>Below.heap_setCell _ _ _ _ (hb b hb'))
      have HS:Hid _:=hstep
      clear hcall hstep
      rcases (show q = 0 ∨ q = 1 ∨ q = 2 by omega) with rfl | rfl | rfl <;> (
        go_wp2_with (go_at_call 199; refine Calls.mono (Hid.out HC) ?_; rintro e w2 ⟨a2,c2,rfl,o2,b2⟩; have H2:Hid _:=Hid.out HS w2 a2 c2 o2 b2; obtain ⟨z0,z0f⟩:=blk ((b2.block D HR.out.2.2.2).trans HR.out.1); clear o2 b2)
        go_roundw
        case rel=>exact ⟨_ + 1,by omega,by go_num,Hid.out H2⟩
        case measure=>simp [intOf])
    · have:q = 3:=by omega
      subst this
      obtain ⟨a0',c0',f0,o0,-⟩:=HR.out.2.1 0 (by omega)
      obtain ⟨a1',c1',f1,o1,-⟩:=HR.out.2.1 1 (by omega)
      obtain ⟨a2',c2',f2,o2,-⟩:=HR.out.2.1 2 (by omega)
      obtain ⟨a3',c3',f3,o3,-⟩:=HR.out.2.1 3 (by omega)
      have kd:=HR.out.1
      rw [f0,f1,f2,f3] at kd
      obtain ⟨z0,z0f⟩:=blk kd
      have kr:=(HR.out.2.2.1.block (w.heap.size + 1) hs0).trans HK.out.2
      obtain ⟨x0,x0f⟩:=blk kr
      have HX:Hid (wr.heap[w.heap.size + 1]? = some (.cells #[.slice none 0 0,.slice none 0 0,.slice none 0 0,.slice none 0 0] 44 (0,0))):=kr
      have HO:Hid (wr.ownsRow W0.heap.size 3 1 (.slice a0' (N 0) c0') (N 0) (IL (X 0)) ∧ wr.ownsRow W0.heap.size 3 1 (.slice a1' (N 1) c1') (N 1) (IL (X 1)) ∧ wr.ownsRow W0.heap.size 3 1 (.slice a2' (N 2) c2') (N 2) (IL (X 2)) ∧ wr.ownsRow W0.heap.size 3 1 (.slice a3' (N 3) c3') (N 3) (IL (X 3))):=⟨o0,o1,o2,o3⟩
      clear f0 f1 f2 f3 o0 o1 o2 o3 kd kr
      go_wp2_with fail
      have z3:=blk_set (i:=3) (.slice a3' (N 3) c3') (blk_set (i:=2) (.slice a2' (N 2) c2') (blk_set (i:=1) (.slice a1' (N 1) c1') (blk_set (i:=0) (.slice a0' (N 0) c0') HX.out)))
      simp only [List.setIfInBounds_toArray,List.set_cons_zero,List.set_cons_succ] at z3
      obtain ⟨z,_⟩:=blk z3
      have hset:∀ (W:World) (j:Nat) (u v:Value) (n:Nat) (xs:List Value),W.ownsRow W0.heap.size 3 1 v n xs → (W.setCell ⟨w.heap.size + 1,j,none⟩ u).ownsRow W0.heap.size 3 1 v n xs:=fun W j u v n xs h=>ownsRow_of_block h (fun b hb'=>Below.heap_setCell _ _ _ _ (fun e=>by have h1:=(h.lt b hb').1; have h2:b = w.heap.size + 1:=e; omega))
      have hall:∀ (v:Value) (n:Nat) (xs:List Value),wr.ownsRow W0.heap.size 3 1 v n xs → ((((wr.setCell ⟨w.heap.size + 1,0,none⟩ (.slice a0' (N 0) c0')).setCell ⟨w.heap.size + 1,1,none⟩ (.slice a1' (N 1) c1')).setCell ⟨w.heap.size + 1,2,none⟩ (.slice a2' (N 2) c2')).setCell ⟨w.heap.size + 1,3,none⟩ (.slice a3' (N 3) c3')).ownsRow w.heap.size 3 1 v n xs:=fun v n xs h=>ownsRow_base (hset _ _ _ _ _ _ (hset _ _ _ _ _ _ (hset _ _ _ _ _ _ (hset _ _ _ _ _ _ h)))) (by omega)
      refine bodyPost_ret (v:=.agg #[.slice a0' (N 0) c0',.slice a1' (N 1) c1',.slice a2' (N 2) c2',.slice a3' (N 3) c3']) (by simp [results,Tryz.results141,go_sem,z]) rfl ⟨fun j=>if j = 0 then a0' else if j = 1 then a1' else if j = 2 then a2' else a3',fun j=>if j = 0 then c0' else if j = 1 then c1' else if j = 2 then c2' else c3',rfl,fun j hj=>?_,?_⟩
      · rcases (show j = 0 ∨ j = 1 ∨ j = 2 ∨ j = 3 by omega) with rfl | rfl | rfl | rfl
        · exact hall _ _ _ HO.out.1
        · exact hall _ _ _ HO.out.2.1
        · exact hall _ _ _ HO.out.2.2.1
        · exact hall _ _ _ HO.out.2.2.2
      · exact ((((HB.out.trans (HR.out.2.2.1.mono (by omega))).setCell (by show w.heap.size ≤ w.heap.size + 1; omega) _).setCell (by show w.heap.size ≤ w.heap.size + 1; omega) _).setCell (by show w.heap.size ≤ w.heap.size + 1; omega) _).setCell (by show w.heap.size ≤ w.heap.size + 1; omega) _
end Go.Proofs.YtojoafcnijajmaaGreatDoor.Z

namespace Go.Proofs.YtojoafcnijajmaaGreatDoor.Z
open Go.RowKit
attribute [local go_sem ↓] Go.wp_at_zero Go.wp_at_succ
attribute [local go_sem] After.cell After.frozen After.const
set_option maxRecDepth 100000 in
set_option maxHeartbeats 2000000 in
theorem next0 (g:Nat) (G:Nat → Value) (c:Nat → Nat) (w:World) (n L:Nat) (ms:List Value) (hrow:w.rowIs g 67 24 G) (hg:c g = 1) (ht:Top c w) (hn:G 14 = .int .i64 (n:Int)) (hm:RowC c w 5 3 1 (G 15) L ms) (hL:L + 4 ≤ 1000000000000) (hnn:n + 1 ≤ 1000000000000) :
    Calls (patch shutL Tryz.prog) 169 #[.pointer (some ⟨g,11,none⟩),.int .i64 0] w fun e w'=>e = .returned (.int .i64 ((n:Int) + 1)) ∧ ∃ c' G',w'.rowIs g 67 24 G' ∧ c' g = 1 ∧ G' 14 = .int .i64 ((n:Int) + 1) ∧ (∀ j,j ≠ 14 → j ≠ 15 → G' j = G j) ∧
       RowC c' w' 5 3 1 (G' 15) (L + 4) (ms ++ List.replicate 4 (.int .i64 ((n:Int) + 1))) ∧ Turn (fun y=>y = 1 ∨ y = 5) c w c' w':=by
  obtain ⟨i0,hi,hz0,hz1,hz2⟩:=info_parts Tryz.infoInt
  have hu:=((patch_underlying shutL Tryz.prog 23).trans Tryz.underlying23)
  have q14:=hrow.cell (i:=14) (by omega)
  rw [hn] at q14
  have qf:=hrow.frozen
  have H0:Hid (w.rowIs g 67 24 G ∧ RowC c w 5 3 1 (G 15) L ms):=⟨hrow,hm⟩
  clear hrow hm
  go_enter (pf Tryz.func169 (by rfl)),Tryz.ntmps169
  go_wp2_with fail
  go_loopw [5] (fun i wr => ∃ k : Nat, k ≤ 4 ∧ i = .int .i64 k ∧ ∃ c' G', wr.rowIs g 67 24 G' ∧ c' g = 1 ∧ G' 14 = .int .i64 ((n : Int) + 1) ∧ (∀ j, j ≠ 14 → j ≠ 15 → G' j = G j) ∧
       RowC c' wr 5 3 1 (G' 15) (L + k) (ms ++ List.replicate k (.int .i64 ((n:Int) + 1))) ∧ Turn (fun y=>y = 1 ∨ y = 5) c w c' wr) (fun i _=>4 - (intOf i).toNat)
  case atStart =>
    refine ⟨0,by omega,rfl,c,_,H0.out.1.set 14 _,hg,rfl,fun j h1 _=>by simp [h1],?_,(Turn.refl ht).set (fun k _ e=>.inl (by rw [e]; exact hg)) _⟩
    have h:=H0.out.2.turn (S:=fun y=>y = 1) ((Turn.refl ht).set (a:=⟨g,14,none⟩) (fun k _ e=>by rw [e]; exact hg) (.int .i64 ((n:Int) + 1))) (by omega)
    simpa using h
  case round =>
    obtain ⟨k,hk,rfl,c',G',hr,hcg,h14,hG,hm,htn⟩:=hrel
    have HR:Hid (wr.rowIs g 67 24 G' ∧ c' g = 1 ∧ (∀ j,j ≠ 14 → j ≠ 15 → G' j = G j) ∧ RowC c' wr 5 3 1 (G' 15) (L + k) (ms ++ List.replicate k (.int .i64 ((n:Int) + 1))) ∧ Turn (fun y=>y = 1 ∨ y = 5) c w c' wr ∧ G' 14 = .int .i64 ((n:Int) + 1)):=⟨hr,hcg,hG,hm,htn,h14⟩
    have p14:=hr.cell (i:=14) (by omega)
    rw [h14] at p14
    have p15:=hr.cell (i:=15) (by omega)
    have pf:=hr.frozen
    have hgl:=hr.lt
    have PF:=pf 15
    clear hr hcg h14 hG hm htn q14 qf H0
    by_cases hlt:k < 4
    · have HOWN:Hid ((wr.alloc (.cells #[.int .i64 ((n:Int) + 1)] 3)).drew.ownsRow 0 3 1 (G' 15) (L + k) (ms ++ List.replicate k (.int .i64 ((n:Int) + 1)))):=(HR.out.2.2.2.1.1.alloc _).drew
      have hne:some g ≠ (G' 15).ownBlock:=fun e=>by have h1:=HR.out.2.2.2.1.2 g e.symm; have h2:=HR.out.2.1; omega
      go_wp2_with (first | (go_at_call 185; go_enter (pf Tryz.func185 (by rfl)),Tryz.ntmps185) | (go_at_call 110; go_enter (pf Tryz.func110 (by rfl)),Tryz.ntmps110))
      go_region_law ((refine step_append_lies _ (by rfl) (.tmp 24) (.tmp 29) 23 (by rfl) 0 3 i0 (.int .i64 0) 1 8 hu hi hz0 hz1 hz2 (by rfl) (by omega) (G' 15) (L + k) (ms ++ List.replicate k (.int .i64 ((n:Int) + 1))) (by rfl) HOWN.out ⟨wr.heap.size,0,none⟩ 1 1 [.int .i64 ((n:Int) + 1)] (by rfl) (by rfl) (cell_one_new _ _ _) (by intro u hu; simp at hu; subst hu; rfl) (by omega) (by unfold maxLen; omega) (by omega) (by omega) (wr.heap.size + 1) (by simp) ?_; intro g' cap w1 hown1 hgrow hat hlt'; have e14:=(hgrow.cell_far ⟨g,14,none⟩ (by simp; omega) hne).trans ((World.cell?_alloc_past _ _ _ hgl).trans p14); have e15:=(hgrow.cell_far ⟨g,15,none⟩ (by simp; omega) hne).trans ((World.cell?_alloc_past _ _ _ hgl).trans p15); have ef:=(hgrow.frozen_far ⟨g,15,none⟩ (by simp; omega) hne).trans ((World.frozen?_alloc_past _ _ _ hgl).trans PF)))
      all_goals
        obtain ⟨c'',r1,r2,r3,r4,_,_⟩:=field_app HR.out.1 HR.out.2.1 HR.out.2.2.2.2.1 (.inl rfl) (.inr rfl) (by omega) HR.out.2.2.2.1 (((Below.refl _ _).alloc (Nat.le_refl _) _).drew) hown1 hgrow hat (by simp)
        clear hown1 hgrow hat e14 e15 ef
        go_wp2_with (first | (go_at_call 185; go_enter (pf Tryz.func185 (by rfl)),Tryz.ntmps185) | (go_at_call 110; go_enter (pf Tryz.func110 (by rfl)),Tryz.ntmps110))
        go_roundw
        · refine ⟨k + 1,by omega,by simp,c'',_,r1,r2,?_,fun j h1 h2=>?_,?_,r4⟩
          · rw [if_neg (by omega)]; exact HR.out.2.2.2.2.2
          · rw [if_neg h2]; exact HR.out.2.2.1 j h1 h2
          · rw [if_pos rfl,List.replicate_succ',← List.append_assoc]; exact r3
        · simp [intOf]; omega
    · have:k = 4:=by omega
      subst this
      go_wp2_with (first | (go_at_call 185; go_enter (pf Tryz.func185 (by rfl)),Tryz.ntmps185) | (go_at_call 110; go_enter (pf Tryz.func110 (by rfl)),Tryz.ntmps110))
      go_ret
      exact ⟨rfl,c',G',HR.out.1,HR.out.2.1,HR.out.2.2.2.2.2,HR.out.2.2.1,HR.out.2.2.2.1,HR.out.2.2.2.2.1⟩
set_option maxRecDepth 100000 in
set_option maxHeartbeats 2000000 in
theorem next1 (g:Nat) (G:Nat → Value) (c:Nat → Nat) (w:World) (n L:Nat) (ms:List Value) (hrow:w.rowIs g 67 24 G) (hg:c g = 1) (ht:Top c w) (hn:G 14 = .int .i64 (n:Int)) (hm:RowC c w 6 3 1 (G 16) L ms) (hL:L + 4 ≤ 1000000000000) (hnn:n + 1 ≤ 1000000000000) :
    Calls (patch shutL Tryz.prog) 169 #[.pointer (some ⟨g,11,none⟩),.int .i64 1] w fun e w'=>e = .returned (.int .i64 ((n:Int) + 1)) ∧ ∃ c' G',w'.rowIs g 67 24 G' ∧ c' g = 1 ∧ G' 14 = .int .i64 ((n:Int) + 1) ∧ (∀ j,j ≠ 14 → j ≠ 16 → G' j = G j) ∧
       RowC c' w' 6 3 1 (G' 16) (L + 4) (ms ++ List.replicate 4 (.int .i64 ((n:Int) + 1))) ∧ Turn (fun y=>y = 1 ∨ y = 6) c w c' w':=by
  obtain ⟨i0,hi,hz0,hz1,hz2⟩:=info_parts Tryz.infoInt
  have hu:=((patch_underlying shutL Tryz.prog 23).trans Tryz.underlying23)
  have q14:=hrow.cell (i:=14) (by omega)
  rw [hn] at q14
  have qf:=hrow.frozen
  have H0:Hid (w.rowIs g 67 24 G ∧ RowC c w 6 3 1 (G 16) L ms):=⟨hrow,hm⟩
  clear hrow hm
  go_enter (pf Tryz.func169 (by rfl)),Tryz.ntmps169
  go_wp2_with fail
  go_loopw [5] (fun i wr => ∃ k : Nat, k ≤ 4 ∧ i = .int .i64 k ∧ ∃ c' G', wr.rowIs g 67 24 G' ∧ c' g = 1 ∧ G' 14 = .int .i64 ((n : Int) + 1) ∧ (∀ j, j ≠ 14 → j ≠ 16 → G' j = G j) ∧
       RowC c' wr 6 3 1 (G' 16) (L + k) (ms ++ List.replicate k (.int .i64 ((n:Int) + 1))) ∧ Turn (fun y=>y = 1 ∨ y = 6) c w c' wr) (fun i _=>4 - (intOf i).toNat)
  case atStart =>
    refine ⟨0,by omega,rfl,c,_,H0.out.1.set 14 _,hg,rfl,fun j h1 _=>by simp [h1],?_,(Turn.refl ht).set (fun k _ e=>.inl (by rw [e]; exact hg)) _⟩
    have h:=H0.out.2.turn (S:=fun y=>y = 1) ((Turn.refl ht).set (a:=⟨g,14,none⟩) (fun k _ e=>by rw [e]; exact hg) (.int .i64 ((n:Int) + 1))) (by omega)
    simpa using h
  case round =>
    obtain ⟨k,hk,rfl,c',G',hr,hcg,h14,hG,hm,htn⟩:=hrel
    have HR:Hid (wr.rowIs g 67 24 G' ∧ c' g = 1 ∧ (∀ j,j ≠ 14 → j ≠ 16 → G' j = G j) ∧ RowC c' wr 6 3 1 (G' 16) (L + k) (ms ++ List.replicate k (.int .i64 ((n:Int) + 1))) ∧ Turn (fun y=>y = 1 ∨ y = 6) c w c' wr ∧ G' 14 = .int .i64 ((n:Int) + 1)):=⟨hr,hcg,hG,hm,htn,h14⟩
    have p14:=hr.cell (i:=14) (by omega)
    rw [h14] at p14
    have p15:=hr.cell (i:=16) (by omega)
    have pf:=hr.frozen
    have hgl:=hr.lt
    have PF:=pf 16
    clear hr hcg h14 hG hm htn q14 qf H0
    by_cases hlt:k < 4
    · have HOWN:Hid ((wr.alloc (.cells #[.int .i64 ((n:Int) + 1)] 3)).drew.ownsRow 0 3 1 (G' 16) (L + k) (ms ++ List.replicate k (.int .i64 ((n:Int) + 1)))):=(HR.out.2.2.2.1.1.alloc _).drew
      have hne:some g ≠ (G' 16).ownBlock:=fun e=>by have h1:=HR.out.2.2.2.1.2 g e.symm; have h2:=HR.out.2.1; omega
      go_wp2_with (first | (go_at_call 185; go_enter (pf Tryz.func185 (by rfl)),Tryz.ntmps185) | (go_at_call 110; go_enter (pf Tryz.func110 (by rfl)),Tryz.ntmps110))
      go_region_law ((refine step_append_lies _ (by rfl) (.tmp 24) (.tmp 29) 23 (by rfl) 0 3 i0 (.int .i64 0) 1 8 hu hi hz0 hz1 hz2 (by rfl) (by omega) (G' 16) (L + k) (ms ++ List.replicate k (.int .i64 ((n:Int) + 1))) (by rfl) HOWN.out ⟨wr.heap.size,0,none⟩ 1 1 [.int .i64 ((n:Int) + 1)] (by rfl) (by rfl) (cell_one_new _ _ _) (by intro u hu; simp at hu; subst hu; rfl) (by omega) (by unfold maxLen; omega) (by omega) (by omega) (wr.heap.size + 1) (by simp) ?_; intro g' cap w1 hown1 hgrow hat hlt'; have e14:=(hgrow.cell_far ⟨g,14,none⟩ (by simp; omega) hne).trans ((World.cell?_alloc_past _ _ _ hgl).trans p14); have e15:=(hgrow.cell_far ⟨g,16,none⟩ (by simp; omega) hne).trans ((World.cell?_alloc_past _ _ _ hgl).trans p15); have ef:=(hgrow.frozen_far ⟨g,16,none⟩ (by simp; omega) hne).trans ((World.frozen?_alloc_past _ _ _ hgl).trans PF)))
      all_goals
        obtain ⟨c'',r1,r2,r3,r4,_,_⟩:=field_app HR.out.1 HR.out.2.1 HR.out.2.2.2.2.1 (.inl rfl) (.inr rfl) (by omega) HR.out.2.2.2.1 (((Below.refl _ _).alloc (Nat.le_refl _) _).drew) hown1 hgrow hat (by simp)
        clear hown1 hgrow hat e14 e15 ef
        go_wp2_with (first | (go_at_call 185; go_enter (pf Tryz.func185 (by rfl)),Tryz.ntmps185) | (go_at_call 110; go_enter (pf Tryz.func110 (by rfl)),Tryz.ntmps110))
        go_roundw
        · refine ⟨k + 1,by omega,by simp,c'',_,r1,r2,?_,fun j h1 h2=>?_,?_,r4⟩
          · rw [if_neg (by omega)]; exact HR.out.2.2.2.2.2
          · rw [if_neg h2]; exact HR.out.2.2.1 j h1 h2
          · rw [if_pos rfl,List.replicate_succ',← List.append_assoc]; exact r3
        · simp [intOf]; omega
    · have:k = 4:=by omega
      subst this
      go_wp2_with (first | (go_at_call 185; go_enter (pf Tryz.func185 (by rfl)),Tryz.ntmps185) | (go_at_call 110; go_enter (pf Tryz.func110 (by rfl)),Tryz.ntmps110))
      go_ret
      exact ⟨rfl,c',G',HR.out.1,HR.out.2.1,HR.out.2.2.2.2.2,HR.out.2.2.1,HR.out.2.2.2.1,HR.out.2.2.2.2.1⟩
set_option maxRecDepth 100000 in
set_option maxHeartbeats 2000000 in
theorem next2 (g:Nat) (G:Nat → Value) (c:Nat → Nat) (w:World) (n L:Nat) (ms:List Value) (hrow:w.rowIs g 67 24 G) (hg:c g = 1) (ht:Top c w) (hn:G 14 = .int .i64 (n:Int)) (hm:RowC c w 7 3 1 (G 17) L ms) (hL:L + 4 ≤ 1000000000000) (hnn:n + 1 ≤ 1000000000000) :
    Calls (patch shutL Tryz.prog) 169 #[.pointer (some ⟨g,11,none⟩),.int .i64 2] w fun e w'=>e = .returned (.int .i64 ((n:Int) + 1)) ∧ ∃ c' G',w'.rowIs g 67 24 G' ∧ c' g = 1 ∧ G' 14 = .int .i64 ((n:Int) + 1) ∧ (∀ j,j ≠ 14 → j ≠ 17 → G' j = G j) ∧
       RowC c' w' 7 3 1 (G' 17) (L + 4) (ms ++ List.replicate 4 (.int .i64 ((n:Int) + 1))) ∧ Turn (fun y=>y = 1 ∨ y = 7) c w c' w':=by
  obtain ⟨i0,hi,hz0,hz1,hz2⟩:=info_parts Tryz.infoInt
  have hu:=((patch_underlying shutL Tryz.prog 23).trans Tryz.underlying23)
  have q14:=hrow.cell (i:=14) (by omega)
  rw [hn] at q14
  have qf:=hrow.frozen
  have H0:Hid (w.rowIs g 67 24 G ∧ RowC c w 7 3 1 (G 17) L ms):=⟨hrow,hm⟩
  clear hrow hm
  go_enter (pf Tryz.func169 (by rfl)),Tryz.ntmps169
  go_wp2_with fail
  go_loopw [5] (fun i wr => ∃ k : Nat, k ≤ 4 ∧ i = .int .i64 k ∧ ∃ c' G', wr.rowIs g 67 24 G' ∧ c' g = 1 ∧ G' 14 = .int .i64 ((n : Int) + 1) ∧ (∀ j, j ≠ 14 → j ≠ 17 → G' j = G j) ∧
       RowC c' wr 7 3 1 (G' 17) (L + k) (ms ++ List.replicate k (.int .i64 ((n:Int) + 1))) ∧ Turn (fun y=>y = 1 ∨ y = 7) c w c' wr) (fun i _=>4 - (intOf i).toNat)
  case atStart =>
    refine ⟨0,by omega,rfl,c,_,H0.out.1.set 14 _,hg,rfl,fun j h1 _=>by simp [h1],?_,(Turn.refl ht).set (fun k _ e=>.inl (by rw [e]; exact hg)) _⟩
    have h:=H0.out.2.turn (S:=fun y=>y = 1) ((Turn.refl ht).set (a:=⟨g,14,none⟩) (fun k _ e=>by rw [e]; exact hg) (.int .i64 ((n:Int) + 1))) (by omega)
    simpa using h
  case round =>
    obtain ⟨k,hk,rfl,c',G',hr,hcg,h14,hG,hm,htn⟩:=hrel
    have HR:Hid (wr.rowIs g 67 24 G' ∧ c' g = 1 ∧ (∀ j,j ≠ 14 → j ≠ 17 → G' j = G j) ∧ RowC c' wr 7 3 1 (G' 17) (L + k) (ms ++ List.replicate k (.int .i64 ((n:Int) + 1))) ∧ Turn (fun y=>y = 1 ∨ y = 7) c w c' wr ∧ G' 14 = .int .i64 ((n:Int) + 1)):=⟨hr,hcg,hG,hm,htn,h14⟩
    have p14:=hr.cell (i:=14) (by omega)
    rw [h14] at p14
    have p15:=hr.cell (i:=17) (by omega)
    have pf:=hr.frozen
    have hgl:=hr.lt
    have PF:=pf 17
    clear hr hcg h14 hG hm htn q14 qf H0
    by_cases hlt:k < 4
    · have HOWN:Hid ((wr.alloc (.cells #[.int .i64 ((n:Int) + 1)] 3)).drew.ownsRow 0 3 1 (G' 17) (L + k) (ms ++ List.replicate k (.int .i64 ((n:Int) + 1)))):=(HR.out.2.2.2.1.1.alloc _).drew
      have hne:some g ≠ (G' 17).ownBlock:=fun e=>by have h1:=HR.out.2.2.2.1.2 g e.symm; have h2:=HR.out.2.1; omega
      go_wp2_with (first | (go_at_call 185; go_enter (pf Tryz.func185 (by rfl)),Tryz.ntmps185) | (go_at_call 110; go_enter (pf Tryz.func110 (by rfl)),Tryz.ntmps110))
      go_region_law ((refine step_append_lies _ (by rfl) (.tmp 24) (.tmp 29) 23 (by rfl) 0 3 i0 (.int .i64 0) 1 8 hu hi hz0 hz1 hz2 (by rfl) (by omega) (G' 17) (L + k) (ms ++ List.replicate k (.int .i64 ((n:Int) + 1))) (by rfl) HOWN.out ⟨wr.heap.size,0,none⟩ 1 1 [.int .i64 ((n:Int) + 1)] (by rfl) (by rfl) (cell_one_new _ _ _) (by intro u hu; simp at hu; subst hu; rfl) (by omega) (by unfold maxLen; omega) (by omega) (by omega) (wr.heap.size + 1) (by simp) ?_; intro g' cap w1 hown1 hgrow hat hlt'; have e14:=(hgrow.cell_far ⟨g,14,none⟩ (by simp; omega) hne).trans ((World.cell?_alloc_past _ _ _ hgl).trans p14); have e15:=(hgrow.cell_far ⟨g,17,none⟩ (by simp; omega) hne).trans ((World.cell?_alloc_past _ _ _ hgl).trans p15); have ef:=(hgrow.frozen_far ⟨g,17,none⟩ (by simp; omega) hne).trans ((World.frozen?_alloc_past _ _ _ hgl).trans PF)))
      all_goals
        obtain ⟨c'',r1,r2,r3,r4,_,_⟩:=field_app HR.out.1 HR.out.2.1 HR.out.2.2.2.2.1 (.inl rfl) (.inr rfl) (by omega) HR.out.2.2.2.1 (((Below.refl _ _).alloc (Nat.le_refl _) _).drew) hown1 hgrow hat (by simp)
        clear hown1 hgrow hat e14 e15 ef
        go_wp2_with (first | (go_at_call 185; go_enter (pf Tryz.func185 (by rfl)),Tryz.ntmps185) | (go_at_call 110; go_enter (pf Tryz.func110 (by rfl)),Tryz.ntmps110))
        go_roundw
        · refine ⟨k + 1,by omega,by simp,c'',_,r1,r2,?_,fun j h1 h2=>?_,?_,r4⟩
          · rw [if_neg (by omega)]; exact HR.out.2.2.2.2.2
          · rw [if_neg h2]; exact HR.out.2.2.1 j h1 h2
          · rw [if_pos rfl,List.replicate_succ',← List.append_assoc]; exact r3
        · simp [intOf]; omega
    · have:k = 4:=by omega
      subst this
      go_wp2_with (first | (go_at_call 185; go_enter (pf Tryz.func185 (by rfl)),Tryz.ntmps185) | (go_at_call 110; go_enter (pf Tryz.func110 (by rfl)),Tryz.ntmps110))
      go_ret
      exact ⟨rfl,c',G',HR.out.1,HR.out.2.1,HR.out.2.2.2.2.2,HR.out.2.2.1,HR.out.2.2.2.1,HR.out.2.2.2.2.1⟩
end Go.Proofs.YtojoafcnijajmaaGreatDoor.Z
