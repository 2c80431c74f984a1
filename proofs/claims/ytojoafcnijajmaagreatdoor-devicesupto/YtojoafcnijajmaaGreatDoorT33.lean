/- Part 33 of the proof that Devices answers true and leaves its input as it was, for input of bulk at most the bound of its row: ZK6. -/
import Derived.Test.YtojoafcnijajmaaGreatDoorT8
import Derived.Test.YtojoafcnijajmaaGreatDoorT32
namespace Go.Proofs.YtojoafcnijajmaaGreatDoor.Z
open Go.RowKit
attribute [local go_sem ↓] Go.wp_at_zero Go.wp_at_succ
attribute [local go_sem] After.cell After.frozen After.const
theorem one_all {l:List Value} (h:l.all (fun u=>u.oneCell') = true):∀ u ∈ l,u.oneCell' = true:=List.all_eq_true.1 h
def pBox (m:Nat):Nat → Value:=fun j=>if j = 0 then .string (boxName m) else .slice none 0 0
set_option maxRecDepth 100000 in
set_option maxHeartbeats 4000000 in
theorem markBoxes0_any (g:Nat) (G:Nat → Value) (c:Nat → Nat) (w:World) (n y:Nat) (v:Value) (L:List (Value × Nat)) (hrow:w.rowIs g 67 24 G) (hg:c g = 1) (ht:Top c w) (hn:G 14 = .int .i64 (n:Int))
    (hmk:MK c w 3 6 99 5 pBox (G 12) (G 16) L) (hv:RowC c w y 158 5 v 0 []) (hy:20 ≤ y) (hL:L.length + 4 ≤ 1000000000000) (hnn:n + 1 ≤ 1000000000000) :
    Calls (patch shutL Tryz.prog) 94 #[.pointer (some ⟨g,11,none⟩),v] w fun e w'=>e = .returned (.tuple #[]) ∧ ∃ c' G' L',w'.rowIs g 67 24 G' ∧ c' g = 1 ∧ G' 14 = .int .i64 ((n:Int) + 1) ∧ (∀ j,j ≠ 12 → j ≠ 14 → j ≠ 16 → G' j = G j) ∧
       MK c' w' 3 6 99 5 pBox (G' 12) (G' 16) L' ∧ L'.length = L.length + 4 ∧ Turn (fun x=>x = 1 ∨ x = 3 ∨ x = 6 ∨ x = y) c w c' w':=by
  obtain ⟨i0,hi,hz0,hz1,hz2⟩:=info_parts Tryz.infoBox
  obtain ⟨i1,hi',hz0',hz1',hz2'⟩:=info_parts Tryz.infoBoxes
  have hu:=((patch_underlying shutL Tryz.prog 99).trans Tryz.underlying99)
  have hu':=((patch_underlying shutL Tryz.prog 61).trans Tryz.underlying61)
  obtain ⟨ao,cap,rfl⟩:=ownsRow_shape hv.1
  have hgl:=hrow.lt
  have H0:Hid (w.rowIs g 67 24 G ∧ MK c w 3 6 99 5 pBox (G 12) (G 16) L ∧ RowC c w y 158 5 (.slice ao 0 cap) 0 []):=⟨hrow,hmk,hv⟩
  clear hrow hmk hv
  go_enter (pf Tryz.func94 (by rfl)),Tryz.ntmps94
  go_wp2_with fail
  refine wp_loop_rounds 1 ?_
  rw [rounds_succ]
  go_wp2_with (first
    | (go_at_call 169; refine (next1 g G c _ n L.length _ H0.out.1 hg ht hn H0.out.2.1.marks hL hnn).mono ?_; rintro e w1 ⟨rfl,c1,G1,n1,n2,n3,n4,n5,n6⟩; have H1:Hid (w1.rowIs g 67 24 G1 ∧ c1 g = 1 ∧ G1 14 = .int .i64 ((n:Int) + 1) ∧ (∀ j,j ≠ 14 → j ≠ 16 → G1 j = G j) ∧ RowC c1 w1 6 3 1 (G1 16) (L.length + 4) (L.map (fun p=>Value.int .i64 (p.2:Int)) ++ List.replicate 4 (.int .i64 ((n:Int) + 1))) ∧ Turn (fun y=>y = 1 ∨ y = 6) c w c1 w1):=⟨n1,n2,n3,n4,n5,n6⟩; have gl1:g < w1.heap.size:=n1.lt; clear n1 n2 n3 n4 n5 n6)
    | (go_at_call 96; refine (box_any (n + 1) w1 hnn).mono ?_; rintro e w2 ⟨rfl,hb2⟩; have H2:Hid (Below w1.heap.size w1 w2):=hb2; clear hb2))
  obtain ⟨wr,hwr⟩ : ∃ wr,wr = w2.alloc (.cells #[.string (boxName (n + 1)),.slice none 0 0,.slice none 0 0,.slice none 0 0,.slice none 0 0] 158):=⟨_,rfl⟩
  obtain ⟨B,hB⟩ : ∃ B,B = w2.heap.size:=⟨_,rfl⟩
  have hbr:Below w1.heap.size w1 wr:=by rw [hwr]; exact Below.alloc H2 H2.out.size _
  have t1:Turn (fun _=>False) c1 w1 c1 wr:=(Turn.refl H1.out.2.2.2.2.2.top).below hbr
  have kB:wr.heap[B]? = some (.cells #[.string (boxName (n + 1)),.slice none 0 0,.slice none 0 0,.slice none 0 0,.slice none 0 0] 158 (0,0)):=by rw [hwr,hB]; exact heap_alloc_new _ _
  have gB:B < wr.heap.size:=by rw [hwr,hB]; simp
  have cB:c1 B = 0:=H1.out.2.2.2.2.2.top B (by rw [hB]; exact H2.out.size)
  have glr:g < wr.heap.size:=Nat.lt_of_lt_of_le gl1 t1.size
  have HR1:Hid (wr.rowIs g 67 24 G1):=H1.out.1.of_block (hbr.block g gl1)
  have Ht1:Hid (Turn (fun _=>False) c1 w1 c1 wr):=t1
  have HBk:Hid (wr.heap[B]? = some (.cells #[.string (boxName (n + 1)),.slice none 0 0,.slice none 0 0,.slice none 0 0,.slice none 0 0] 158 (0,0))):=kB
  have H3:Hid (Turn (fun x=>x = y) c1 wr c1 wr ∧ RowC c1 wr y 158 5 (.slice ao 0 cap) 0 []):=⟨Turn.refl t1.top,(H0.out.2.2.turn H1.out.2.2.2.2.2 (by omega)).turn t1 (fun h=>h)⟩
  rw [← hwr,← hB]
  obtain ⟨b0,b0f⟩:=blk kB
  clear hwr hbr t1 kB hB
  refine wp_loop_rounds 1 ?_
  rw [rounds_succ]
  go_wp2_with (first
    | (at_builtin; refine wpList_append_keeps _ rfl (.tmp 36) (.tmp 38) _ rfl 0 158 i0 _ 5 112 hu hi hz0 hz1 hz2 rfl (by omega) (.slice ao 0 cap) 0 [] rfl ((H3.out.2).1.alloc _) ⟨wr.heap.size,0,none⟩ 1 1 [.string (boxName (n + 1)),.slice none 0 0,.slice none 0 0,.slice none 0 0,.slice none 0 0] rfl rfl (World.news_of_block (heap_alloc_new _ _)) (one_all rfl) (by omega) (by unfold maxLen; omega) (by omega) (by omega) _ rfl ?_; intro g5 cap5 w5 o5 gr5 at5 lt5; obtain ⟨c5,t5,f5,-,k5⟩:=fam_app (H3.out.1).top ((Below.refl _ _).alloc (Nat.le_refl _) _) (H3.out.2) (by omega) o5 gr5 at5 rfl; have H5:Hid (Turn (fun x=>x = y) c1 wr c5 w5 ∧ RowC c5 w5 y 158 5 (.slice ao 0 cap) 0 [] ∧ RowC c5 w5 y 158 5 (.slice (some ⟨g5,0,none⟩) (0 + 1) cap5) (0 + 1) [.string (boxName (n + 1)),.slice none 0 0,.slice none 0 0,.slice none 0 0,.slice none 0 0]):=⟨(H3.out.1).trans t5,k5 _ _ _ (H3.out.2) (by omega) rfl,f5⟩; clear o5 gr5 at5 t5 f5 k5; obtain ⟨b5,b5f⟩:=blk ((H5.out.1.keep B gB (by omega)).1.trans HBk.out))
    | (at_builtin; refine wpList_append_keeps _ rfl (.tmp 40) (.tmp 43) _ rfl 0 158 i0 _ 5 112 hu hi hz0 hz1 hz2 rfl (by omega) (.slice ao 0 cap) 0 [] rfl ((H5.out.2.1).1.alloc _) ⟨w5.heap.size,0,none⟩ 2 2 [.string (boxName (n + 1)),.slice none 0 0,.slice none 0 0,.slice none 0 0,.slice none 0 0,.string (boxName (n + 1)),.slice none 0 0,.slice none 0 0,.slice none 0 0,.slice none 0 0] rfl rfl (World.news_of_block (heap_alloc_new _ _)) (one_all rfl) (by omega) (by unfold maxLen; omega) (by omega) (by omega) _ rfl ?_; intro g6 cap6 w6 o6 gr6 at6 lt6; obtain ⟨c6,t6,f6,-,k6⟩:=fam_app (H5.out.1).top ((Below.refl _ _).alloc (Nat.le_refl _) _) (H5.out.2.1) (by omega) o6 gr6 at6 rfl; have H6:Hid (Turn (fun x=>x = y) c1 wr c6 w6 ∧ RowC c6 w6 y 158 5 (.slice ao 0 cap) 0 [] ∧ RowC c6 w6 y 158 5 (.slice (some ⟨g5,0,none⟩) (0 + 1) cap5) (0 + 1) [.string (boxName (n + 1)),.slice none 0 0,.slice none 0 0,.slice none 0 0,.slice none 0 0] ∧ RowC c6 w6 y 158 5 (.slice (some ⟨g6,0,none⟩) (0 + 2) cap6) (0 + 2) [.string (boxName (n + 1)),.slice none 0 0,.slice none 0 0,.slice none 0 0,.slice none 0 0,.string (boxName (n + 1)),.slice none 0 0,.slice none 0 0,.slice none 0 0,.slice none 0 0]):=⟨(H5.out.1).trans t6,k6 _ _ _ (H5.out.2.1) (by omega) rfl,k6 _ _ _ (H5.out.2.2) (by omega) rfl,f6⟩; clear o6 gr6 at6 t6 f6 k6; obtain ⟨b6,b6f⟩:=blk ((H6.out.1.keep B gB (by omega)).1.trans HBk.out))
    | (at_builtin; refine wpList_append_keeps _ rfl (.tmp 45) (.tmp 49) _ rfl 0 158 i0 _ 5 112 hu hi hz0 hz1 hz2 rfl (by omega) (.slice ao 0 cap) 0 [] rfl ((H6.out.2.1).1.alloc _) ⟨w6.heap.size,0,none⟩ 3 3 [.string (boxName (n + 1)),.slice none 0 0,.slice none 0 0,.slice none 0 0,.slice none 0 0,.string (boxName (n + 1)),.slice none 0 0,.slice none 0 0,.slice none 0 0,.slice none 0 0,.string (boxName (n + 1)),.slice none 0 0,.slice none 0 0,.slice none 0 0,.slice none 0 0] rfl rfl (World.news_of_block (heap_alloc_new _ _)) (one_all rfl) (by omega) (by unfold maxLen; omega) (by omega) (by omega) _ rfl ?_; intro g7 cap7 w7 o7 gr7 at7 lt7; obtain ⟨c7,t7,f7,-,k7⟩:=fam_app (H6.out.1).top ((Below.refl _ _).alloc (Nat.le_refl _) _) (H6.out.2.1) (by omega) o7 gr7 at7 rfl; have H7:Hid (Turn (fun x=>x = y) c1 wr c7 w7 ∧ RowC c7 w7 y 158 5 (.slice ao 0 cap) 0 [] ∧ RowC c7 w7 y 158 5 (.slice (some ⟨g5,0,none⟩) (0 + 1) cap5) (0 + 1) [.string (boxName (n + 1)),.slice none 0 0,.slice none 0 0,.slice none 0 0,.slice none 0 0] ∧ RowC c7 w7 y 158 5 (.slice (some ⟨g6,0,none⟩) (0 + 2) cap6) (0 + 2) [.string (boxName (n + 1)),.slice none 0 0,.slice none 0 0,.slice none 0 0,.slice none 0 0,.string (boxName (n + 1)),.slice none 0 0,.slice none 0 0,.slice none 0 0,.slice none 0 0] ∧ RowC c7 w7 y 158 5 (.slice (some ⟨g7,0,none⟩) (0 + 3) cap7) (0 + 3) [.string (boxName (n + 1)),.slice none 0 0,.slice none 0 0,.slice none 0 0,.slice none 0 0,.string (boxName (n + 1)),.slice none 0 0,.slice none 0 0,.slice none 0 0,.slice none 0 0,.string (boxName (n + 1)),.slice none 0 0,.slice none 0 0,.slice none 0 0,.slice none 0 0]):=⟨(H6.out.1).trans t7,k7 _ _ _ (H6.out.2.1) (by omega) rfl,k7 _ _ _ (H6.out.2.2.1) (by omega) rfl,k7 _ _ _ (H6.out.2.2.2) (by omega) rfl,f7⟩; clear o7 gr7 at7 t7 f7 k7; obtain ⟨b7,b7f⟩:=blk ((H7.out.1.keep B gB (by omega)).1.trans HBk.out); have kg:=H7.out.1.keep g glr (by have:=H1.out.2.1; omega); have e11:w7.cell? ⟨g,12,none⟩ = some (G1 12):=(World.cell?_of_block (w:=wr) (a:=⟨g,12,none⟩) kg.1).trans (HR1.out.cell (i:=12) (by omega)); have f11:w7.frozen? ⟨g,12,none⟩ = false:=(World.frozen?_of_block (w:=wr) (a:=⟨g,12,none⟩) kg.1).trans (HR1.out.frozen 12); have gl7:g < w7.heap.size:=Nat.lt_of_lt_of_le glr H7.out.1.size; have HG:G1 12 = G 12:=H1.out.2.2.2.1 12 (by omega) (by omega); have H8:Hid (RowC c7 w7 3 99 1 (G1 12) L.length (L.map Prod.fst) ∧ some g ≠ (G1 12).ownBlock):=by {rw [HG]; have r:=((H0.out.2.1.rows.turn H1.out.2.2.2.2.2 (by omega)).turn Ht1.out (fun h=>h)).turn H7.out.1 (by omega); refine ⟨r,fun e=>?_⟩; have h1:=r.2 g e.symm; have h2:=kg.2; have h3:=H1.out.2.1; omega}; clear kg HG)
    | (at_builtin; refine wpList_append_lies _ rfl (.tmp 55) (.tmp 60) _ rfl 0 99 i1 _ 1 24 hu' hi' hz0' hz1' hz2' rfl (by omega) (G1 12) L.length _ rfl (H8.out.1.1.alloc _) ⟨w7.heap.size,0,none⟩ 4 4 [.slice ao 0 cap,.slice (some ⟨g5,0,none⟩) (0 + 1) cap5,.slice (some ⟨g6,0,none⟩) (0 + 2) cap6,.slice (some ⟨g7,0,none⟩) (0 + 3) cap7] rfl rfl (World.news_of_block (heap_alloc_new _ _)) (by intro u hu; simp at hu; rcases hu with rfl | rfl | rfl | rfl <;> rfl) (by omega) (by unfold maxLen; omega) (by omega) (by omega) _ rfl ?_; intro g8 cap8 w8 o8 gr8 at8 lt8; have e11':=(gr8.cell_far ⟨g,12,none⟩ (by simp; omega) H8.out.2).trans ((World.cell?_alloc_past _ _ _ gl7).trans e11); have f11':=(gr8.frozen_far ⟨g,12,none⟩ (by simp; omega) H8.out.2).trans ((World.frozen?_alloc_past _ _ _ gl7).trans f11)))
  go_end0
  refine ⟨rfl,?_⟩
  obtain ⟨c',G',L',b1,b2,b3,b4,b5,b6⟩:=mark_done (jf:=12) (jm:=16) (sz:=5) (e:=158) HR1.out H1.out.2.1 H0.out.2.1 (H1.out.2.2.2.1 12 (by omega) (by omega)) (H1.out.2.2.2.2.2.trans (Ht1.out.mono (fun _ h=>h.elim))) (H1.out.2.2.2.2.1.turn Ht1.out (fun h=>h)) H7.out.1
    (fun u hu=>by
      simp only [List.mem_cons,List.not_mem_nil,or_false] at hu
      rcases hu with rfl | rfl | rfl | rfl
      · exact ⟨_,_,H7.out.2.1,fun i j hi hj=>by omega⟩
      · exact ⟨_,_,H7.out.2.2.1,fun i j hi hj=>by rcases (show i = 0 ∨ i = 1 ∨ i = 2 by omega) with rfl | rfl | rfl <;> rcases (show j = 0 ∨ j = 1 ∨ j = 2 ∨ j = 3 ∨ j = 4 by omega) with rfl | rfl | rfl | rfl | rfl <;> first | rfl | omega⟩
      · exact ⟨_,_,H7.out.2.2.2.1,fun i j hi hj=>by rcases (show i = 0 ∨ i = 1 ∨ i = 2 by omega) with rfl | rfl | rfl <;> rcases (show j = 0 ∨ j = 1 ∨ j = 2 ∨ j = 3 ∨ j = 4 by omega) with rfl | rfl | rfl | rfl | rfl <;> first | rfl | omega⟩
      · exact ⟨_,_,H7.out.2.2.2.2,fun i j hi hj=>by rcases (show i = 0 ∨ i = 1 ∨ i = 2 by omega) with rfl | rfl | rfl <;> rcases (show j = 0 ∨ j = 1 ∨ j = 2 ∨ j = 3 ∨ j = 4 by omega) with rfl | rfl | rfl | rfl | rfl <;> first | rfl | omega⟩)
    ((Below.refl _ _).alloc (Nat.le_refl _) _) o8 gr8 at8 rfl (by omega) (by omega) hy (by omega) hnn
  exact ⟨c',G',L',b1,b2,(b3 14 (by omega)).trans H1.out.2.2.1,fun i h1 h2 h3=>(b3 i h1).trans (H1.out.2.2.2.1 i h2 h3),b4,b5,b6⟩
def pOp (m:Nat):Nat → Value:=fun j=>if j = 0 then .int .i64 (-100 - (m:Int)) else .string ⟨#[]⟩
set_option maxRecDepth 100000 in
set_option maxHeartbeats 4000000 in
theorem markOps0_any (g:Nat) (G:Nat → Value) (c:Nat → Nat) (w:World) (n y:Nat) (v:Value) (L:List (Value × Nat)) (hrow:w.rowIs g 67 24 G) (hg:c g = 1) (ht:Top c w) (hn:G 14 = .int .i64 (n:Int))
    (hmk:MK c w 4 7 58 4 pOp (G 13) (G 17) L) (hv:RowC c w y 132 4 v 0 []) (hy:20 ≤ y) (hL:L.length + 4 ≤ 1000000000000) (hnn:n + 1 ≤ 1000000000000) :
    Calls (patch shutL Tryz.prog) 95 #[.pointer (some ⟨g,11,none⟩),v] w fun e w'=>e = .returned (.tuple #[]) ∧ ∃ c' G' L',w'.rowIs g 67 24 G' ∧ c' g = 1 ∧ G' 14 = .int .i64 ((n:Int) + 1) ∧ (∀ j,j ≠ 13 → j ≠ 14 → j ≠ 17 → G' j = G j) ∧
       MK c' w' 4 7 58 4 pOp (G' 13) (G' 17) L' ∧ L'.length = L.length + 4 ∧ Turn (fun x=>x = 1 ∨ x = 4 ∨ x = 7 ∨ x = y) c w c' w':=by
  obtain ⟨i0,hi,hz0,hz1,hz2⟩:=info_parts Tryz.infoOp
  obtain ⟨i1,hi',hz0',hz1',hz2'⟩:=info_parts Tryz.infoOps
  have hu:=((patch_underlying shutL Tryz.prog 58).trans Tryz.underlying58)
  have hu':=((patch_underlying shutL Tryz.prog 62).trans Tryz.underlying62)
  obtain ⟨ao,cap,rfl⟩:=ownsRow_shape hv.1
  have hgl:=hrow.lt
  have H0:Hid (w.rowIs g 67 24 G ∧ MK c w 4 7 58 4 pOp (G 13) (G 17) L ∧ RowC c w y 132 4 (.slice ao 0 cap) 0 []):=⟨hrow,hmk,hv⟩
  clear hrow hmk hv
  go_enter (pf Tryz.func95 (by rfl)),Tryz.ntmps95
  go_wp2_with (first
    | (go_at_call 169; refine (next2 g G c _ n L.length _ H0.out.1 hg ht hn H0.out.2.1.marks hL hnn).mono ?_; rintro e w1 ⟨rfl,c1,G1,n1,n2,n3,n4,n5,n6⟩; have H1:Hid (w1.rowIs g 67 24 G1 ∧ c1 g = 1 ∧ G1 14 = .int .i64 ((n:Int) + 1) ∧ (∀ j,j ≠ 14 → j ≠ 17 → G1 j = G j) ∧ RowC c1 w1 7 3 1 (G1 17) (L.length + 4) (L.map (fun p=>Value.int .i64 (p.2:Int)) ++ List.replicate 4 (.int .i64 ((n:Int) + 1))) ∧ Turn (fun y=>y = 1 ∨ y = 7) c w c1 w1):=⟨n1,n2,n3,n4,n5,n6⟩; have gl1:g < w1.heap.size:=n1.lt; clear n1 n2 n3 n4 n5 n6))
  obtain ⟨wr,hwr⟩ : ∃ wr,wr = w1.alloc (.cells #[.int .i64 (-100 - ((n:Int) + 1)),.string ⟨#[]⟩,.string ⟨#[]⟩,.string ⟨#[]⟩] 132):=⟨_,rfl⟩
  obtain ⟨B,hB⟩ : ∃ B,B = w1.heap.size:=⟨_,rfl⟩
  have hbr:Below w1.heap.size w1 wr:=by rw [hwr]; exact (Below.refl _ _).alloc (Nat.le_refl _) _
  have t1:Turn (fun _=>False) c1 w1 c1 wr:=(Turn.refl H1.out.2.2.2.2.2.top).below hbr
  have kB:wr.heap[B]? = some (.cells #[.int .i64 (-100 - ((n:Int) + 1)),.string ⟨#[]⟩,.string ⟨#[]⟩,.string ⟨#[]⟩] 132 (0,0)):=by rw [hwr,hB]; exact heap_alloc_new _ _
  have gB:B < wr.heap.size:=by rw [hwr,hB]; simp
  have cB:c1 B = 0:=H1.out.2.2.2.2.2.top B (by rw [hB]; exact Nat.le_refl _)
  have glr:g < wr.heap.size:=Nat.lt_of_lt_of_le gl1 t1.size
  have HR1:Hid (wr.rowIs g 67 24 G1):=H1.out.1.of_block (hbr.block g gl1)
  have Ht1:Hid (Turn (fun _=>False) c1 w1 c1 wr):=t1
  have HBk:Hid (wr.heap[B]? = some (.cells #[.int .i64 (-100 - ((n:Int) + 1)),.string ⟨#[]⟩,.string ⟨#[]⟩,.string ⟨#[]⟩] 132 (0,0))):=kB
  have H3:Hid (Turn (fun x=>x = y) c1 wr c1 wr ∧ RowC c1 wr y 132 4 (.slice ao 0 cap) 0 []):=⟨Turn.refl t1.top,(H0.out.2.2.turn H1.out.2.2.2.2.2 (by omega)).turn t1 (fun h=>h)⟩
  rw [← hwr,← hB]
  obtain ⟨b0,b0f⟩:=blk kB
  clear hwr hbr t1 kB hB
  refine wp_loop_rounds 1 ?_
  rw [rounds_succ]
  go_wp2_with (first
    | (at_builtin; refine wpList_append_keeps _ rfl (.tmp 23) (.tmp 25) _ rfl 0 132 i0 _ 4 56 hu hi hz0 hz1 hz2 rfl (by omega) (.slice ao 0 cap) 0 [] rfl ((H3.out.2).1.alloc _) ⟨wr.heap.size,0,none⟩ 1 1 [.int .i64 (-100 - ((n:Int) + 1)),.string ⟨#[]⟩,.string ⟨#[]⟩,.string ⟨#[]⟩] rfl rfl (World.news_of_block (heap_alloc_new _ _)) (one_all rfl) (by omega) (by unfold maxLen; omega) (by omega) (by omega) _ rfl ?_; intro g5 cap5 w5 o5 gr5 at5 lt5; obtain ⟨c5,t5,f5,-,k5⟩:=fam_app (H3.out.1).top ((Below.refl _ _).alloc (Nat.le_refl _) _) (H3.out.2) (by omega) o5 gr5 at5 rfl; have H5:Hid (Turn (fun x=>x = y) c1 wr c5 w5 ∧ RowC c5 w5 y 132 4 (.slice ao 0 cap) 0 [] ∧ RowC c5 w5 y 132 4 (.slice (some ⟨g5,0,none⟩) (0 + 1) cap5) (0 + 1) [.int .i64 (-100 - ((n:Int) + 1)),.string ⟨#[]⟩,.string ⟨#[]⟩,.string ⟨#[]⟩]):=⟨(H3.out.1).trans t5,k5 _ _ _ (H3.out.2) (by omega) rfl,f5⟩; clear o5 gr5 at5 t5 f5 k5; obtain ⟨b5,b5f⟩:=blk ((H5.out.1.keep B gB (by omega)).1.trans HBk.out))
    | (at_builtin; refine wpList_append_keeps _ rfl (.tmp 27) (.tmp 30) _ rfl 0 132 i0 _ 4 56 hu hi hz0 hz1 hz2 rfl (by omega) (.slice ao 0 cap) 0 [] rfl ((H5.out.2.1).1.alloc _) ⟨w5.heap.size,0,none⟩ 2 2 [.int .i64 (-100 - ((n:Int) + 1)),.string ⟨#[]⟩,.string ⟨#[]⟩,.string ⟨#[]⟩,.int .i64 (-100 - ((n:Int) + 1)),.string ⟨#[]⟩,.string ⟨#[]⟩,.string ⟨#[]⟩] rfl rfl (World.news_of_block (heap_alloc_new _ _)) (one_all rfl) (by omega) (by unfold maxLen; omega) (by omega) (by omega) _ rfl ?_; intro g6 cap6 w6 o6 gr6 at6 lt6; obtain ⟨c6,t6,f6,-,k6⟩:=fam_app (H5.out.1).top ((Below.refl _ _).alloc (Nat.le_refl _) _) (H5.out.2.1) (by omega) o6 gr6 at6 rfl; have H6:Hid (Turn (fun x=>x = y) c1 wr c6 w6 ∧ RowC c6 w6 y 132 4 (.slice ao 0 cap) 0 [] ∧ RowC c6 w6 y 132 4 (.slice (some ⟨g5,0,none⟩) (0 + 1) cap5) (0 + 1) [.int .i64 (-100 - ((n:Int) + 1)),.string ⟨#[]⟩,.string ⟨#[]⟩,.string ⟨#[]⟩] ∧ RowC c6 w6 y 132 4 (.slice (some ⟨g6,0,none⟩) (0 + 2) cap6) (0 + 2) [.int .i64 (-100 - ((n:Int) + 1)),.string ⟨#[]⟩,.string ⟨#[]⟩,.string ⟨#[]⟩,.int .i64 (-100 - ((n:Int) + 1)),.string ⟨#[]⟩,.string ⟨#[]⟩,.string ⟨#[]⟩]):=⟨(H5.out.1).trans t6,k6 _ _ _ (H5.out.2.1) (by omega) rfl,k6 _ _ _ (H5.out.2.2) (by omega) rfl,f6⟩; clear o6 gr6 at6 t6 f6 k6; obtain ⟨b6,b6f⟩:=blk ((H6.out.1.keep B gB (by omega)).1.trans HBk.out))
    | (at_builtin; refine wpList_append_keeps _ rfl (.tmp 32) (.tmp 36) _ rfl 0 132 i0 _ 4 56 hu hi hz0 hz1 hz2 rfl (by omega) (.slice ao 0 cap) 0 [] rfl ((H6.out.2.1).1.alloc _) ⟨w6.heap.size,0,none⟩ 3 3 [.int .i64 (-100 - ((n:Int) + 1)),.string ⟨#[]⟩,.string ⟨#[]⟩,.string ⟨#[]⟩,.int .i64 (-100 - ((n:Int) + 1)),.string ⟨#[]⟩,.string ⟨#[]⟩,.string ⟨#[]⟩,.int .i64 (-100 - ((n:Int) + 1)),.string ⟨#[]⟩,.string ⟨#[]⟩,.string ⟨#[]⟩] rfl rfl (World.news_of_block (heap_alloc_new _ _)) (one_all rfl) (by omega) (by unfold maxLen; omega) (by omega) (by omega) _ rfl ?_; intro g7 cap7 w7 o7 gr7 at7 lt7; obtain ⟨c7,t7,f7,-,k7⟩:=fam_app (H6.out.1).top ((Below.refl _ _).alloc (Nat.le_refl _) _) (H6.out.2.1) (by omega) o7 gr7 at7 rfl; have H7:Hid (Turn (fun x=>x = y) c1 wr c7 w7 ∧ RowC c7 w7 y 132 4 (.slice ao 0 cap) 0 [] ∧ RowC c7 w7 y 132 4 (.slice (some ⟨g5,0,none⟩) (0 + 1) cap5) (0 + 1) [.int .i64 (-100 - ((n:Int) + 1)),.string ⟨#[]⟩,.string ⟨#[]⟩,.string ⟨#[]⟩] ∧ RowC c7 w7 y 132 4 (.slice (some ⟨g6,0,none⟩) (0 + 2) cap6) (0 + 2) [.int .i64 (-100 - ((n:Int) + 1)),.string ⟨#[]⟩,.string ⟨#[]⟩,.string ⟨#[]⟩,.int .i64 (-100 - ((n:Int) + 1)),.string ⟨#[]⟩,.string ⟨#[]⟩,.string ⟨#[]⟩] ∧ RowC c7 w7 y 132 4 (.slice (some ⟨g7,0,none⟩) (0 + 3) cap7) (0 + 3) [.int .i64 (-100 - ((n:Int) + 1)),.string ⟨#[]⟩,.string ⟨#[]⟩,.string ⟨#[]⟩,.int .i64 (-100 - ((n:Int) + 1)),.string ⟨#[]⟩,.string ⟨#[]⟩,.string ⟨#[]⟩,.int .i64 (-100 - ((n:Int) + 1)),.string ⟨#[]⟩,.string ⟨#[]⟩,.string ⟨#[]⟩]):=⟨(H6.out.1).trans t7,k7 _ _ _ (H6.out.2.1) (by omega) rfl,k7 _ _ _ (H6.out.2.2.1) (by omega) rfl,k7 _ _ _ (H6.out.2.2.2) (by omega) rfl,f7⟩; clear o7 gr7 at7 t7 f7 k7; obtain ⟨b7,b7f⟩:=blk ((H7.out.1.keep B gB (by omega)).1.trans HBk.out); have kg:=H7.out.1.keep g glr (by have:=H1.out.2.1; omega); have e11:w7.cell? ⟨g,13,none⟩ = some (G1 13):=(World.cell?_of_block (w:=wr) (a:=⟨g,13,none⟩) kg.1).trans (HR1.out.cell (i:=13) (by omega)); have f11:w7.frozen? ⟨g,13,none⟩ = false:=(World.frozen?_of_block (w:=wr) (a:=⟨g,13,none⟩) kg.1).trans (HR1.out.frozen 13); have gl7:g < w7.heap.size:=Nat.lt_of_lt_of_le glr H7.out.1.size; have HG:G1 13 = G 13:=H1.out.2.2.2.1 13 (by omega) (by omega); have H8:Hid (RowC c7 w7 4 58 1 (G1 13) L.length (L.map Prod.fst) ∧ some g ≠ (G1 13).ownBlock):=by {rw [HG]; have r:=((H0.out.2.1.rows.turn H1.out.2.2.2.2.2 (by omega)).turn Ht1.out (fun h=>h)).turn H7.out.1 (by omega); refine ⟨r,fun e=>?_⟩; have h1:=r.2 g e.symm; have h2:=kg.2; have h3:=H1.out.2.1; omega}; clear kg HG)
    | (at_builtin; refine wpList_append_lies _ rfl (.tmp 42) (.tmp 47) _ rfl 0 58 i1 _ 1 24 hu' hi' hz0' hz1' hz2' rfl (by omega) (G1 13) L.length _ rfl (H8.out.1.1.alloc _) ⟨w7.heap.size,0,none⟩ 4 4 [.slice ao 0 cap,.slice (some ⟨g5,0,none⟩) (0 + 1) cap5,.slice (some ⟨g6,0,none⟩) (0 + 2) cap6,.slice (some ⟨g7,0,none⟩) (0 + 3) cap7] rfl rfl (World.news_of_block (heap_alloc_new _ _)) (by intro u hu; simp at hu; rcases hu with rfl | rfl | rfl | rfl <;> rfl) (by omega) (by unfold maxLen; omega) (by omega) (by omega) _ rfl ?_; intro g8 cap8 w8 o8 gr8 at8 lt8; have e11':=(gr8.cell_far ⟨g,13,none⟩ (by simp; omega) H8.out.2).trans ((World.cell?_alloc_past _ _ _ gl7).trans e11); have f11':=(gr8.frozen_far ⟨g,13,none⟩ (by simp; omega) H8.out.2).trans ((World.frozen?_alloc_past _ _ _ gl7).trans f11)))
  go_end0
  refine ⟨rfl,?_⟩
  obtain ⟨c',G',L',b1,b2,b3,b4,b5,b6⟩:=mark_done (jf:=13) (jm:=17) (sz:=4) (e:=132) HR1.out H1.out.2.1 H0.out.2.1 (H1.out.2.2.2.1 13 (by omega) (by omega)) (H1.out.2.2.2.2.2.trans (Ht1.out.mono (fun _ h=>h.elim))) (H1.out.2.2.2.2.1.turn Ht1.out (fun h=>h)) H7.out.1
    (fun u hu=>by
      simp only [List.mem_cons,List.not_mem_nil,or_false] at hu
      rcases hu with rfl | rfl | rfl | rfl
      · exact ⟨_,_,H7.out.2.1,fun i j hi hj=>by omega⟩
      · exact ⟨_,_,H7.out.2.2.1,fun i j hi hj=>by rcases (show i = 0 ∨ i = 1 ∨ i = 2 by omega) with rfl | rfl | rfl <;> rcases (show j = 0 ∨ j = 1 ∨ j = 2 ∨ j = 3 by omega) with rfl | rfl | rfl | rfl <;> first | rfl | omega⟩
      · exact ⟨_,_,H7.out.2.2.2.1,fun i j hi hj=>by rcases (show i = 0 ∨ i = 1 ∨ i = 2 by omega) with rfl | rfl | rfl <;> rcases (show j = 0 ∨ j = 1 ∨ j = 2 ∨ j = 3 by omega) with rfl | rfl | rfl | rfl <;> first | rfl | omega⟩
      · exact ⟨_,_,H7.out.2.2.2.2,fun i j hi hj=>by rcases (show i = 0 ∨ i = 1 ∨ i = 2 by omega) with rfl | rfl | rfl <;> rcases (show j = 0 ∨ j = 1 ∨ j = 2 ∨ j = 3 by omega) with rfl | rfl | rfl | rfl <;> first | rfl | omega⟩)
    ((Below.refl _ _).alloc (Nat.le_refl _) _) o8 gr8 at8 rfl (by omega) (by omega) hy (by omega) hnn
  exact ⟨c',G',L',b1,b2,(b3 14 (by omega)).trans H1.out.2.2.1,fun i h1 h2 h3=>(b3 i h1).trans (H1.out.2.2.2.1 i h2 h3),b4,b5,b6⟩
end Go.Proofs.YtojoafcnijajmaaGreatDoor.Z
