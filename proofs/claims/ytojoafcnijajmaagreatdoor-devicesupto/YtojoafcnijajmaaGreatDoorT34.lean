/- Part 34 of the proof that Devices answers true and leaves its input as it was, for input of bulk at most the bound of its row: ZJ4 ZJ5. -/
import Derived.Test.YtojoafcnijajmaaGreatDoorT8
import Derived.Test.YtojoafcnijajmaaGreatDoorT32
import Derived.Test.YtojoafcnijajmaaGreatDoorT33
namespace Go.Proofs.YtojoafcnijajmaaGreatDoor.Z
open Go.RowKit
attribute [local go_sem ↓] Go.wp_at_zero Go.wp_at_succ
attribute [local go_sem] After.cell After.frozen After.const
theorem Hid.in {p:Prop} (h:p):Hid p:=h
structure WaitE (x1 x2 y eL e sz:Nat) (c:Nat → Nat) (w:World) (v1 v2:Value) (L:List (Value × Value)):Prop where
  rows:RowC c w x1 eL 1 v1 L.length (L.map Prod.fst)
  were:RowC c w x2 eL 1 v2 L.length (L.map Prod.snd)
  each:∀ i p,L[i]? = some p → RowC c w (y + i) e sz p.1 0 [] ∧ p.2 = .slice none 0 0
theorem WaitE.turn {S:Nat → Prop} {x1 x2 y eL e sz:Nat} {c c':Nat → Nat} {w w':World} {v1 v2:Value} {L:List (Value × Value)} (h:WaitE x1 x2 y eL e sz c w v1 v2 L) (t:Turn S c w c' w') (h1:¬ S x1) (h2:¬ S x2) (hk:∀ k,k < L.length → ¬ S (y + k)):WaitE x1 x2 y eL e sz c' w' v1 v2 L :=
  ⟨h.rows.turn t h1,h.were.turn t h2,fun i p hp=>⟨(h.each i p hp).1.turn t (hk _ (by rcases Nat.lt_or_ge i L.length with h3 | h3; exact h3; rw [List.getElem?_eq_none h3] at hp; cases hp)),(h.each i p hp).2⟩⟩
theorem keep_first {x1 x2 y eL e sz g T j1 j2 g1 cap1 H:Nat} {c:Nat → Nat} {w wA w1:World} {G:Nat → Value} {v:Value} {L:List (Value × Value)} (hT:w.rowIs g T 24 G) (hg:c g = 1) (ht:Top c w) (hw:WaitE x1 x2 y eL e sz c w (G j1) (G j2) L)
    (hx:1 < x1 ∧ x1 ≠ x2 ∧ 1 < x2 ∧ x1 < y ∧ x2 < y) (hA:Below w.heap.size w wA) (o1:w1.ownsRow 0 eL 1 (.slice (some ⟨g1,0,none⟩) (L.length + 1) cap1) (L.length + 1) (L.map Prod.fst ++ [v])) (gr:wA.grownBy w1 (G j1).ownBlock) (hat:(G j1).ownBlock = some g1 ∨ g1 = H) (hH:wA.heap.size = H) :
    ∃ c1,(w1.setCell ⟨g,j1,none⟩ (.slice (some ⟨g1,0,none⟩) (L.length + 1) cap1)).rowIs g T 24 (fun i=>if i = j1 then .slice (some ⟨g1,0,none⟩) (L.length + 1) cap1 else G i) ∧ c1 g = 1 ∧
      RowC c1 (w1.setCell ⟨g,j1,none⟩ (.slice (some ⟨g1,0,none⟩) (L.length + 1) cap1)) x1 eL 1 (.slice (some ⟨g1,0,none⟩) (L.length + 1) cap1) (L.length + 1) (L.map Prod.fst ++ [v]) ∧
      RowC c1 (w1.setCell ⟨g,j1,none⟩ (.slice (some ⟨g1,0,none⟩) (L.length + 1) cap1)) x2 eL 1 (G j2) L.length (L.map Prod.snd) ∧
      Turn (fun z=>z = 1 ∨ z = x1) c w c1 (w1.setCell ⟨g,j1,none⟩ (.slice (some ⟨g1,0,none⟩) (L.length + 1) cap1)) ∧ some g ≠ (G j2).ownBlock:=by
  obtain ⟨c1,r1,r2,r3,r4,r5,r6⟩:=field_app (S:=fun z=>z = 1 ∨ z = x1) hT hg (Turn.refl ht) (.inl rfl) (.inr rfl) (by omega) hw.rows hA o1 gr hat hH
  exact ⟨c1,r1,r2,r3,hw.were.turn r5 (by omega),r5,fun e=>by have:=hw.were.2 g e.symm; omega⟩
theorem keep_second {x1 x2 y eL e sz g T j1 j2 g2 cap2 H:Nat} {c c1:Nat → Nat} {w W1 wB w2:World} {G G1:Nat → Value} {v:Value} {L:List (Value × Value)} (hw:WaitE x1 x2 y eL e sz c w (G j1) (G j2) L) (hv:RowC c w (y + L.length) e sz v 0 [])
    (hx:1 < x1 ∧ x1 ≠ x2 ∧ 1 < x2 ∧ x1 < y ∧ x2 < y) (hj:j1 ≠ j2) (hT:W1.rowIs g T 24 G1) (hG:∀ j,j ≠ j1 → G1 j = G j) (hg:c1 g = 1) (r3:RowC c1 W1 x1 eL 1 (G1 j1) (L.length + 1) (L.map Prod.fst ++ [v])) (r4:RowC c1 W1 x2 eL 1 (G1 j2) L.length (L.map Prod.snd)) (t:Turn (fun z=>z = 1 ∨ z = x1) c w c1 W1)
    (hB:Below W1.heap.size W1 wB) (o2:w2.ownsRow 0 eL 1 (.slice (some ⟨g2,0,none⟩) (L.length + 1) cap2) (L.length + 1) (L.map Prod.snd ++ [.slice none 0 0])) (gr:wB.grownBy w2 (G1 j2).ownBlock) (hat:(G1 j2).ownBlock = some g2 ∨ g2 = H) (hH:wB.heap.size = H) :
    ∃ c' G',(w2.setCell ⟨g,j2,none⟩ (.slice (some ⟨g2,0,none⟩) (L.length + 1) cap2)).rowIs g T 24 G' ∧ c' g = 1 ∧ (∀ j,j ≠ j1 → j ≠ j2 → G' j = G j) ∧
      WaitE x1 x2 y eL e sz c' (w2.setCell ⟨g,j2,none⟩ (.slice (some ⟨g2,0,none⟩) (L.length + 1) cap2)) (G' j1) (G' j2) (L ++ [(v,.slice none 0 0)]) ∧ Turn (fun z=>z = 1 ∨ z = x1 ∨ z = x2) c w c' (w2.setCell ⟨g,j2,none⟩ (.slice (some ⟨g2,0,none⟩) (L.length + 1) cap2)):=by
  obtain ⟨c2,s1,s2,s3,s4,s5,s6⟩:=field_app (S:=fun z=>z = 1 ∨ z = x1 ∨ z = x2) (c:=c) (w:=w) hT hg (t.mono (fun z h=>by omega)) (.inl rfl) (.inr (.inr rfl)) (by omega) r4 hB o2 gr hat hH
  refine ⟨c2,_,s1,s2,fun j h1 h2=>(if_neg h2).trans (hG j h1),⟨?_,?_,fun i p hp=>?_⟩,s4⟩
  · have h:=r3.turn s5 (by omega)
    simpa [hj] using h
  · simpa using s3
  · rcases Nat.lt_or_ge i L.length with hi' | hi'
    · rw [List.getElem?_append_left hi'] at hp
      have he:=hw.each i p hp
      exact ⟨(he.1.turn t (by omega)).turn s5 (by omega),he.2⟩
    · rw [List.getElem?_append_right hi'] at hp
      have hi0:i = L.length:=by
        rcases Nat.eq_or_lt_of_le hi' with h | h
        · exact h.symm
        · rw [List.getElem?_eq_none (by simp; omega)] at hp; cases hp
      subst hi0
      simp at hp
      subst hp
      exact ⟨(hv.turn t (by omega)).turn s5 (by omega),rfl⟩
set_option maxRecDepth 100000 in
set_option maxHeartbeats 4000000 in
theorem keepOps0_any (g:Nat) (G:Nat → Value) (c:Nat → Nat) (w:World) (v:Value) (L:List (Value × Value)) (hrow:w.rowIs g 67 24 G) (hg:c g = 1) (ht:Top c w) (hw:WaitE 12 13 200 58 132 4 c w (G 22) (G 23) L)
    (hv:RowC c w (200 + L.length) 132 4 v 0 []) (hl:L.length ≤ 1000000) :
    Calls (patch shutL Tryz.prog) 65 #[.pointer (some ⟨g,11,none⟩),v] w fun e w'=>e = .returned (.tuple #[]) ∧ ∃ c' G',w'.rowIs g 67 24 G' ∧ c' g = 1 ∧ (∀ j,j ≠ 22 → j ≠ 23 → G' j = G j) ∧ WaitE 12 13 200 58 132 4 c' w' (G' 22) (G' 23) (L ++ [(v,.slice none 0 0)]) ∧ Turn (fun z=>z = 1 ∨ z = 12 ∨ z = 13) c w c' w':=by
  obtain ⟨i0,hi,hz0,hz1,hz2⟩:=info_parts Tryz.infoOps
  obtain ⟨i1,hi',hz0',hz1',hz2'⟩:=info_parts Tryz.infoOp
  have hu:=((patch_underlying shutL Tryz.prog 62).trans Tryz.underlying62)
  have hu':=((patch_underlying shutL Tryz.prog 58).trans Tryz.underlying58)
  obtain ⟨ao,cap,rfl⟩:=ownsRow_shape hv.1
  have hgl:=hrow.lt
  have g22:=hrow.cell (i:=22) (by omega)
  have f22:=hrow.frozen 22
  have H0:Hid (w.rowIs g 67 24 G ∧ WaitE 12 13 200 58 132 4 c w (G 22) (G 23) L ∧ RowC c w (200 + L.length) 132 4 (.slice ao 0 cap) 0 [] ∧ some g ≠ (G 22).ownBlock):=⟨hrow,hw,hv,fun e=>by have:=hw.rows.2 g e.symm; omega⟩
  have hao:(ao = none ∧ cap = 0) ∨ ∃ gb,ao = some ⟨gb,0,none⟩:=by
    rcases hv.1.2 with ⟨h1,_⟩ | ⟨gb,cp,cur,h1,_⟩
    · injection h1 with e1 _ e3
      exact .inl ⟨e1,e3⟩
    · injection h1 with e1 _ e3
      exact .inr ⟨gb,e1⟩
  clear hrow hw hv
  rcases hao with ⟨rfl,rfl⟩ | ⟨gb,rfl⟩
  all_goals
    go_enter (pf Tryz.func65 (by rfl)),Tryz.ntmps65
    go_wp2_with (first
      | (at_builtin; refine wpList_append_lies _ rfl (.tmp 12) (.tmp 14) _ rfl 0 58 i0 _ 1 24 hu hi hz0 hz1 hz2 rfl (by omega) (G 22) L.length (L.map Prod.fst) rfl (H0.out.2.1.rows.1.alloc _) ⟨w.heap.size,0,none⟩ 1 1 [_] rfl rfl (World.news_of_block (heap_alloc_new _ _)) (one_all rfl) (by omega) (by unfold maxLen; omega) (by omega) (by omega) _ rfl ?_; intro g1 cap1 w1 o1 gr1 at1 lt1; have e22:=(gr1.cell_far ⟨g,22,none⟩ (by simp; omega) H0.out.2.2.2).trans ((World.cell?_alloc_past _ _ _ hgl).trans g22); have k22:=(gr1.frozen_far ⟨g,22,none⟩ (by simp; omega) H0.out.2.2.2).trans ((World.frozen?_alloc_past _ _ _ hgl).trans f22); obtain ⟨c1,r1,r2,r3,r4,r5,r6⟩:=keep_first (j1:=22) (j2:=23) H0.out.1 hg ht H0.out.2.1 (by omega) ((Below.refl _ _).alloc (Nat.le_refl _) _) o1 gr1 at1 rfl; have q23:=r1.cell (i:=23) (by omega); have z23:=r1.frozen 23; have ql:=r1.lt; have HC1:Hid (c1 g = 1):=r2; have HR1:Hid (RowC c1 (w1.setCell ⟨g,22,none⟩ (.slice (some ⟨g1,0,none⟩) (L.length + 1) cap1)) 13 58 1 (G 23) L.length (L.map Prod.snd) ∧ some g ≠ (G 23).ownBlock):=⟨r4,r6⟩; have HT1:Hid ((w1.setCell ⟨g,22,none⟩ (.slice (some ⟨g1,0,none⟩) (L.length + 1) cap1)).rowIs g 67 24 (fun i=>if i = 22 then (.slice (some ⟨g1,0,none⟩) (L.length + 1) cap1) else G i)):=r1; have HU1:=Hid.in r3; have HV1:=Hid.in r5; clear o1 gr1 at1 lt1 r1 r2 r3 r4 r5 r6)
      | (at_builtin; refine wpList_append_lies _ rfl (.tmp 22) (.tmp 24) _ rfl 0 58 i0 _ 1 24 hu hi hz0 hz1 hz2 rfl (by omega) (G 23) L.length (L.map Prod.snd) rfl (HR1.out.1.1.alloc _) ⟨w1.heap.size,0,none⟩ 1 1 [.slice none 0 0] rfl rfl (World.news_of_block (by rw [show w1.heap.size = (w1.setCell ⟨g,22,none⟩ (.slice (some ⟨g1,0,none⟩) (L.length + 1) cap1)).heap.size by simp]; exact heap_alloc_new _ _)) (one_all rfl) (by omega) (by unfold maxLen; omega) (by omega) (by omega) _ rfl ?_; intro g2 cap2 w2 o2 gr2 at2 lt2; have e23:=(gr2.cell_far ⟨g,23,none⟩ (by simp at ql; simp; omega) HR1.out.2).trans ((World.cell?_alloc_past _ _ _ ql).trans q23); have k23:=(gr2.frozen_far ⟨g,23,none⟩ (by simp at ql; simp; omega) HR1.out.2).trans ((World.frozen?_alloc_past _ _ _ ql).trans z23); have HF:=Hid.in (keep_second (j1:=22) (j2:=23) H0.out.2.1 H0.out.2.2.1 (by omega) (by omega) HT1.out (fun j hj=>if_neg hj) HC1.out HU1.out HR1.out.1 HV1.out ((Below.refl _ _).alloc (Nat.le_refl _) _) o2 gr2 at2 rfl); clear o2 gr2 at2 lt2))
    go_end0
    exact ⟨rfl,HF.out⟩
set_option maxRecDepth 100000 in
set_option maxHeartbeats 4000000 in
theorem keepBoxes0_any (g:Nat) (G:Nat → Value) (c:Nat → Nat) (w:World) (v:Value) (L:List (Value × Value)) (hrow:w.rowIs g 67 24 G) (hg:c g = 1) (ht:Top c w) (hw:WaitE 10 11 100 99 158 5 c w (G 20) (G 21) L)
    (hv:RowC c w (100 + L.length) 158 5 v 0 []) (hl:L.length ≤ 1000000) :
    Calls (patch shutL Tryz.prog) 69 #[.pointer (some ⟨g,11,none⟩),v] w fun e w'=>e = .returned (.tuple #[]) ∧ ∃ c' G',w'.rowIs g 67 24 G' ∧ c' g = 1 ∧ (∀ j,j ≠ 20 → j ≠ 21 → G' j = G j) ∧ WaitE 10 11 100 99 158 5 c' w' (G' 20) (G' 21) (L ++ [(v,.slice none 0 0)]) ∧ Turn (fun z=>z = 1 ∨ z = 10 ∨ z = 11) c w c' w':=by
  obtain ⟨i0,hi,hz0,hz1,hz2⟩:=info_parts Tryz.infoBoxes
  have hu:=((patch_underlying shutL Tryz.prog 61).trans Tryz.underlying61)
  obtain ⟨ao,cap,rfl⟩:=ownsRow_shape hv.1
  have hgl:=hrow.lt
  have g22:=hrow.cell (i:=20) (by omega)
  have f22:=hrow.frozen 20
  have H0:Hid (w.rowIs g 67 24 G ∧ WaitE 10 11 100 99 158 5 c w (G 20) (G 21) L ∧ RowC c w (100 + L.length) 158 5 (.slice ao 0 cap) 0 [] ∧ some g ≠ (G 20).ownBlock):=⟨hrow,hw,hv,fun e=>by have:=hw.rows.2 g e.symm; omega⟩
  have hao:(ao = none ∧ cap = 0) ∨ ∃ gb,ao = some ⟨gb,0,none⟩:=by
    rcases hv.1.2 with ⟨h1,_⟩ | ⟨gb,cp,cur,h1,_⟩
    · injection h1 with e1 _ e3
      exact .inl ⟨e1,e3⟩
    · injection h1 with e1 _ e3
      exact .inr ⟨gb,e1⟩
  clear hrow hw hv
  rcases hao with ⟨rfl,rfl⟩ | ⟨gb,rfl⟩
  all_goals
    go_enter (pf Tryz.func69 (by rfl)),Tryz.ntmps69
    go_wp2_with fail
    refine wp_loop_rounds 1 ?_
    rw [rounds_succ]
    go_wp2_with (first
      | (at_builtin; refine wpList_append_lies _ rfl (.tmp 31) (.tmp 33) _ rfl 0 99 i0 _ 1 24 hu hi hz0 hz1 hz2 rfl (by omega) (G 20) L.length (L.map Prod.fst) rfl (H0.out.2.1.rows.1.alloc _) ⟨w.heap.size,0,none⟩ 1 1 [_] rfl rfl (World.news_of_block (heap_alloc_new _ _)) (one_all rfl) (by omega) (by unfold maxLen; omega) (by omega) (by omega) _ rfl ?_; intro g1 cap1 w1 o1 gr1 at1 lt1; have e22:=(gr1.cell_far ⟨g,20,none⟩ (by simp; omega) H0.out.2.2.2).trans ((World.cell?_alloc_past _ _ _ hgl).trans g22); have k22:=(gr1.frozen_far ⟨g,20,none⟩ (by simp; omega) H0.out.2.2.2).trans ((World.frozen?_alloc_past _ _ _ hgl).trans f22); obtain ⟨c1,r1,r2,r3,r4,r5,r6⟩:=keep_first (j1:=20) (j2:=21) H0.out.1 hg ht H0.out.2.1 (by omega) ((Below.refl _ _).alloc (Nat.le_refl _) _) o1 gr1 at1 rfl; have q23:=r1.cell (i:=21) (by omega); have z23:=r1.frozen 21; have ql:=r1.lt; have HC1:Hid (c1 g = 1):=r2; have HR1:Hid (RowC c1 (w1.setCell ⟨g,20,none⟩ (.slice (some ⟨g1,0,none⟩) (L.length + 1) cap1)) 11 99 1 (G 21) L.length (L.map Prod.snd) ∧ some g ≠ (G 21).ownBlock):=⟨r4,r6⟩; have HT1:Hid ((w1.setCell ⟨g,20,none⟩ (.slice (some ⟨g1,0,none⟩) (L.length + 1) cap1)).rowIs g 67 24 (fun i=>if i = 20 then (.slice (some ⟨g1,0,none⟩) (L.length + 1) cap1) else G i)):=r1; have HU1:=Hid.in r3; have HV1:=Hid.in r5; clear o1 gr1 at1 lt1 r1 r2 r3 r4 r5 r6)
      | (at_builtin; refine wpList_append_lies _ rfl (.tmp 41) (.tmp 43) _ rfl 0 99 i0 _ 1 24 hu hi hz0 hz1 hz2 rfl (by omega) (G 21) L.length (L.map Prod.snd) rfl (HR1.out.1.1.alloc _) ⟨w1.heap.size,0,none⟩ 1 1 [.slice none 0 0] rfl rfl (World.news_of_block (by rw [show w1.heap.size = (w1.setCell ⟨g,20,none⟩ (.slice (some ⟨g1,0,none⟩) (L.length + 1) cap1)).heap.size by simp]; exact heap_alloc_new _ _)) (one_all rfl) (by omega) (by unfold maxLen; omega) (by omega) (by omega) _ rfl ?_; intro g2 cap2 w2 o2 gr2 at2 lt2; have e23:=(gr2.cell_far ⟨g,21,none⟩ (by simp at ql; simp; omega) HR1.out.2).trans ((World.cell?_alloc_past _ _ _ ql).trans q23); have k23:=(gr2.frozen_far ⟨g,21,none⟩ (by simp at ql; simp; omega) HR1.out.2).trans ((World.frozen?_alloc_past _ _ _ ql).trans z23); have HF:=Hid.in (keep_second (j1:=20) (j2:=21) H0.out.2.1 H0.out.2.2.1 (by omega) (by omega) HT1.out (fun j hj=>if_neg hj) HC1.out HU1.out HR1.out.1 HV1.out ((Below.refl _ _).alloc (Nat.le_refl _) _) o2 gr2 at2 rfl); clear o2 gr2 at2 lt2))
    go_end0
    exact ⟨rfl,HF.out⟩
end Go.Proofs.YtojoafcnijajmaaGreatDoor.Z

namespace Go.Proofs.YtojoafcnijajmaaGreatDoor.Z
open Go.RowKit
attribute [local go_sem ↓] Go.wp_at_zero Go.wp_at_succ
attribute [local go_sem] After.cell After.frozen After.const
set_option maxRecDepth 100000 in
set_option maxHeartbeats 1000000 in
theorem sameOps0_any (ao bo:Option Addr) (ac bc:Nat) (w:World):Calls (patch shutL Tryz.prog) 63 #[.slice ao 0 ac,.slice bo 0 bc] w fun e w'=>e = .returned (.bool true) ∧ w' = w:=by
  go_enter (pf Tryz.func63 (by rfl)),Tryz.ntmps63
  go_wp2_with fail
  refine wp_loop_rounds 1 ?_
  rw [rounds_succ]
  go_wp2_with (first | (go_at_call 185; go_enter (pf Tryz.func185 (by rfl)),Tryz.ntmps185) | (go_at_call 110; go_enter (pf Tryz.func110 (by rfl)),Tryz.ntmps110))
  go_ret
  exact ⟨rfl,rfl⟩
set_option maxRecDepth 100000 in
set_option maxHeartbeats 1000000 in
theorem sameBoxes0_any (ao bo:Option Addr) (ac bc:Nat) (w:World):Calls (patch shutL Tryz.prog) 68 #[.slice ao 0 ac,.slice bo 0 bc] w fun e w'=>e = .returned (.bool true) ∧ w' = w:=by
  go_enter (pf Tryz.func68 (by rfl)),Tryz.ntmps68
  go_wp2_with fail
  refine wp_loop_rounds 1 ?_
  rw [rounds_succ]
  go_wp2_with (first | (go_at_call 185; go_enter (pf Tryz.func185 (by rfl)),Tryz.ntmps185) | (go_at_call 110; go_enter (pf Tryz.func110 (by rfl)),Tryz.ntmps110))
  go_ret
  exact ⟨rfl,rfl⟩
theorem flat_get {α:Type} (f:α → List Value) (h4:∀ x,(f x).length = 4):∀ (ws:List α) (k q:Nat) (x:α),ws[k]? = some x → q < 4 → (ws.flatMap f)[k * 4 + q]? = (f x)[q]?
  | [],k,q,x,h,_=>by simp at h
  | a :: ws,0,q,x,h,hq=>by
    simp at h; subst h
    rw [List.flatMap_cons,List.getElem?_append_left (by rw [h4]; omega)]
    congr 1; omega
  | a :: ws,k + 1,q,x,h,hq=>by
    rw [List.flatMap_cons,List.getElem?_append_right (by rw [h4]; omega),h4,show (k + 1) * 4 + q - 4 = k * 4 + q by omega]
    exact flat_get f h4 ws k q x (by simpa using h) hq
theorem sameG_refl (N:Nat → Nat) (R:Nat → Nat → Int):sameG N R N R 4:=fun _ _=>⟨rfl,fun _ _=>rfl⟩
theorem grants_at {c:Nat → Nat} {w:World} {x:Nat} {v:Value} {ws:List GW} {f:GW → List Value} {k:Nat} {p:GW} (h:RowC c w x 44 4 v ws.length (ws.flatMap f)) (h4:∀ x,(f x).length = 4) (hk:ws[k]? = some p) :
    ∃ b cap,v = .slice (some ⟨b,0,none⟩) ws.length cap ∧ b < w.heap.size ∧ w.cell? ⟨b,k * 4,none⟩ = (f p)[0]? ∧ w.cell? ⟨b,k * 4 + 1,none⟩ = (f p)[1]? ∧ w.cell? ⟨b,k * 4 + 2,none⟩ = (f p)[2]? ∧ w.cell? ⟨b,k * 4 + 3,none⟩ = (f p)[3]?:=by
  have hlt:k < ws.length:=by
    rcases Nat.lt_or_ge k ws.length with h1 | h1
    · exact h1
    · rw [List.getElem?_eq_none h1] at hk; cases hk
  obtain ⟨b,cap,rfl,_,hb⟩:=h.1.form (by omega)
  refine ⟨b,cap,rfl,hb,?_,?_,?_,?_⟩
  · rw [h.1.cellAt _ (by omega)]; exact flat_get f h4 ws k 0 p hk (by omega)
  · rw [h.1.cellAt _ (by omega)]; exact flat_get f h4 ws k 1 p hk (by omega)
  · rw [h.1.cellAt _ (by omega)]; exact flat_get f h4 ws k 2 p hk (by omega)
  · rw [h.1.cellAt _ (by omega)]; exact flat_get f h4 ws k 3 p hk (by omega)
theorem lists_at {x1 x2 y eL e sz k:Nat} {c:Nat → Nat} {w:World} {v1 v2:Value} {L:List (Value × Value)} (h:WaitE x1 x2 y eL e sz c w v1 v2 L) (hk:k < L.length) :
    ∃ b1 p1 b2 p2 ao ac,v1 = .slice (some ⟨b1,0,none⟩) L.length p1 ∧ v2 = .slice (some ⟨b2,0,none⟩) L.length p2 ∧ b1 < w.heap.size ∧ b2 < w.heap.size ∧ w.cell? ⟨b1,k,none⟩ = some (.slice ao 0 ac) ∧ w.cell? ⟨b2,k,none⟩ = some (.slice none 0 0):=by
  obtain ⟨b1,p1,rfl,_,l1⟩:=h.rows.1.form (by omega)
  obtain ⟨b2,p2,rfl,_,l2⟩:=h.were.1.form (by omega)
  have hx:L[k]? = some L[k]:=List.getElem?_eq_getElem hk
  obtain ⟨he,h2⟩:=h.each k _ hx
  obtain ⟨ao,ac,h1⟩:=ownsRow_shape he.1
  refine ⟨b1,p1,b2,p2,ao,ac,rfl,rfl,l1,l2,?_,?_⟩
  · rw [h.rows.1.cellAt k (by omega),List.getElem?_map,hx,← h1]; rfl
  · rw [h.were.1.cellAt k (by omega),List.getElem?_map,hx,← h2]; rfl
set_option maxRecDepth 100000 in
set_option maxHeartbeats 4000000 in
theorem waits_any (g:Nat) (G:Nat → Value) (c:Nat → Nat) (w:World) (ws:List GW) (Lb Lo:List (Value × Value)) (hrow:w.rowIs g 67 24 G) (hG:WaitG c w (G 18) (G 19) ws)
    (hB:WaitE 10 11 100 99 158 5 c w (G 20) (G 21) Lb) (hO:WaitE 12 13 200 58 132 4 c w (G 22) (G 23) Lo) (hl1:ws.length ≤ 1000000) (hl2:Lb.length ≤ 1000000) (hl3:Lo.length ≤ 1000000) :
    Calls (patch shutL Tryz.prog) 43 #[.pointer (some ⟨g,11,none⟩)] w fun e w'=>e = .returned (.bool true) ∧ Below w.heap.size w w':=by
  have hgl:=hrow.lt
  have H0:Hid (w.rowIs g 67 24 G ∧ WaitG c w (G 18) (G 19) ws ∧ WaitE 10 11 100 99 158 5 c w (G 20) (G 21) Lb ∧ WaitE 12 13 200 58 132 4 c w (G 22) (G 23) Lo):=⟨hrow,hG,hB,hO⟩
  obtain ⟨a1,c1,e1⟩:=ownsRow_shape hG.rows.1
  obtain ⟨a2,c2,e2⟩:=ownsRow_shape hG.were.1
  obtain ⟨a3,c3,e3⟩:=ownsRow_shape hB.rows.1
  obtain ⟨a4,c4,e4⟩:=ownsRow_shape hB.were.1
  obtain ⟨a5,c5,e5⟩:=ownsRow_shape hO.rows.1
  obtain ⟨a6,c6,e6⟩:=ownsRow_shape hO.were.1
  have g18:=hrow.cell (i:=18) (by omega)
  have g19:=hrow.cell (i:=19) (by omega)
  have g20:=hrow.cell (i:=20) (by omega)
  have g21:=hrow.cell (i:=21) (by omega)
  have g22:=hrow.cell (i:=22) (by omega)
  have g23:=hrow.cell (i:=23) (by omega)
  rw [e1] at g18
  rw [e2] at g19
  rw [e3] at g20
  rw [e4] at g21
  rw [e5] at g22
  rw [e6] at g23
  have HS:Hid (G 18 = .slice a1 ws.length c1 ∧ G 19 = .slice a2 ws.length c2 ∧ G 20 = .slice a3 Lb.length c3 ∧ G 21 = .slice a4 Lb.length c4 ∧ G 22 = .slice a5 Lo.length c5 ∧ G 23 = .slice a6 Lo.length c6):=⟨e1,e2,e3,e4,e5,e6⟩
  have HCE:Hid (w.cell? ⟨g,18,none⟩ = some (.slice a1 ws.length c1) ∧ w.cell? ⟨g,19,none⟩ = some (.slice a2 ws.length c2) ∧ w.cell? ⟨g,20,none⟩ = some (.slice a3 Lb.length c3) ∧ w.cell? ⟨g,21,none⟩ = some (.slice a4 Lb.length c4) ∧ w.cell? ⟨g,22,none⟩ = some (.slice a5 Lo.length c5) ∧ w.cell? ⟨g,23,none⟩ = some (.slice a6 Lo.length c6)):=⟨g18,g19,g20,g21,g22,g23⟩
  clear hrow hG hB hO e1 e2 e3 e4 e5 e6 g18 g19 g20 g21 g22 g23
  go_enter (pf Tryz.func43 (by rfl)),Tryz.ntmps43
  go_wp2_with fail
  go_loopw [3,4] (fun s i wr=>∃ k:Nat,k ≤ ws.length ∧ i = .int .i64 k ∧ s = .bool true ∧ Below w.heap.size w wr) (fun _ i _=>ws.length - (intOf i).toNat)
  case atStart=>exact ⟨0,by omega,rfl,rfl,Below.refl _ _⟩
  case round =>
    obtain ⟨k,hk,rfl,rfl,hb⟩:=hrel
    have HR:Hid (Below w.heap.size w wr):=hb
    have g18:=(hb.cell (p:=⟨g,18,none⟩) hgl).trans HCE.out.1
    have g19:=(hb.cell (p:=⟨g,19,none⟩) hgl).trans HCE.out.2.1
    have gl:g < wr.heap.size:=Nat.lt_of_lt_of_le hgl hb.size
    by_cases hlt:k < ws.length
    · have hx:ws[k]? = some ws[k]:=List.getElem?_eq_getElem hlt
      obtain ⟨b1,cp1,q1,l1,d0,d1,d2,d3⟩:=grants_at H0.out.2.1.rows (fun _=>rfl) hx
      obtain ⟨b2,cp2,q2,l2,f0,f1,f2,f3⟩:=grants_at H0.out.2.1.were (fun _=>rfl) hx
      rw [HS.out.1] at q1
      rw [HS.out.2.1] at q2
      injection q1 with q1 _ q1'
      injection q2 with q2 _ q2'
      subst q1; subst q1'; subst q2; subst q2'
      have d0:=(hb.cell (p:=⟨b1,k * 4,none⟩) l1).trans d0
      have d1:=(hb.cell (p:=⟨b1,k * 4 + 1,none⟩) l1).trans d1
      have d2:=(hb.cell (p:=⟨b1,k * 4 + 2,none⟩) l1).trans d2
      have d3:=(hb.cell (p:=⟨b1,k * 4 + 3,none⟩) l1).trans d3
      have f0:=(hb.cell (p:=⟨b2,k * 4,none⟩) l2).trans f0
      have f1:=(hb.cell (p:=⟨b2,k * 4 + 1,none⟩) l2).trans f1
      have f2:=(hb.cell (p:=⟨b2,k * 4 + 2,none⟩) l2).trans f2
      have f3:=(hb.cell (p:=⟨b2,k * 4 + 3,none⟩) l2).trans f3
      have l1:b1 < wr.heap.size:=Nat.lt_of_lt_of_le l1 hb.size
      have l2:b2 < wr.heap.size:=Nat.lt_of_lt_of_le l2 hb.size
      have HK:Hid (k < ws.length):=hlt
      generalize hp:ws[k] = p at *
      simp only [GW.one,GW.two,List.getElem?_cons_zero,List.getElem?_cons_succ] at d0 d1 d2 d3 f0 f1 f2 f3
      have HE:=Hid.in (H0.out.2.1.each k p hx)
      have kn:(k:Int) < ws.length:=by omega
      have k0:(0:Int) ≤ (k:Int):=by omega
      clear hb hx hp
      go_wp2_with (first | (go_at_call 185; go_enter (pf Tryz.func185 (by rfl)),Tryz.ntmps185) | (go_at_call 110; go_enter (pf Tryz.func110 (by rfl)),Tryz.ntmps110))
      refine wp_region_after (by kernel_rfl) (by kernel_rfl) ?_
      repeat (go_big_quiet_step (first | (go_at_call 72; exact Calls.after ((sameGrant_any p.A p.A' p.N p.C p.N p.C' (fun q j=>(p.X q).getD j 0) (fun q j=>(p.X q).getD j 0) _ (fun q hq=>((ints_of_IL (HE.out q hq).1.1).ext HR.out).ext (After.later _)) (fun q hq=>((ints_of_IL (HE.out q hq).2.1.1).ext HR.out).ext (After.later _))).mono (fun e w' h=>⟨h.1.is_true (sameG_refl _ _),h.2⟩)))))
      refine wpQuiet_nil ?_
      rintro _ ⟨⟨w1,hw1⟩,rfl⟩
      go_wp2_with (first | (go_at_call 185; go_enter (pf Tryz.func185 (by rfl)),Tryz.ntmps185) | (go_at_call 110; go_enter (pf Tryz.func110 (by rfl)),Tryz.ntmps110))
      go_roundw
      case rel=>exact ⟨k + 1,by have:=HK.out; omega,by go_num,rfl,ext_trans HR.out hw1⟩
      case measure=>have:=HK.out; simp [intOf]; omega
    · have:k = ws.length:=by omega
      subst this
      go_wp2_with fail
      obtain ⟨wo,rfl⟩ : ∃ wo,wo = wr:=⟨_,rfl⟩
      go_loopw [3,6] (fun s i wq=>∃ k:Nat,k ≤ Lb.length ∧ i = .int .i64 k ∧ s = .bool true ∧ Below w.heap.size w wq) (fun _ i _=>Lb.length - (intOf i).toNat)
      case atStart=>exact ⟨0,by omega,rfl,rfl,HR.out⟩
      case round =>
        obtain ⟨k,hk,rfl,rfl,hb⟩:=hrel
        have HR:Hid (Below w.heap.size w wr):=hb
        have g18:=(hb.cell (p:=⟨g,20,none⟩) hgl).trans HCE.out.2.2.1
        have g19:=(hb.cell (p:=⟨g,21,none⟩) hgl).trans HCE.out.2.2.2.1
        have gl:g < wr.heap.size:=Nat.lt_of_lt_of_le hgl hb.size
        by_cases hlt:k < Lb.length
        · obtain ⟨b1,p1,b2,p2,ao,ac,q1,q2,l1,l2,d0,f0⟩:=lists_at H0.out.2.2.1 hlt
          rw [HS.out.2.2.1] at q1
          rw [HS.out.2.2.2.1] at q2
          injection q1 with q1 _ q1'
          injection q2 with q2 _ q2'
          subst q1; subst q1'; subst q2; subst q2'
          have d0:=(hb.cell (p:=⟨b1,k,none⟩) l1).trans d0
          have f0:=(hb.cell (p:=⟨b2,k,none⟩) l2).trans f0
          have l1:b1 < wr.heap.size:=Nat.lt_of_lt_of_le l1 hb.size
          have l2:b2 < wr.heap.size:=Nat.lt_of_lt_of_le l2 hb.size
          have kn:(k:Int) < Lb.length:=by omega
          have k0:(0:Int) ≤ (k:Int):=by omega
          have HK:Hid (k < Lb.length):=hlt
          clear hb
          go_wp2_with (first | (go_at_call 185; go_enter (pf Tryz.func185 (by rfl)),Tryz.ntmps185) | (go_at_call 110; go_enter (pf Tryz.func110 (by rfl)),Tryz.ntmps110))
          refine wp_region_after (by kernel_rfl) (by kernel_rfl) ?_
          repeat (go_big_quiet_step (first | (go_at_call 68; exact Calls.after ((sameBoxes0_any _ _ _ _ _).mono (fun e w' h=>⟨h.1,by rw [h.2]; exact Below.refl _ _⟩)))))
          refine wpQuiet_nil ?_
          rintro _ ⟨⟨w1,hw1⟩,rfl⟩
          go_wp2_with (first | (go_at_call 185; go_enter (pf Tryz.func185 (by rfl)),Tryz.ntmps185) | (go_at_call 110; go_enter (pf Tryz.func110 (by rfl)),Tryz.ntmps110))
          go_roundw
          case rel=>exact ⟨k + 1,by have:=HK.out; omega,by go_num,rfl,ext_trans HR.out hw1⟩
          case measure=>have:=HK.out; simp [intOf]; omega
        · have:k = Lb.length:=by omega
          subst this
          go_wp2_with fail
          obtain ⟨wp,rfl⟩ : ∃ wp,wp = wr:=⟨_,rfl⟩
          go_loopw [3,8] (fun s i wq=>∃ k:Nat,k ≤ Lo.length ∧ i = .int .i64 k ∧ s = .bool true ∧ Below w.heap.size w wq) (fun _ i _=>Lo.length - (intOf i).toNat)
          case atStart=>exact ⟨0,by omega,rfl,rfl,HR.out⟩
          case round =>
            obtain ⟨k,hk,rfl,rfl,hb⟩:=hrel
            have HR:Hid (Below w.heap.size w wr):=hb
            have g18:=(hb.cell (p:=⟨g,22,none⟩) hgl).trans HCE.out.2.2.2.2.1
            have g19:=(hb.cell (p:=⟨g,23,none⟩) hgl).trans HCE.out.2.2.2.2.2
            have gl:g < wr.heap.size:=Nat.lt_of_lt_of_le hgl hb.size
            by_cases hlt:k < Lo.length
            · obtain ⟨b1,p1,b2,p2,ao,ac,q1,q2,l1,l2,d0,f0⟩:=lists_at H0.out.2.2.2 hlt
              rw [HS.out.2.2.2.2.1] at q1
              rw [HS.out.2.2.2.2.2] at q2
              injection q1 with q1 _ q1'
              injection q2 with q2 _ q2'
              subst q1; subst q1'; subst q2; subst q2'
              have d0:=(hb.cell (p:=⟨b1,k,none⟩) l1).trans d0
              have f0:=(hb.cell (p:=⟨b2,k,none⟩) l2).trans f0
              have l1:b1 < wr.heap.size:=Nat.lt_of_lt_of_le l1 hb.size
              have l2:b2 < wr.heap.size:=Nat.lt_of_lt_of_le l2 hb.size
              have kn:(k:Int) < Lo.length:=by omega
              have k0:(0:Int) ≤ (k:Int):=by omega
              have HK:Hid (k < Lo.length):=hlt
              clear hb
              go_wp2_with (first | (go_at_call 185; go_enter (pf Tryz.func185 (by rfl)),Tryz.ntmps185) | (go_at_call 110; go_enter (pf Tryz.func110 (by rfl)),Tryz.ntmps110))
              refine wp_region_after (by kernel_rfl) (by kernel_rfl) ?_
              repeat (go_big_quiet_step (first | (go_at_call 63; exact Calls.after ((sameOps0_any _ _ _ _ _).mono (fun e w' h=>⟨h.1,by rw [h.2]; exact Below.refl _ _⟩)))))
              refine wpQuiet_nil ?_
              rintro _ ⟨⟨w1,hw1⟩,rfl⟩
              go_wp2_with (first | (go_at_call 185; go_enter (pf Tryz.func185 (by rfl)),Tryz.ntmps185) | (go_at_call 110; go_enter (pf Tryz.func110 (by rfl)),Tryz.ntmps110))
              go_roundw
              case rel=>exact ⟨k + 1,by have:=HK.out; omega,by go_num,rfl,ext_trans HR.out hw1⟩
              case measure=>have:=HK.out; simp [intOf]; omega
            · have:k = Lo.length:=by omega
              subst this
              go_wp2_with fail
              go_ret
              exact ⟨rfl,HR.out⟩
end Go.Proofs.YtojoafcnijajmaaGreatDoor.Z
