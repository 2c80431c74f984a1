/- Part 32 of the proof that Devices answers true and leaves its input as it was, for input of bulk at most the bound of its row: ZJ3 ZK5. -/
import Derived.Test.YtojoafcnijajmaaGreatDoorT8
import Derived.Test.YtojoafcnijajmaaGreatDoorT30
import Derived.Test.YtojoafcnijajmaaGreatDoorT31
namespace Go.Proofs.YtojoafcnijajmaaGreatDoor.Z
open Go.RowKit
attribute [local go_sem ↓] Go.wp_at_zero Go.wp_at_succ
attribute [local go_sem] After.cell After.frozen After.const
structure GW where
  A:Nat → Option Addr
  N:Nat → Nat
  C:Nat → Nat
  X:Nat → List Int
  A':Nat → Option Addr
  C':Nat → Nat
def GW.one (x:GW):List Value:=[.slice (x.A 0) (x.N 0) (x.C 0),.slice (x.A 1) (x.N 1) (x.C 1),.slice (x.A 2) (x.N 2) (x.C 2),.slice (x.A 3) (x.N 3) (x.C 3)]
def GW.two (x:GW):List Value:=[.slice (x.A' 0) (x.N 0) (x.C' 0),.slice (x.A' 1) (x.N 1) (x.C' 1),.slice (x.A' 2) (x.N 2) (x.C' 2),.slice (x.A' 3) (x.N 3) (x.C' 3)]
structure WaitG (c:Nat → Nat) (w:World) (v1 v2:Value) (ws:List GW):Prop where
  rows:RowC c w 8 44 4 v1 ws.length (ws.flatMap GW.one)
  were:RowC c w 9 44 4 v2 ws.length (ws.flatMap GW.two)
  each:∀ i x,ws[i]? = some x → ∀ q,q < 4 → RowC c w (1000 + 4 * i + q) 3 1 (.slice (x.A q) (x.N q) (x.C q)) (x.N q) (IL (x.X q)) ∧ RowC c w 14 3 1 (.slice (x.A' q) (x.N q) (x.C' q)) (x.N q) (IL (x.X q)) ∧ x.N q + 3 ≤ 1000000000000
theorem WaitG.turn {S:Nat → Prop} {c c':Nat → Nat} {w w':World} {v1 v2:Value} {ws:List GW} (h:WaitG c w v1 v2 ws) (t:Turn S c w c' w') (h8:¬ S 8) (h9:¬ S 9) (h14:¬ S 14) (hk:∀ k,1000 ≤ k → ¬ S k):WaitG c' w' v1 v2 ws :=
  ⟨h.rows.turn t h8,h.were.turn t h9,fun i x hx q hq=>⟨(h.each i x hx q hq).1.turn t (hk _ (by omega)),(h.each i x hx q hq).2.1.turn t h14,(h.each i x hx q hq).2.2⟩⟩
theorem Tryz.infoGrant:((patch shutL Tryz.prog).info? 44).map (fun i=>(i.zero,i.size,i.bytes)) = some (some (.agg #[.slice none 0 0,.slice none 0 0,.slice none 0 0,.slice none 0 0]),4,96):=by kernel_rfl
set_option maxRecDepth 100000 in
set_option maxHeartbeats 4000000 in
theorem keepGrant_any (g:Nat) (G:Nat → Value) (c:Nat → Nat) (w:World) (A:Nat → Option Addr) (N C:Nat → Nat) (X:Nat → List Int) (ws:List GW) (hrow:w.rowIs g 67 24 G) (hg:c g = 1) (ht:Top c w) (hw:WaitG c w (G 18) (G 19) ws)
    (hv:∀ q,q < 4 → RowC c w (1000 + 4 * ws.length + q) 3 1 (.slice (A q) (N q) (C q)) (N q) (IL (X q)) ∧ N q + 3 ≤ 1000000000000) (hl:ws.length ≤ 1000000) :
    Calls (patch shutL Tryz.prog) 73 #[.pointer (some ⟨g,11,none⟩),GVal A N C] w fun e w'=>e = .returned (.tuple #[]) ∧ ∃ c' G' x,w'.rowIs g 67 24 G' ∧ c' g = 1 ∧ (∀ j,j ≠ 18 → j ≠ 19 → G' j = G j) ∧ WaitG c' w' (G' 18) (G' 19) (ws ++ [x]) ∧ x.A = A ∧ x.N = N ∧ x.C = C ∧ x.X = X ∧ Turn (fun y=>y = 1 ∨ y = 8 ∨ y = 9) c w c' w':=by
  unfold GVal
  obtain ⟨i0,hi,hz0,hz1,hz2⟩:=info_parts Tryz.infoGrant
  have hu:=((patch_underlying shutL Tryz.prog 63).trans Tryz.underlying63)
  obtain ⟨B,hB⟩ : ∃ B,B = w.heap.size:=⟨_,rfl⟩
  obtain ⟨W0,hW0⟩ : ∃ W0,W0 = w.alloc (.cells #[.slice (A 0) (N 0) (C 0),.slice (A 1) (N 1) (C 1),.slice (A 2) (N 2) (C 2),.slice (A 3) (N 3) (C 3)] 44):=⟨_,rfl⟩
  have hB0:Below w.heap.size w W0:=by rw [hW0]; exact (Below.refl _ _).alloc (Nat.le_refl _) _
  have k0:W0.heap[B]? = some (.cells #[.slice (A 0) (N 0) (C 0),.slice (A 1) (N 1) (C 1),.slice (A 2) (N 2) (C 2),.slice (A 3) (N 3) (C 3)] 44 (0,0)):=by rw [hW0,hB]; exact heap_alloc_new _ _
  have t0:Turn (fun _=>False) c w c W0:=(Turn.refl ht).below hB0
  have cB:c B = 0:=ht B (by omega)
  have hBs:B < W0.heap.size:=by rw [hW0,hB]; simp
  have hgl:g < W0.heap.size:=Nat.lt_of_lt_of_le hrow.lt hB0.size
  have hgB:g ≠ B:=by have:=hrow.lt; omega
  have r0:W0.rowIs g 67 24 G:=hrow.of_block (hB0.block g hrow.lt)
  have H0:Hid (W0.rowIs g 67 24 G ∧ WaitG c W0 (G 18) (G 19) ws ∧ (∀ q,q < 4 → RowC c W0 (1000 + 4 * ws.length + q) 3 1 (.slice (A q) (N q) (C q)) (N q) (IL (X q)) ∧ N q + 3 ≤ 1000000000000) ∧ Turn (fun _=>False) c w c W0):=⟨r0,hw.turn t0 (fun h=>h) (fun h=>h) (fun h=>h) (fun _ _ h=>h),fun q hq=>⟨(hv q hq).1.turn t0 (fun h=>h),(hv q hq).2⟩,t0⟩
  have g18:=r0.cell (i:=18) (by omega)
  have f18:=r0.frozen 18
  obtain ⟨q0,q0f⟩:=blk k0
  have b0:W0.cell? ⟨B,0,none⟩ = some (.slice (A 0) (N 0) (C 0)):=q0 0
  have b1:W0.cell? ⟨B,1,none⟩ = some (.slice (A 1) (N 1) (C 1)):=q0 1
  have b2:W0.cell? ⟨B,2,none⟩ = some (.slice (A 2) (N 2) (C 2)):=q0 2
  have b3:W0.cell? ⟨B,3,none⟩ = some (.slice (A 3) (N 3) (C 3)):=q0 3
  have HK:Hid (W0.heap[B]? = some (.cells #[.slice (A 0) (N 0) (C 0),.slice (A 1) (N 1) (C 1),.slice (A 2) (N 2) (C 2),.slice (A 3) (N 3) (C 3)] 44 (0,0))):=k0
  have hn8:some g ≠ (G 18).ownBlock ∧ some B ≠ (G 18).ownBlock:=⟨fun e=>by have:=H0.out.2.1.rows.2 g e.symm; omega,fun e=>by have:=H0.out.2.1.rows.2 B e.symm; omega⟩
  have HN8:Hid (some g ≠ (G 18).ownBlock ∧ some B ≠ (G 18).ownBlock):=hn8
  clear hrow hw hv hB0 k0 t0 r0 q0 q0f hn8
  go_enter (pf Tryz.func73 (by rfl)),Tryz.ntmps73
  go_wp2_with fail
  rw [← hW0,← hB]
  clear hW0 hB
  go_region_law ((refine step_append_lies _ (by rfl) _ _ _ (by rfl) 0 44 i0 _ 4 96 hu hi hz0 hz1 hz2 rfl (by omega) (G 18) ws.length (ws.flatMap GW.one) (by rfl) ((H0.out.2.1.rows.1.alloc _).drew) ⟨W0.heap.size,0,none⟩ 1 1 [.slice (A 0) (N 0) (C 0),.slice (A 1) (N 1) (C 1),.slice (A 2) (N 2) (C 2),.slice (A 3) (N 3) (C 3)] (by rfl) (by rfl) (World.news_of_block (cs:=#[.slice (A 0) (N 0) (C 0),.slice (A 1) (N 1) (C 1),.slice (A 2) (N 2) (C 2),.slice (A 3) (N 3) (C 3)]) (t:=44) (fr:=(0,0)) (heap_alloc_new W0 _)) (by simp [Value.oneCell']) (by omega) (by unfold maxLen; omega) (by omega) (by simp) (W0.heap.size + 1) (by simp) ?_; intro g1 cap1 w1 hown hgrow hat hlt; have e18:=(hgrow.cell_far ⟨g,18,none⟩ (by simp; omega) HN8.out.1).trans ((World.cell?_alloc_past _ _ _ hgl).trans g18); have f18':=(hgrow.frozen_far ⟨g,18,none⟩ (by simp; omega) HN8.out.1).trans ((World.frozen?_alloc_past _ _ _ hgl).trans f18); have e0:=(hgrow.cell_far ⟨B,0,none⟩ (by simp; omega) HN8.out.2).trans ((World.cell?_alloc_past _ _ _ hBs).trans b0); have e1:=(hgrow.cell_far ⟨B,1,none⟩ (by simp; omega) HN8.out.2).trans ((World.cell?_alloc_past _ _ _ hBs).trans b1); have e2:=(hgrow.cell_far ⟨B,2,none⟩ (by simp; omega) HN8.out.2).trans ((World.cell?_alloc_past _ _ _ hBs).trans b2); have e3:=(hgrow.cell_far ⟨B,3,none⟩ (by simp; omega) HN8.out.2).trans ((World.cell?_alloc_past _ _ _ hBs).trans b3)))
  all_goals
    obtain ⟨c1,r1,r2,r3,r4,r5,r6⟩:=field_app (S:=fun y=>y = 1 ∨ y = 8 ∨ y = 9) H0.out.1 hg ((Turn.refl H0.out.2.2.2.top)) (.inl rfl) (.inr (.inl rfl)) (by omega) H0.out.2.1.rows (((Below.refl _ _).alloc (Nat.le_refl _) _).drew) hown hgrow hat (by simp)
    obtain ⟨W1,hW1⟩ : ∃ W1,W1 = w1.setCell ⟨g,18,none⟩ (.slice (some ⟨g1,0,none⟩) (ws.length + 1) cap1):=⟨_,rfl⟩
    rw [← hW1] at r1 r3 r4 r5 ⊢
    have kg:=r4.keep B hBs (by omega)
    obtain ⟨q0,q0f⟩:=blk (kg.1.trans HK.out)
    have d0:W1.cell? ⟨B,0,none⟩ = some (.slice (A 0) (N 0) (C 0)):=q0 0
    have d1:W1.cell? ⟨B,1,none⟩ = some (.slice (A 1) (N 1) (C 1)):=q0 1
    have d2:W1.cell? ⟨B,2,none⟩ = some (.slice (A 2) (N 2) (C 2)):=q0 2
    have d3:W1.cell? ⟨B,3,none⟩ = some (.slice (A 3) (N 3) (C 3)):=q0 3
    have g19:W1.cell? ⟨g,19,none⟩ = some (G 19):=r1.cell (i:=19) (by omega)
    have f19:W1.frozen? ⟨g,19,none⟩ = false:=r1.frozen 19
    have gl1:g < W1.heap.size:=r1.lt
    have Bl1:B < W1.heap.size:=Nat.lt_of_lt_of_le hBs r4.size
    have cB1:c1 B = 0:=kg.2.trans cB
    have H1:Hid (W1.rowIs g 67 24 (fun i=>if i = 18 then .slice (some ⟨g1,0,none⟩) (ws.length + 1) cap1 else G i) ∧ c1 g = 1 ∧ RowC c1 W1 8 44 4 (.slice (some ⟨g1,0,none⟩) (ws.length + 1) cap1) (ws.length + 1) (ws.flatMap GW.one ++ [.slice (A 0) (N 0) (C 0),.slice (A 1) (N 1) (C 1),.slice (A 2) (N 2) (C 2),.slice (A 3) (N 3) (C 3)]) ∧ Turn (fun y=>y = 1 ∨ y = 8 ∨ y = 9) c W0 c1 W1 ∧ Turn (fun y=>y = 1 ∨ y = 8) c W0 c1 W1):=⟨r1,r2,r3,r4,r5⟩
    have r9:RowC c1 W1 9 44 4 (G 19) ws.length (ws.flatMap GW.two):=H0.out.2.1.were.turn r5 (by omega)
    have H9:Hid (RowC c1 W1 9 44 4 (G 19) ws.length (ws.flatMap GW.two) ∧ some g ≠ (G 19).ownBlock ∧ some B ≠ (G 19).ownBlock):=⟨r9,fun e=>by have:=r9.2 g e.symm; omega,fun e=>by have:=r9.2 B e.symm; omega⟩
    have HV:Hid (∀ q,q < 4 → W1.ownsRow 0 3 1 (.slice (A q) (N q) (C q)) (N q) (IL (X q))):=fun q hq=>((H0.out.2.2.1 q hq).1.turn r5 (by omega)).1
    have HN:Hid (∀ q,q < 4 → N q ≤ 1000000000000):=fun q hq=>by have:=(H0.out.2.2.1 q hq).2; omega
    clear hW1 hown hgrow hat hlt e18 f18' e0 e1 e2 e3 b0 b1 b2 b3 g18 f18 r1 r2 r3 r4 r5 r6 kg q0 q0f r9
    go_wp2_with fail
    go_region_law (first
      | (go_simp; go_at_call 141; refine (copiedGrant_any A N C X _ (fun q hq=>(HV.out q hq).drew) HN.out).mono ?_; rintro e w3 ⟨A',C',rfl,o3,b3⟩; have b3':Below W1.heap.size W1 w3:=Below.trans (Below.refl _ _).drew b3; have H3:Hid ((∀ q,q < 4 → w3.ownsRow W1.heap.size 3 1 (.slice (A' q) (N q) (C' q)) (N q) (IL (X q))) ∧ Below W1.heap.size W1 w3 ∧ w3.ownsRow 0 44 4 (G 19) ws.length (ws.flatMap GW.two)):=⟨o3,b3',ownsRow_below H9.out.1.1 b3'⟩; have h19:w3.cell? ⟨g,19,none⟩ = some (G 19):=(b3'.cell (p:=⟨g,19,none⟩) gl1).trans g19; have k19:w3.frozen? ⟨g,19,none⟩ = false:=(b3'.frozen (p:=⟨g,19,none⟩) gl1).trans f19; have gl3:g < w3.heap.size:=Nat.lt_of_lt_of_le gl1 b3'.size; clear o3 b3 b3'; unfold GVal; dsimp only)
      | (refine step_append_lies _ (by rfl) _ _ _ (by rfl) 0 44 i0 _ 4 96 hu hi hz0 hz1 hz2 rfl (by omega) (G 19) ws.length (ws.flatMap GW.two) (by rfl) (H3.out.2.2.alloc _) ⟨w3.heap.size,0,none⟩ 1 1 [.slice (A' 0) (N 0) (C' 0),.slice (A' 1) (N 1) (C' 1),.slice (A' 2) (N 2) (C' 2),.slice (A' 3) (N 3) (C' 3)] (by rfl) (by rfl) (World.news_of_block (heap_alloc_new w3 _)) (by simp [Value.oneCell']) (by omega) (by unfold maxLen; omega) (by omega) (by simp) (w3.heap.size + 1) (by simp) ?_; intro g4 cap4 w4 hown hgrow hat hlt; have e19:=(hgrow.cell_far ⟨g,19,none⟩ (by simp; omega) H9.out.2.1).trans ((World.cell?_alloc_past _ _ _ gl3).trans h19); have f19':=(hgrow.frozen_far ⟨g,19,none⟩ (by simp; omega) H9.out.2.1).trans ((World.frozen?_alloc_past _ _ _ gl3).trans k19)))
    all_goals
      have HF:Hid (∃ c' G' x,(w4.setCell ⟨g,19,none⟩ (.slice (some ⟨g4,0,none⟩) (ws.length + 1) cap4)).rowIs g 67 24 G' ∧ c' g = 1 ∧ (∀ j,j ≠ 18 → j ≠ 19 → G' j = G j) ∧ WaitG c' (w4.setCell ⟨g,19,none⟩ (.slice (some ⟨g4,0,none⟩) (ws.length + 1) cap4)) (G' 18) (G' 19) (ws ++ [x]) ∧ x.A = A ∧ x.N = N ∧ x.C = C ∧ x.X = X ∧ Turn (fun y=>y = 1 ∨ y = 8 ∨ y = 9) c w c' (w4.setCell ⟨g,19,none⟩ (.slice (some ⟨g4,0,none⟩) (ws.length + 1) cap4))):=by
        have td:Turn (fun _=>False) c1 W1 (dye c1 W1 w3 (fun _=>14)) w3:=Turn.dyed H3.out.2.1 _
        have hcd:dye c1 W1 w3 (fun _=>14) g = 1:=(td.keep g gl1 (fun h=>h)).2.trans H1.out.2.1
        obtain ⟨c2,s1,s2,s3,s4,s5,s6⟩:=field_app (S:=fun y=>y = 1 ∨ y = 8 ∨ y = 9) (j:=19) (H1.out.1.of_block (H3.out.2.1.block g gl1)) hcd (H1.out.2.2.2.1.trans (td.mono (fun _ h=>h.elim))) (.inl rfl) (.inr (.inr rfl)) (by omega) (H9.out.1.turn td (fun h=>h)) ((Below.refl _ _).alloc (Nat.le_refl _) _) hown hgrow hat (by simp)
        refine ⟨c2,_,⟨A,N,C,X,A',C'⟩,s1,s2,fun j h1 h2=>?_,⟨?_,?_,fun i x hx q hq=>?_⟩,rfl,rfl,rfl,rfl,(H0.out.2.2.2.mono (fun _ h=>h.elim)).trans s4⟩
        · simp [h1,h2]
        · have h:=(H1.out.2.2.1.turn td (fun h=>h)).turn s5 (by omega)
          simpa [GW.one] using h
        · simpa [GW.two] using s3
        · rcases Nat.lt_or_ge i ws.length with hi' | hi'
          · rw [List.getElem?_append_left hi'] at hx
            have he:=H0.out.2.1.each i x hx q hq
            exact ⟨((he.1.turn H1.out.2.2.2.2 (by omega)).turn td (fun h=>h)).turn s5 (by omega),((he.2.1.turn H1.out.2.2.2.2 (by omega)).turn td (fun h=>h)).turn s5 (by omega),he.2.2⟩
          · rw [List.getElem?_append_right hi'] at hx
            have hi0:i = ws.length:=by
              rcases Nat.eq_or_lt_of_le hi' with h | h
              · exact h.symm
              · rw [List.getElem?_eq_none (by simp; omega)] at hx; cases hx
            subst hi0
            simp at hx
            subst hx
            have he:=H0.out.2.2.1 q hq
            refine ⟨((he.1.turn H1.out.2.2.2.2 (by omega)).turn td (fun h=>h)).turn s5 (by omega),RowC.turn ⟨ownsRow_base (H3.out.1 q hq) (Nat.zero_le _),fun b hb=>?_⟩ s5 (by omega),he.2⟩
            have hl:=(H3.out.1 q hq).lt b hb
            unfold dye
            rw [if_neg (by omega),if_pos hl.2]
      clear hown hgrow hat hlt h19 k19 e19 f19' gl3
      go_wp2_with (first | (go_at_call 185; go_enter (pf Tryz.func185 (by rfl)),Tryz.ntmps185) | (go_at_call 110; go_enter (pf Tryz.func110 (by rfl)),Tryz.ntmps110))
      go_end0
      exact ⟨rfl,HF.out⟩
end Go.Proofs.YtojoafcnijajmaaGreatDoor.Z

namespace Go.Proofs.YtojoafcnijajmaaGreatDoor.Z
open Go.RowKit
attribute [local go_sem ↓] Go.wp_at_zero Go.wp_at_succ
attribute [local go_sem] After.cell After.frozen After.const
theorem Tryz.infoBox:((patch shutL Tryz.prog).info? 158).map (fun i=>(i.zero,i.size,i.bytes)) = some (some (.agg #[.string ⟨#[]⟩,.slice none 0 0,.slice none 0 0,.slice none 0 0,.slice none 0 0]),5,112):=by kernel_rfl
theorem Tryz.infoOp:((patch shutL Tryz.prog).info? 132).map (fun i=>(i.zero,i.size,i.bytes)) = some (some (.agg #[.int .i64 0,.string ⟨#[]⟩,.string ⟨#[]⟩,.string ⟨#[]⟩]),4,56):=by kernel_rfl
theorem Tryz.infoBoxes:((patch shutL Tryz.prog).info? 99).map (fun i=>(i.zero,i.size,i.bytes)) = some (some (.slice none 0 0),1,24):=by kernel_rfl
theorem Tryz.infoOps:((patch shutL Tryz.prog).info? 58).map (fun i=>(i.zero,i.size,i.bytes)) = some (some (.slice none 0 0),1,24):=by kernel_rfl
def boxName (m:Nat):ByteArray:=strOfNums [63,(m:Int) % 256,(m:Int) / 256 % 256]
set_option maxRecDepth 100000 in
set_option maxHeartbeats 4000000 in
theorem box_any (m:Nat) (w:World) (hm:m ≤ 1000000000000) :
    Calls (patch shutL Tryz.prog) 96 #[.int .i64 (m:Int)] w fun e w'=>e = .returned (.agg #[.string (boxName m),.slice none 0 0,.slice none 0 0,.slice none 0 0,.slice none 0 0]) ∧ Below w.heap.size w w':=by
  have hc:=run_convert_bytes_arg (P:=(patch shutL Tryz.prog)) ((w.alloc (.cells #[.string ⟨#[]⟩,.slice none 0 0,.slice none 0 0,.slice none 0 0,.slice none 0 0] 158)).alloc (.cells #[.int .u8 63,.int .u8 ((m:Int) % 256),.int .u8 ((m:Int) / 256 % 256)] 5)) 171 5 ((patch_underlying shutL Tryz.prog 171).trans Tryz.underlying171) ((patch_underlying shutL Tryz.prog 5).trans Tryz.underlying5) (w.heap.size + 1) 0 3 3 [63,(m:Int) % 256,(m:Int) / 256 % 256] rfl
    (fun i hi=>by
      rw [cell_of_row _ _ _ _ _ _ (heap_alloc2_new _ _ _)]
      rcases (show i = 0 ∨ i = 1 ∨ i = 2 by omega) with rfl | rfl | rfl <;> rfl) 9 ((patch_underlying shutL Tryz.prog 9).trans Tryz.underlying9)
  change _ = Result.ok (Value.string (boxName m)) _ at hc
  go_enter (pf Tryz.func96 (by rfl)),Tryz.ntmps96
  go_wp2_with fail
  obtain ⟨z,_⟩:=blk (heap_alloc2_old w (.cells #[.string (boxName m),.slice none 0 0,.slice none 0 0,.slice none 0 0,.slice none 0 0] 158) (.cells #[.int .u8 63,.int .u8 ((m:Int) % 256),.int .u8 ((m:Int) / 256 % 256)] 5))
  exact bodyPost_ret (v:=.agg #[.string (boxName m),.slice none 0 0,.slice none 0 0,.slice none 0 0,.slice none 0 0]) (by simp [results,Tryz.results96,go_sem,z]) rfl ⟨rfl,((Below.refl _ _).alloc (Nat.le_refl _) _).alloc (by simp) _⟩
end Go.Proofs.YtojoafcnijajmaaGreatDoor.Z
