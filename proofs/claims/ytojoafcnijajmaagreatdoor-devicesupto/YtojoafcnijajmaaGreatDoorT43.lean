/- Part 43 of the proof that Devices answers true and leaves its input as it was, for input of bulk at most the bound of its row: ZFE ZD9 ZDA ZDB ZDC. -/
import Derived.Test.YtojoafcnijajmaaGreatDoorT8
import Derived.Test.YtojoafcnijajmaaGreatDoorT42
import Derived.Test.YtojoafcnijajmaaGreatDoorT28
import Derived.Test.YtojoafcnijajmaaGreatDoorT16
import Derived.Deep.RegionHeld3
import Derived.Test.YtojoafcnijajmaaGreatDoorT22
set_option linter.unusedVariables false
namespace Go.Proofs.YtojoafcnijajmaaGreatDoor.Z
open Go.RowKit
attribute [local go_sem ↓] Go.wp_at_zero Go.wp_at_succ
set_option maxRecDepth 100000 in
set_option maxHeartbeats 4000000 in
theorem registersD_any (g base bb ww cw qw:Nat) (m:Mach) (vc vr:Value) (D:BD) (d e:Nat → Value) (K:Nat → Nat) (G:Nat → Value) (c:Nat → Nat) (w:World) (n:Nat) (Li Lb Lo:List (Value × Nat)) (ws:List GW) (Eb Eo:List (Value × Value)) (s:SV)
    (h:Inv g base bb ww cw qw m vc vr D d e K c w G n Li Lb Lo ws Eb Eo) (hs:s.At w base) (hc:∀ b,b < base → c b = 0) (hl:Eo.length ≤ 1000) :
    Calls (patch shutL Tryz.prog) 34 #[.pointer (some ⟨g,0,none⟩),.agg (stepC s)] w fun e' w'=>e' = .returned (.bool true) ∧ ∃ D' d' e' K' c' G',Inv g base bb ww cw qw m vc vr D' d' e' K' c' w' G' n Li Lb Lo ws Eb (Eo ++ [(.slice none 0 0,.slice none 0 0),(.slice none 0 0,.slice none 0 0)]) ∧ Low base c w c' w' ∧ w.heap.size ≤ w'.heap.size:=by
  have M0:=Hid.in (Mid.of_inv h)
  have HS:=Hid.in hs
  have Hc:=Hid.in hc
  have hcap:=hs.cap
  have hfew:=hs.few
  have gl:g < w.heap.size:=h.st.row.lt
  clear h hs hc
  unfold stepC
  go_enter (pf Tryz.func34 (by rfl)),Tryz.ntmps34
  go_wp2_with fail
  obtain ⟨W0,hW0⟩ : ∃ W,W = w.alloc (.cells #[.int .i64 s.kind,.int .i64 s.A,.int .i64 s.B,s.v3,.int .i64 (s.c 0),.int .i64 (s.c 1),.int .i64 (s.c 2),.int .i64 (s.c 3),.slice s.dao s.dn s.dcap,.bool s.yes,s.v10,s.v11,s.v12] 54):=⟨_,rfl⟩
  obtain ⟨e3,he3⟩ : ∃ a,a = w.heap.size:=⟨_,rfl⟩
  have H0:Hid (Below w.heap.size w W0 ∧ W0.heap[e3]? = some (.cells (stepC s) 54 (0,0)) ∧ w.heap.size ≤ e3 ∧ e3 < W0.heap.size):=by
    rw [hW0,he3]
    exact ⟨(Below.refl _ _).alloc (Nat.le_refl _) _,heap_alloc_new _ _,Nat.le_refl _,by simp⟩
  rw [← hW0,← he3]
  clear hW0 he3
  have S0:Hid (s.At W0 base):=HS.out.kept (below_low (c:=c) H0.out.1 M0.out.big) Hc.out
  refine (handedDev_any s.dao s.db s.doff s.dn s.dcap s.NN s.HH W0 hfew hcap S0.out.ha S0.out.dev).mono ?_
  rintro e' w1 ⟨rfl,hr,hb1,hsz⟩
  obtain ⟨hb,hhb⟩ : ∃ a,a = W0.heap.size:=⟨_,rfl⟩
  rw [← hhb] at hr ⊢
  have M1:=Hid.in ((M0.out.below H0.out.1).below hb1.drew)
  have H1:Hid (w1.drew.rowIs hb 80 ((s.dn + 8) * 2) (hDev s.dn s.NN s.HH) ∧ w1.drew.heap[e3]? = some (.cells (stepC s) 54 (0,0)) ∧ W0.heap.size ≤ hb ∧ hb < w1.drew.heap.size ∧ Low base c w c w1.drew ∧ K e3 = 0 ∧ K hb = 0 ∧ c hb = 0 ∧ e3 ≠ hb ∧ base ≤ hb ∧ w.heap.size ≤ w1.drew.heap.size):=by
    have hK:∀ b,w.heap.size ≤ b → K b = 0:=fun b hl=>by
      by_cases hk:K b = 0
      · exact hk
      · have:=(M0.out.own b hk).2.2
        omega
    have hz:=H0.out.1.size
    have hlt:=H0.out.2.2.2
    have hbg:=M0.out.big
    refine ⟨hr.drew,(hb1.block e3 H0.out.2.2.2).trans H0.out.2.1,by omega,hr.lt,(below_low H0.out.1 M0.out.big).trans (below_low hb1.drew (by omega)),hK _ H0.out.2.2.1,hK _ (by omega),M0.out.st.top _ (by omega),by omega,by omega,Nat.le_trans hz hb1.size⟩
  have q0:=M1.out.st.row.cell (i:=0) (by omega)
  rw [M1.out.g0] at q0
  have z3:=(blk H1.out.2.1).1
  unfold stepC at z3
  clear hr hb1 hsz hhb H0 S0
  have HB:=Hid.in (registerB_any s.A hb 0 s.dn (s.dn + 8) s.NN s.HH base bb m vc vr D d K w1.drew (by omega) (hDev_at H1.out.1) M1.out.bs)
  go_wp2_with fail
  go_region_law (go_simp; go_at_call 50; refine Calls.mono HB.out ?_; rintro e' w2 ⟨rfl,d',K',k1,k2,k3,k4⟩; have H2:=Hid.in (And.intro k1 (And.intro k2 (And.intro k3 k4))); clear k1 k2 k3 k4; dsimp only)
  all_goals
    clear q0 z3 HB
    obtain ⟨M2,R2,E2,L2,hKe,hKh,hz2⟩ : Hid (Mid g base bb ww cw qw m vc vr (registerD D s.A s.dn s.NN s.HH) D d' e K' c w2 G n Li Lb Lo ws Eb Eo) ∧ Hid (w2.rowIs hb 80 ((s.dn + 8) * 2) (hDev s.dn s.NN s.HH)) ∧ Hid (w2.heap[e3]? = some (.cells (stepC s) 54 (0,0))) ∧ Hid (Low base c w c w2) ∧ K' e3 = 0 ∧ K' hb = 0 ∧ w.heap.size ≤ w2.heap.size:=by
      obtain ⟨k1,k2,k3,k4⟩:=H2.out
      obtain ⟨r1,r2,r3,r4,r5,r6,r7,r8,r9,r10,r11⟩:=H1.out
      have le3:e3 < w1.drew.heap.size:=(Array.getElem?_eq_some_iff.1 r2).1
      exact ⟨M1.out.berth k1 k2 (by omega) k3 k4,r1.of_block (k2.block hb r4 (by omega)),(k2.block e3 le3 (by omega)).trans r2,r5.trans (k2.low (by omega) M1.out.own M1.out.big),(k3 e3 le3).trans r6,(k3 hb r4).trans r7,Nat.le_trans r11 k2.size⟩
    have HH:=Hid.in (And.intro hKe (And.intro hKh (And.intro hz2 (And.intro H1.out.2.2.2.2.2.2.2.1 (And.intro H1.out.2.2.2.2.2.2.2.2.1 H1.out.2.2.2.2.2.2.2.2.2.1)))))
    clear H2 M1 H1 hKe hKh hz2
    have z3:=(blk E2.out).1
    unfold stepC at z3
    go_wp2_with fail
    clear z3
    have S2:Hid (s.At w2 base):=HS.out.kept L2.out Hc.out
    refine (stillDev_any hb s.dao s.db s.doff s.dn s.dcap s.NN s.HH w2 hfew hcap S2.out.ha S2.out.dev R2.out).mono ?_
    rintro e' w3 ⟨rfl,hb3⟩
    have M3:=Hid.in (M2.out.below hb3)
    have H3:=Hid.in (show w3.rowIs hb 80 ((s.dn + 8) * 2) (hDev s.dn s.NN s.HH) ∧ w3.heap[e3]? = some (.cells (stepC s) 54 (0,0)) ∧ Low base c w c w3 ∧ w.heap.size ≤ w3.heap.size from
      ⟨R2.out.of_block (hb3.block hb R2.out.lt),(hb3.block e3 (Array.getElem?_eq_some_iff.1 E2.out).1).trans E2.out,L2.out.trans (below_low hb3 M2.out.big),Nat.le_trans HH.out.2.2.1 hb3.size⟩)
    clear hb3 M2 R2 E2 L2 S2
    go_wp2_with fail
    refine (blotDev_any hb s.dn s.NN s.HH w3 hfew H3.out.1).mono ?_
    rintro e' w4 ⟨rfl,ho⟩
    have M4:=Hid.in ((M3.out.blot ho HH.out.2.1 HH.out.2.2.2.1).below (Below.refl _ _).drew)
    have H4:=Hid.in (show w4.drew.heap[e3]? = some (.cells (stepC s) 54 (0,0)) ∧ Low base c w c w4.drew ∧ w.heap.size ≤ w4.drew.heap.size from
      ⟨(ho.2.2.2.2 e3 (Array.getElem?_eq_some_iff.1 H3.out.2.1).1 HH.out.2.2.2.2.1 HH.out.2.2.2.2.1).trans H3.out.2.1,H3.out.2.2.1.trans (blot_low ho HH.out.2.2.2.2.2 M3.out.big),Nat.le_trans H3.out.2.2.2 ho.2.2.2.1⟩)
    clear ho M3 H3
    have S4:Hid (s.At w4.drew base):=HS.out.kept H4.out.2.1 Hc.out
    have q1:=M4.out.st.row.cell (i:=1) (by omega)
    rw [M4.out.g1] at q1
    have z3:=(blk H4.out.1).1
    unfold stepC at z3
    have HB:=Hid.in (registerR_any s.A s.dao s.db s.doff s.dn s.dcap s.NN s.HH base ww cw qw m D e K' w4.drew hcap S4.out.ha S4.out.dev S4.out.low M4.out.wsd)
    go_wp2_with fail
    go_region_law (go_simp; go_at_call 81; refine Calls.mono HB.out ?_; rintro e' w5 ⟨rfl,d5,K5,k1,k2,k3,k4⟩; have H5:=Hid.in (And.intro k1 (And.intro k2 (And.intro k3 k4))); clear k1 k2 k3 k4; dsimp only)
    all_goals
      clear q1 z3 HB S4
      have M5:=Hid.in (show Mid g base bb ww cw qw m vc vr (registerD D s.A s.dn s.NN s.HH) (registerD D s.A s.dn s.NN s.HH) d' d5 K5 c w5 G n Li Lb Lo ws Eb Eo ∧ Low base c w c w5 ∧ w.heap.size ≤ w5.heap.size from
        ⟨M4.out.world H5.out.1 H5.out.2.1 H5.out.2.2.1 H5.out.2.2.2,H4.out.2.1.trans (H5.out.2.1.low (by omega) M4.out.own M4.out.big),Nat.le_trans H4.out.2.2 H5.out.2.1.size⟩)
      clear M4 H4 H5
      go_wp2_with (first
        | (go_at_call 37; refine Calls.mono (refusedD_any M5.out.1.inv hl) ?_; rintro e' w6 ⟨rfl,c6,G6,k1,k2⟩; have H6:=Hid.in (And.intro k1 k2); clear k1 k2)
        | (go_at_call 29; refine Calls.mono (num_any _ _) ?_; rintro e' w7 ⟨rfl,hw7⟩; obtain rfl:=hw7.symm))
      go_ret
      exact ⟨by simp,_,_,_,_,c6,G6,H6.out.1,M5.out.2.1.trans (Low.of_turn H6.out.2 (by omega) M5.out.1.big),Nat.le_trans M5.out.2.2 H6.out.2.size⟩
end Go.Proofs.YtojoafcnijajmaaGreatDoor.Z

namespace Go.Proofs.YtojoafcnijajmaaGreatDoor.Z
open Go.RowKit
attribute [local go_sem ↓] Go.wp_at_zero Go.wp_at_succ
attribute [local go_sem] After.cell After.frozen After.const
abbrev SW (w:World) (B bb rB nB:Nat) (r n:Value) (w':World):Prop:=w'.cell? ⟨bb,0,none⟩ = some (.pointer (some ⟨B,0,none⟩)) ∧ w'.cell? ⟨rB,0,none⟩ = some r ∧ w'.cell? ⟨nB,0,none⟩ = some n ∧ Below w.heap.size w w' ∧ w.heap.size ≤ w'.heap.size
theorem SW_start {w:World} {B bb rB nB:Nat} {r n:Value} (h1:w.cell? ⟨bb,0,none⟩ = some (.pointer (some ⟨B,0,none⟩))) (h2:w.cell? ⟨rB,0,none⟩ = some r) (h3:w.cell? ⟨nB,0,none⟩ = some n):SW w B bb rB nB r n w.drew:=⟨h1,h2,h3,(Below.refl _ _).drew,Nat.le_refl _⟩
theorem SW_start_alloc {w:World} {o:Obj} {B bb rB nB:Nat} {r n:Value} (h1:w.cell? ⟨bb,0,none⟩ = some (.pointer (some ⟨B,0,none⟩))) (h2:w.cell? ⟨rB,0,none⟩ = some r) (h3:w.cell? ⟨nB,0,none⟩ = some n) (hl:bb < w.heap.size ∧ rB < w.heap.size ∧ nB < w.heap.size):SW w B bb rB nB r n (w.alloc o).drew :=
  have hb:Below w.heap.size w (w.alloc o).drew:=((Below.refl _ _).alloc (Nat.le_refl _) _).drew
  ⟨(hb.cell hl.1).trans h1,(hb.cell hl.2.1).trans h2,(hb.cell hl.2.2).trans h3,hb,hb.size⟩
theorem SW_step {w w1 w2:World} {B bb rB nB:Nat} {r n:Value} (h:SW w B bb rB nB r n w1) (hl:bb < w.heap.size ∧ rB < w.heap.size ∧ nB < w.heap.size) (hb:Below w.heap.size w1 w2):SW w B bb rB nB r n w2 :=
  ⟨(hb.cell hl.1).trans h.1,(hb.cell hl.2.1).trans h.2.1,(hb.cell hl.2.2).trans h.2.2.1,h.2.2.2.1.trans hb,(h.2.2.2.1.trans hb).size⟩
theorem SW_call {w w1 w2:World} {B bb rB nB:Nat} {r n:Value} (h:SW w B bb rB nB r n w1) (hl:bb < w.heap.size ∧ rB < w.heap.size ∧ nB < w.heap.size) (hb:Below w1.heap.size w1 w2):SW w B bb rB nB r n w2:=SW_step h hl (hb.mono h.2.2.2.2)
theorem SW_alloc {w w1:World} {o:Obj} {B bb rB nB:Nat} {r n:Value} (h:SW w B bb rB nB r n w1) (hl:bb < w.heap.size ∧ rB < w.heap.size ∧ nB < w.heap.size):SW w B bb rB nB r n (w1.alloc o):=SW_step h hl ((Below.refl _ _).alloc h.2.2.2.2 _)
theorem SW_realloc {w w1:World} {o o':Obj} {B bb rB nB:Nat} {r n:Value} (h:SW w B bb rB nB r n (w1.alloc o')) (hl:bb < w.heap.size ∧ rB < w.heap.size ∧ nB < w.heap.size) (hz:w.heap.size ≤ w1.heap.size):SW w B bb rB nB r n (w1.alloc o):=by
  refine SW_step h hl ⟨rfl,rfl,rfl,by simp,fun k hk=>?_⟩
  have hk1:k < w1.heap.size:=by omega
  exact (Below.heap_alloc w1 o k hk1).trans (Below.heap_alloc w1 o' k hk1).symm
theorem SW_size {w w1 w2:World} {B bb rB nB:Nat} {r n:Value} (h:SW w B bb rB nB r n w1) (hb:Below w1.heap.size w1 w2):w.heap.size ≤ w2.heap.size:=Nat.le_trans h.2.2.2.2 hb.size
theorem SW_store {w w1:World} {B bb rB nB b:Nat} {r n v0 v1 v2 v3:Value} (h:SW w B bb rB nB r n w1) (hl:bb < w.heap.size ∧ rB < w.heap.size ∧ nB < w.heap.size) (hb:w.heap.size ≤ b):SW w B bb rB nB r n ((((w1.setCell ⟨b,0,none⟩ v0).setCell ⟨b,1,none⟩ v1).setCell ⟨b,2,none⟩ v2).setCell ⟨b,3,none⟩ v3) :=
  SW_step h hl (((((Below.refl _ _).setCell hb _).setCell hb _).setCell hb _).setCell hb _)
theorem SW_berth {w w1:World} {B bb rB nB:Nat} {r n:Value} {D:BD} (h:SW w B bb rB nB r n w1) (hb:BerthC w B D):BerthC w1 B D:=BerthC.below hb h.2.2.2.1
theorem alloc_kept {w1 w3:World} {o:Obj} (hb:Below (w1.alloc o).heap.size (w1.alloc o) w3):w3.heap[w1.heap.size]? = some o:=(hb.block _ (by simp)).trans (heap_alloc_new _ _)
theorem alloc_kept_drew {w1 w3:World} {o:Obj} (hb:Below (w1.alloc o).drew.heap.size (w1.alloc o).drew w3):w3.heap[w1.heap.size]? = some o:=(hb.block _ (by show w1.heap.size < (w1.alloc o).heap.size; simp)).trans (heap_alloc_new w1 o)
theorem still_kept {w1 w3:World} {o:Obj} {b:Nat} (hb:Below w1.heap.size w1 w3) (h:w1.heap[b]? = some o):w3.heap[b]? = some o:=(hb.block _ (Array.getElem?_eq_some_iff.1 h).1).trans h
theorem usN_len {D:BD} (hok:D.ok) {r:Nat} (hr:r < 4):(usN D r).length ≤ 24:=by
  unfold usN
  by_cases h0:r = 0
  · rw [if_pos h0]; exact Nat.le_trans (freeN_le _ _) hok.few
  · rw [if_neg h0]
    have:=(hok.devs (r - 1) (by omega)).1
    exact Nat.le_trans (List.length_filter_le _ _) (by simp; omega)
theorem usN_in (D:BD) (r:Nat):∀ i ∈ usN D r,if r = 0 then i < D.n else i < D.dn (r - 1):=by
  intro i hi
  unfold usN at hi
  by_cases h0:r = 0
  · rw [if_pos h0] at hi ⊢
    unfold freeN at hi
    exact List.mem_range.1 (List.mem_filter.1 hi).1
  · rw [if_neg h0] at hi ⊢
    exact List.mem_range.1 (List.mem_filter.1 hi).1
theorem byNode_lit (bb r:Nat) (D:BD) (l:List Nat) (v:Value) (w:World) (hr:r < 4) (hb:BerthC w bb D) (hok:D.ok) (hv:Ints w v l.length (fun j=>((l[j]?.getD 0:Nat):Int))) (hl:l.length ≤ 24)
    (hin:∀ i ∈ l,if r = 0 then i < D.n else i < D.dn (r - 1)) :
    Calls (patch shutL Tryz.prog) 54 #[.pointer (some ⟨bb,0,none⟩),.int .i64 r,v] w fun e w'=>e = .returned (.agg #[.int .i64 (inN D r l 0),.int .i64 (inN D r l 1),.int .i64 (inN D r l 2),.int .i64 (inN D r l 3)]) ∧ Below w.heap.size w w':=byNode_any bb r D l v w hr hb hok hv hl hin
theorem cell_lt {w:World} {a:Addr} {v:Value} (h:w.cell? a = some v):a.block < w.heap.size:=by
  by_cases hl:a.block < w.heap.size
  · exact hl
  · have:w.heap[a.block]? = none:=Array.getElem?_eq_none_iff.2 (by omega)
    simp [World.cell?,this] at h
theorem S3_start {w:World} {rB nB b5 b6:Nat} {r n:Value} {cs:Array Value} (h1:w.cell? ⟨rB,0,none⟩ = some r) (h2:w.cell? ⟨nB,0,none⟩ = some n) (h3:∀ j,w.cell? ⟨b5,j,none⟩ = cs[j]?) (h4:∀ j,w.cell? ⟨b6,j,none⟩ = cs[j]?):w.drew.cell? ⟨rB,0,none⟩ = some r ∧ w.drew.cell? ⟨nB,0,none⟩ = some n ∧ (∀ j,w.drew.cell? ⟨b5,j,none⟩ = cs[j]?) ∧ (∀ j,w.drew.cell? ⟨b6,j,none⟩ = cs[j]?):=⟨h1,h2,h3,h4⟩
theorem set4 {w:World} {b:Nat} {t:TypeId} {z0 z1 z2 z3:Value} (v0 v1 v2 v3:Value) (h:w.heap[b]? = some (.cells #[z0,z1,z2,z3] t (0,0))):((((w.setCell ⟨b,0,none⟩ v0).setCell ⟨b,1,none⟩ v1).setCell ⟨b,2,none⟩ v2).setCell ⟨b,3,none⟩ v3).heap[b]? = some (.cells #[v0,v1,v2,v3] t (0,0)):=blk_set v3 (blk_set v2 (blk_set v1 (blk_set v0 h)))
theorem S3_call {w1 w2:World} {rB nB b5 b6:Nat} {r n:Value} {cs:Array Value} (h:w1.cell? ⟨rB,0,none⟩ = some r ∧ w1.cell? ⟨nB,0,none⟩ = some n ∧ (∀ j,w1.cell? ⟨b5,j,none⟩ = cs[j]?) ∧ (∀ j,w1.cell? ⟨b6,j,none⟩ = cs[j]?)) (hb:Below w1.heap.size w1 w2) (h5:0 < cs.size):w2.cell? ⟨rB,0,none⟩ = some r ∧ w2.cell? ⟨nB,0,none⟩ = some n ∧ (∀ j,w2.cell? ⟨b5,j,none⟩ = cs[j]?) ∧ (∀ j,w2.cell? ⟨b6,j,none⟩ = cs[j]?):=by
  have e:∀ b,(∀ j,w1.cell? ⟨b,j,none⟩ = cs[j]?) → ∀ j,w2.cell? ⟨b,j,none⟩ = cs[j]?:=fun b hh j=>by
    have h0:=hh 0
    rw [Array.getElem?_eq_getElem h5] at h0
    have hl:b < w1.heap.size:=cell_lt h0
    exact (hb.cell (p:=⟨b,j,none⟩) hl).trans (hh j)
  exact ⟨keeps hb h.1,keeps hb h.2.1,e _ h.2.2.1,e _ h.2.2.2⟩
set_option maxRecDepth 100000 in
set_option maxHeartbeats 4000000 in
theorem worker3_any (D:BD) (B bb rB nB r:Nat) (n:Int) (x0 x4:Value) (w0 w:World) (h0:Below w0.heap.size w0 w) (hr:r < 4) (h1:w.cell? ⟨bb,0,none⟩ = some (.pointer (some ⟨B,0,none⟩))) (h2:w.cell? ⟨rB,0,none⟩ = some (.int .i64 r)) (h3:w.cell? ⟨nB,0,none⟩ = some (.int .i64 n)) (hok:D.ok) (b5 b6:Nat) (t7 t8 t9 t10 t11 t12 t13 t14 t15 t16 t17 t18:Value) (hb5:w.heap[b5]? = some (.cells #[.int .i64 (inN D r (usN D r) 0),.int .i64 (inN D r (usN D r) 1),.int .i64 (inN D r (usN D r) 2),.int .i64 (inN D r (usN D r) 3)] 119 (0,0))) (hb6:w.heap[b6]? = some (.cells #[.int .i64 (inN D r (usN D r) 0),.int .i64 (inN D r (usN D r) 1),.int .i64 (inN D r (usN D r) 2),.int .i64 (inN D r (usN D r) 3)] 119 (0,0))) :
    (R3 Tryz.f52).wp (patch shutL Tryz.prog) (bodyPost (patch shutL Tryz.prog) (workerS Tryz.f52) (fun | .returned v,w'=>WOut (verdV (inN D r (usN D r)) (inN D r (usN D r)) n) r v w' ∧ Below w0.heap.size w0 w' | _,_=>False)) ⟨#[x0,.pointer (some ⟨bb,0,none⟩),.pointer (some ⟨rB,0,none⟩),.pointer (some ⟨nB,0,none⟩),x4,.pointer (some ⟨b5,0,none⟩),.pointer (some ⟨b6,0,none⟩),t7,t8,t9,t10,t11,t12,t13,t14,t15,t16,t17,t18,undef,undef,undef,undef,undef,undef,undef],[]⟩ w:=by
  have HH:Hid D.ok:=hok
  clear hok
  obtain ⟨qa,_⟩:=blk hb5
  obtain ⟨qb,_⟩:=blk hb6
  clear hb5 hb6
  have HC:Hid (∀ k,k < 4 → 0 ≤ inN D r (usN D r) k ∧ inN D r (usN D r) k ≤ 24):=fun k _=>by
    have h1:=inN_le D r (usN D r) k
    have h2:=usN_len HH.out hr
    omega
  generalize hQ:(bodyPost (patch shutL Tryz.prog) (workerS Tryz.f52) (fun | .returned v,w'=>WOut (verdV (inN D r (usN D r)) (inN D r (usN D r)) n) r v w' ∧ Below w0.heap.size w0 w' | _,_=>False)) = Q
  simp only [R3,O3,H3,hands,regOps,split4,Tryz.f52,flag,Option.getD_some]
  have hres:(workerS Tryz.f52).results = #[.tmp 24,.tmp 20,.tmp 25]:=by kernel_rfl
  have l2:rB < w.heap.size:=cell_lt h2
  have l3:nB < w.heap.size:=cell_lt h3
  go_region_held3 (fun w' => w'.cell? ⟨rB, 0, none⟩ = some (.int .i64 r) ∧ w'.cell? ⟨nB, 0, none⟩ = some (.int .i64 n) ∧ (∀ j, w'.cell? ⟨b5, j, none⟩ = #[.int .i64 (inN D r (usN D r) 0), .int .i64 (inN D r (usN D r) 1), .int .i64 (inN D r (usN D r) 2), .int .i64 (inN D r (usN D r) 3)][j]?) ∧ (∀ j, w'.cell? ⟨b6, j, none⟩ = #[.int .i64 (inN D r (usN D r) 0), .int .i64 (inN D r (usN D r) 1), .int .i64 (inN D r (usN D r) 2), .int .i64 (inN D r (usN D r) 3)][j]?)) (with_reducible (first | exact S3_start h2 h3 qa qb | exact S3_call (by assumption) (by assumption) (by simp)))
       (first
         | (go_at_call 57; refine (judge_any (inN D r (usN D r)) (inN D r (usN D r)) n HC.out HC.out _).mono ?_; rintro e w2 ⟨rfl,hb2⟩))
  all_goals
    subst hQ
    exact ⟨rfl,_,results_tmp3 hres _ _ _,rfl,ext_trans h0.drew hb2⟩
end Go.Proofs.YtojoafcnijajmaaGreatDoor.Z

namespace Go.Proofs.YtojoafcnijajmaaGreatDoor.Z
open Go.RowKit
attribute [local go_sem ↓] Go.wp_at_zero Go.wp_at_succ
attribute [local go_sem] After.cell After.frozen After.const
set_option maxRecDepth 100000 in
set_option maxHeartbeats 4000000 in
theorem worker2_any (D:BD) (B bb rB nB r:Nat) (n:Int) (x0 x4:Value) (w0 w:World) (h0:Below w0.heap.size w0 w) (hr:r < 4) (h1:w.cell? ⟨bb,0,none⟩ = some (.pointer (some ⟨B,0,none⟩))) (h2:w.cell? ⟨rB,0,none⟩ = some (.int .i64 r)) (h3:w.cell? ⟨nB,0,none⟩ = some (.int .i64 n)) (hb:BerthC w B D) (hok:D.ok) (b5:Nat) (t7 t8 t9 t10 t11 t12:Value) (hb5:w.heap[b5]? = some (.cells #[.int .i64 (inN D r (usN D r) 0),.int .i64 (inN D r (usN D r) 1),.int .i64 (inN D r (usN D r) 2),.int .i64 (inN D r (usN D r) 3)] 119 (0,0))) :
    (Code.seq (R2 Tryz.f52) (R3 Tryz.f52)).wp (patch shutL Tryz.prog) (bodyPost (patch shutL Tryz.prog) (workerS Tryz.f52) (fun | .returned v,w'=>WOut (verdV (inN D r (usN D r)) (inN D r (usN D r)) n) r v w' ∧ Below w0.heap.size w0 w' | _,_=>False)) ⟨#[x0,.pointer (some ⟨bb,0,none⟩),.pointer (some ⟨rB,0,none⟩),.pointer (some ⟨nB,0,none⟩),x4,.pointer (some ⟨b5,0,none⟩),undef,t7,t8,t9,t10,t11,t12,undef,undef,undef,undef,undef,undef,undef,undef,undef,undef,undef,undef,undef],[]⟩ w:=by
  have HH:Hid (BerthC w B D ∧ D.ok ∧ w.heap[b5]? = some (.cells #[.int .i64 (inN D r (usN D r) 0),.int .i64 (inN D r (usN D r) 1),.int .i64 (inN D r (usN D r) 2),.int .i64 (inN D r (usN D r) 3)] 119 (0,0))):=⟨hb,hok,hb5⟩
  have HL:bb < w.heap.size ∧ rB < w.heap.size ∧ nB < w.heap.size:=⟨cell_lt h1,cell_lt h2,cell_lt h3⟩
  clear hb hok hb5
  have HN:=fun W b6 (t7 t8 t9 t10 t11 t12 t13 t14 t15 t16 t17 t18:Value) (hs:SW w B bb rB nB (.int .i64 r) (.int .i64 n) W) (hb6:W.heap[b6]? = some (.cells #[.int .i64 (inN D r (usN D r) 0),.int .i64 (inN D r (usN D r) 1),.int .i64 (inN D r (usN D r) 2),.int .i64 (inN D r (usN D r) 3)] 119 (0,0)))=>worker3_any D B bb rB nB r n x0 x4 w0 W (ext_trans h0 hs.2.2.2.1) hr hs.1 hs.2.1 hs.2.2.1 HH.out.2.1 b5 b6 t7 t8 t9 t10 t11 t12 t13 t14 t15 t16 t17 t18 (still_kept hs.2.2.2.1 HH.out.2.2) hb6
  generalize hQ:(bodyPost (patch shutL Tryz.prog) (workerS Tryz.f52) (fun | .returned v,w'=>WOut (verdV (inN D r (usN D r)) (inN D r (usN D r)) n) r v w' ∧ Below w0.heap.size w0 w' | _,_=>False)) = Q at HN ⊢
  generalize hR3:R3 Tryz.f52 = c3 at HN ⊢
  refine wp_seq ?_
  unfold R2 O2 regOps split4
  simp only [Tryz.f52,Option.getD_some]
  go_region_held3 (fun w' => w'.cell? ⟨bb, 0, none⟩ = some (.pointer (some ⟨B, 0, none⟩)) ∧ w'.cell? ⟨rB, 0, none⟩ = some (.int .i64 r) ∧ w'.cell? ⟨nB, 0, none⟩ = some (.int .i64 n) ∧ Below w.heap.size w w' ∧ w.heap.size ≤ w'.heap.size) (with_reducible (first | exact SW_start h1 h2 h3 | exact SW_start_alloc h1 h2 h3 HL | exact SW_call (by assumption) HL (by assumption) | exact SW_alloc (by assumption) HL | exact SW_realloc (by assumption) HL (by assumption) | exact SW_store (by assumption) HL (by omega)))
       (first
         | (go_at_call 56; refine (freeB_any B r D _ hr (SW_berth (by assumption) HH.out.1) HH.out.2.1).mono ?_; rintro e w2 ⟨v,rfl,hown,hb2⟩; have hz2:=SW_size (by assumption) hb2; have hint:=intV_ints hown; clear hown; try (first | have hq:=alloc_kept_drew hb2 | have hq:=alloc_kept hb2); try (obtain ⟨qa,qb⟩:=blk hq))
         | (go_at_call 54; refine (byNode_lit B r D (usN D r) _ _ hr (SW_berth (by assumption) HH.out.1) HH.out.2.1 (by first | exact hint | exact hint.ext ((Below.refl _ _).alloc (Nat.le_refl _) _)) (usN_len HH.out.2.1 hr) (usN_in D r)).mono ?_; rintro e w3 ⟨rfl,hb3⟩; have hz3:=SW_size (by assumption) hb3; first | (have hp:=alloc_kept hb3; obtain ⟨pa,pb⟩:=blk hp) | (have hp:=still_kept hb3 hq; obtain ⟨pa,pb⟩:=blk hp) | skip))
  all_goals simp only [Exit.then]
  all_goals with_reducible refine HN _ _ _ _ _ _ _ _ _ _ _ _ _ _ (by assumption) ?_
  all_goals with_reducible (first | exact heap_alloc_new _ _ | exact set4 _ _ _ _ hp)
end Go.Proofs.YtojoafcnijajmaaGreatDoor.Z

namespace Go.Proofs.YtojoafcnijajmaaGreatDoor.Z
open Go.RowKit
attribute [local go_sem ↓] Go.wp_at_zero Go.wp_at_succ
attribute [local go_sem] After.cell After.frozen After.const
set_option maxRecDepth 100000 in
set_option maxHeartbeats 4000000 in
theorem worker1_any (D:BD) (B bb rB nB r:Nat) (n:Int) (x0 x4:Value) (w0 w:World) (h0:Below w0.heap.size w0 w) (hr:r < 4) (h1:w.cell? ⟨bb,0,none⟩ = some (.pointer (some ⟨B,0,none⟩))) (h2:w.cell? ⟨rB,0,none⟩ = some (.int .i64 r)) (h3:w.cell? ⟨nB,0,none⟩ = some (.int .i64 n)) (hb:BerthC w B D) (hok:D.ok) :
    (Code.seq (R1 Tryz.f52) (Code.seq (R2 Tryz.f52) (R3 Tryz.f52))).wp (patch shutL Tryz.prog) (bodyPost (patch shutL Tryz.prog) (workerS Tryz.f52) (fun | .returned v,w'=>WOut (verdV (inN D r (usN D r)) (inN D r (usN D r)) n) r v w' ∧ Below w0.heap.size w0 w' | _,_=>False)) ⟨#[x0,.pointer (some ⟨bb,0,none⟩),.pointer (some ⟨rB,0,none⟩),.pointer (some ⟨nB,0,none⟩),x4,undef,undef,undef,undef,undef,undef,undef,undef,undef,undef,undef,undef,undef,undef,undef,undef,undef,undef,undef,undef,undef],[]⟩ w:=by
  have HH:Hid (BerthC w B D ∧ D.ok):=⟨hb,hok⟩
  have HL:bb < w.heap.size ∧ rB < w.heap.size ∧ nB < w.heap.size:=⟨cell_lt h1,cell_lt h2,cell_lt h3⟩
  clear hb hok
  have HN:=fun W b5 (t7 t8 t9 t10 t11 t12:Value) (hs:SW w B bb rB nB (.int .i64 r) (.int .i64 n) W) (hb5:W.heap[b5]? = some (.cells #[.int .i64 (inN D r (usN D r) 0),.int .i64 (inN D r (usN D r) 1),.int .i64 (inN D r (usN D r) 2),.int .i64 (inN D r (usN D r) 3)] 119 (0,0)))=>worker2_any D B bb rB nB r n x0 x4 w0 W (ext_trans h0 hs.2.2.2.1) hr hs.1 hs.2.1 hs.2.2.1 (SW_berth hs HH.out.1) HH.out.2 b5 t7 t8 t9 t10 t11 t12 hb5
  generalize hQ:(bodyPost (patch shutL Tryz.prog) (workerS Tryz.f52) (fun | .returned v,w'=>WOut (verdV (inN D r (usN D r)) (inN D r (usN D r)) n) r v w' ∧ Below w0.heap.size w0 w' | _,_=>False)) = Q at HN ⊢
  generalize hR3:Code.seq (R2 Tryz.f52) (R3 Tryz.f52) = c3 at HN ⊢
  refine wp_seq ?_
  unfold R1 O1 regOps split4
  simp only [Tryz.f52,Option.getD_some]
  go_region_held3 (fun w' => w'.cell? ⟨bb, 0, none⟩ = some (.pointer (some ⟨B, 0, none⟩)) ∧ w'.cell? ⟨rB, 0, none⟩ = some (.int .i64 r) ∧ w'.cell? ⟨nB, 0, none⟩ = some (.int .i64 n) ∧ Below w.heap.size w w' ∧ w.heap.size ≤ w'.heap.size) (with_reducible (first | exact SW_start h1 h2 h3 | exact SW_start_alloc h1 h2 h3 HL | exact SW_call (by assumption) HL (by assumption) | exact SW_alloc (by assumption) HL | exact SW_realloc (by assumption) HL (by assumption) | exact SW_store (by assumption) HL (by omega)))
       (first
         | (go_at_call 55; refine (usableB_any B r D _ hr (SW_berth (by assumption) HH.out.1) HH.out.2).mono ?_; rintro e w2 ⟨v,rfl,hown,hb2⟩; have hz2:=SW_size (by assumption) hb2; have hint:=intV_ints hown; clear hown; try (first | have hq:=alloc_kept_drew hb2 | have hq:=alloc_kept hb2); try (obtain ⟨qa,qb⟩:=blk hq))
         | (go_at_call 54; refine (byNode_lit B r D (usN D r) _ _ hr (SW_berth (by assumption) HH.out.1) HH.out.2 (by first | exact hint | exact hint.ext ((Below.refl _ _).alloc (Nat.le_refl _) _)) (usN_len HH.out.2 hr) (usN_in D r)).mono ?_; rintro e w3 ⟨rfl,hb3⟩; have hz3:=SW_size (by assumption) hb3; first | (have hp:=alloc_kept hb3; obtain ⟨pa,pb⟩:=blk hp) | (have hp:=still_kept hb3 hq; obtain ⟨pa,pb⟩:=blk hp) | skip))
  all_goals simp only [Exit.then]
  all_goals with_reducible refine HN _ _ _ _ _ _ _ _ (by assumption) ?_
  all_goals with_reducible (first | exact heap_alloc_new _ _ | exact set4 _ _ _ _ hp)
theorem workerB_any (D:BD) (B bb rB nB r:Nat) (n:Int) (x0 x4:Value) (w:World) (hb:BerthC w B D) (hok:D.ok) (hr:r < 4) (_:0 < n) (h1:w.cell? ⟨bb,0,none⟩ = some (ptr B)) (h2:w.cell? ⟨rB,0,none⟩ = some (.int .i64 r)) (h3:w.cell? ⟨nB,0,none⟩ = some (.int .i64 n)) :
    Calls (patch shutL Tryz.prog) 52 #[x0,ptr bb,ptr rB,ptr nB,x4] w fun | .returned v,w'=>WOut (verdV (inN D r (usN D r)) (inN D r (usN D r)) n) r v w' ∧ Below w.heap.size w w' | _,_=>False:=by
  have en:(workerS Tryz.f52).ntmps = 26:=by kernel_rfl
  have ea:(#[x0,ptr bb,ptr rB,ptr nB,x4]:Array Value) ++ Array.replicate ((workerS Tryz.f52).ntmps - (#[x0,ptr bb,ptr rB,ptr nB,x4]:Array Value).size) undef = #[x0,.pointer (some ⟨bb,0,none⟩),.pointer (some ⟨rB,0,none⟩),.pointer (some ⟨nB,0,none⟩),x4,undef,undef,undef,undef,undef,undef,undef,undef,undef,undef,undef,undef,undef,undef,undef,undef,undef,undef,undef,undef,undef]:=by
    rw [en]
    simp only [ptr,List.size_toArray,List.length_cons,List.length_nil,Nat.reduceAdd,Nat.reduceSub,Array.replicate_succ,Array.replicate_zero,List.push_toArray,List.append_toArray,List.cons_append,List.nil_append]
  refine calls_of_wp pworker worker_lone ?_
  rw [ea]
  have h:=worker1_any D B bb rB nB r n x0 x4 w w (Below.refl _ _) hr h1 h2 h3 hb hok
  with_reducible exact h
end Go.Proofs.YtojoafcnijajmaaGreatDoor.Z

namespace Go.Proofs.YtojoafcnijajmaaGreatDoor.Z
open Go.RowKit
attribute [local go_sem ↓] Go.wp_at_zero Go.wp_at_succ
attribute [local go_sem] After.cell After.frozen After.const
def vdB (D:BD) (i:Nat) (n:Int):Array Value:=verdV (inN D i (usN D i)) (inN D i (usN D i)) n
theorem vdB_flat:∀ D i n,i < 4 → 0 < n → (vdB D i n).size = 17 ∧ ∀ v ∈ (vdB D i n).toList,flatC v:=fun D i n _ _=>by
  refine ⟨verdV_size _ _ _,fun v hv=>?_⟩
  simp only [vdB,verdV,List.mem_map] at hv
  obtain ⟨j,_,rfl⟩:=hv
  unfold verdK
  split
  · exact .inl ⟨_,_,rfl⟩
  · exact .inr ⟨_,rfl⟩
theorem make_verd (W:World):(Instr.makeSlice 82 (.int .i64 4) (.int .i64 4)).run (patch shutL Tryz.prog) W = .ok (.slice (some ⟨W.heap.size,0,none⟩) 4 4) (W.alloc (.cells zeroRow 86)):=by kernel_rfl
theorem index_ints (c:Nat → Int) (k:Nat) (hk:k < 4) (W:World):Sem.run (patch shutL Tryz.prog) (Instr.index 40 (.agg #[.int .i64 (c 0),.int .i64 (c 1),.int .i64 (c 2),.int .i64 (c 3)]) (.int .i64 k)) W = .ok (.int .i64 (c k)) W:=by
  obtain rfl | rfl | rfl | rfl:k = 0 ∨ k = 1 ∨ k = 2 ∨ k = 3:=by omega
  all_goals kernel_rfl
def vrow (D:BD) (c:Nat → Int) (k j:Nat):Value:=if j / 17 < k ∧ 0 < c (j / 17) then verdK (inN D (j / 17) (usN D (j / 17))) (inN D (j / 17) (usN D (j / 17))) (c (j / 17)) 15 (j % 17) else zeroJ j
theorem vrow_hit {D:BD} {c:Nat → Int} {k:Nat} (h:0 < c k) (j:Nat):vrow D c (k + 1) j = if k * 17 ≤ j ∧ j < k * 17 + 17 then verdK (inN D k (usN D k)) (inN D k (usN D k)) (c k) 15 (j - k * 17) else vrow D c k j:=by
  unfold vrow
  by_cases hj:k * 17 ≤ j ∧ j < k * 17 + 17
  · have e1:j / 17 = k:=by omega
    have e2:j % 17 = j - k * 17:=by omega
    rw [e1,if_pos ⟨by omega,h⟩,if_pos hj,e2]
  · rw [if_neg hj]
    by_cases h1:j / 17 < k ∧ 0 < c (j / 17)
    · rw [if_pos h1,if_pos ⟨by omega,h1.2⟩]
    · rw [if_neg h1,if_neg (fun h2=>h1 ⟨by omega,h2.2⟩)]
theorem vrow_miss {D:BD} {c:Nat → Int} {k:Nat} (h:¬ 0 < c k) (j:Nat):vrow D c (k + 1) j = vrow D c k j:=by
  unfold vrow
  by_cases h1:j / 17 < k ∧ 0 < c (j / 17)
  · rw [if_pos h1,if_pos ⟨by omega,h1.2⟩]
  · rw [if_neg h1,if_neg (fun h2=>h1 ⟨by
      have:j / 17 ≠ k:=fun e=>h (e ▸ h2.2)
      omega,h2.2⟩)]
theorem jset_row {b n:Nat} {t:TypeId}:∀ (vs:List Value) (o:Nat) (w:World) (f:Nat → Value),w.rowIs b t n f → (w.setCells b o vs).rowIs b t n (fun j=>if o ≤ j ∧ j < o + vs.length then vs.getD (j - o) undef else f j)
  | [],o,w,f,h=>h.congr fun j _=>by
    have:¬ (o ≤ j ∧ j < o + ([]:List Value).length):=fun h=>by have h1:=h.2; simp only [List.length_nil] at h1; omega
    rw [if_neg this]
  | v :: vs,o,w,f,h=>by
    refine (jset_row vs (o + 1) (w.setCell ⟨b,o,none⟩ v) _ (h.set o v)).congr fun j _=>?_
    by_cases h0:j = o
    · subst h0
      rw [if_neg (by omega),if_pos rfl,if_pos (by simp),Nat.sub_self]
      rfl
    · by_cases h1:o + 1 ≤ j ∧ j < o + 1 + vs.length
      · have e:j - o = (j - (o + 1)) + 1:=by omega
        rw [if_pos h1,if_pos (by simp only [List.length_cons]; omega),e]
        rfl
      · rw [if_neg h1,if_neg h0,if_neg (by simp only [List.length_cons]; omega)]
theorem jset_other {b b':Nat} (hne:b' ≠ b):∀ (vs:List Value) (o:Nat) (w:World),(w.setCells b o vs).heap[b']? = w.heap[b']?
  | [],_,_=>rfl
  | v :: vs,o,w=>(jset_other hne vs (o + 1) (w.setCell ⟨b,o,none⟩ v)).trans (Below.heap_setCell _ _ _ _ hne)
theorem jset_below {B b:Nat} {a:World} (hb:B ≤ b):∀ (vs:List Value) (o:Nat) (w:World),Below B a w → Below B a (w.setCells b o vs)
  | [],_,_,h=>h
  | v :: vs,o,w,h=>jset_below hb vs (o + 1) _ (h.setCell hb v)
theorem jset_size {b:Nat}:∀ (vs:List Value) (o:Nat) (w:World),(w.setCells b o vs).heap.size = w.heap.size
  | [],_,_=>rfl
  | v :: vs,o,w=>(jset_size vs (o + 1) (w.setCell ⟨b,o,none⟩ v)).trans (by simp)
theorem zeroRow_rowIs {w:World} {b:Nat} (h:w.heap[b]? = some (.cells zeroRow 86 (0,0))) (D:BD) (c:Nat → Int):w.rowIs b 86 68 (vrow D c 0):=by
  have hs:zeroRow.size = 68:=by kernel_rfl
  refine ⟨zeroRow,h,hs,fun j hj=>?_⟩
  unfold vrow
  rw [if_neg (by omega)]
  unfold zeroJ
  rw [Array.getD_eq_getD_getElem?,Array.getElem?_eq_getElem (by omega)]
  rfl
theorem vrow_set {w:World} {b k:Nat} {t:TypeId} {D:BD} {c:Nat → Int} {vs:Array Value} (h:w.rowIs b t 68 (vrow D c k)) (hc:0 < c k) (hvs:vs = verdV (inN D k (usN D k)) (inN D k (usN D k)) (c k)):(w.setCells b (k * 17) vs.toList).rowIs b t 68 (vrow D c (k + 1)):=by
  refine (jset_row _ _ _ _ h).congr fun j _=>?_
  rw [vrow_hit hc]
  have e17:vs.toList.length = 17:=by rw [hvs]; simp [verdV_size]
  rw [e17]
  by_cases hj:k * 17 ≤ j ∧ j < k * 17 + 17
  · rw [if_pos hj,if_pos hj,hvs]
    have:j - k * 17 < 17:=by omega
    simp [verdV,this]
  · rw [if_neg hj,if_neg hj]
theorem judge_kept {wr w2:World} {o o':Obj} {b n:Nat} {t:TypeId} {f:Nat → Value} (h:wr.rowIs b t n f) (hb:Below ((wr.alloc o).alloc o').heap.size ((wr.alloc o).alloc o') w2):w2.rowIs b t n f :=
  have hbw:Below wr.heap.size wr ((wr.alloc o).alloc o'):=((Below.refl _ _).alloc (Nat.le_refl _) _).alloc (by simp) _
  h.of_block ((ext_trans hbw hb).block b h.lt)
theorem judge_there {w:World} {b k:Nat} {t:TypeId} {f:Nat → Value} {vs:Array Value} (h:w.rowIs b t 68 f) (hk:k < 4) (hvz:vs.size = 17):w.there b (k * 17) vs.size:=fun j hj=>by
  rw [hvz] at hj
  refine ⟨?_,h.frozen _⟩
  rw [h.cell (by omega)]
  rfl
theorem judge_all (us fr:Nat → Int) (n:Int):(verdV us fr n).all (·.oneCell') = true:=by
  rw [Array.all_eq_true']
  intro v hv
  exact verdV_one us fr n v (by simpa using hv)
end Go.Proofs.YtojoafcnijajmaaGreatDoor.Z
