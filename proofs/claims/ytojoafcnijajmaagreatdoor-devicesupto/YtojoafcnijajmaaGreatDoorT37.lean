/- Part 37 of the proof that Devices answers true and leaves its input as it was, for input of bulk at most the bound of its row: ZR1 ZR2 ZJ10 ZF0 ZE4. -/
import Derived.Test.YtojoafcnijajmaaGreatDoorT8
import Derived.Test.YtojoafcnijajmaaGreatDoorT27
import Derived.Test.YtojoafcnijajmaaGreatDoorT36
import Derived.Test.YtojoafcnijajmaaGreatDoorT28
import Derived.Test.YtojoafcnijajmaaGreatDoorT24
namespace Go.Proofs.YtojoafcnijajmaaGreatDoor.Z
open Go.RowKit
attribute [local go_sem ↓] Go.wp_at_zero Go.wp_at_succ
attribute [local go_sem] After.cell After.frozen After.const
set_option maxRecDepth 100000 in
set_option maxHeartbeats 1000000 in
theorem intsCopy_any (ro:Option Addr) (rb rp r rcap:Nat) (R:Nat → Int) (w:World) (hr:r * 8 ≤ 140737488355328) (ha:0 < r → ro = some ⟨rb,rp,none⟩) (hi:IntAt w rb rp r R) :
    Calls (patch shutL Tryz.prog) 61 #[.slice ro r rcap] w fun e w'=>e = .returned (.slice (some ⟨w.heap.size,0,none⟩) r r) ∧ w'.rowIs w.heap.size 3 r (fun j=>.int .i64 (R j)) ∧ Below w.heap.size w w':=by
  obtain ⟨W1,hmk,⟨f,r1⟩,hB1,hs1⟩:=ex_make (P:=(patch shutL Tryz.prog)) w 23 3 _ 1 8 r r rfl ((patch_underlying shutL Tryz.prog 23).trans Tryz.underlying23) Tryz.infoInt (by omega) (by omega)
  obtain ⟨W2,hcp,r2,hg2,hs2⟩:=ex_copy (P:=(patch shutL Tryz.prog)) W1 23 3 _ 1 8 ((patch_underlying shutL Tryz.prog 23).trans Tryz.underlying23) Tryz.infoInt w.heap.size 0 r r (r * 1) f r1 ro rb rp r rcap r (by simp) (fun j=>.int .i64 (R j)) ha
    (fun j hj=>(hB1.cell (p:=⟨rb,rp + j,none⟩) (block_lt_of_cell (hi j (by omega)))).trans (hi j (by omega))) (fun _ _=>rfl) (by omega)
  have H:Hid (W2.rowIs w.heap.size 3 r (fun j=>.int .i64 (R j)) ∧ Below w.heap.size w W2):=⟨by simpa using r2.congr (g:=fun j=>.int .i64 (R j)) (fun j hj=>by rw [if_pos (by omega)]; rfl),hB1.grown hg2 (by omega) (fun k hk=>by cases hk; omega)⟩
  clear r1 r2 hB1 hg2 hs1 hs2 hi ha
  go_enter (pf Tryz.func61 (by rfl)),Tryz.ntmps61
  go_wp2_with (first | (go_at_call 185; go_enter (pf Tryz.func185 (by rfl)),Tryz.ntmps185) | (go_at_call 110; go_enter (pf Tryz.func110 (by rfl)),Tryz.ntmps110))
  go_ret
  exact ⟨rfl,H.out⟩
set_option maxRecDepth 100000 in
set_option maxHeartbeats 1000000 in
theorem boxed_none (w:World):Calls (patch shutL Tryz.prog) 60 #[.slice none 0 0] w fun e w'=>e = .returned (.slice none 0 0) ∧ w' = w:=by
  go_enter (pf Tryz.func60 (by rfl)),Tryz.ntmps60
  go_wp2_with (first | (go_at_call 185; go_enter (pf Tryz.func185 (by rfl)),Tryz.ntmps185) | (go_at_call 110; go_enter (pf Tryz.func110 (by rfl)),Tryz.ntmps110))
  refine wp_loop_rounds 1 ?_
  rw [rounds_succ]
  go_wp2_with (first | (go_at_call 185; go_enter (pf Tryz.func185 (by rfl)),Tryz.ntmps185) | (go_at_call 110; go_enter (pf Tryz.func110 (by rfl)),Tryz.ntmps110))
  go_ret
  exact ⟨rfl,rfl⟩
structure WorldIs (w:World) (base ww c q:Nat) (m:Mach):Prop where
  blk:w.heap[ww]? = some (.cells #[.slice (some ⟨c,0,none⟩) m.n m.n,.slice (some ⟨q,0,none⟩) m.r m.r,.int .i64 m.p,.slice none 0 0,.slice none 0 0,.slice none 0 0,.slice none 0 0] 126 (0,0))
  cpus:w.rowIs c 71 (m.n * 3) (cpuCell m.S m.N m.C)
  res:w.rowIs q 3 m.r (fun j=>.int .i64 (m.R j))
  base:base ≤ ww ∧ base ≤ c ∧ base ≤ q
set_option maxRecDepth 100000 in
set_option maxHeartbeats 2000000 in
theorem begin_any (m:Mach) (w:World) (hm:m.At w) :
    Calls (patch shutL Tryz.prog) 30 #[m.val,.slice none 0 0] w fun e w'=>∃ ww c q,e = .returned (.pointer (some ⟨ww,0,none⟩)) ∧ WorldIs w' w.heap.size ww c q m ∧ Below w.heap.size w w':=by
  obtain ⟨ao,b,o,n,cap,S,N,C,ro,rb,rp,r,rcap,R,p⟩:=m
  obtain ⟨ncap,nmax,addr,cpus,rc,rmax,raddr,ints⟩:=hm
  simp only [Mach.val] at *
  obtain ⟨W0,hW0⟩ : ∃ W0,W0 = (w.alloc (.cells #[.slice ao n cap,.slice ro r rcap,.int .i64 p] 25)).alloc (.cells #[.slice none 0 0,.slice none 0 0,.int .i64 p,.slice none 0 0,.slice none 0 0,.slice none 0 0,.slice none 0 0] 126):=⟨_,rfl⟩
  have hs0:W0.heap.size = w.heap.size + 1 + 1:=by rw [hW0]; simp
  have hB0:Below w.heap.size w W0:=by rw [hW0]; exact ((Below.refl _ _).alloc (Nat.le_refl _) _).alloc (by simp) _
  have k0:W0.heap[w.heap.size]? = some (.cells #[.slice ao n cap,.slice ro r rcap,.int .i64 p] 25 (0,0)):=by rw [hW0]; exact heap_alloc2_old _ _ _
  have k1:W0.heap[w.heap.size + 1]? = some (.cells #[.slice none 0 0,.slice none 0 0,.int .i64 p,.slice none 0 0,.slice none 0 0,.slice none 0 0,.slice none 0 0] 126 (0,0)):=by rw [hW0]; exact heap_alloc2_new _ _ _
  obtain ⟨W1,hmk1,⟨f1,r1⟩,hB1,hs1⟩:=ex_make (P:=(patch shutL Tryz.prog)) W0 22 71 _ 3 24 n n rfl ((patch_underlying shutL Tryz.prog 22).trans Tryz.underlying22) Tryz.info22 (by omega) (by omega)
  rw [hs0] at r1 hmk1 hs1
  have k0':=(hB1.block _ (by omega)).trans k0
  have k1':=(hB1.block _ (by omega)).trans k1
  have c1:=blk_set (i:=0) (.slice (some ⟨w.heap.size + 1 + 1,0,none⟩) n n) k1'
  have c0:=blk_other (a:=⟨w.heap.size + 1,0,none⟩) (.slice (some ⟨w.heap.size + 1 + 1,0,none⟩) n n) k0' (by simp)
  simp only [List.setIfInBounds_toArray,List.set_cons_zero] at c1
  have rr:=r1.setOther (a:=⟨w.heap.size + 1,0,none⟩) (by show w.heap.size + 1 + 1 ≠ w.heap.size + 1; omega) (.slice (some ⟨w.heap.size + 1 + 1,0,none⟩) n n)
  have hBw:Below w.heap.size w (W1.setCell ⟨w.heap.size + 1,0,none⟩ (.slice (some ⟨w.heap.size + 1 + 1,0,none⟩) n n)):=(ext_trans hB0 hB1).setCell (by show w.heap.size ≤ w.heap.size + 1; omega) _
  obtain ⟨W2,hcp,r2,hg2,hs2⟩:=ex_copy (P:=(patch shutL Tryz.prog)) (W1.setCell ⟨w.heap.size + 1,0,none⟩ (.slice (some ⟨w.heap.size + 1 + 1,0,none⟩) n n)).drew 22 71 _ 3 24 ((patch_underlying shutL Tryz.prog 22).trans Tryz.underlying22) Tryz.info22 (w.heap.size + 1 + 1) 0 n n (n * 3) f1 rr.drew ao b o n cap n (by simp) (cpuCell S N C) addr
    (fun j hj=>(hBw.cell (p:=⟨b,o + j,none⟩) (block_lt_of_cell (cpus.flat j hj))).trans (cpus.flat j hj)) (fun _ _=>rfl) (by omega)
  obtain ⟨p0,p0f⟩:=blk k0'
  obtain ⟨p1,p1f⟩:=blk k1'
  obtain ⟨s0,s0f⟩:=blk c0
  obtain ⟨s1,s1f⟩:=blk c1
  have d0:=(hg2.block w.heap.size (by simp; omega) (ne_some (by omega))).trans c0
  have d1:=(hg2.block (w.heap.size + 1) (by simp; omega) (ne_some (by omega))).trans c1
  have hBw2:Below w.heap.size w W2:=hBw.drew.grown hg2 (by simp; omega) (fun k hk=>by cases hk; omega)
  obtain ⟨t0,t0f⟩:=blk d0
  have hz2:W2.heap.size = w.heap.size + 1 + 1 + 1:=by rw [hs2]; simp; omega
  have HM:Hid (W2.rowIs (w.heap.size + 1 + 1) 71 (n * 3) (cpuCell S N C) ∧ Below w.heap.size w W2 ∧ W2.heap[w.heap.size + 1]? = some (.cells #[.slice (some ⟨w.heap.size + 1 + 1,0,none⟩) n n,.slice none 0 0,.int .i64 p,.slice none 0 0,.slice none 0 0,.slice none 0 0,.slice none 0 0] 126 (0,0)) ∧ IntAt w rb rp r R ∧ W2.heap.size = w.heap.size + 1 + 1 + 1) :=
    ⟨r2.congr (fun j hj=>by rw [if_pos ⟨Nat.zero_le _,by omega⟩]; rfl),hBw2,d1,ints,hz2⟩
  rw [hW0] at hmk1
  clear hW0 hs0 hB0 k0 k1 k0' k1' c0 c1 rr hBw d0 d1 hBw2 r1 r2 hg2 hB1 cpus ints addr hz2 hs1 hs2
  go_enter (pf Tryz.func30 (by rfl)),Tryz.ntmps30
  go_wp2_with (go_at_call 60; refine (boxed_none _).mono ?_; rintro e w' ⟨rfl,rfl⟩)
  go_region
  go_wp2_with fail
  refine (intsCopy_any ro rb rp r rcap R _ rmax raddr (HM.out.2.2.2.1.ext HM.out.2.1)).mono ?_
  rintro e w3 ⟨rfl,r3,hb3⟩
  have hz:=HM.out.2.2.2.2
  have d1:=(hb3.block (w.heap.size + 1) (by omega)).trans HM.out.2.2.1
  have d2:=blk_set (i:=1) (.slice (some ⟨W2.heap.size,0,none⟩) r r) d1
  simp only [List.setIfInBounds_toArray,List.set_cons_zero,List.set_cons_succ] at d2
  obtain ⟨q1,q1f⟩:=blk d1
  have HF:Hid ((w3.setCell ⟨w.heap.size + 1,1,none⟩ (.slice (some ⟨W2.heap.size,0,none⟩) r r)).rowIs W2.heap.size 3 r (fun j=>.int .i64 (R j)) ∧ Below w.heap.size w (w3.setCell ⟨w.heap.size + 1,1,none⟩ (.slice (some ⟨W2.heap.size,0,none⟩) r r)) ∧
      (w3.setCell ⟨w.heap.size + 1,1,none⟩ (.slice (some ⟨W2.heap.size,0,none⟩) r r)).rowIs (w.heap.size + 1 + 1) 71 (n * 3) (cpuCell S N C) ∧ W2.heap.size = w.heap.size + 1 + 1 + 1 ∧
      (w3.setCell ⟨w.heap.size + 1,1,none⟩ (.slice (some ⟨W2.heap.size,0,none⟩) r r)).heap[w.heap.size + 1]? = some (.cells #[.slice (some ⟨w.heap.size + 1 + 1,0,none⟩) n n,.slice (some ⟨W2.heap.size,0,none⟩) r r,.int .i64 p,.slice none 0 0,.slice none 0 0,.slice none 0 0,.slice none 0 0] 126 (0,0))) :=
    ⟨r3.setOther (by show W2.heap.size ≠ w.heap.size + 1; omega) _,(HM.out.2.1.trans (hb3.mono (by omega))).setCell (by show w.heap.size ≤ w.heap.size + 1; omega) _,(HM.out.1.of_block (hb3.block _ (by omega))).setOther (by show w.heap.size + 1 + 1 ≠ w.heap.size + 1; omega) _,hz,d2⟩
  clear r3 hb3 d1 d2 hz
  go_wp2_with fail
  go_ret
  obtain ⟨h1,h2,h3,h4,h5⟩:=HF.out
  exact ⟨w.heap.size + 1,w.heap.size + 1 + 1,W2.heap.size,rfl,⟨h5,h3,h1,by omega,by omega,by omega⟩,h2⟩
end Go.Proofs.YtojoafcnijajmaaGreatDoor.Z

namespace Go.Proofs.YtojoafcnijajmaaGreatDoor.Z
open Go.RowKit
attribute [local go_sem ↓] Go.wp_at_zero Go.wp_at_succ
attribute [local go_sem] After.cell After.frozen After.const
theorem WorldIs.of_below {w w':World} {base ww c q:Nat} {m:Mach} (h:WorldIs w base ww c q m) (hb:Below w.heap.size w w'):WorldIs w' base ww c q m :=
  ⟨(hb.block ww (Array.getElem?_eq_some_iff.1 h.blk).1).trans h.blk,h.cpus.of_block (hb.block _ h.cpus.lt),h.res.of_block (hb.block _ h.res.lt),h.base⟩
end Go.Proofs.YtojoafcnijajmaaGreatDoor.Z

namespace Go.Proofs.YtojoafcnijajmaaGreatDoor.Z
open Go.RowKit
attribute [local go_sem ↓] Go.wp_at_zero Go.wp_at_succ
theorem kept_boxes {c c':Nat → Nat} {w w':World} {g n:Nat} {G G':Nat → Value} {Li Lb Lo:List (Value × Nat)} {ws:List GW} {Eb Eo Eb':List (Value × Value)} (hs:St c w g G n Li Lb Lo) (hw:Wt c w G ws Eb Eo) (hr:w'.rowIs g 67 24 G') (hc:c' g = 1) (hG:∀ j,j ≠ 20 → j ≠ 21 → G' j = G j)
    (hE:WaitE 10 11 100 99 158 5 c' w' (G' 20) (G' 21) Eb') (t:Turn (fun z=>z = 1 ∨ z = 10 ∨ z = 11) c w c' w'):St c' w' g G' n Li Lb Lo ∧ Wt c' w' G' ws Eb' Eo:=by
  refine ⟨⟨hr,hc,t.top,(hG 14 (by omega) (by omega)).trans hs.cnt,?_,?_,?_⟩,⟨?_,hE,?_⟩⟩
  · rw [hG 11 (by omega) (by omega),hG 15 (by omega) (by omega)]; exact hs.ints.turn t (by omega) (by omega) (by omega)
  · rw [hG 12 (by omega) (by omega),hG 16 (by omega) (by omega)]; exact hs.boxes.turn t (by omega) (by omega) (by omega)
  · rw [hG 13 (by omega) (by omega),hG 17 (by omega) (by omega)]; exact hs.ops.turn t (by omega) (by omega) (by omega)
  · rw [hG 18 (by omega) (by omega),hG 19 (by omega) (by omega)]; exact hw.g.turn t (by omega) (by omega) (by omega) (by omega)
  · rw [hG 22 (by omega) (by omega),hG 23 (by omega) (by omega)]; exact hw.o.turn t (by omega) (by omega) (by omega)
theorem kept_grant {c c':Nat → Nat} {w w':World} {g n:Nat} {G G':Nat → Value} {Li Lb Lo:List (Value × Nat)} {ws ws':List GW} {Eb Eo:List (Value × Value)} (hs:St c w g G n Li Lb Lo) (hw:Wt c w G ws Eb Eo) (hr:w'.rowIs g 67 24 G') (hc:c' g = 1) (hG:∀ j,j ≠ 18 → j ≠ 19 → G' j = G j)
    (hE:WaitG c' w' (G' 18) (G' 19) ws') (t:Turn (fun z=>z = 1 ∨ z = 8 ∨ z = 9) c w c' w'):St c' w' g G' n Li Lb Lo ∧ Wt c' w' G' ws' Eb Eo:=by
  refine ⟨⟨hr,hc,t.top,(hG 14 (by omega) (by omega)).trans hs.cnt,?_,?_,?_⟩,⟨hE,?_,?_⟩⟩
  · rw [hG 11 (by omega) (by omega),hG 15 (by omega) (by omega)]; exact hs.ints.turn t (by omega) (by omega) (by omega)
  · rw [hG 12 (by omega) (by omega),hG 16 (by omega) (by omega)]; exact hs.boxes.turn t (by omega) (by omega) (by omega)
  · rw [hG 13 (by omega) (by omega),hG 17 (by omega) (by omega)]; exact hs.ops.turn t (by omega) (by omega) (by omega)
  · rw [hG 20 (by omega) (by omega),hG 21 (by omega) (by omega)]; exact hw.b.turn t (by omega) (by omega) (by omega)
  · rw [hG 22 (by omega) (by omega),hG 23 (by omega) (by omega)]; exact hw.o.turn t (by omega) (by omega) (by omega)
structure Two (c:Nat → Nat) (w:World) (base bb ww cw qw:Nat) (m:Mach) (vc vr:Value):Prop where
  berth:BerthIs w base bb m vc vr
  world:WorldIs w base ww cw qw m
  cb:c bb = 0
  cvc:∀ b,vc.ownBlock = some b → c b = 0
  cvr:∀ b,vr.ownBlock = some b → c b = 0
  cww:c ww = 0
  ccw:c cw = 0
  cqw:c qw = 0
theorem berthIs_cells {w:World} {base bb:Nat} {m:Mach} {vc vr:Value} (h:BerthIs w base bb m vc vr):w.cell? ⟨bb,6,none⟩ = some (.slice none 0 0) ∧ w.cell? ⟨bb,7,none⟩ = some (.slice none 0 0):=by
  have hb:=h.blk
  unfold newB at hb
  obtain ⟨z,_⟩:=blk hb
  exact ⟨z 6,z 7⟩
theorem Two.turn {S:Nat → Prop} {c c':Nat → Nat} {w w':World} {base bb ww cw qw:Nat} {m:Mach} {vc vr:Value} (h:Two c w base bb ww cw qw m vc vr) (t:Turn S c w c' w') (h0:¬ S 0):Two c' w' base bb ww cw qw m vc vr:=by
  have k:∀ b,b < w.heap.size → c b = 0 → w'.heap[b]? = w.heap[b]? ∧ c' b = 0:=fun b hb hc=>by
    obtain ⟨k1,k2⟩:=t.keep b hb (by rw [hc]; exact h0)
    exact ⟨k1,k2.trans hc⟩
  have lb:bb < w.heap.size:=(Array.getElem?_eq_some_iff.1 h.berth.blk).1
  have lw:ww < w.heap.size:=(Array.getElem?_eq_some_iff.1 h.world.blk).1
  refine ⟨⟨(k bb lb h.cb).1.trans h.berth.blk,?_,?_,h.berth.base,h.berth.fcpu.of_block fun b hb=>(k b (h.berth.cpus.lt b hb).2 (h.cvc b hb)).1,h.berth.fres.of_block fun b hb=>(k b (h.berth.res.lt b hb).2 (h.cvr b hb)).1⟩,⟨(k ww lw h.cww).1.trans h.world.blk,h.world.cpus.of_block (k cw h.world.cpus.lt h.ccw).1,h.world.res.of_block (k qw h.world.res.lt h.cqw).1,h.world.base⟩,(k bb lb h.cb).2,?_,?_,(k ww lw h.cww).2,(k cw h.world.cpus.lt h.ccw).2,(k qw h.world.res.lt h.cqw).2⟩
  · have hb:∀ b,vc.ownBlock = some b → w'.heap[b]? = w.heap[b]?:=fun b hb=>(k b (h.berth.cpus.lt b hb).2 (h.cvc b hb)).1
    refine ⟨h.berth.cpus.1,?_⟩
    rcases h.berth.cpus.2 with h2 | ⟨g,cap,cur,hv,hg,hh,r⟩
    · exact .inl h2
    · exact .inr ⟨g,cap,cur,hv,hg,by rw [hb g (by rw [hv]; rfl)]; exact hh,r⟩
  · have hb:∀ b,vr.ownBlock = some b → w'.heap[b]? = w.heap[b]?:=fun b hb=>(k b (h.berth.res.lt b hb).2 (h.cvr b hb)).1
    refine ⟨h.berth.res.1,?_⟩
    rcases h.berth.res.2 with h2 | ⟨g,cap,cur,hv,hg,hh,r⟩
    · exact .inl h2
    · exact .inr ⟨g,cap,cur,hv,hg,by rw [hb g (by rw [hv]; rfl)]; exact hh,r⟩
  · exact fun b hb=>(k b (h.berth.cpus.lt b hb).2 (h.cvc b hb)).2
  · exact fun b hb=>(k b (h.berth.res.lt b hb).2 (h.cvr b hb)).2
theorem own_type {w:World} {base:Nat} {e e':TypeId} {size:Nat} {v:Value} {n:Nat} {xs:List Value} {b:Nat} {cs:Array Value} {fr:Nat × Nat} (h:w.ownsRow base e size v n xs) (hb:w.heap[b]? = some (.cells cs e' fr)) (hne:e ≠ e'):v.ownBlock ≠ some b:=by
  intro ho
  rcases h.2 with ⟨rfl,_⟩ | ⟨g,cap,cur,rfl,_,hg,_⟩
  · cases ho
  · have:g = b:=Option.some.inj ho
    subst this
    rw [hg] at hb
    injection hb with hb
    injection hb with _ h2 _
    exact hne h2
theorem St.turn {S:Nat → Prop} {c c':Nat → Nat} {w w':World} {g:Nat} {G:Nat → Value} {n:Nat} {Li Lb Lo:List (Value × Nat)} (h:St c w g G n Li Lb Lo) (t:Turn S c w c' w') (hS:∀ z,1 ≤ z → z ≤ 14 → ¬ S z):St c' w' g G n Li Lb Lo:=by
  have k:=t.keep g h.row.lt (by rw [h.col]; exact hS 1 (by omega) (by omega))
  exact ⟨h.row.of_block k.1,k.2.trans h.col,t.top,h.cnt,h.ints.turn t (hS _ (by omega) (by omega)) (hS _ (by omega) (by omega)) (hS _ (by omega) (by omega)),h.boxes.turn t (hS _ (by omega) (by omega)) (hS _ (by omega) (by omega)) (hS _ (by omega) (by omega)),h.ops.turn t (hS _ (by omega) (by omega)) (hS _ (by omega) (by omega)) (hS _ (by omega) (by omega))⟩
theorem Turn.blk0 {S:Nat → Prop} {c c':Nat → Nat} {w w':World} {k:Nat} {o:Obj} (t:Turn S c w c' w') (h0:¬ S 0) (hc:c k = 0) (hk:w.heap[k]? = some o):c' k = 0 ∧ w'.heap[k]? = some o:=by
  have q:=t.keep k (Array.getElem?_eq_some_iff.1 hk).1 (by rw [hc]; exact h0)
  exact ⟨q.2.trans hc,q.1.trans hk⟩
end Go.Proofs.YtojoafcnijajmaaGreatDoor.Z

namespace Go.Proofs.YtojoafcnijajmaaGreatDoor.Z
open Go.RowKit
def devCell (D:BD) (k j:Nat):Value:=if j % 2 = 0 then .int .i64 (D.dN k (j / 2)) else .bool (D.dH k (j / 2))
def devL (D:BD) (k:Nat):List Value:=(List.range (D.dn k * 2)).map (devCell D k)
theorem devL_get {D:BD} {k j:Nat} (h:j < D.dn k * 2):(devL D k)[j]? = some (devCell D k j):=by simp [devL,h]
theorem devL_length (D:BD) (k:Nat):(devL D k).length = D.dn k * 2:=by simp [devL]
theorem devCell_0 (D:BD) (k i:Nat):devCell D k (2 * i) = .int .i64 (D.dN k i):=by unfold devCell; rw [if_pos (by omega),show 2 * i / 2 = i by omega]
theorem devCell_1 (D:BD) (k i:Nat):devCell D k (2 * i + 1) = .bool (D.dH k i):=by unfold devCell; rw [if_neg (by omega),show (2 * i + 1) / 2 = i by omega]
def bdC (vc vr:Value) (p:Int) (d:Nat → Value):Array Value:=#[vc,vr,.int .i64 p,d 0,d 1,d 2,.slice none 0 0,.slice none 0 0,.bool false,.int .i64 0]
def wdC (cw qw:Nat) (m:Mach) (e:Nat → Value):Array Value:=#[.slice (some ⟨cw,0,none⟩) m.n m.n,.slice (some ⟨qw,0,none⟩) m.r m.r,.int .i64 m.p,e 0,e 1,e 2,.slice none 0 0]
structure BSide (w:World) (base bb:Nat) (m:Mach) (vc vr:Value) (D:BD) (d:Nat → Value) (K:Nat → Nat):Prop where
  blk:w.heap[bb]? = some (.cells (bdC vc vr m.p d) 103 (0,0))
  cpus:w.ownsRow base 71 3 vc m.n (cpuL m)
  res:w.ownsRow base 3 1 vr m.r (resL m)
  devs:∀ k,k < 3 → w.ownsRow base 80 2 (d k) (D.dn k) (devL D k)
  fcpu:Flat w vc
  fres:Flat w vr
  fdev:∀ k,k < 3 → Flat w (d k)
  tb:K bb = 1
  tc:∀ b,vc.ownBlock = some b → K b = 2
  tr:∀ b,vr.ownBlock = some b → K b = 3
  td:∀ k,k < 3 → ∀ b,(d k).ownBlock = some b → K b = 4 + k
  base:base ≤ bb
  same:D.n = m.n ∧ D.N = m.N ∧ D.r = m.r ∧ D.R = m.R
  ok:D.ok
structure WSide (w:World) (base ww cw qw:Nat) (m:Mach) (D:BD) (e:Nat → Value) (K:Nat → Nat):Prop where
  blk:w.heap[ww]? = some (.cells (wdC cw qw m e) 126 (0,0))
  cpus:w.rowIs cw 71 (m.n * 3) (cpuCell m.S m.N m.C)
  res:w.rowIs qw 3 m.r (fun j=>.int .i64 (m.R j))
  devs:∀ k,k < 3 → w.ownsRow base 80 2 (e k) (D.dn k) (devL D k)
  tw:K ww = 8
  tc:K cw = 9
  tr:K qw = 10
  td:∀ k,k < 3 → ∀ b,(e k).ownBlock = some b → K b = 11 + k
  base:base ≤ ww ∧ base ≤ cw ∧ base ≤ qw
  same:D.n = m.n ∧ D.N = m.N ∧ D.r = m.r ∧ D.R = m.R
  ok:D.ok
def Own (c:Nat → Nat) (w:World) (base:Nat) (K:Nat → Nat):Prop:=∀ b,K b ≠ 0 → c b = 0 ∧ base ≤ b ∧ b < w.heap.size
section
variable {w w':World} {base bb ww cw qw:Nat} {m:Mach} {vc vr:Value} {D:BD} {d e:Nat → Value} {K:Nat → Nat}
theorem BSide.keep (h:BSide w base bb m vc vr D d K) (hk:∀ b,b < w.heap.size → 1 ≤ K b → K b ≤ 7 → w'.heap[b]? = w.heap[b]?):BSide w' base bb m vc vr D d K:=by
  have kc:∀ b,vc.ownBlock = some b → w'.heap[b]? = w.heap[b]?:=fun b hb=>hk b (h.cpus.lt b hb).2 (by rw [h.tc b hb]; omega) (by rw [h.tc b hb]; omega)
  have kr:∀ b,vr.ownBlock = some b → w'.heap[b]? = w.heap[b]?:=fun b hb=>hk b (h.res.lt b hb).2 (by rw [h.tr b hb]; omega) (by rw [h.tr b hb]; omega)
  have kd:∀ k,k < 3 → ∀ b,(d k).ownBlock = some b → w'.heap[b]? = w.heap[b]?:=fun k hk3 b hb=>hk b ((h.devs k hk3).lt b hb).2 (by rw [h.td k hk3 b hb]; omega) (by rw [h.td k hk3 b hb]; omega)
  exact ⟨(hk bb (Array.getElem?_eq_some_iff.1 h.blk).1 (by rw [h.tb]; omega) (by rw [h.tb]; omega)).trans h.blk,ownsRow_of_block h.cpus kc,ownsRow_of_block h.res kr,fun k hk3=>ownsRow_of_block (h.devs k hk3) (kd k hk3),h.fcpu.of_block kc,h.fres.of_block kr,fun k hk3=>(h.fdev k hk3).of_block (kd k hk3),h.tb,h.tc,h.tr,h.td,h.base,h.same,h.ok⟩
theorem WSide.keep (h:WSide w base ww cw qw m D e K) (hk:∀ b,b < w.heap.size → 8 ≤ K b → w'.heap[b]? = w.heap[b]?):WSide w' base ww cw qw m D e K:=by
  have kd:∀ k,k < 3 → ∀ b,(e k).ownBlock = some b → w'.heap[b]? = w.heap[b]?:=fun k hk3 b hb=>hk b ((h.devs k hk3).lt b hb).2 (by rw [h.td k hk3 b hb]; omega)
  exact ⟨(hk ww (Array.getElem?_eq_some_iff.1 h.blk).1 (by rw [h.tw]; omega)).trans h.blk,h.cpus.of_block (hk cw h.cpus.lt (by rw [h.tc]; omega)),h.res.of_block (hk qw h.res.lt (by rw [h.tr]; omega)),fun k hk3=>ownsRow_of_block (h.devs k hk3) (kd k hk3),h.tw,h.tc,h.tr,h.td,h.base,h.same,h.ok⟩
theorem BSide.below (h:BSide w base bb m vc vr D d K) (hb:Below w.heap.size w w'):BSide w' base bb m vc vr D d K:=h.keep fun b hl _ _=>hb.block b hl
theorem WSide.below (h:WSide w base ww cw qw m D e K) (hb:Below w.heap.size w w'):WSide w' base ww cw qw m D e K:=h.keep fun b hl _=>hb.block b hl
theorem Own.turn {S:Nat → Prop} {c c':Nat → Nat} (h:Own c w base K) (t:Turn S c w c' w') (h0:¬ S 0):Own c' w' base K ∧ ∀ b,K b ≠ 0 → w'.heap[b]? = w.heap[b]?:=by
  have k:∀ b,K b ≠ 0 → w'.heap[b]? = w.heap[b]? ∧ c' b = c b:=fun b hb=>t.keep b (h b hb).2.2 (by rw [(h b hb).1]; exact h0)
  exact ⟨fun b hb=>⟨(k b hb).2.trans (h b hb).1,(h b hb).2.1,Nat.lt_of_lt_of_le (h b hb).2.2 t.size⟩,fun b hb=>(k b hb).1⟩
theorem BSide.turn {S:Nat → Prop} {c c':Nat → Nat} (h:BSide w base bb m vc vr D d K) (ho:Own c w base K) (t:Turn S c w c' w') (h0:¬ S 0):BSide w' base bb m vc vr D d K:=h.keep fun b _ h1 _=>(ho.turn t h0).2 b (by omega)
theorem WSide.turn {S:Nat → Prop} {c c':Nat → Nat} (h:WSide w base ww cw qw m D e K) (ho:Own c w base K) (t:Turn S c w c' w') (h0:¬ S 0):WSide w' base ww cw qw m D e K:=h.keep fun b _ h1=>(ho.turn t h0).2 b (by omega)
theorem own_list {ty sz:Nat} {v:Value} {n:Nat} {vs:List Value} (h:w.ownsRow base ty sz v n vs):∃ ao cap,v = .slice ao n cap ∧ n ≤ cap ∧ cap ≤ maxLen ∧ (0 < n → ∃ g,ao = some ⟨g,0,none⟩ ∧ g < w.heap.size ∧ base ≤ g ∧ ∀ j,j < n * sz → w.cell? ⟨g,j,none⟩ = vs[j]?):=by
  rcases h.2 with ⟨rfl,h0⟩ | ⟨g,cap,cur,rfl,hh,hg,hk,hc,hs,ht⟩
  · rw [h0]; exact ⟨none,0,rfl,Nat.le_refl _,by unfold maxLen; omega,fun h=>absurd h (Nat.lt_irrefl _)⟩
  · refine ⟨_,cap,rfl,hk,hc,fun _=>⟨g,rfl,(Array.getElem?_eq_some_iff.1 hg).1,hh,fun j hj=>?_⟩⟩
    rw [cell_of_row w g j cur _ (0,0) hg,← ht,List.getElem?_take,if_pos hj]
    simp
theorem cpuL_cell (m:Mach) {j:Nat} (h:j < m.n * 3):(cpuL m)[j]? = some (cpuCell m.S m.N m.C j):=by simp [cpuL,h]
theorem resL_cell (m:Mach) {j:Nat} (h:j < m.r):(resL m)[j]? = some (.int .i64 (m.R j)):=by simp [resL,h]
theorem BSide.cell (h:BSide w base bb m vc vr D d K):∀ j,w.cell? ⟨bb,j,none⟩ = (bdC vc vr m.p d)[j]?:=fun j=>by rw [cell_of_row w bb j _ _ (0,0) h.blk]
theorem BSide.devs_cell (h:BSide w base bb m vc vr D d K) {k:Nat} (hk:k < 3):w.cell? ⟨bb,3 + k,none⟩ = some (d k):=by
  rw [h.cell]
  obtain rfl | rfl | rfl:k = 0 ∨ k = 1 ∨ k = 2:=by omega
  all_goals rfl
theorem BSide.few (h:BSide w base bb m vc vr D d K):m.n ≤ 24 ∧ m.r ≤ 24 ∧ ∀ k,k < 3 → D.dn k ≤ 16:=⟨by have:=h.ok.few; rw [h.same.1] at this; exact this,by have:=h.ok.res; rw [h.same.2.2.1] at this; exact this,fun k hk=>(h.ok.devs k hk).1⟩
theorem BSide.berthC (h:BSide w base bb m vc vr D d K):BerthC w bb D:=by
  obtain ⟨s1,s2,s3,s4⟩:=h.same
  obtain ⟨f1,f2,f3⟩:=h.few
  refine ⟨⟨vc,h.cell 0,?_⟩,⟨vr,h.cell 1,?_⟩,⟨m.p,h.cell 2⟩,fun k hk=>⟨d k,h.devs_cell hk,?_⟩,h.cell 6⟩
  · obtain ⟨ao,cap,rfl,h1,_,h3⟩:=own_list h.cpus
    rw [s1]
    refine ⟨ao,cap,rfl,h1,by omega,fun hn=>?_⟩
    obtain ⟨g,rfl,_,_,hc⟩:=h3 hn
    refine ⟨g,0,rfl,fun i hi=>?_⟩
    rw [s1] at hi
    rw [Nat.zero_add,hc _ (by omega),cpuL_cell m (by omega),Nat.mul_comm 3 i,cpuCell_1,s2]
  · obtain ⟨ao,cap,rfl,h1,_,h3⟩:=own_list h.res
    rw [s3]
    refine ⟨ao,cap,rfl,h1,by omega,fun hn=>?_⟩
    obtain ⟨g,rfl,_,_,hc⟩:=h3 hn
    refine ⟨g,0,rfl,fun i hi=>?_⟩
    rw [s3] at hi
    rw [Nat.zero_add,hc _ (by omega),resL_cell m hi,s4]
  · obtain ⟨ao,cap,e1,h1,_,h3⟩:=own_list (h.devs k hk)
    rw [e1]
    refine ⟨ao,cap,rfl,h1,by have:=f3 k hk; omega,fun hn=>?_⟩
    obtain ⟨g,rfl,_,_,hc⟩:=h3 hn
    refine ⟨g,0,rfl,fun i hi=>?_⟩
    rw [Nat.zero_add,hc _ (by omega),hc _ (by omega),devL_get (by omega),devL_get (by omega),devCell_0,devCell_1]
    exact ⟨rfl,rfl⟩
def zB (bb:Nat) (vc vr:Value) (d:Nat → Value) (b:Nat):Prop:=b = bb ∨ vc.ownBlock = some b ∨ vr.ownBlock = some b ∨ ∃ k,k < 3 ∧ (d k).ownBlock = some b
theorem simple_nb {Z:Nat → Prop} {v:Value} (h:NB v):simpleV Z v:=by
  rcases h with ⟨k,n,rfl⟩ | ⟨b,rfl⟩ <;> trivial
theorem simple_own {ty sz:Nat} {Z:Nat → Prop} {v:Value} {n:Nat} {vs:List Value} (h:w.ownsRow base ty sz v n vs) (hz:∀ b,v.ownBlock = some b → Z b):simpleV Z v:=by
  obtain ⟨ao,cap,rfl,_⟩:=own_list h
  cases ao with
  | none=>trivial
  | some a=>exact hz a.block rfl
theorem flat_closed {Z:Nat → Prop} {v:Value} {b:Nat} (h:Flat w v) (hb:v.ownBlock = some b):∃ xs e,w.heap[b]? = some (.cells xs e) ∧ ∀ v ∈ xs.toList,simpleV Z v:=by
  obtain ⟨cur,e,h1,h2⟩:=h b hb
  exact ⟨cur,e,h1,fun v hv=>simple_nb (h2 v hv)⟩
theorem BSide.closed (h:BSide w base bb m vc vr D d K):Closed w (zB bb vc vr d):=by
  intro b hz
  rcases hz with rfl | hb | hb | ⟨k,hk,hb⟩
  · refine ⟨_,_,h.blk,fun v hv=>?_⟩
    simp only [bdC,List.mem_cons,List.not_mem_nil,or_false] at hv
    rcases hv with rfl | rfl | rfl | rfl | rfl | rfl | rfl | rfl | rfl | rfl
    · exact simple_own h.cpus fun b hb=>.inr (.inl hb)
    · exact simple_own h.res fun b hb=>.inr (.inr (.inl hb))
    · trivial
    · exact simple_own (h.devs 0 (by omega)) fun b hb=>.inr (.inr (.inr ⟨0,by omega,hb⟩))
    · exact simple_own (h.devs 1 (by omega)) fun b hb=>.inr (.inr (.inr ⟨1,by omega,hb⟩))
    · exact simple_own (h.devs 2 (by omega)) fun b hb=>.inr (.inr (.inr ⟨2,by omega,hb⟩))
    all_goals trivial
  · exact flat_closed h.fcpu hb
  · exact flat_closed h.fres hb
  · exact flat_closed (h.fdev k hk) hb
end
end Go.Proofs.YtojoafcnijajmaaGreatDoor.Z

namespace Go.Proofs.YtojoafcnijajmaaGreatDoor.Z
open Go.RowKit
attribute [local go_sem ↓] Go.wp_at_zero Go.wp_at_succ
attribute [local go_sem] After.cell After.frozen After.const
theorem lies_bits (m k:Nat) (h:m < 16) (hk:k < 4):(bits BinOp.and IntKind.i64 ((m:Int) / 2 ^ k) 1 == 1) = has m k:=by
  have key:(List.range 4).all (fun k=>(List.range 16).all fun m=>(bits BinOp.and IntKind.i64 ((m:Int) / 2 ^ k) 1 == 1) == has m k) = true:=by kernel_rfl
  have h1:=List.all_eq_true.1 key k (List.mem_range.2 hk)
  have h2:=List.all_eq_true.1 h1 m (List.mem_range.2 h)
  exact eq_of_beq h2
set_option maxRecDepth 100000 in
set_option maxHeartbeats 4000000 in
theorem lies_any (m k:Nat) (h:m < 16) (hk:k < 4) (w:World):Calls (patch shutL Tryz.prog) 145 #[.int .i64 k,.int .i64 m] w fun e w'=>e = .returned (.bool (has m k)) ∧ w' = w:=by
  go_enter (pf Tryz.func145 (by rfl)),Tryz.ntmps145
  go_wp2_with fail
  go_ret
  exact ⟨by rw [lies_bits m k h hk]; rfl,rfl⟩
set_option maxRecDepth 100000 in
set_option maxHeartbeats 4000000 in
theorem widthR_any (m:Nat) (h:m < 16) (w:World):Calls (patch shutL Tryz.prog) 77 #[.int .i64 m] w fun e w'=>e = .returned (.int .i64 (pop m)) ∧ w' = w:=by
  have e:=fun k hk=>lies_any m k h hk w
  have hpop:(pop m:Int) = ((if has m 0 then 1 else 0) + (if has m 1 then 1 else 0) + (if has m 2 then 1 else 0) + (if has m 3 then 1 else 0):Int):=by
    have key:(List.range 16).all (fun m=>((pop m:Nat):Int) == ((if has m 0 then 1 else 0) + (if has m 1 then 1 else 0) + (if has m 2 then 1 else 0) + (if has m 3 then 1 else 0):Int)) = true:=by kernel_rfl
    exact eq_of_beq (List.all_eq_true.1 key m (List.mem_range.2 h))
  have e0:=e 0 (by omega)
  have e1:=e 1 (by omega)
  have e2:=e 2 (by omega)
  have e3:=e 3 (by omega)
  rw [hpop]
  clear e hpop
  generalize has m 0 = b0 at e0 ⊢
  generalize has m 1 = b1 at e1 ⊢
  generalize has m 2 = b2 at e2 ⊢
  generalize has m 3 = b3 at e3 ⊢
  have HE:Hid (_ ∧ _ ∧ _ ∧ _):=⟨e0,e1,e2,e3⟩
  clear e0 e1 e2 e3
  cases b0 <;> cases b1 <;> cases b2 <;> cases b3
  all_goals (
    go_enter (pf Tryz.func77 (by rfl)),Tryz.ntmps77
    go_wp2_with fail
    refine wp_loop_rounds 5 ?_
    rw [rounds_succ]
    go_wp2_with (go_at_call 145; refine HE.out.1.mono ?_; rintro e w1 ⟨he,hw⟩; obtain rfl:=he; obtain rfl:=hw.symm)
    rw [rounds_succ]
    go_wp2_with (go_at_call 145; refine HE.out.2.1.mono ?_; rintro e w1 ⟨he,hw⟩; obtain rfl:=he; obtain rfl:=hw.symm)
    rw [rounds_succ]
    go_wp2_with (go_at_call 145; refine HE.out.2.2.1.mono ?_; rintro e w1 ⟨he,hw⟩; obtain rfl:=he; obtain rfl:=hw.symm)
    rw [rounds_succ]
    go_wp2_with (go_at_call 145; refine HE.out.2.2.2.mono ?_; rintro e w1 ⟨he,hw⟩; obtain rfl:=he; obtain rfl:=hw.symm)
    rw [rounds_succ]
    go_wp2_with fail
    go_ret
    exact ⟨by simp,rfl⟩)
end Go.Proofs.YtojoafcnijajmaaGreatDoor.Z
