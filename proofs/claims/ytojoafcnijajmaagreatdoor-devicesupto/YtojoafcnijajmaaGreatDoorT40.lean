/- Part 40 of the proof that Devices answers true and leaves its input as it was, for input of bulk at most the bound of its row: ZF8 ZF6 ZF7. -/
import Derived.Test.YtojoafcnijajmaaGreatDoorT8
import Derived.Test.YtojoafcnijajmaaGreatDoorT36
import Derived.Test.YtojoafcnijajmaaGreatDoorT37
import Derived.Test.YtojoafcnijajmaaGreatDoorT38
import Derived.Test.YtojoafcnijajmaaGreatDoorT28
namespace Go.Proofs.YtojoafcnijajmaaGreatDoor.Z
open Go.RowKit
attribute [local go_sem ↓] Go.wp_at_zero Go.wp_at_succ
set_option maxRecDepth 100000 in
set_option maxHeartbeats 4000000 in
theorem looksFew_any (g:Nat) (G:Nat → Value) (c:Nat → Nat) (w:World) (n:Nat) (Li Lb Lo:List (Value × Nat)) (ws:List GW) (Eb Eo:List (Value × Value)) (hs:St c w g G n Li Lb Lo) (hw:Wt c w G ws Eb Eo)
    (hi:Li.length ≤ 100000000000) (hb:Lb.length ≤ 100000000000) (ho:Lo.length ≤ 100000000000) (hm:¬ 7 < ws.length + Eb.length + Eo.length) :
    Calls (patch shutL Tryz.prog) 16 #[.pointer (some ⟨g,11,none⟩)] w fun e w'=>e = .returned (.bool true) ∧ Below w.heap.size w w':=by
  have H0:Hid (St c w g G n Li Lb Lo ∧ Wt c w G ws Eb Eo):=⟨hs,hw⟩
  obtain ⟨a1,c1,e1⟩:=ownsRow_shape hw.g.rows.1
  obtain ⟨a3,c3,e3⟩:=ownsRow_shape hw.b.rows.1
  obtain ⟨a5,c5,e5⟩:=ownsRow_shape hw.o.rows.1
  have g18:=hs.row.cell (i:=18) (by omega)
  have g20:=hs.row.cell (i:=20) (by omega)
  have g22:=hs.row.cell (i:=22) (by omega)
  rw [e1] at g18
  rw [e3] at g20
  rw [e5] at g22
  have hsum:¬ (7:Int) < (ws.length:Int) + Eb.length + Eo.length:=by omega
  have hlt:=Hid.in (show ws.length ≤ 7 ∧ Eb.length ≤ 7 ∧ Eo.length ≤ 7 from ⟨by omega,by omega,by omega⟩)
  clear hs hw e1 e3 e5 hm
  go_enter (pf Tryz.func16 (by rfl)),Tryz.ntmps16
  go_wp2_with fail
  go_quiet (fail)
  have hB:∀ W,Below w.heap.size w W → St c W g G n Li Lb Lo ∧ Wt c W G ws Eb Eo:=fun W hW=>⟨H0.out.1.below hW,H0.out.2.turn ((Turn.refl H0.out.1.top).below hW) (fun _ _ h=>h)⟩
  have HB:=Hid.in hB
  clear hB
  have hd:∀ k,Below w.heap.size w (w.drewN k):=fun k=>(Below.refl _ _).drewN k
  have HDD:=Hid.in hd
  clear hd
  go_wp2_with (first
    | (go_at_call 43; refine (waits_any g G c _ ws Eb Eo (HB.out _ (HDD.out _)).1.row (HB.out _ (HDD.out _)).2.g (HB.out _ (HDD.out _)).2.b (HB.out _ (HDD.out _)).2.o (by have:=hlt.out; omega) (by have:=hlt.out; omega) (by have:=hlt.out; omega)).mono ?_; rintro e w1 ⟨rfl,hb1⟩; have H1:=Hid.in (ext_trans (HDD.out _) hb1); clear hb1)
    | (go_at_call 44; refine (reads_any g G c _ Li Lb Lo (HB.out _ H1.out).1.row (HB.out _ H1.out).1.ints (HB.out _ H1.out).1.boxes (HB.out _ H1.out).1.ops (by omega) (by omega) (by omega)).mono ?_; rintro e w2 ⟨rfl,hb2⟩; have H2:=Hid.in (ext_trans H1.out hb2); clear hb2))
  go_ret
  exact ⟨rfl,H2.out⟩
structure Lk (c:Nat → Nat) (w:World) (g:Nat) (G:Nat → Value) (n:Nat) (li lb lo:Nat) (w0:World) (c0:Nat → Nat):Prop where
  ex:∃ n' Li Lb Lo ws Eb Eo,St c w g G n' Li Lb Lo ∧ Wt c w G ws Eb Eo ∧ n' ≤ n ∧ Li.length ≤ li ∧ Lb.length ≤ lb ∧ Lo.length ≤ lo ∧ ws.length + Eb.length + Eo.length ≤ 7
  turn:Turn (fun z=>z ≠ 0 ∧ z ≠ 14) c0 w0 c w
theorem looksB_any (g:Nat) (G:Nat → Value) (c:Nat → Nat) (w:World) (n:Nat) (Li Lb Lo:List (Value × Nat)) (ws:List GW) (Eb Eo:List (Value × Value)) (hs:St c w g G n Li Lb Lo) (hw:Wt c w G ws Eb Eo)
    (h1:ws.length + Eb.length + Eo.length ≤ 20) (hn:n ≤ 100000000000) (hi:Li.length ≤ 100000000000) (hb:Lb.length ≤ 100000000000) (ho:Lo.length ≤ 100000000000) :
    Calls (patch shutL Tryz.prog) 16 #[.pointer (some ⟨g,11,none⟩)] w fun e w'=>e = .returned (.bool true) ∧ ∃ c' G',Lk c' w' g G' (n + 80) (Li.length + 320) (Lb.length + 80) (Lo.length + 80) w c ∧ (∀ j,j < 11 → G' j = G j):=by
  by_cases hm:7 < ws.length + Eb.length + Eo.length
  · refine (looksMany_any g G c w n Li Lb Lo ws Eb Eo hs hw (by omega) (by omega) (by omega) hn hi hb ho hm).mono ?_
    rintro e w' ⟨he,c',G',Li',Lb',Lo',k1,k2,k3,k4,k5,k6,k7⟩
    exact ⟨he,c',G',⟨⟨_,Li',Lb',Lo',[],[],[],k1,k2,by omega,by omega,by omega,by omega,by simp⟩,k7⟩,k3⟩
  · refine (looksFew_any g G c w n Li Lb Lo ws Eb Eo hs hw hi hb ho hm).mono ?_
    rintro e w' ⟨he,hB⟩
    have t:Turn (fun _=>False) c w c w':=(Turn.refl hs.top).below hB
    exact ⟨he,c,G,⟨⟨n,Li,Lb,Lo,ws,Eb,Eo,hs.below hB,hw.turn t (fun _ _ h=>h),by omega,by omega,by omega,by omega,by omega⟩,t.mono (fun _ h=>h.elim)⟩,fun _ _=>rfl⟩
end Go.Proofs.YtojoafcnijajmaaGreatDoor.Z

namespace Go.Proofs.YtojoafcnijajmaaGreatDoor.Z
open Go.RowKit
attribute [local go_sem ↓] Go.wp_at_zero Go.wp_at_succ
attribute [local go_sem] After.cell After.frozen After.const
def upV (V:Nat → Value) (k:Nat) (v:Value) (q:Nat):Value:=if q = k then v else V q
def gC (V:Nat → Value):Array Value:=#[V 0,V 1,V 2,V 3]
def nilV (_:Nat):Value:=.slice none 0 0
theorem gC_up (V:Nat → Value) (v:Value) {k:Nat} (hk:k < 4):(gC V).setIfInBounds k v = gC (upV V k v):=by
  obtain rfl | rfl | rfl | rfl:k = 0 ∨ k = 1 ∨ k = 2 ∨ k = 3:=by omega
  all_goals rfl
structure FS (D:BD) (w W:World) (z a k:Nat) (V:Nat → Value):Prop where
  below:Below w.heap.size w W
  hz:W.heap[z]? = some (.cells (gC nilV) 44 (0,0))
  ha:W.heap[a]? = some (.cells (gC V) 44 (0,0))
  za:w.heap.size ≤ z ∧ w.heap.size ≤ a ∧ z ≠ a
  rows:∀ q,q < k → W.ownsRow w.heap.size 3 1 (V q) (usN D q).length (intV (usN D q)) ∧ ∀ b,(V q).ownBlock = some b → b ≠ a ∧ b ≠ z
  apart:∀ q q',q < k → q' < k → q ≠ q' → ∀ b,(V q).ownBlock = some b → (V q').ownBlock ≠ some b
  rest:∀ q,k ≤ q → V q = .slice none 0 0
theorem FS.step {D:BD} {w W W2:World} {z a k:Nat} {V:Nat → Value} {v:Value} (h:FS D w W z a k V) (hg:W.grownBy W2 (some a)) (ha:W2.heap[a]? = some (.cells (gC (upV V k v)) 44 (0,0)))
    (hown:W2.ownsRow W.heap.size 3 1 v (usN D k).length (intV (usN D k))):FS D w W2 z a (k + 1) (upV V k v):=by
  have la:a < W.heap.size:=(Array.getElem?_eq_some_iff.1 h.ha).1
  have lz:z < W.heap.size:=(Array.getElem?_eq_some_iff.1 h.hz).1
  have lw:=h.below.size
  have kb:∀ b,b < W.heap.size → b ≠ a → W2.heap[b]? = W.heap[b]?:=fun b hb hn=>hg.block b hb (ne_some hn)
  refine ⟨⟨hg.os.trans h.below.os,hg.tape.trans h.below.tape,hg.output.trans h.below.output,Nat.le_trans lw hg.size,fun b hb=>(kb b (by omega) (by have:=h.za; omega)).trans (h.below.block b hb)⟩,(kb z lz h.za.2.2).trans h.hz,ha,h.za,fun q hq=>?_,fun q q' hq hq' hne b hb=>?_,fun q hq=>?_⟩
  · unfold upV
    by_cases hqk:q = k
    · subst hqk
      rw [if_pos rfl]
      exact ⟨ownsRow_base hown lw,fun b hb=>by have:=(hown.lt b hb).1; omega⟩
    · rw [if_neg hqk]
      obtain ⟨r1,r2⟩:=h.rows q (by omega)
      exact ⟨ownsRow_of_block r1 fun b hb=>kb b (r1.lt b hb).2 (r2 b hb).1,r2⟩
  · unfold upV at hb ⊢
    by_cases hqk:q = k
    · subst hqk
      rw [if_pos rfl] at hb
      rw [if_neg (Ne.symm hne)]
      intro hb'
      have h1:=((h.rows q' (by omega)).1.lt b hb').2
      have h2:=(hown.lt b hb).1
      omega
    · rw [if_neg hqk] at hb
      have h1:=((h.rows q (by omega)).1.lt b hb).2
      by_cases hqk':q' = k
      · subst hqk'
        rw [if_pos rfl]
        intro hb'
        have h2:=(hown.lt b hb').1
        omega
      · rw [if_neg hqk']
        exact h.apart q q' (by omega) (by omega) hne b hb
  · unfold upV
    rw [if_neg (by omega)]
    exact h.rest q (by omega)
theorem grown_set {W W2:World} {a k:Nat} (v:Value) (h:W.grownBy W2 (some a)):W.grownBy (W2.setCell ⟨a,k,none⟩ v) (some a) :=
  ⟨h.os,h.tape,h.output,by simpa using h.size,fun b hb hn=>(Below.heap_setCell _ _ _ _ (fun e=>hn (by rw [e]))).trans (h.block b hb hn)⟩
theorem grown_below {W W2:World} {r:Option Nat} (h:Below W.heap.size W W2):W.grownBy W2 r:=⟨h.os,h.tape,h.output,h.size,fun b hb _=>h.block b hb⟩
theorem grown_refl (W:World) (r:Option Nat):W.grownBy W r:=⟨rfl,rfl,rfl,Nat.le_refl _,fun _ _ _=>rfl⟩
theorem grown_trans {a b c:World} {r r':Option Nat} (h:a.grownBy b r) (k:b.grownBy c r') (hr:∀ x,r' = some x → r = some x ∨ a.heap.size ≤ x):a.grownBy c r:=⟨k.os.trans h.os,k.tape.trans h.tape,k.output.trans h.output,Nat.le_trans h.size k.size,fun x hx hn=>(k.block x (Nat.lt_of_lt_of_le hx h.size) (fun e=>by
  rcases hr x e.symm with h1 | h1
  · exact hn h1.symm
  · omega)).trans (h.block x hx hn)⟩
theorem FS.call {D:BD} {w W W2:World} {z a k:Nat} {V:Nat → Value} {v:Value} (h:FS D w W z a k V) (hk:k < 4) (hb:Below W.heap.size W W2) (hown:W2.ownsRow W.heap.size 3 1 v (usN D k).length (intV (usN D k))):FS D w (W2.setCell ⟨a,k,none⟩ v) z a (k + 1) (upV V k v):=by
  have la:a < W.heap.size:=(Array.getElem?_eq_some_iff.1 h.ha).1
  refine h.step (grown_set v (grown_below hb)) ?_ (ownsRow_setCell_below hown la v)
  rw [← gC_up V v hk]
  exact blk_set v ((hb.block a la).trans h.ha)
theorem FS.shapes {D:BD} {w W:World} {z a:Nat} {V:Nat → Value} (h:FS D w W z a 4 V):(gC V).all (·.oneCell') = true:=by
  have e:∀ q,q < 4 → (V q).oneCell' = true:=fun q hq=>by
    obtain ⟨ao,cap,e⟩:=ownsRow_shape (h.rows q hq).1
    rw [e]; rfl
  simp [gC,e 0 (by omega),e 1 (by omega),e 2 (by omega),e 3 (by omega)]
theorem infoGr:((patch shutL Tryz.prog).info? 44).map (·.size) = some 4:=by kernel_rfl
structure Told4 (D:BD) (w w':World) (V:Nat → Value):Prop where
  below:Below w.heap.size w w'
  rows:∀ q,q < 4 → w'.ownsRow w.heap.size 3 1 (V q) (usN D q).length (intV (usN D q))
  apart:∀ q q',q < 4 → q' < 4 → q ≠ q' → ∀ b,(V q).ownBlock = some b → (V q').ownBlock ≠ some b
theorem FS.told {D:BD} {w W:World} {z a:Nat} {V:Nat → Value} (h:FS D w W z a 4 V) (vs:Array Value):Told4 D w (W.setRow z vs) V:=by
  have lz:w.heap.size ≤ z:=h.za.1
  refine ⟨⟨h.below.os,h.below.tape,h.below.output,by simpa using h.below.size,fun k hk=>(setRow_other _ _ _ _ (by omega)).trans (h.below.block k hk)⟩,fun q hq=>ownsRow_of_block (h.rows q hq).1 fun b hb=>setRow_other _ _ _ _ ((h.rows q hq).2 b hb).2,h.apart⟩
set_option maxRecDepth 100000 in
set_option maxHeartbeats 4000000 in
theorem berthFreeD_any (bb:Nat) (D:BD) (w:World) (hb:BerthC w bb D) (hok:D.ok) :
    Calls (patch shutL Tryz.prog) 70 #[.pointer (some ⟨bb,0,none⟩)] w fun e w'=>∃ V,e = .returned (.agg (gC V)) ∧ Told4 D w w' V:=by
  have HI:=HidI (And.intro hb hok)
  clear hb hok
  go_enter (pf Tryz.func70 (by rfl)),Tryz.ntmps70
  go_wp2_with fail
  obtain ⟨z,hz⟩ : ∃ z,z = w.heap.size:=⟨_,rfl⟩
  obtain ⟨W0,hW0⟩ : ∃ W,W = w.alloc (.cells #[.slice none 0 0,.slice none 0 0,.slice none 0 0,.slice none 0 0] 44):=⟨_,rfl⟩
  have H0:Hid (Below w.heap.size w W0 ∧ W0.heap[z]? = some (.cells (gC nilV) 44 (0,0)) ∧ z = w.heap.size):=by
    rw [hW0,hz]
    exact ⟨(Below.refl _ _).alloc (Nat.le_refl _) _,heap_alloc_new _ _,rfl⟩
  rw [← hW0,← hz]
  clear hW0 hz
  refine (freeB_any bb 0 D W0 (by omega) (BerthC.below HI.out.1 H0.out.1) HI.out.2).mono ?_
  rintro e w1 ⟨v0,rfl,hown,hb1⟩
  obtain ⟨a0,c0,rfl⟩:=ownsRow_shape hown
  have H1:=HidI (And.intro hown hb1)
  clear hown hb1
  go_wp2_with fail
  obtain ⟨a,ha⟩ : ∃ z,z = w1.heap.size:=⟨_,rfl⟩
  obtain ⟨W1,hW1⟩ : ∃ W,W = w1.alloc (.cells #[.slice a0 (usN D 0).length c0,.slice none 0 0,.slice none 0 0,.slice none 0 0] 44):=⟨_,rfl⟩
  have H2:Hid (FS D w W1 z a 1 (upV nilV 0 (.slice a0 (usN D 0).length c0))):=by
    have lz:z < W0.heap.size:=(Array.getElem?_eq_some_iff.1 H0.out.2.1).1
    have hB:Below w1.heap.size w1 W1:=by rw [hW1]; exact (Below.refl _ _).alloc (Nat.le_refl _) _
    have s0:=H0.out.1.size
    have s1:=H1.out.2.size
    have hza:=H0.out.2.2
    refine ⟨ext_trans (ext_trans H0.out.1 H1.out.2) hB,(hB.block z (by omega)).trans ((H1.out.2.block z lz).trans H0.out.2.1),?_,⟨by omega,by omega,by omega⟩,fun q hq=>?_,fun q q' hq hq' hne=>absurd (by omega:q = q') hne,fun q hq=>?_⟩
    · rw [hW1,ha]; exact heap_alloc_new _ _
    · obtain rfl:q = 0:=by omega
      refine ⟨ownsRow_base (ownsRow_below H1.out.1 hB) s0,fun b hb=>?_⟩
      have:=H1.out.1.lt b hb
      omega
    · unfold upV; rw [if_neg (by omega)]; rfl
  have hpos:Hid (Below w1.heap.size w1 W1):=by rw [hW1]; exact (Below.refl _ _).alloc (Nat.le_refl _) _
  rw [← hW1,← ha]
  clear hW1 ha H0 H1 hpos
  clear w1 W0
  generalize hV:upV nilV 0 (.slice a0 (usN D 0).length c0) = V1 at H2
  clear hV
  refine wp_loop_rounds 4 ?_
  rw [rounds_succ]
  go_wp2_with fail
  refine (freeB_any bb 1 D W1 (by omega) (BerthC.below HI.out.1 H2.out.below) HI.out.2).mono ?_
  rintro e w2 ⟨v1,rfl,hown,hb2⟩
  obtain ⟨a1,c1,rfl⟩:=ownsRow_shape hown
  have H3:=HidI (H2.out.call (by omega) hb2 hown)
  have la:=(Array.getElem?_eq_some_iff.1 H2.out.ha).1
  obtain ⟨q0,q0f⟩:=blk ((hb2.block a la).trans H2.out.ha)
  unfold gC at q0
  clear hown hb2 la
  go_wp2_with fail
  generalize w2.setCell ⟨a,1,none⟩ (.slice a1 (usN D 1).length c1) = W2 at H3 ⊢
  clear q0 q0f H2
  clear w2 W1
  generalize upV V1 1 (.slice a1 (usN D 1).length c1) = V2 at H3
  rw [rounds_succ]
  go_wp2_with fail
  refine (freeB_any bb 2 D W2 (by omega) (BerthC.below HI.out.1 H3.out.below) HI.out.2).mono ?_
  rintro e w3 ⟨v2,rfl,hown,hb3⟩
  obtain ⟨a2,c2,rfl⟩:=ownsRow_shape hown
  have H4:=HidI (H3.out.call (by omega) hb3 hown)
  have la:=(Array.getElem?_eq_some_iff.1 H3.out.ha).1
  obtain ⟨q0,q0f⟩:=blk ((hb3.block a la).trans H3.out.ha)
  unfold gC at q0
  clear hown hb3 la
  go_wp2_with fail
  generalize w3.setCell ⟨a,2,none⟩ (.slice a2 (usN D 2).length c2) = W3 at H4 ⊢
  clear q0 q0f H3
  clear w3 W2
  generalize upV V2 2 (.slice a2 (usN D 2).length c2) = V3 at H4
  rw [rounds_succ]
  go_wp2_with fail
  refine (freeB_any bb 3 D W3 (by omega) (BerthC.below HI.out.1 H4.out.below) HI.out.2).mono ?_
  rintro e w4 ⟨v3,rfl,hown,hb4⟩
  obtain ⟨a3,c3,rfl⟩:=ownsRow_shape hown
  have H5:=HidI (H4.out.call (by omega) hb4 hown)
  have la:=(Array.getElem?_eq_some_iff.1 H4.out.ha).1
  obtain ⟨q0,q0f⟩:=blk ((hb4.block a la).trans H4.out.ha)
  unfold gC at q0
  clear hown hb4 la
  go_wp2_with fail
  generalize w4.setCell ⟨a,3,none⟩ (.slice a3 (usN D 3).length c3) = W4 at H5 ⊢
  clear q0 q0f H4
  clear w4 W3
  generalize upV V3 3 (.slice a3 (usN D 3).length c3) = V4 at H5
  rw [rounds_succ]
  obtain ⟨vs,hvs⟩ : ∃ vs,vs = gC V4:=⟨_,rfl⟩
  obtain ⟨zs,hzs⟩ : ∃ zs,zs = gC nilV:=⟨_,rfl⟩
  have h1:vs.all (·.oneCell') = true:=by rw [hvs]; exact H5.out.shapes
  have hBv:W4.heap[a]? = some (.cells vs 44 (0,0)):=by rw [hvs]; exact H5.out.ha
  have hR:W4.heap[z]? = some (.cells zs 44 (0,0)):=by rw [hzs]; exact H5.out.hz
  have hi:((patch shutL Tryz.prog).info? 44).map (·.size) = some vs.size:=by rw [hvs]; exact infoGr
  have hzsz:zs.size = vs.size:=by rw [hvs,hzs]; rfl
  have HVS:=HidI (And.intro hvs H5.out)
  clear hvs hzs H5
  go_wp2_with (first
    | refine wpList_load_row rfl 44 _ rfl a rfl 44 vs (0,0) _ hBv ((patch_underlying shutL Tryz.prog 44).trans Tryz.underlying44) rfl hi ?_
    | refine wpList_store_row rfl 44 _ _ rfl z vs rfl rfl 44 _ hR hi hzsz h1 ?_)
  (try simp only [Exit.inBlock,Exit.then])
  refine bodyPost_ret_by (results_cell_row rfl _ _ z 44 vs (0,0) _ rfl (setRow_heap _ _ _ _ _ _ hR) ((patch_underlying shutL Tryz.prog 44).trans Tryz.underlying44) rfl hi) rfl ?_
  exact ⟨V4,by rw [HVS.out.1],HVS.out.2.told vs⟩
end Go.Proofs.YtojoafcnijajmaaGreatDoor.Z

namespace Go.Proofs.YtojoafcnijajmaaGreatDoor.Z
open Go.RowKit
attribute [local go_sem ↓] Go.wp_at_zero Go.wp_at_succ
attribute [local go_sem] After.cell After.frozen After.const
theorem intV_snoc (l:List Nat) (i:Nat):intV (l ++ [i]) = intV l ++ [.int .i64 (i:Int)]:=by simp [intV]
theorem upV_up (V:Nat → Value) (k:Nat) (v u:Value):upV (upV V k v) k u = upV V k u:=by
  funext q
  unfold upV
  by_cases h:q = k
  · rw [if_pos h,if_pos h]
  · rw [if_neg h,if_neg h,if_neg h]
theorem upV_self (V:Nat → Value) (k:Nat):upV V k (V k) = V:=by
  funext q
  unfold upV
  by_cases h:q = k
  · rw [if_pos h,h]
  · rw [if_neg h]
structure Mk (W wr:World) (a k:Nat) (V:Nat → Value) (va:Option Addr) (vcap:Nat) (l:List Nat):Prop where
  grown:W.grownBy wr (some a)
  ha:wr.heap[a]? = some (.cells (gC (upV V k (.slice va l.length vcap))) 44 (0,0))
  own:wr.ownsRow W.heap.size 3 1 (.slice va l.length vcap) l.length (intV l)
theorem Mk.start {D:BD} {w W:World} {z a k:Nat} {V:Nat → Value} (h:FS D w W z a k V):Mk W W a k V none 0 []:=by
  refine ⟨grown_refl _ _,?_,World.ownsRow_nil _ _ _ _⟩
  have e:=upV_self V k
  rw [h.rest k (Nat.le_refl _)] at e
  show W.heap[a]? = some (Obj.cells (gC (upV V k (.slice none 0 0))) 44 (0,0))
  rw [e]
  exact h.ha
theorem Mk.put {W wr w1:World} {a k i:Nat} {V:Nat → Value} {va va':Option Addr} {vcap vc':Nat} {l:List Nat} {o:Obj} (h:Mk W wr a k V va vcap l) (hk:k < 4) (la:a < W.heap.size)
    (hown:w1.ownsRow W.heap.size 3 1 (.slice va' (l.length + 1) vc') (l.length + 1) (intV l ++ [.int .i64 (i:Int)])) (hg:(wr.alloc o).grownBy w1 (Value.slice va l.length vcap).ownBlock) :
    Mk W (w1.setCell ⟨a,k,none⟩ (.slice va' (l.length + 1) vc')) a k V va' vc' (l ++ [i]):=by
  have hz:W.heap.size ≤ wr.heap.size:=h.grown.size
  have hne:some a ≠ (Value.slice va l.length vcap).ownBlock:=fun e=>by have:=(h.own.lt a e.symm).1; omega
  have gA:W.grownBy (wr.alloc o) (some a):=grown_trans h.grown (grown_below (r:=none) ((Below.refl _ _).alloc (Nat.le_refl _) o)) (fun x e=>by cases e)
  have g1:W.grownBy w1 (some a):=grown_trans gA hg fun x e=>.inr (h.own.lt x e).1
  have ha1:w1.heap[a]? = some (.cells (gC (upV V k (.slice va l.length vcap))) 44 (0,0)):=(hg.block a (by simp; omega) hne).trans ((Below.heap_alloc wr o a (by omega)).trans h.ha)
  refine ⟨grown_set _ g1,?_,?_⟩
  · rw [List.length_append,List.length_singleton,← upV_up V k (.slice va l.length vcap),← gC_up _ _ hk]
    exact blk_set _ ha1
  · rw [List.length_append,List.length_singleton,intV_snoc]
    exact ownsRow_setCell_below hown la _
theorem Mk.fs {D:BD} {w W wr:World} {z a k:Nat} {V:Nat → Value} {va:Option Addr} {vcap:Nat} {l:List Nat} (h:Mk W wr a k V va vcap l) (hf:FS D w W z a k V) (hl:l = usN D k):FS D w wr z a (k + 1) (upV V k (.slice va l.length vcap)):=by
  refine hf.step h.grown h.ha ?_
  rw [← hl]
  exact h.own
theorem FS.world {D:BD} {w W wr:World} {z a k k':Nat} {V V':Nat → Value} {va:Option Addr} {vcap:Nat} {l:List Nat} (hf:FS D w W z a k V) (h:Mk W wr a k' V' va vcap l):Below w.heap.size w wr:=by
  have h1:=hf.below.size
  have h2:=hf.za
  exact ⟨h.grown.os.trans hf.below.os,h.grown.tape.trans hf.below.tape,h.grown.output.trans hf.below.output,Nat.le_trans h1 h.grown.size,fun b hb=>(h.grown.block b (by omega) (ne_some (by omega))).trans (hf.below.block b hb)⟩
set_option maxRecDepth 100000 in
set_option maxHeartbeats 8000000 in
theorem worldFreeD_any (m:Mach) (base ww cw qw:Nat) (D:BD) (e:Nat → Value) (K:Nat → Nat) (w:World) (hm:WSide w base ww cw qw m D e K) :
    Calls (patch shutL Tryz.prog) 71 #[.pointer (some ⟨ww,0,none⟩)] w fun e w'=>∃ V,e = .returned (.agg (gC V)) ∧ Told4 D w w' V:=by
  obtain ⟨i0,hi,hz0,hz1,hz2⟩:=info_parts Tryz.infoInt
  have hu:=((patch_underlying shutL Tryz.prog 23).trans Tryz.underlying23)
  have hn:=hm.few.1
  have hd:=hm.few.2.2
  have HM:=Hid.in (And.intro hm (And.intro hm.usN0 (show ∀ k,k < 3 → usN D (k + 1) = devN D k (D.dn k) from fun k hk=>by unfold usN devN; rw [if_neg (by omega)]; rfl)))
  clear hm
  go_enter (pf Tryz.func71 (by rfl)),Tryz.ntmps71
  go_wp2_with fail
  obtain ⟨z,hzz⟩ : ∃ z,z = w.heap.size:=⟨_,rfl⟩
  obtain ⟨a,haa⟩ : ∃ a,a = z + 1:=⟨_,rfl⟩
  obtain ⟨W0,hW0⟩ : ∃ W0,W0 = (w.alloc (.cells #[.slice none 0 0,.slice none 0 0,.slice none 0 0,.slice none 0 0] 44)).alloc (.cells #[.slice none 0 0,.slice none 0 0,.slice none 0 0,.slice none 0 0] 44):=⟨_,rfl⟩
  have H0:Hid (FS D w W0 z a 0 nilV):=by
    rw [hW0,haa,hzz]
    exact ⟨((Below.refl _ _).alloc (Nat.le_refl _) _).alloc (by simp) _,heap_alloc2_old _ _ _,heap_alloc2_new _ _ _,⟨by omega,by omega,by omega⟩,fun q hq=>absurd hq (by omega),fun q q' hq=>absurd hq (by omega),fun q _=>rfl⟩
  rw [← hW0,← hzz,← haa]
  clear hW0 hzz haa
  have la:a < W0.heap.size:=(Array.getElem?_eq_some_iff.1 H0.out.ha).1
  go_loopw [4] (fun i wr=>∃ k:Nat,k ≤ m.n ∧ i = .int .i64 k ∧ ∃ va vcap,Mk W0 wr a 0 nilV va vcap (freeN m k)) (fun i _=>m.n - (intOf i).toNat)
  case atStart=>exact ⟨0,by omega,rfl,none,0,Mk.start H0.out⟩
  case round =>
    obtain ⟨k,hk,rfl,va,vcap,hmk⟩:=hrel
    have hwr:=HM.out.1.below (H0.out.world hmk)
    have HR:=Hid.in (And.intro hmk hwr)
    have q0:=hwr.cell 0
    simp only [wdC] at q0
    obtain ⟨y0,y0f⟩:=blk hmk.ha
    have hlen:=freeN_le m k
    have hz:W0.heap.size ≤ wr.heap.size:=hmk.grown.size
    clear hmk hwr
    by_cases hlt:k < m.n
    · by_cases hres:resB m k = true
      · have hg:=Hid.in (And.intro hres ((resB_iff m k).1 hres))
        clear hres y0 y0f
        go_wp2_with (go_at_call 142; refine (freeCPUD_any m base ww cw qw D e K k _ HR.out.2).mono ?_; rintro e w1 ⟨he,hw⟩; obtain rfl:=hw.symm; obtain rfl:=he.is_false (fun h=>h hg.out.2); clear he)
        go_roundw
        case rel=>exact ⟨k + 1,by omega,by go_num,va,vcap,by rw [freeN_miss hg.out.1]; exact HR.out.1⟩
        case measure=>simp [intOf]; omega
      · have hres':resB m k = false:=by simpa using hres
        have hg:=Hid.in (And.intro hres' (show ¬ among m.R m.r (k:Int) from fun h=>hres ((resB_iff m k).2 h)))
        clear hres hres'
        have y00:=y0 0
        have y00f:=y0f 0
        simp only [gC,upV] at y00
        clear y0 y0f
        go_wp2_with (first
          | (go_at_call 142; refine (freeCPUD_any m base ww cw qw D e K k _ HR.out.2).mono ?_; rintro e w1 ⟨he,hw⟩; obtain rfl:=hw.symm; obtain rfl:=he.is_true hg.out.2; clear he)
          | (at_builtin; refine wpList_append_own _ rfl _ _ _ rfl W0.heap.size 3 i0 _ 1 8 hu hi hz0 hz1 hz2 rfl (by omega) _ (freeN m k).length (intV (freeN m k)) rfl (HR.out.1.own.alloc _) ⟨wr.heap.size,0,none⟩ 1 1 [.int .i64 k] rfl rfl (cell_one_new _ _ _) (by intro u hu; simp at hu; subst hu; rfl) (by unfold maxLen; omega) (by omega) (by simp; omega) ?_; intro v' w1 hown hgrow _; obtain ⟨va',vc',hv'⟩:=ownsRow_shape hown; subst hv'; have HP:=Hid.in (HR.out.1.put (by omega) la hown hgrow); obtain ⟨x0,x0f⟩:=blk ((hgrow.block a (by simp; omega) (fun e=>by have:=(HR.out.1.own.lt _ e.symm).1; omega)).trans ((Below.heap_alloc wr _ a (by omega)).trans HR.out.1.ha)); have x00:=x0 0; have x00f:=x0f 0; simp only [gC,upV] at x00; clear x0 x0f hown hgrow))
        go_roundw
        case rel=>exact ⟨k + 1,by omega,by go_num,va',vc',by rw [freeN_hit hg.out.1]; exact HP.out⟩
        case measure=>simp [intOf]; omega
    · have:k = m.n:=by omega
      subst this
      have H1:=Hid.in (And.intro (HR.out.1.fs H0.out HM.out.2.1.symm) (show Below w.heap.size w wr from H0.out.world HR.out.1))
      clear y0 y0f hlen HR
      generalize upV nilV 0 (.slice va (freeN m m.n).length vcap) = V1 at H1
      go_wp2_with fail
      clear hz la H0 q0
      go_loopw [6] (fun i wr=>∃ (k:Nat) (kz:Int),k ≤ 3 ∧ kz = k ∧ i = .int .i64 kz ∧ ∃ V,FS D w wr z a (k + 1) V) (fun i _=>3 - (intOf i).toNat)
      case atStart=>exact ⟨0,0,by omega,rfl,rfl,V1,H1.out.1⟩
      case round =>
        obtain ⟨k,kz,hk,hkz,rfl,V,hfs⟩:=hrel
        have HF:=Hid.in (And.intro hfs (HM.out.1.below hfs.below))
        clear hfs H1
        by_cases hlt:k < 3
        · have la:a < wr.heap.size:=(Array.getElem?_eq_some_iff.1 HF.out.1.ha).1
          obtain ⟨W1,hW1⟩ : ∃ W,W = wr:=⟨_,rfl⟩
          rw [← hW1] at HF la ⊢
          clear hW1
          clear wr
          have hdk:=hd k hlt
          obtain ⟨dn,hdn⟩ : ∃ dn,dn = D.dn k:=⟨_,rfl⟩
          obtain ⟨ao,cap,e1,h1,h2,h3⟩:=HF.out.2.dev hlt
          obtain ⟨x,hx⟩ : ∃ x,x = k + 1:=⟨_,rfl⟩
          obtain ⟨L,hL⟩ : ∃ L,L = devN D k:=⟨_,rfl⟩
          obtain ⟨HHk,hHk⟩ : ∃ L,L = D.dH k:=⟨_,rfl⟩
          have HX:Hid (L 0 = [] ∧ (∀ j,HHk j = true → L (j + 1) = L j ++ [j]) ∧ (∀ j,HHk j = false → L (j + 1) = L j) ∧ L dn = usN D x ∧ (∀ j,(L j).length ≤ j) ∧ FS D w W1 z a x V):=by
            rw [hL,hHk,hdn,hx]
            exact ⟨rfl,fun j hj=>devN_hit hj,fun j hj=>devN_miss hj,(HM.out.2.2 k hlt).symm,fun j=>devN_le D k j,HF.out.1⟩
          have HC:Hid (∀ wr va vcap l,Mk W1 wr a x V va vcap l → wr.cell? ⟨ww,3 + k,none⟩ = some (.slice ao dn cap) ∧ ∀ j:Nat,j < dn → Calls (patch shutL Tryz.prog) 143 #[.pointer (some ⟨ww,0,none⟩),.int .i64 kz,.int .i64 j] wr fun e w'=>e = .returned (.bool (HHk j)) ∧ w' = wr):=fun wr va vcap l hmk=>by
            have hw:=HM.out.1.below (HF.out.1.world hmk)
            refine ⟨(hw.devs_cell hlt).trans (by rw [e1,hdn]),fun j hj=>?_⟩
            rw [hHk,hkz]
            exact freeDevD_any m base ww cw qw k j D e K wr hw hlt (by rw [← hdn]; exact hj)
          rw [← hdn] at hdk h1
          clear e1 h3 hdn hL hHk HF
          have hx4:x < 4:=by omega
          have hk3':(k = 0 ∧ kz = 0 ∧ x = 1) ∨ (k = 1 ∧ kz = 1 ∧ x = 2) ∨ (k = 2 ∧ kz = 2 ∧ x = 3):=by omega
          clear hkz hx
          rcases hk3' with ⟨rfl,rfl,rfl⟩ | ⟨rfl,rfl,rfl⟩ | ⟨rfl,rfl,rfl⟩
          all_goals (
            go_wp2_with fail
            go_loopw [7] (fun i wr=>∃ j:Nat,j ≤ dn ∧ i = .int .i64 j ∧ ∃ va vcap,Mk W1 wr a _ V va vcap (L j)) (fun i _=>dn - (intOf i).toNat)
            case atStart=>exact ⟨0,by omega,rfl,none,0,by rw [HX.out.1]; exact Mk.start HX.out.2.2.2.2.2⟩
            case round =>
              obtain ⟨j,hj,rfl,va,vcap,hmk⟩:=hrel
              have HR:=Hid.in hmk
              have q3:=(HC.out _ _ _ _ hmk).1
              obtain ⟨y0,y0f⟩:=blk hmk.ha
              have hlen:=HX.out.2.2.2.2.1 j
              have hz:W1.heap.size ≤ wr.heap.size:=hmk.grown.size
              by_cases hlt2:j < dn
              · have HF:=Hid.in ((HC.out _ _ _ _ hmk).2 j hlt2)
                clear hmk
                have jn:(j:Int) < dn:=by omega
                have hst:=Hid.in (And.intro (HX.out.2.1 j) (HX.out.2.2.1 j))
                generalize HHk j = hb at HF hst
                cases hb
                · clear y0 y0f
                  go_wp2_with (go_at_call 143; refine HF.out.mono ?_; rintro e w1 ⟨he,hw⟩; obtain rfl:=he; obtain rfl:=hw.symm)
                  go_roundw
                  case rel=>exact ⟨j + 1,by omega,by go_num,va,vcap,by rw [hst.out.2 (by trivial)]; exact HR.out⟩
                  case measure=>simp [intOf]; omega
                · have y1:=y0 1
                  have y2:=y0 2
                  have y3:=y0 3
                  simp [gC,upV] at y1 y2 y3
                  clear y0
                  go_wp2_with (first
                    | (go_at_call 143; refine HF.out.mono ?_; rintro e w1 ⟨he,hw⟩; obtain rfl:=he; obtain rfl:=hw.symm)
                    | (at_builtin; refine wpList_append_own _ rfl _ _ _ rfl W1.heap.size 3 i0 _ 1 8 hu hi hz0 hz1 hz2 rfl (by omega) _ (L j).length (intV (L j)) rfl (HR.out.own.alloc _) ⟨wr.heap.size,0,none⟩ 1 1 [.int .i64 j] rfl rfl (cell_one_new _ _ _) (by intro u hu; simp at hu; subst hu; rfl) (by unfold maxLen; omega) (by omega) (by simp; omega) ?_; intro v' w1 hown hgrow _; obtain ⟨va',vc',hv'⟩:=ownsRow_shape hown; subst hv'; have HP:=Hid.in (HR.out.put hx4 la hown hgrow); obtain ⟨x0,x0f⟩:=blk ((hgrow.block a (by simp; omega) (fun e=>by have:=(HR.out.own.lt _ e.symm).1; omega)).trans ((Below.heap_alloc wr _ a (by omega)).trans HR.out.ha)); have x1:=x0 1; have x2:=x0 2; have x3:=x0 3; simp [gC,upV] at x1 x2 x3; clear x0 hown hgrow))
                  go_roundw
                  case rel=>exact ⟨j + 1,by omega,by go_num,va',vc',by rw [hst.out.1 (by trivial)]; exact HP.out⟩
                  case measure=>simp [intOf]; omega
              · have:j = dn:=by omega
                subst this
                clear hmk y0 y0f
                go_wp2_with fail
                go_roundw
                case rel =>
                  first
                    | exact ⟨1,1,by omega,rfl,rfl,_,HR.out.fs HX.out.2.2.2.2.2 HX.out.2.2.2.1⟩
                    | exact ⟨2,2,by omega,rfl,rfl,_,HR.out.fs HX.out.2.2.2.2.2 HX.out.2.2.2.1⟩
                    | exact ⟨3,3,by omega,rfl,rfl,_,HR.out.fs HX.out.2.2.2.2.2 HX.out.2.2.2.1⟩
                case measure=>simp [intOf])
        · have:k = 3:=by omega
          subst this
          obtain rfl:kz = 3:=hkz
          obtain ⟨vs,hvs⟩ : ∃ vs,vs = gC V:=⟨_,rfl⟩
          obtain ⟨zs,hzs⟩ : ∃ zs,zs = gC nilV:=⟨_,rfl⟩
          have h1:vs.all (·.oneCell') = true:=by rw [hvs]; exact HF.out.1.shapes
          have hBv:wr.heap[a]? = some (.cells vs 44 (0,0)):=by rw [hvs]; exact HF.out.1.ha
          have hR:wr.heap[z]? = some (.cells zs 44 (0,0)):=by rw [hzs]; exact HF.out.1.hz
          have hi:((patch shutL Tryz.prog).info? 44).map (·.size) = some vs.size:=by rw [hvs]; exact infoGr
          have hzsz:zs.size = vs.size:=by rw [hvs,hzs]; rfl
          have HVS:=HidI (And.intro hvs HF.out.1)
          clear hvs hzs HF
          go_wp2_with (first
            | refine wpList_load_row rfl 44 _ rfl a rfl 44 vs (0,0) _ hBv ((patch_underlying shutL Tryz.prog 44).trans Tryz.underlying44) rfl hi ?_
            | refine wpList_store_row rfl 44 _ _ rfl z vs rfl rfl 44 _ hR hi hzsz h1 ?_)
          (try simp only [Exit.inBlock,Exit.then])
          refine bodyPost_ret_by (results_cell_row rfl _ _ z 44 vs (0,0) _ rfl (setRow_heap _ _ _ _ _ _ hR) ((patch_underlying shutL Tryz.prog 44).trans Tryz.underlying44) rfl hi) rfl ?_
          exact ⟨V,by rw [HVS.out.1],HVS.out.2.told vs⟩
end Go.Proofs.YtojoafcnijajmaaGreatDoor.Z
