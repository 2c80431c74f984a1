/- Part 36 of the proof that Devices answers true and leaves its input as it was, for input of bulk at most the bound of its row: ZJ7 ZJ8 ZJ9. -/
import Derived.Test.YtojoafcnijajmaaGreatDoorT8
import Derived.Test.YtojoafcnijajmaaGreatDoorT34
import Derived.Test.YtojoafcnijajmaaGreatDoorT35
namespace Go.Proofs.YtojoafcnijajmaaGreatDoor.Z
open Go.RowKit
attribute [local go_sem ↓] Go.wp_at_zero Go.wp_at_succ
structure St (c:Nat → Nat) (w:World) (g:Nat) (G:Nat → Value) (n:Nat) (Li Lb Lo:List (Value × Nat)):Prop where
  row:w.rowIs g 67 24 G
  col:c g = 1
  top:Top c w
  cnt:G 14 = .int .i64 (n:Int)
  ints:MK c w 2 5 23 1 pInt (G 11) (G 15) Li
  boxes:MK c w 3 6 99 5 pBox (G 12) (G 16) Lb
  ops:MK c w 4 7 58 4 pOp (G 13) (G 17) Lo
theorem St.bk {c:Nat → Nat} {w:World} {g:Nat} {G:Nat → Value} {n:Nat} {Li Lb Lo:List (Value × Nat)} (h:St c w g G n Li Lb Lo):BkI c w g G n Li:=⟨h.row,h.col,h.top,h.cnt,h.ints⟩
theorem St.of_ints {S:Nat → Prop} {c c':Nat → Nat} {w w':World} {g:Nat} {G G':Nat → Value} {n n':Nat} {Li Lb Lo Li':List (Value × Nat)} (h:St c w g G n Li Lb Lo) (hb:BkI c' w' g G' n' Li') (hG:∀ j,j ≠ 11 → j ≠ 14 → j ≠ 15 → G' j = G j) (t:Turn S c w c' w')
    (s3:¬ S 3) (s4:¬ S 4) (s6:¬ S 6) (s7:¬ S 7) (s14:¬ S 14):St c' w' g G' n' Li' Lb Lo:=by
  refine ⟨hb.row,hb.col,hb.top,hb.cnt,hb.ints,?_,?_⟩
  · rw [hG 12 (by omega) (by omega) (by omega),hG 16 (by omega) (by omega) (by omega)]; exact h.boxes.turn t s3 s6 s14
  · rw [hG 13 (by omega) (by omega) (by omega),hG 17 (by omega) (by omega) (by omega)]; exact h.ops.turn t s4 s7 s14
theorem St.of_boxes {S:Nat → Prop} {c c':Nat → Nat} {w w':World} {g:Nat} {G G':Nat → Value} {n n':Nat} {Li Lb Lo Lb':List (Value × Nat)} (h:St c w g G n Li Lb Lo) (hr:w'.rowIs g 67 24 G') (hc:c' g = 1) (hn:G' 14 = .int .i64 (n':Int))
    (hm:MK c' w' 3 6 99 5 pBox (G' 12) (G' 16) Lb') (hG:∀ j,j ≠ 12 → j ≠ 14 → j ≠ 16 → G' j = G j) (t:Turn S c w c' w') (s2:¬ S 2) (s4:¬ S 4) (s5:¬ S 5) (s7:¬ S 7) (s14:¬ S 14):St c' w' g G' n' Li Lb' Lo:=by
  refine ⟨hr,hc,t.top,hn,?_,hm,?_⟩
  · rw [hG 11 (by omega) (by omega) (by omega),hG 15 (by omega) (by omega) (by omega)]; exact h.ints.turn t s2 s5 s14
  · rw [hG 13 (by omega) (by omega) (by omega),hG 17 (by omega) (by omega) (by omega)]; exact h.ops.turn t s4 s7 s14
theorem St.of_ops {S:Nat → Prop} {c c':Nat → Nat} {w w':World} {g:Nat} {G G':Nat → Value} {n n':Nat} {Li Lb Lo Lo':List (Value × Nat)} (h:St c w g G n Li Lb Lo) (hr:w'.rowIs g 67 24 G') (hc:c' g = 1) (hn:G' 14 = .int .i64 (n':Int))
    (hm:MK c' w' 4 7 58 4 pOp (G' 13) (G' 17) Lo') (hG:∀ j,j ≠ 13 → j ≠ 14 → j ≠ 17 → G' j = G j) (t:Turn S c w c' w') (s2:¬ S 2) (s3:¬ S 3) (s5:¬ S 5) (s6:¬ S 6) (s14:¬ S 14):St c' w' g G' n' Li Lb Lo':=by
  refine ⟨hr,hc,t.top,hn,?_,?_,hm⟩
  · rw [hG 11 (by omega) (by omega) (by omega),hG 15 (by omega) (by omega) (by omega)]; exact h.ints.turn t s2 s5 s14
  · rw [hG 12 (by omega) (by omega) (by omega),hG 16 (by omega) (by omega) (by omega)]; exact h.boxes.turn t s3 s6 s14
theorem St.below {c:Nat → Nat} {w w':World} {g:Nat} {G:Nat → Value} {n:Nat} {Li Lb Lo:List (Value × Nat)} (h:St c w g G n Li Lb Lo) (hb:Below w.heap.size w w'):St c w' g G n Li Lb Lo:=by
  have t:Turn (fun _=>False) c w c w':=(Turn.refl h.top).below hb
  exact ⟨h.row.of_block (hb.block g h.row.lt),h.col,t.top,h.cnt,h.ints.turn t (fun h=>h) (fun h=>h) (fun h=>h),h.boxes.turn t (fun h=>h) (fun h=>h) (fun h=>h),h.ops.turn t (fun h=>h) (fun h=>h) (fun h=>h)⟩
theorem St.set {c:Nat → Nat} {w:World} {g:Nat} {G:Nat → Value} {n:Nat} {Li Lb Lo:List (Value × Nat)} (h:St c w g G n Li Lb Lo) (j:Nat) (hj:j < 11 ∨ 18 ≤ j) (v:Value):St c (w.setCell ⟨g,j,none⟩ v) g (fun i=>if i = j then v else G i) n Li Lb Lo:=by
  have t:Turn (fun z=>z = 1) c w c (w.setCell ⟨g,j,none⟩ v):=(Turn.refl h.top).set (fun k _ e=>by rw [e]; exact h.col) v
  refine ⟨h.row.set j v,h.col,t.top,?_,?_,?_,?_⟩
  · show (if 14 = j then v else G 14) = _
    rw [if_neg (by omega)]; exact h.cnt
  · show MK _ _ _ _ _ _ _ (if 11 = j then v else G 11) (if 15 = j then v else G 15) _
    rw [if_neg (by omega),if_neg (by omega)]; exact h.ints.turn t (by omega) (by omega) (by omega)
  · show MK _ _ _ _ _ _ _ (if 12 = j then v else G 12) (if 16 = j then v else G 16) _
    rw [if_neg (by omega),if_neg (by omega)]; exact h.boxes.turn t (by omega) (by omega) (by omega)
  · show MK _ _ _ _ _ _ _ (if 13 = j then v else G 13) (if 17 = j then v else G 17) _
    rw [if_neg (by omega),if_neg (by omega)]; exact h.ops.turn t (by omega) (by omega) (by omega)
structure Wt (c:Nat → Nat) (w:World) (G:Nat → Value) (ws:List GW) (Eb Eo:List (Value × Value)):Prop where
  g:WaitG c w (G 18) (G 19) ws
  b:WaitE 10 11 100 99 158 5 c w (G 20) (G 21) Eb
  o:WaitE 12 13 200 58 132 4 c w (G 22) (G 23) Eo
theorem Wt.turn {S:Nat → Prop} {c c':Nat → Nat} {w w':World} {G:Nat → Value} {ws:List GW} {Eb Eo:List (Value × Value)} (h:Wt c w G ws Eb Eo) (t:Turn S c w c' w') (hs:∀ z,8 ≤ z → ¬ S z):Wt c' w' G ws Eb Eo :=
  ⟨h.g.turn t (hs _ (by omega)) (hs _ (by omega)) (hs _ (by omega)) (fun k hk=>hs _ (by omega)),h.b.turn t (hs _ (by omega)) (hs _ (by omega)) (fun k _=>hs _ (by omega)),h.o.turn t (hs _ (by omega)) (hs _ (by omega)) (fun k _=>hs _ (by omega))⟩
theorem Wt.nil (c:Nat → Nat) (w:World) (G:Nat → Value) (h:∀ j,18 ≤ j → j < 24 → G j = .slice none 0 0):Wt c w G [] [] []:=by
  refine ⟨⟨?_,?_,fun i x hx=>by simp at hx⟩,⟨?_,?_,fun i x hx=>by simp at hx⟩,⟨?_,?_,fun i x hx=>by simp at hx⟩⟩ <;> rw [h _ (by omega) (by omega)] <;> exact RowC.nil _ _ _ _ _
theorem lists_row {x1 x2 y eL e sz k:Nat} {c:Nat → Nat} {w:World} {v1 v2:Value} {L:List (Value × Value)} (h:WaitE x1 x2 y eL e sz c w v1 v2 L) (hk:k < L.length) :
    ∃ ao ac,(L.map Prod.fst)[k]? = some (.slice ao 0 ac) ∧ RowC c w (y + k) e sz (.slice ao 0 ac) 0 []:=by
  have hx:L[k]? = some L[k]:=List.getElem?_eq_getElem hk
  obtain ⟨he,_⟩:=h.each k _ hx
  obtain ⟨ao,ac,h1⟩:=ownsRow_shape he.1
  refine ⟨ao,ac,by rw [List.getElem?_map,hx,← h1]; rfl,?_⟩
  rw [← h1]
  exact he
set_option maxRecDepth 100000 in
set_option maxHeartbeats 8000000 in
theorem settles_any (g:Nat) (G:Nat → Value) (c:Nat → Nat) (w:World) (n:Nat) (Li Lb Lo:List (Value × Nat)) (ws:List GW) (Eb Eo:List (Value × Value)) (hs:St c w g G n Li Lb Lo) (hw:Wt c w G ws Eb Eo)
    (h1:ws.length ≤ 100) (h2:Eb.length ≤ 100) (h3:Eo.length ≤ 100) (hn:n ≤ 100000000000) (hi:Li.length ≤ 100000000000) (hb:Lb.length ≤ 100000000000) (ho:Lo.length ≤ 100000000000) :
    Calls (patch shutL Tryz.prog) 42 #[.pointer (some ⟨g,11,none⟩)] w fun e w'=>e = .returned (.bool true) ∧ ∃ c' G' Li' Lb' Lo',St c' w' g G' (n + 4 * ws.length + Eb.length + Eo.length) Li' Lb' Lo' ∧ Wt c' w' G' [] [] [] ∧ (∀ j,j < 11 → G' j = G j) ∧
      Li'.length = Li.length + 16 * ws.length ∧ Lb'.length = Lb.length + 4 * Eb.length ∧ Lo'.length = Lo.length + 4 * Eo.length ∧ Turn (fun z=>z ≠ 0 ∧ z ≠ 14) c w c' w':=by
  have hgl:=hs.row.lt
  have H0:Hid (St c w g G n Li Lb Lo ∧ Wt c w G ws Eb Eo):=⟨hs,hw⟩
  obtain ⟨a1,c1,e1⟩:=ownsRow_shape hw.g.rows.1
  obtain ⟨a3,c3,e3⟩:=ownsRow_shape hw.b.rows.1
  obtain ⟨a5,c5,e5⟩:=ownsRow_shape hw.o.rows.1
  have HS:Hid (G 18 = .slice a1 ws.length c1 ∧ G 20 = .slice a3 Eb.length c3 ∧ G 22 = .slice a5 Eo.length c5):=⟨e1,e3,e5⟩
  clear hs hw e1 e3 e5
  go_enter (pf Tryz.func42 (by rfl)),Tryz.ntmps42
  go_wp2_with (go_at_call 43; refine (waits_any g G c w ws Eb Eo H0.out.1.row H0.out.2.g H0.out.2.b H0.out.2.o (by omega) (by omega) (by omega)).mono ?_; rintro e w1 ⟨rfl,hb1⟩; have H1:Hid (St c w1 g G n Li Lb Lo ∧ Wt c w1 G ws Eb Eo ∧ Turn (fun _=>False) c w c w1):=⟨H0.out.1.below hb1,H0.out.2.turn ((Turn.refl H0.out.1.top).below hb1) (fun _ _ h=>h),(Turn.refl H0.out.1.top).below hb1⟩; clear hb1)
  go_loopw [4] (fun i wr=>∃ k:Nat,k ≤ ws.length ∧ i = .int .i64 k ∧ ∃ c' G' L',St c' wr g G' (n + 4 * k) L' Lb Lo ∧ (∀ j,j ≠ 11 → j ≠ 14 → j ≠ 15 → G' j = G j) ∧ L'.length = Li.length + 16 * k ∧ Turn (fun z=>z = 1 ∨ z = 2 ∨ z = 5 ∨ 1000 ≤ z ∧ z < 1000 + 4 * k) c w1 c' wr) (fun i _=>ws.length - (intOf i).toNat)
  case atStart=>exact ⟨0,by omega,rfl,c,G,Li,H1.out.1,fun _ _ _ _=>rfl,rfl,Turn.refl H1.out.1.top⟩
  case round =>
    obtain ⟨k,hk,rfl,c',G',L',hst,hG,hL,ht⟩:=hrel
    have HR:Hid (St c' wr g G' (n + 4 * k) L' Lb Lo ∧ (∀ j,j ≠ 11 → j ≠ 14 → j ≠ 15 → G' j = G j) ∧ L'.length = Li.length + 16 * k ∧ Turn (fun z=>z = 1 ∨ z = 2 ∨ z = 5 ∨ 1000 ≤ z ∧ z < 1000 + 4 * k) c w1 c' wr):=⟨hst,hG,hL,ht⟩
    have g18:=hst.row.cell (i:=18) (by omega)
    rw [hG 18 (by omega) (by omega) (by omega),HS.out.1] at g18
    by_cases hlt:k < ws.length
    · have hx:ws[k]? = some ws[k]:=List.getElem?_eq_getElem hlt
      obtain ⟨b1,cp1,q1,l1,d0,d1,d2,d3⟩:=grants_at (H1.out.2.1.g.rows.turn ht (by omega)) (fun _=>rfl) hx
      rw [HS.out.1] at q1
      injection q1 with q1 _ q1'
      subst q1; subst q1'
      have HE:Hid (∀ q,q < 4 → RowC c' wr (1000 + 4 * k + q) 3 1 (.slice (ws[k].A q) (ws[k].N q) (ws[k].C q)) (ws[k].N q) (IL (ws[k].X q)) ∧ ws[k].N q + 3 ≤ 1000000000000):=fun q hq=>⟨(H1.out.2.1.g.each k _ hx q hq).1.turn ht (by omega),(H1.out.2.1.g.each k _ hx q hq).2.2⟩
      have HK:Hid (k < ws.length):=hlt
      generalize hp:ws[k] = p at d0 d1 d2 d3 HE
      simp only [GW.one,List.getElem?_cons_zero,List.getElem?_cons_succ] at d0 d1 d2 d3
      have kn:(k:Int) < ws.length:=by omega
      have k0:(0:Int) ≤ (k:Int):=by omega
      have hcall:=markGrant_any g G' c' wr (n + 4 * k) (1000 + 4 * k) p.A p.N p.C (fun q=>IL (p.X q)) L' hst.bk (fun q hq=>(HE.out q hq).1) (by omega) (by omega) (by omega) (fun q hq=>(HE.out q hq).2)
      have HC:Hid _:=hcall
      clear hst hG hL ht hx hp hcall
      go_wp2_with (go_at_call 93; refine Calls.mono (Hid.out HC) ?_; rintro e w2 ⟨rfl,c2,G2,L2,m1,m2,m3,m4⟩; have H2:Hid (BkI c2 w2 g G2 (n + 4 * k + 4) L2 ∧ (∀ j,j ≠ 11 → j ≠ 14 → j ≠ 15 → G2 j = G' j) ∧ L2.length = L'.length + 16 ∧ Turn (fun x=>x = 1 ∨ x = 2 ∨ x = 5 ∨ 1000 + 4 * k ≤ x ∧ x < 1000 + 4 * k + 4) c' wr c2 w2):=⟨m1,m2,m3,m4⟩; clear m1 m2 m3 m4)
      go_roundw
      case rel=>exact ⟨k + 1,by have:=HK.out; omega,by go_num,c2,G2,L2,HR.out.1.of_ints H2.out.1 H2.out.2.1 H2.out.2.2.2 (by omega) (by omega) (by omega) (by omega) (by omega),fun j j1 j2 j3=>(H2.out.2.1 j j1 j2 j3).trans (HR.out.2.1 j j1 j2 j3),by rw [H2.out.2.2.1,HR.out.2.2.1]; omega,(HR.out.2.2.2.mono (fun x h=>by omega)).trans (H2.out.2.2.2.mono (fun x h=>by omega))⟩
      case measure=>have:=HK.out; simp [intOf]; omega
    · have:k = ws.length:=by omega
      subst this
      clear hst hG hL ht
      go_wp2_with fail
      obtain ⟨wA,rfl⟩ : ∃ wA,wA = wr:=⟨_,rfl⟩
      obtain ⟨cA,rfl⟩ : ∃ x,x = c':=⟨_,rfl⟩
      obtain ⟨GA,rfl⟩ : ∃ x,x = G':=⟨_,rfl⟩
      obtain ⟨LA,rfl⟩ : ∃ x,x = L':=⟨_,rfl⟩
      have HA:Hid (St cA wA g GA (n + 4 * ws.length) LA Lb Lo ∧ (∀ j,j ≠ 11 → j ≠ 14 → j ≠ 15 → GA j = G j) ∧ LA.length = Li.length + 16 * ws.length ∧ Turn (fun z=>z = 1 ∨ z = 2 ∨ z = 5 ∨ 1000 ≤ z ∧ z < 1000 + 4 * ws.length) c w1 cA wA):=HR
      clear HR
      go_loopw [5] (fun i wr=>∃ k:Nat,k ≤ Eb.length ∧ i = .int .i64 k ∧ ∃ c' G' L',St c' wr g G' (n + 4 * ws.length + k) LA L' Lo ∧ (∀ j,j ≠ 12 → j ≠ 14 → j ≠ 16 → G' j = GA j) ∧ L'.length = Lb.length + 4 * k ∧ Turn (fun z=>z = 1 ∨ z = 3 ∨ z = 6 ∨ 100 ≤ z ∧ z < 100 + k) cA wA c' wr) (fun i _=>Eb.length - (intOf i).toNat)
      case atStart=>exact ⟨0,by omega,rfl,cA,GA,Lb,HA.out.1,fun _ _ _ _=>rfl,rfl,Turn.refl HA.out.1.top⟩
      case round =>
        obtain ⟨k,hk,rfl,c',G',L',hst,hG,hL,ht⟩:=hrel
        have HR:Hid (St c' wr g G' (n + 4 * ws.length + k) LA L' Lo ∧ (∀ j,j ≠ 12 → j ≠ 14 → j ≠ 16 → G' j = GA j) ∧ L'.length = Lb.length + 4 * k ∧ Turn (fun z=>z = 1 ∨ z = 3 ∨ z = 6 ∨ 100 ≤ z ∧ z < 100 + k) cA wA c' wr):=⟨hst,hG,hL,ht⟩
        have g20:=hst.row.cell (i:=20) (by omega)
        rw [hG 20 (by omega) (by omega) (by omega),HA.out.2.1 20 (by omega) (by omega) (by omega),HS.out.2.1] at g20
        by_cases hlt:k < Eb.length
        · obtain ⟨ao,ac,d0,he⟩:=lists_row H1.out.2.1.b hlt
          have hrow:=(H1.out.2.1.b.rows.turn HA.out.2.2.2 (by omega)).turn ht (by omega)
          have he:=(he.turn HA.out.2.2.2 (by omega)).turn ht (by omega)
          obtain ⟨b1,cp1,q1,_,l1⟩:=hrow.1.form (by omega)
          rw [q1] at hrow
          have d0:=(hrow.1.cellAt k (by omega)).trans d0
          rw [HS.out.2.1] at q1
          injection q1 with q1 _ q1'
          subst q1; subst q1'
          have HK:Hid (k < Eb.length):=hlt
          have kn:(k:Int) < Eb.length:=by omega
          have k0:(0:Int) ≤ (k:Int):=by omega
          have hcall:=markBoxes0_any g G' c' wr (n + 4 * ws.length + k) (100 + k) (.slice ao 0 ac) L' hst.row hst.col hst.top hst.cnt hst.boxes he (by omega) (by omega) (by omega)
          have HC:Hid _:=hcall
          clear hst hG hL ht he hrow hcall
          go_wp2_with (go_at_call 94; refine Calls.mono (Hid.out HC) ?_; rintro e w2 ⟨rfl,c2,G2,L2,m1,m2,m3,m4,m5,m6,m7⟩; have H2:Hid (St c2 w2 g G2 (n + 4 * ws.length + k + 1) LA L2 Lo ∧ (∀ j,j ≠ 12 → j ≠ 14 → j ≠ 16 → G2 j = G' j) ∧ L2.length = L'.length + 4 ∧ Turn (fun x=>x = 1 ∨ x = 3 ∨ x = 6 ∨ x = 100 + k) c' wr c2 w2):=⟨HR.out.1.of_boxes m1 m2 m3 m5 m4 m7 (by omega) (by omega) (by omega) (by omega) (by omega),m4,m6,m7⟩; clear m1 m2 m3 m4 m5 m6 m7)
          go_roundw
          case rel=>exact ⟨k + 1,by have:=HK.out; omega,by go_num,c2,G2,L2,H2.out.1,fun j j1 j2 j3=>(H2.out.2.1 j j1 j2 j3).trans (HR.out.2.1 j j1 j2 j3),by rw [H2.out.2.2.1,HR.out.2.2.1]; omega,(HR.out.2.2.2.mono (fun x h=>by omega)).trans (H2.out.2.2.2.mono (fun x h=>by omega))⟩
          case measure=>have:=HK.out; simp [intOf]; omega
        · have:k = Eb.length:=by omega
          subst this
          clear hst hG hL ht
          go_wp2_with fail
          obtain ⟨wB,rfl⟩ : ∃ wB,wB = wr:=⟨_,rfl⟩
          obtain ⟨cB,rfl⟩ : ∃ x,x = c':=⟨_,rfl⟩
          obtain ⟨GB,rfl⟩ : ∃ x,x = G':=⟨_,rfl⟩
          obtain ⟨LB,rfl⟩ : ∃ x,x = L':=⟨_,rfl⟩
          have HB:Hid (St cB wB g GB (n + 4 * ws.length + Eb.length) LA LB Lo ∧ (∀ j,j ≠ 12 → j ≠ 14 → j ≠ 16 → GB j = GA j) ∧ LB.length = Lb.length + 4 * Eb.length ∧ Turn (fun z=>z = 1 ∨ z = 3 ∨ z = 6 ∨ 100 ≤ z ∧ z < 100 + Eb.length) cA wA cB wB):=HR
          clear HR
          go_loopw [6] (fun i wr=>∃ k:Nat,k ≤ Eo.length ∧ i = .int .i64 k ∧ ∃ c' G' L',St c' wr g G' (n + 4 * ws.length + Eb.length + k) LA LB L' ∧ (∀ j,j ≠ 13 → j ≠ 14 → j ≠ 17 → G' j = GB j) ∧ L'.length = Lo.length + 4 * k ∧ Turn (fun z=>z = 1 ∨ z = 4 ∨ z = 7 ∨ 200 ≤ z ∧ z < 200 + k) cB wB c' wr) (fun i _=>Eo.length - (intOf i).toNat)
          case atStart=>exact ⟨0,by omega,rfl,cB,GB,Lo,HB.out.1,fun _ _ _ _=>rfl,rfl,Turn.refl HB.out.1.top⟩
          case round =>
            obtain ⟨k,hk,rfl,c',G',L',hst,hG,hL,ht⟩:=hrel
            have HR:Hid (St c' wr g G' (n + 4 * ws.length + Eb.length + k) LA LB L' ∧ (∀ j,j ≠ 13 → j ≠ 14 → j ≠ 17 → G' j = GB j) ∧ L'.length = Lo.length + 4 * k ∧ Turn (fun z=>z = 1 ∨ z = 4 ∨ z = 7 ∨ 200 ≤ z ∧ z < 200 + k) cB wB c' wr):=⟨hst,hG,hL,ht⟩
            have g22:=hst.row.cell (i:=22) (by omega)
            rw [hG 22 (by omega) (by omega) (by omega),HB.out.2.1 22 (by omega) (by omega) (by omega),HA.out.2.1 22 (by omega) (by omega) (by omega),HS.out.2.2] at g22
            by_cases hlt:k < Eo.length
            · obtain ⟨ao,ac,d0,he⟩:=lists_row H1.out.2.1.o hlt
              have hrow:=((H1.out.2.1.o.rows.turn HA.out.2.2.2 (by omega)).turn HB.out.2.2.2 (by omega)).turn ht (by omega)
              have he:=((he.turn HA.out.2.2.2 (by omega)).turn HB.out.2.2.2 (by omega)).turn ht (by omega)
              obtain ⟨b1,cp1,q1,_,l1⟩:=hrow.1.form (by omega)
              rw [q1] at hrow
              have d0:=(hrow.1.cellAt k (by omega)).trans d0
              rw [HS.out.2.2] at q1
              injection q1 with q1 _ q1'
              subst q1; subst q1'
              have HK:Hid (k < Eo.length):=hlt
              have kn:(k:Int) < Eo.length:=by omega
              have k0:(0:Int) ≤ (k:Int):=by omega
              have hcall:=markOps0_any g G' c' wr (n + 4 * ws.length + Eb.length + k) (200 + k) (.slice ao 0 ac) L' hst.row hst.col hst.top hst.cnt hst.ops he (by omega) (by omega) (by omega)
              have HC:Hid _:=hcall
              clear hst hG hL ht he hrow hcall
              go_wp2_with (go_at_call 95; refine Calls.mono (Hid.out HC) ?_; rintro e w2 ⟨rfl,c2,G2,L2,m1,m2,m3,m4,m5,m6,m7⟩; have H2:Hid (St c2 w2 g G2 (n + 4 * ws.length + Eb.length + k + 1) LA LB L2 ∧ (∀ j,j ≠ 13 → j ≠ 14 → j ≠ 17 → G2 j = G' j) ∧ L2.length = L'.length + 4 ∧ Turn (fun x=>x = 1 ∨ x = 4 ∨ x = 7 ∨ x = 200 + k) c' wr c2 w2):=⟨HR.out.1.of_ops m1 m2 m3 m5 m4 m7 (by omega) (by omega) (by omega) (by omega) (by omega),m4,m6,m7⟩; clear m1 m2 m3 m4 m5 m6 m7)
              go_roundw
              case rel=>exact ⟨k + 1,by have:=HK.out; omega,by go_num,c2,G2,L2,H2.out.1,fun j j1 j2 j3=>(H2.out.2.1 j j1 j2 j3).trans (HR.out.2.1 j j1 j2 j3),by rw [H2.out.2.2.1,HR.out.2.2.1]; omega,(HR.out.2.2.2.mono (fun x h=>by omega)).trans (H2.out.2.2.2.mono (fun x h=>by omega))⟩
              case measure=>have:=HK.out; simp [intOf]; omega
            · have:k = Eo.length:=by omega
              subst this
              have x18:=hst.row.cell (i:=18) (by omega)
              have x19:=hst.row.cell (i:=19) (by omega)
              have x20:=hst.row.cell (i:=20) (by omega)
              have x21:=hst.row.cell (i:=21) (by omega)
              have x23:=hst.row.cell (i:=23) (by omega)
              have xf:=hst.row.frozen
              have s6:=(((((hst.set 18 (by omega) (.slice none 0 0)).set 19 (by omega) (.slice none 0 0)).set 20 (by omega) (.slice none 0 0)).set 21 (by omega) (.slice none 0 0)).set 22 (by omega) (.slice none 0 0)).set 23 (by omega) (.slice none 0 0)
              have t6:Turn (fun z=>z = 1) c' wr c' ((((((wr.setCell ⟨g,18,none⟩ (.slice none 0 0)).setCell ⟨g,19,none⟩ (.slice none 0 0)).setCell ⟨g,20,none⟩ (.slice none 0 0)).setCell ⟨g,21,none⟩ (.slice none 0 0)).setCell ⟨g,22,none⟩ (.slice none 0 0)).setCell ⟨g,23,none⟩ (.slice none 0 0)) :=
                ((((((Turn.refl hst.top).set (fun k _ e=>by rw [e]; exact hst.col) _).set (fun k _ e=>by rw [e]; exact hst.col) _).set (fun k _ e=>by rw [e]; exact hst.col) _).set (fun k _ e=>by rw [e]; exact hst.col) _).set (fun k _ e=>by rw [e]; exact hst.col) _).set (fun k _ e=>by rw [e]; exact hst.col) _
              have hj:∀ j,j < 11 → G' j = G j:=fun j hj=>(hG j (by omega) (by omega) (by omega)).trans ((HB.out.2.1 j (by omega) (by omega) (by omega)).trans (HA.out.2.1 j (by omega) (by omega) (by omega)))
              have HF:Hid (∃ G6,St c' ((((((wr.setCell ⟨g,18,none⟩ (.slice none 0 0)).setCell ⟨g,19,none⟩ (.slice none 0 0)).setCell ⟨g,20,none⟩ (.slice none 0 0)).setCell ⟨g,21,none⟩ (.slice none 0 0)).setCell ⟨g,22,none⟩ (.slice none 0 0)).setCell ⟨g,23,none⟩ (.slice none 0 0)) g G6 (n + 4 * ws.length + Eb.length + Eo.length) LA LB L' ∧ (∀ j,18 ≤ j → j < 24 → G6 j = .slice none 0 0) ∧ (∀ j,j < 11 → G6 j = G j)):=by
                refine ⟨_,s6,fun j j1 j2=>?_,fun j j1=>?_⟩
                · rcases (show j = 18 ∨ j = 19 ∨ j = 20 ∨ j = 21 ∨ j = 22 ∨ j = 23 by omega) with rfl | rfl | rfl | rfl | rfl | rfl <;> rfl
                · show (if j = 23 then _ else if j = 22 then _ else if j = 21 then _ else if j = 20 then _ else if j = 19 then _ else if j = 18 then _ else G' j) = _
                  rw [if_neg (by omega),if_neg (by omega),if_neg (by omega),if_neg (by omega),if_neg (by omega),if_neg (by omega)]
                  exact hj j j1
              obtain ⟨G6,H6⟩:=HF.out
              have H7:=Hid.in H6
              have H8:=Hid.in t6
              have HL:=Hid.in hL
              have HT:=Hid.in ht
              clear hst hG hL ht s6 t6 hj HF H6
              go_wp2_with (go_at_call 44; refine (reads_any g G6 c' _ LA LB L' H7.out.1.row H7.out.1.ints H7.out.1.boxes H7.out.1.ops (by have:=HA.out.2.2.1; omega) (by have:=HB.out.2.2.1; omega) (by have:=HL.out; omega)).mono ?_; rintro e w5 ⟨rfl,hb5⟩; have H5:=Hid.in hb5; clear hb5)
              go_ret
              have t5:Turn (fun _=>False) c' _ c' w5:=(Turn.refl H7.out.1.top).below H5.out
              refine ⟨rfl,c',G6,LA,LB,L',H7.out.1.below H5.out,Wt.nil _ _ _ H7.out.2.1,H7.out.2.2,HA.out.2.2.1,HB.out.2.2.1,HL.out,?_⟩
              exact ((H1.out.2.2.mono (fun _ h=>h.elim)).trans (HA.out.2.2.2.mono (fun z h=>by omega))).trans ((HB.out.2.2.2.mono (fun z h=>by omega)).trans ((HT.out.mono (fun z h=>by omega)).trans ((H8.out.mono (fun z h=>by omega)).trans (t5.mono (fun _ h=>h.elim)))))
end Go.Proofs.YtojoafcnijajmaaGreatDoor.Z

namespace Go.Proofs.YtojoafcnijajmaaGreatDoor.Z
open Go.RowKit
attribute [local go_sem ↓] Go.wp_at_zero Go.wp_at_succ
set_option maxRecDepth 100000 in
set_option maxHeartbeats 4000000 in
theorem looksMany_any (g:Nat) (G:Nat → Value) (c:Nat → Nat) (w:World) (n:Nat) (Li Lb Lo:List (Value × Nat)) (ws:List GW) (Eb Eo:List (Value × Value)) (hs:St c w g G n Li Lb Lo) (hw:Wt c w G ws Eb Eo)
    (h1:ws.length ≤ 100) (h2:Eb.length ≤ 100) (h3:Eo.length ≤ 100) (hn:n ≤ 100000000000) (hi:Li.length ≤ 100000000000) (hb:Lb.length ≤ 100000000000) (ho:Lo.length ≤ 100000000000) (hm:7 < ws.length + Eb.length + Eo.length) :
    Calls (patch shutL Tryz.prog) 16 #[.pointer (some ⟨g,11,none⟩)] w fun e w'=>e = .returned (.bool true) ∧ ∃ c' G' Li' Lb' Lo',St c' w' g G' (n + 4 * ws.length + Eb.length + Eo.length) Li' Lb' Lo' ∧ Wt c' w' G' [] [] [] ∧ (∀ j,j < 11 → G' j = G j) ∧
      Li'.length = Li.length + 16 * ws.length ∧ Lb'.length = Lb.length + 4 * Eb.length ∧ Lo'.length = Lo.length + 4 * Eo.length ∧ Turn (fun z=>z ≠ 0 ∧ z ≠ 14) c w c' w':=by
  have H0:Hid (St c w g G n Li Lb Lo ∧ Wt c w G ws Eb Eo):=⟨hs,hw⟩
  obtain ⟨a1,c1,e1⟩:=ownsRow_shape hw.g.rows.1
  obtain ⟨a3,c3,e3⟩:=ownsRow_shape hw.b.rows.1
  obtain ⟨a5,c5,e5⟩:=ownsRow_shape hw.o.rows.1
  have g18:=hs.row.cell (i:=18) (by omega)
  have g20:=hs.row.cell (i:=20) (by omega)
  have g22:=hs.row.cell (i:=22) (by omega)
  rw [e1] at g18
  rw [e3] at g20
  rw [e5] at g22
  have hsum:(7:Int) < (ws.length:Int) + Eb.length + Eo.length:=by omega
  have hlt:=Hid.in (show ws.length ≤ 100 ∧ Eb.length ≤ 100 ∧ Eo.length ≤ 100 from ⟨h1,h2,h3⟩)
  clear hs hw e1 e3 e5 hm
  go_enter (pf Tryz.func16 (by rfl)),Tryz.ntmps16
  go_wp2_with fail
  go_quiet (fail)
  have hB:∀ k,St c (w.drewN k) g G n Li Lb Lo ∧ Wt c (w.drewN k) G ws Eb Eo:=fun k=>⟨H0.out.1.below ((Below.refl _ _).drewN k),H0.out.2.turn ((Turn.refl H0.out.1.top).below ((Below.refl _ _).drewN k)) (fun _ _ h=>h)⟩
  have HB:=Hid.in hB
  clear hB
  go_wp2_with (go_at_call 42; refine (settles_any g G c _ n Li Lb Lo ws Eb Eo (HB.out _).1 (HB.out _).2 h1 h2 h3 hn hi hb ho).mono ?_; rintro e w2 ⟨rfl,hr⟩; have HR:=Hid.in hr; clear hr)
  go_ret
  obtain ⟨c',G',Li',Lb',Lo',r1,r2,r3,r4,r5,r6,r7⟩:=HR.out
  exact ⟨rfl,c',G',Li',Lb',Lo',r1,r2,r3,r4,r5,r6,((Turn.refl H0.out.1.top).below ((Below.refl _ _).drewN _)).trans r7⟩
end Go.Proofs.YtojoafcnijajmaaGreatDoor.Z

namespace Go.Proofs.YtojoafcnijajmaaGreatDoor.Z
open Go.RowKit
attribute [local go_sem ↓] Go.wp_at_zero Go.wp_at_succ
set_option maxRecDepth 100000 in
theorem cloneOps0_any (w:World):Calls (patch shutL Tryz.prog) 198 #[.slice none 0 0] w fun e w'=>e = .returned (.slice none 0 0) ∧ w' = w:=by
  have heq:=fun (W:World)=>Lib.run_eql_slice_nil (P:=(patch shutL Tryz.prog)) W 58 132 none 0 0 0 0 ((patch_underlying shutL Tryz.prog 58).trans Tryz.underlying58)
  go_enter (pf Tryz.func198 (by rfl)),Tryz.ntmps198
  go_wp2_with (first | (go_at_call 185; go_enter (pf Tryz.func185 (by rfl)),Tryz.ntmps185) | (go_at_call 110; go_enter (pf Tryz.func110 (by rfl)),Tryz.ntmps110))
  go_ret
  exact ⟨rfl,rfl⟩
set_option maxRecDepth 100000 in
theorem cloneBoxes0_any (w:World):Calls (patch shutL Tryz.prog) 140 #[.slice none 0 0] w fun e w'=>e = .returned (.slice none 0 0) ∧ w' = w:=by
  have heq:=fun (W:World)=>Lib.run_eql_slice_nil (P:=(patch shutL Tryz.prog)) W 99 158 none 0 0 0 0 ((patch_underlying shutL Tryz.prog 99).trans Tryz.underlying99)
  go_enter (pf Tryz.func140 (by rfl)),Tryz.ntmps140
  go_wp2_with (first | (go_at_call 185; go_enter (pf Tryz.func185 (by rfl)),Tryz.ntmps185) | (go_at_call 110; go_enter (pf Tryz.func110 (by rfl)),Tryz.ntmps110))
  go_ret
  exact ⟨rfl,rfl⟩
set_option maxRecDepth 100000 in
theorem diskDone0_any (bb:Nat) (w:World) (h:w.cell? ⟨bb,7,none⟩ = some (.slice none 0 0)):Calls (patch shutL Tryz.prog) 139 #[.pointer (some ⟨bb,7,none⟩)] w fun e w'=>e = .returned (.slice none 0 0) ∧ w' = w:=by
  go_enter (pf Tryz.func139 (by rfl)),Tryz.ntmps139
  go_wp2_with (go_at_call 198; refine (cloneOps0_any _).mono ?_; rintro e w1 ⟨rfl,hw1⟩; obtain rfl:=hw1.symm)
  go_ret
  exact ⟨rfl,rfl⟩
set_option maxRecDepth 100000 in
theorem berthDisk_any (bb:Nat) (w:World) (h:w.cell? ⟨bb,7,none⟩ = some (.slice none 0 0)):Calls (patch shutL Tryz.prog) 62 #[.pointer (some ⟨bb,0,none⟩)] w fun e w'=>e = .returned (.slice none 0 0) ∧ w' = w:=by
  go_enter (pf Tryz.func62 (by rfl)),Tryz.ntmps62
  go_wp2_with (go_at_call 139; refine (diskDone0_any bb _ h).mono ?_; rintro e w1 ⟨rfl,hw1⟩; obtain rfl:=hw1.symm)
  go_ret
  exact ⟨rfl,rfl⟩
set_option maxRecDepth 100000 in
theorem berthBoxes_any (bb:Nat) (w:World) (h:w.cell? ⟨bb,6,none⟩ = some (.slice none 0 0)):Calls (patch shutL Tryz.prog) 66 #[.pointer (some ⟨bb,0,none⟩)] w fun e w'=>e = .returned (.slice none 0 0) ∧ w' = w:=by
  go_enter (pf Tryz.func66 (by rfl)),Tryz.ntmps66
  go_wp2_with (go_at_call 140; refine (cloneBoxes0_any _).mono ?_; rintro e w1 ⟨rfl,hw1⟩; obtain rfl:=hw1.symm)
  refine wp_loop_rounds 1 ?_
  rw [rounds_succ]
  go_wp2_with (first | (go_at_call 185; go_enter (pf Tryz.func185 (by rfl)),Tryz.ntmps185) | (go_at_call 110; go_enter (pf Tryz.func110 (by rfl)),Tryz.ntmps110))
  go_ret
  exact ⟨rfl,rfl⟩
set_option maxRecDepth 100000 in
theorem worldBoxes_any (ww:Nat) (ao:Option Addr) (n cap:Nat) (w:World) (h:w.cell? ⟨ww,6,none⟩ = some (.slice ao n cap)):Calls (patch shutL Tryz.prog) 67 #[.pointer (some ⟨ww,0,none⟩)] w fun e w'=>e = .returned (.slice ao n cap) ∧ w' = w:=by
  go_enter (pf Tryz.func67 (by rfl)),Tryz.ntmps67
  go_wp2_with (first | (go_at_call 185; go_enter (pf Tryz.func185 (by rfl)),Tryz.ntmps185) | (go_at_call 110; go_enter (pf Tryz.func110 (by rfl)),Tryz.ntmps110))
  go_ret
  exact ⟨rfl,rfl⟩
theorem copy0 (W:World) (ao:Option Addr) (ac:Nat):(Builtin.copy_ #[58,58] 3 #[.slice ao 0 ac,.slice none 0 0]).run (patch shutL Tryz.prog) W = .ok (.int .i64 0) W:=by
  have hu:=((patch_underlying shutL Tryz.prog 58).trans Tryz.underlying58)
  obtain ⟨i1,hi',hz0',hz1',hz2'⟩:=info_parts Tryz.infoOp
  cases ao <;> simp [Builtin.copy_,run_underlying hu,sizeOf,typeInfo,hi',Builtin.lenOf,Builtin.firstCells,storeCells,goInt]
theorem Wt.congr {c:Nat → Nat} {w:World} {G G':Nat → Value} {ws:List GW} {Eb Eo:List (Value × Value)} (h:Wt c w G ws Eb Eo) (hG:∀ j,18 ≤ j → G' j = G j):Wt c w G' ws Eb Eo :=
  ⟨by rw [hG 18 (by omega),hG 19 (by omega)]; exact h.g,by rw [hG 20 (by omega),hG 21 (by omega)]; exact h.b,by rw [hG 22 (by omega),hG 23 (by omega)]; exact h.o⟩
theorem kept_ops {c c':Nat → Nat} {w w':World} {g n:Nat} {G G':Nat → Value} {Li Lb Lo:List (Value × Nat)} {ws:List GW} {Eb Eo Eo':List (Value × Value)} (hs:St c w g G n Li Lb Lo) (hw:Wt c w G ws Eb Eo) (hr:w'.rowIs g 67 24 G') (hc:c' g = 1) (hG:∀ j,j ≠ 22 → j ≠ 23 → G' j = G j)
    (hE:WaitE 12 13 200 58 132 4 c' w' (G' 22) (G' 23) Eo') (t:Turn (fun z=>z = 1 ∨ z = 12 ∨ z = 13) c w c' w'):St c' w' g G' n Li Lb Lo ∧ Wt c' w' G' ws Eb Eo':=by
  refine ⟨⟨hr,hc,t.top,(hG 14 (by omega) (by omega)).trans hs.cnt,?_,?_,?_⟩,⟨?_,?_,hE⟩⟩
  · rw [hG 11 (by omega) (by omega),hG 15 (by omega) (by omega)]; exact hs.ints.turn t (by omega) (by omega) (by omega)
  · rw [hG 12 (by omega) (by omega),hG 16 (by omega) (by omega)]; exact hs.boxes.turn t (by omega) (by omega) (by omega)
  · rw [hG 13 (by omega) (by omega),hG 17 (by omega) (by omega)]; exact hs.ops.turn t (by omega) (by omega) (by omega)
  · rw [hG 18 (by omega) (by omega),hG 19 (by omega) (by omega)]; exact hw.g.turn t (by omega) (by omega) (by omega) (by omega)
  · rw [hG 20 (by omega) (by omega),hG 21 (by omega) (by omega)]; exact hw.b.turn t (by omega) (by omega) (by omega)
set_option maxRecDepth 100000 in
set_option maxHeartbeats 400000 in
theorem gameDisk0_any (g bb:Nat) (G:Nat → Value) (c:Nat → Nat) (w:World) (n:Nat) (Li Lb Lo:List (Value × Nat)) (ws:List GW) (Eb Eo:List (Value × Value)) (oa:Option Addr) (oc:Nat) (hs:St c w g G n Li Lb Lo) (hw:Wt c w G ws Eb Eo)
    (h0:G 0 = .pointer (some ⟨bb,0,none⟩)) (h6:G 6 = .slice oa 0 oc) (h3:Eo.length ≤ 1000) (hd:w.cell? ⟨bb,7,none⟩ = some (.slice none 0 0)) :
    Calls (patch shutL Tryz.prog) 31 #[.pointer (some ⟨g,0,none⟩)] w fun e w'=>e = .returned (.bool true) ∧ ∃ c' G' oa' oc',St c' w' g G' n Li Lb Lo ∧ Wt c' w' G' ws Eb (Eo ++ [(.slice none 0 0,.slice none 0 0),(.slice none 0 0,.slice none 0 0)]) ∧ G' 6 = .slice oa' 0 oc' ∧ (∀ j,j < 11 → j ≠ 6 → G' j = G j) ∧ Turn (fun z=>z = 1 ∨ z = 12 ∨ z = 13) c w c' w':=by
  obtain ⟨W1,hmk,⟨f,r1⟩,hB1,hs1⟩:=ex_make (P:=(patch shutL Tryz.prog)) w 58 132 _ 4 56 0 0 rfl ((patch_underlying shutL Tryz.prog 58).trans Tryz.underlying58) Tryz.infoOp (by omega) (by omega)
  have q0:=hs.row.cell (i:=0) (by omega)
  have q6:=hs.row.cell (i:=6) (by omega)
  have qf:=hs.row.frozen
  rw [h0] at q0
  rw [h6] at q6
  have H0:Hid (St c w g G n Li Lb Lo ∧ Wt c w G ws Eb Eo ∧ Below w.heap.size w W1):=⟨hs,hw,hB1⟩
  have hs1':=hs.below hB1
  have k6:=hs1'.row.cell (i:=6) (by omega)
  have kf:=hs1'.row.frozen
  rw [h6] at k6
  have t6:Turn (fun z=>z = 1) c w c (W1.setCell ⟨g,6,none⟩ (.slice (some ⟨w.heap.size,0,none⟩) 0 0)):=((Turn.refl hs.top).below hB1).set (fun k _ e=>by rw [e]; exact hs.col) _
  have H6:Hid (St c (W1.setCell ⟨g,6,none⟩ (.slice (some ⟨w.heap.size,0,none⟩) 0 0)) g (fun i=>if i = 6 then .slice (some ⟨w.heap.size,0,none⟩) 0 0 else G i) n Li Lb Lo ∧ Wt c (W1.setCell ⟨g,6,none⟩ (.slice (some ⟨w.heap.size,0,none⟩) 0 0)) (fun i=>if i = 6 then .slice (some ⟨w.heap.size,0,none⟩) 0 0 else G i) ws Eb Eo ∧ Turn (fun z=>z = 1) c w c (W1.setCell ⟨g,6,none⟩ (.slice (some ⟨w.heap.size,0,none⟩) 0 0))) :=
    ⟨hs1'.set 6 (by omega) _,(hw.turn t6 (fun z hz=>by omega)).congr (fun j hj=>if_neg (by omega)),t6⟩
  have hcp:=fun W=>copy0 W (some ⟨w.heap.size,0,none⟩) 0
  clear hs hw hs1' hB1 hs1 r1 t6
  go_enter (pf Tryz.func31 (by rfl)),Tryz.ntmps31
  go_wp2_with (first
    | (go_at_call 62; refine (berthDisk_any bb _ hd).mono ?_; rintro e w1 ⟨rfl,hw1⟩; obtain rfl:=hw1.symm)
    | (go_at_call 63; refine (sameOps0_any _ _ _ _ _).mono ?_; rintro e w1 ⟨rfl,hw1⟩; obtain rfl:=hw1.symm))
  refine wp_loop_rounds 1 ?_
  rw [rounds_succ]
  go_wp2_with (go_at_call 65; refine Calls.mono (keepOps0_any g _ c _ (.slice none 0 0) Eo H6.out.1.row H6.out.1.col H6.out.1.top H6.out.2.1.o (RowC.nil _ _ _ _ _) (by omega)) ?_; rintro e w7 ⟨rfl,c7,G7,k1,k2,k3,k4,k5⟩; have k7:=Hid.in (And.intro (kept_ops H6.out.1 H6.out.2.1 k1 k2 k3 k4 k5) (And.intro k3 k5)); clear k1 k2 k3 k4 k5)
  go_wp2_with (go_at_call 65; refine Calls.mono (keepOps0_any g G7 c7 w7 (.slice none 0 0) (Eo ++ [(.slice none 0 0,.slice none 0 0)]) k7.out.1.1.row k7.out.1.1.col k7.out.1.1.top k7.out.1.2.o (RowC.nil _ _ _ _ _) (by simp; omega)) ?_; rintro e w8 ⟨rfl,c8,G8,k1,k2,k3,k4,k5⟩; have k8:=Hid.in (And.intro (kept_ops k7.out.1.1 k7.out.1.2 k1 k2 k3 k4 k5) (And.intro k3 k5)); clear k1 k2 k3 k4 k5)
  go_ret
  refine ⟨rfl,c8,G8,some ⟨w.heap.size,0,none⟩,0,k8.out.1.1,?_,?_,fun j j1 j2=>?_,(H6.out.2.2.mono (fun z h=>by omega)).trans (k7.out.2.2.trans k8.out.2.2)⟩
  · have h:=k8.out.1.2
    rw [List.append_assoc] at h
    exact h
  · rw [k8.out.2.1 6 (by omega) (by omega),k7.out.2.1 6 (by omega) (by omega)]; rfl
  · rw [k8.out.2.1 j (by omega) (by omega),k7.out.2.1 j (by omega) (by omega)]; exact if_neg j2
set_option maxRecDepth 100000 in
set_option maxHeartbeats 400000 in
theorem refused0_any (g bb:Nat) (G:Nat → Value) (c:Nat → Nat) (w:World) (n:Nat) (Li Lb Lo:List (Value × Nat)) (ws:List GW) (Eb Eo:List (Value × Value)) (oa:Option Addr) (oc:Nat) (hs:St c w g G n Li Lb Lo) (hw:Wt c w G ws Eb Eo)
    (h0:G 0 = .pointer (some ⟨bb,0,none⟩)) (h6:G 6 = .slice oa 0 oc) (h3:Eo.length ≤ 1000) (hd:w.cell? ⟨bb,7,none⟩ = some (.slice none 0 0)) :
    Calls (patch shutL Tryz.prog) 37 #[.pointer (some ⟨g,0,none⟩)] w fun e w'=>e = .returned (.bool true) ∧ ∃ c' G' oa' oc',St c' w' g G' n Li Lb Lo ∧ Wt c' w' G' ws Eb (Eo ++ [(.slice none 0 0,.slice none 0 0),(.slice none 0 0,.slice none 0 0)]) ∧ G' 6 = .slice oa' 0 oc' ∧ (∀ j,j < 11 → j ≠ 6 → G' j = G j) ∧ Turn (fun z=>z = 1 ∨ z = 12 ∨ z = 13) c w c' w':=by
  have q6:=hs.row.cell (i:=6) (by omega)
  rw [h6] at q6
  have H0:=Hid.in (And.intro hs hw)
  clear hs hw
  go_enter (pf Tryz.func37 (by rfl)),Tryz.ntmps37
  go_wp2_with (go_at_call 31; refine Calls.mono (gameDisk0_any g bb G c w n Li Lb Lo ws Eb Eo oa oc H0.out.1 H0.out.2 h0 h6 h3 hd) ?_; rintro e w1 ⟨rfl,c',G',oa',oc',r1,r2,r3,r4,r5⟩; have p6:=r1.row.cell (i:=6) (by omega); rw [r3] at p6; have H1:=Hid.in (And.intro r1 (And.intro r2 (And.intro r3 (And.intro r4 r5)))); clear r1 r2 r3 r4 r5)
  go_ret
  exact ⟨rfl,c',G',oa',oc',H1.out⟩
end Go.Proofs.YtojoafcnijajmaaGreatDoor.Z
