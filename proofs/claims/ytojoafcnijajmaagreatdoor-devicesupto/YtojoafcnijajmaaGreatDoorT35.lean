/- Part 35 of the proof that Devices answers true and leaves its input as it was, for input of bulk at most the bound of its row: ZJ6. -/
import Derived.Test.YtojoafcnijajmaaGreatDoorT8
import Derived.Test.YtojoafcnijajmaaGreatDoorT33
import Derived.BigQuiet
namespace Go.Proofs.YtojoafcnijajmaaGreatDoor.Z
open Go.RowKit
attribute [local go_sem ↓] Go.wp_at_zero Go.wp_at_succ
theorem mk_at {x xm e sz k:Nat} {c:Nat → Nat} {w:World} {pat:Nat → Nat → Value} {v vm:Value} {L:List (Value × Nat)} (h:MK c w x xm e sz pat v vm L) (hk:k < L.length) :
    ∃ b1 c1 b2 c2 m ao n cp,v = .slice (some ⟨b1,0,none⟩) L.length c1 ∧ vm = .slice (some ⟨b2,0,none⟩) L.length c2 ∧ b1 < w.heap.size ∧ b2 < w.heap.size ∧ w.cell? ⟨b1,k,none⟩ = some (.slice ao n cp) ∧ w.cell? ⟨b2,k,none⟩ = some (.int .i64 (m:Nat)) ∧ m ≤ 1000000000000 ∧
      n ≤ maxLen ∧ (0 < n → ∃ b,ao = some ⟨b,0,none⟩ ∧ b < w.heap.size ∧ ∀ i j,i < n → j < sz → w.cell? ⟨b,i * sz + j,none⟩ = some (pat m j)):=by
  obtain ⟨b1,c1,rfl,_,l1⟩:=h.rows.1.form (by omega)
  obtain ⟨b2,c2,rfl,_,l2⟩:=h.marks.1.form (by omega)
  have hx:L[k]? = some L[k]:=List.getElem?_eq_getElem hk
  have hm:L[k] ∈ L:=List.getElem_mem hk
  obtain ⟨ao,n,cp,he,h1,h2,h3⟩:=h.fill _ hm
  refine ⟨b1,c1,b2,c2,L[k].2,ao,n,cp,rfl,rfl,l1,l2,?_,?_,h.small _ hm,by omega,fun h0=>?_⟩
  · rw [h.rows.1.cellAt k (by omega),List.getElem?_map,hx,← he]; rfl
  · rw [h.marks.1.cellAt k (by omega),List.getElem?_map,hx]; rfl
  · obtain ⟨b,hb,_,hl,hc⟩:=h3 h0
    exact ⟨b,hb,hl,hc⟩
set_option maxRecDepth 100000 in
set_option maxHeartbeats 4000000 in
theorem reads_any (g:Nat) (G:Nat → Value) (c:Nat → Nat) (w:World) (Li Lb Lo:List (Value × Nat)) (hrow:w.rowIs g 67 24 G) (hI:MK c w 2 5 23 1 pInt (G 11) (G 15) Li)
    (hB:MK c w 3 6 99 5 pBox (G 12) (G 16) Lb) (hO:MK c w 4 7 58 4 pOp (G 13) (G 17) Lo) (hl1:Li.length ≤ 1000000000000) (hl2:Lb.length ≤ 1000000000000) (hl3:Lo.length ≤ 1000000000000) :
    Calls (patch shutL Tryz.prog) 44 #[.pointer (some ⟨g,11,none⟩)] w fun e w'=>e = .returned (.bool true) ∧ Below w.heap.size w w':=by
  have hgl:=hrow.lt
  have H0:Hid (MK c w 2 5 23 1 pInt (G 11) (G 15) Li ∧ MK c w 3 6 99 5 pBox (G 12) (G 16) Lb ∧ MK c w 4 7 58 4 pOp (G 13) (G 17) Lo):=⟨hI,hB,hO⟩
  obtain ⟨a1,c1,e1⟩:=ownsRow_shape hI.rows.1
  obtain ⟨a2,c2,e2⟩:=ownsRow_shape hI.marks.1
  obtain ⟨a3,c3,e3⟩:=ownsRow_shape hB.rows.1
  obtain ⟨a4,c4,e4⟩:=ownsRow_shape hB.marks.1
  obtain ⟨a5,c5,e5⟩:=ownsRow_shape hO.rows.1
  obtain ⟨a6,c6,e6⟩:=ownsRow_shape hO.marks.1
  have g11:=hrow.cell (i:=11) (by omega)
  have g15:=hrow.cell (i:=15) (by omega)
  have g12:=hrow.cell (i:=12) (by omega)
  have g16:=hrow.cell (i:=16) (by omega)
  have g13:=hrow.cell (i:=13) (by omega)
  have g17:=hrow.cell (i:=17) (by omega)
  rw [e1] at g11
  rw [e2] at g15
  rw [e3] at g12
  rw [e4] at g16
  rw [e5] at g13
  rw [e6] at g17
  have HS:Hid (G 11 = .slice a1 Li.length c1 ∧ G 15 = .slice a2 Li.length c2 ∧ G 12 = .slice a3 Lb.length c3 ∧ G 16 = .slice a4 Lb.length c4 ∧ G 13 = .slice a5 Lo.length c5 ∧ G 17 = .slice a6 Lo.length c6):=⟨e1,e2,e3,e4,e5,e6⟩
  have HCE:Hid (w.cell? ⟨g,11,none⟩ = some (.slice a1 Li.length c1) ∧ w.cell? ⟨g,15,none⟩ = some (.slice a2 Li.length c2) ∧ w.cell? ⟨g,12,none⟩ = some (.slice a3 Lb.length c3) ∧ w.cell? ⟨g,16,none⟩ = some (.slice a4 Lb.length c4) ∧ w.cell? ⟨g,13,none⟩ = some (.slice a5 Lo.length c5) ∧ w.cell? ⟨g,17,none⟩ = some (.slice a6 Lo.length c6)):=⟨g11,g15,g12,g16,g13,g17⟩
  clear hrow hI hB hO e1 e2 e3 e4 e5 e6 g11 g15 g12 g16 g13 g17
  go_enter (pf Tryz.func44 (by rfl)),Tryz.ntmps44
  go_wp2_with fail
  go_loopw [3,4] (fun s i wr=>∃ k:Nat,k ≤ Li.length ∧ i = .int .i64 k ∧ s = .bool true ∧ Below w.heap.size w wr) (fun _ i _=>Li.length - (intOf i).toNat)
  case atStart=>exact ⟨0,by omega,rfl,rfl,Below.refl _ _⟩
  case round =>
    obtain ⟨k,hk,rfl,rfl,hb⟩:=hrel
    have HR:Hid (Below w.heap.size w wr):=hb
    have g11:=(hb.cell (p:=⟨g,11,none⟩) hgl).trans HCE.out.1
    have g15:=(hb.cell (p:=⟨g,15,none⟩) hgl).trans HCE.out.2.1
    by_cases hlt:k < Li.length
    · obtain ⟨b1,p1,b2,p2,m,ao,n,cp,q1,q2,l1,l2,d0,f0,hm,hn,hfill⟩:=mk_at H0.out.1 hlt
      rw [HS.out.1] at q1
      rw [HS.out.2.1] at q2
      injection q1 with q1 _ q1'
      injection q2 with q2 _ q2'
      subst q1; subst q1'; subst q2; subst q2'
      have D:Hid (w.cell? ⟨b1,k,none⟩ = some (.slice ao n cp) ∧ w.cell? ⟨b2,k,none⟩ = some (.int .i64 (m:Nat)) ∧ (0 < n → ∃ b,ao = some ⟨b,0,none⟩ ∧ b < w.heap.size ∧ ∀ i j,i < n → j < 1 → w.cell? ⟨b,i * 1 + j,none⟩ = some (pInt m j)) ∧ n ≤ maxLen):=⟨d0,f0,hfill,hn⟩
      have d0:=(hb.cell (p:=⟨b1,k,none⟩) l1).trans d0
      have kn:(k:Int) < Li.length:=by omega
      have k0:(0:Int) ≤ (k:Int):=by omega
      have HK:Hid (k < Li.length):=hlt
      clear hb hfill hn f0
      go_wp2_with fail
      obtain ⟨wo,rfl⟩ : ∃ wo,wo = wr:=⟨_,rfl⟩
      go_loopw [3,5] (fun s i wq=>∃ j:Nat,j ≤ n ∧ i = .int .i64 j ∧ s = .bool true ∧ Below w.heap.size w wq) (fun _ i _=>n - (intOf i).toNat)
      case atStart=>exact ⟨0,by omega,rfl,rfl,HR.out⟩
      case round =>
        obtain ⟨j,hj,rfl,rfl,hb⟩:=hrel
        have HR:Hid (Below w.heap.size w wr):=hb
        have g11:=(hb.cell (p:=⟨g,11,none⟩) hgl).trans HCE.out.1
        have g15:=(hb.cell (p:=⟨g,15,none⟩) hgl).trans HCE.out.2.1
        have d0:=(hb.cell (p:=⟨b1,k,none⟩) l1).trans D.out.1
        have f0:=(hb.cell (p:=⟨b2,k,none⟩) l2).trans D.out.2.1
        by_cases hlj:j < n
        · obtain ⟨b,rfl,lb,hcell⟩:=D.out.2.2.1 (by omega)
          have z0:=hcell j 0 hlj (by omega)
          rw [Nat.mul_one,Nat.add_zero] at z0
          have z0:=(hb.cell (p:=⟨b,j,none⟩) lb).trans z0
          unfold pInt at z0
          have jn:(j:Int) < n:=by omega
          have j0:(0:Int) ≤ (j:Int):=by omega
          have nm:=D.out.2.2.2
          unfold maxLen at nm
          have HJ:Hid (j < n):=hlj
          clear hb hcell
          go_wp2_with fail
          go_quiet (fail)
          go_wp2_with fail
          go_roundw
          case rel=>exact ⟨j + 1,by have:=HJ.out; omega,by go_num,rfl,HR.out.drewN _⟩
          case measure=>have:=HJ.out; simp [intOf]; omega
        · have:j = n:=by omega
          subst this
          have nm:=D.out.2.2.2
          unfold maxLen at nm
          go_wp2_with fail
          go_roundw
          case rel=>exact ⟨k + 1,by have:=HK.out; omega,by go_num,rfl,HR.out⟩
          case measure=>have:=HK.out; simp [intOf]; omega
    · have:k = Li.length:=by omega
      subst this
      go_wp2_with fail
      obtain ⟨wa,rfl⟩ : ∃ wa,wa = wr:=⟨_,rfl⟩
      go_loopw [3,6] (fun s i wr=>∃ k:Nat,k ≤ Lb.length ∧ i = .int .i64 k ∧ s = .bool true ∧ Below w.heap.size w wr) (fun _ i _=>Lb.length - (intOf i).toNat)
      case atStart=>exact ⟨0,by omega,rfl,rfl,HR.out⟩
      case round =>
        obtain ⟨k,hk,rfl,rfl,hb⟩:=hrel
        have HR:Hid (Below w.heap.size w wr):=hb
        have g12:=(hb.cell (p:=⟨g,12,none⟩) hgl).trans HCE.out.2.2.1
        have g16:=(hb.cell (p:=⟨g,16,none⟩) hgl).trans HCE.out.2.2.2.1
        by_cases hlt:k < Lb.length
        · obtain ⟨b1,p1,b2,p2,m,ao,n,cp,q1,q2,l1,l2,d0,f0,hm,hn,hfill⟩:=mk_at H0.out.2.1 hlt
          rw [HS.out.2.2.1] at q1
          rw [HS.out.2.2.2.1] at q2
          injection q1 with q1 _ q1'
          injection q2 with q2 _ q2'
          subst q1; subst q1'; subst q2; subst q2'
          have D:Hid (w.cell? ⟨b1,k,none⟩ = some (.slice ao n cp) ∧ (0 < n → ∃ b,ao = some ⟨b,0,none⟩ ∧ b < w.heap.size ∧ ∀ i j,i < n → j < 5 → w.cell? ⟨b,i * 5 + j,none⟩ = some (pBox m j)) ∧ n ≤ maxLen):=⟨d0,hfill,hn⟩
          have d0:=(hb.cell (p:=⟨b1,k,none⟩) l1).trans d0
          have f0:=(hb.cell (p:=⟨b2,k,none⟩) l2).trans f0
          have kn:(k:Int) < Lb.length:=by omega
          have k0:(0:Int) ≤ (k:Int):=by omega
          have HK:Hid (k < Lb.length):=hlt
          clear hb hfill hn
          go_wp2_with (go_at_call 96; refine (box_any m _ hm).mono ?_; rintro e w2 ⟨rfl,hb2⟩; have H2:Hid (Below wr.heap.size wr w2):=hb2; clear hb2)
          obtain ⟨B,hB⟩ : ∃ B,B = w2.heap.size:=⟨_,rfl⟩
          have H3:Hid ((w2.alloc (.cells #[.string (boxName m),.slice none 0 0,.slice none 0 0,.slice none 0 0,.slice none 0 0] 158)).heap[B]? = some (.cells #[.string (boxName m),.slice none 0 0,.slice none 0 0,.slice none 0 0,.slice none 0 0] 158 (0,0)) ∧ Below w.heap.size w (w2.alloc (.cells #[.string (boxName m),.slice none 0 0,.slice none 0 0,.slice none 0 0,.slice none 0 0] 158)) ∧ B < (w2.alloc (.cells #[.string (boxName m),.slice none 0 0,.slice none 0 0,.slice none 0 0,.slice none 0 0] 158)).heap.size):=⟨by rw [hB]; exact heap_alloc_new _ _,(ext_trans HR.out H2.out).alloc (Nat.le_trans HR.out.size H2.out.size) _,by rw [hB]; simp⟩
          rw [← hB]
          obtain ⟨wo,hwo⟩ : ∃ wo,wo = w2.alloc (.cells #[.string (boxName m),.slice none 0 0,.slice none 0 0,.slice none 0 0,.slice none 0 0] 158):=⟨_,rfl⟩
          rw [← hwo] at H3 ⊢
          clear hwo hB
          go_loopw [3,8] (fun s i wq=>∃ j:Nat,j ≤ n ∧ i = .int .i64 j ∧ s = .bool true ∧ Below wo.heap.size wo wq) (fun _ i _=>n - (intOf i).toNat)
          case atStart=>exact ⟨0,by omega,rfl,rfl,Below.refl _ _⟩
          case round =>
            obtain ⟨j,hj,rfl,rfl,hb'⟩:=hrel
            have hb:Below w.heap.size w wr:=H3.out.2.1.trans (hb'.mono H3.out.2.1.size)
            have HR:Hid (Below wo.heap.size wo wr ∧ Below w.heap.size w wr):=⟨hb',hb⟩
            have g12:=(hb.cell (p:=⟨g,12,none⟩) hgl).trans HCE.out.2.2.1
            have d0:=(hb.cell (p:=⟨b1,k,none⟩) l1).trans D.out.1
            obtain ⟨y0,y0f⟩:=blk ((hb'.block B H3.out.2.2).trans H3.out.1)
            have Bl:B < wr.heap.size:=Nat.lt_of_lt_of_le H3.out.2.2 hb'.size
            by_cases hlj:j < n
            · obtain ⟨b,rfl,lb,hcell⟩:=D.out.2.1 (by omega)
              have z0:=(hb.cell (p:=⟨b,j * 5 + 0,none⟩) lb).trans (hcell j 0 hlj (by omega))
              have z1:=(hb.cell (p:=⟨b,j * 5 + 1,none⟩) lb).trans (hcell j 1 hlj (by omega))
              have z2:=(hb.cell (p:=⟨b,j * 5 + 2,none⟩) lb).trans (hcell j 2 hlj (by omega))
              have z3:=(hb.cell (p:=⟨b,j * 5 + 3,none⟩) lb).trans (hcell j 3 hlj (by omega))
              have z4:=(hb.cell (p:=⟨b,j * 5 + 4,none⟩) lb).trans (hcell j 4 hlj (by omega))
              rw [Nat.add_zero] at z0
              change _ = some (Value.string (boxName m)) at z0
              change _ = some (Value.slice none 0 0) at z1
              change _ = some (Value.slice none 0 0) at z2
              change _ = some (Value.slice none 0 0) at z3
              change _ = some (Value.slice none 0 0) at z4
              have jn:(j:Int) < n:=by omega
              have j0:(0:Int) ≤ (j:Int):=by omega
              have nm:=D.out.2.2
              unfold maxLen at nm
              have HJ:Hid (j < n):=hlj
              have hne:B ≠ wr.heap.size:=by omega
              clear hb hb' hcell
              go_wp2_with fail
              go_roundw
              case rel=>exact ⟨j + 1,by have:=HJ.out; omega,by go_num,by simp,HR.out.1.alloc HR.out.1.size _⟩
              case measure=>have:=HJ.out; simp [intOf]; omega
            · have:j = n:=by omega
              subst this
              have nm:=D.out.2.2
              unfold maxLen at nm
              go_wp2_with fail
              go_roundw
              case rel=>exact ⟨k + 1,by have:=HK.out; omega,by go_num,rfl,HR.out.2⟩
              case measure=>have:=HK.out; simp [intOf]; omega
        · have:k = Lb.length:=by omega
          subst this
          go_wp2_with fail
          obtain ⟨wb,rfl⟩ : ∃ wb,wb = wr:=⟨_,rfl⟩
          go_loopw [3,10] (fun s i wr=>∃ k:Nat,k ≤ Lo.length ∧ i = .int .i64 k ∧ s = .bool true ∧ Below w.heap.size w wr) (fun _ i _=>Lo.length - (intOf i).toNat)
          case atStart=>exact ⟨0,by omega,rfl,rfl,HR.out⟩
          case round =>
            obtain ⟨k,hk,rfl,rfl,hb⟩:=hrel
            have HR:Hid (Below w.heap.size w wr):=hb
            have g13:=(hb.cell (p:=⟨g,13,none⟩) hgl).trans HCE.out.2.2.2.2.1
            have g17:=(hb.cell (p:=⟨g,17,none⟩) hgl).trans HCE.out.2.2.2.2.2
            by_cases hlt:k < Lo.length
            · obtain ⟨b1,p1,b2,p2,m,ao,n,cp,q1,q2,l1,l2,d0,f0,hm,hn,hfill⟩:=mk_at H0.out.2.2 hlt
              rw [HS.out.2.2.2.2.1] at q1
              rw [HS.out.2.2.2.2.2] at q2
              injection q1 with q1 _ q1'
              injection q2 with q2 _ q2'
              subst q1; subst q1'; subst q2; subst q2'
              have D:Hid (w.cell? ⟨b1,k,none⟩ = some (.slice ao n cp) ∧ w.cell? ⟨b2,k,none⟩ = some (.int .i64 (m:Nat)) ∧ (0 < n → ∃ b,ao = some ⟨b,0,none⟩ ∧ b < w.heap.size ∧ ∀ i j,i < n → j < 4 → w.cell? ⟨b,i * 4 + j,none⟩ = some (pOp m j)) ∧ n ≤ maxLen):=⟨d0,f0,hfill,hn⟩
              have d0:=(hb.cell (p:=⟨b1,k,none⟩) l1).trans d0
              have kn:(k:Int) < Lo.length:=by omega
              have k0:(0:Int) ≤ (k:Int):=by omega
              have HK:Hid (k < Lo.length):=hlt
              clear hb hfill hn f0
              go_wp2_with fail
              obtain ⟨wo,rfl⟩ : ∃ wo,wo = wr:=⟨_,rfl⟩
              go_loopw [3,11] (fun s i wq=>∃ j:Nat,j ≤ n ∧ i = .int .i64 j ∧ s = .bool true ∧ Below w.heap.size w wq) (fun _ i _=>n - (intOf i).toNat)
              case atStart=>exact ⟨0,by omega,rfl,rfl,HR.out⟩
              case round =>
                obtain ⟨j,hj,rfl,rfl,hb⟩:=hrel
                have HR:Hid (Below w.heap.size w wr):=hb
                have g13:=(hb.cell (p:=⟨g,13,none⟩) hgl).trans HCE.out.2.2.2.2.1
                have g17:=(hb.cell (p:=⟨g,17,none⟩) hgl).trans HCE.out.2.2.2.2.2
                have d0:=(hb.cell (p:=⟨b1,k,none⟩) l1).trans D.out.1
                have f0:=(hb.cell (p:=⟨b2,k,none⟩) l2).trans D.out.2.1
                by_cases hlj:j < n
                · obtain ⟨b,rfl,lb,hcell⟩:=D.out.2.2.1 (by omega)
                  have z0:=(hb.cell (p:=⟨b,j * 4 + 0,none⟩) lb).trans (hcell j 0 hlj (by omega))
                  have z1:=(hb.cell (p:=⟨b,j * 4 + 1,none⟩) lb).trans (hcell j 1 hlj (by omega))
                  have z2:=(hb.cell (p:=⟨b,j * 4 + 2,none⟩) lb).trans (hcell j 2 hlj (by omega))
                  have z3:=(hb.cell (p:=⟨b,j * 4 + 3,none⟩) lb).trans (hcell j 3 hlj (by omega))
                  rw [Nat.add_zero] at z0
                  change _ = some (Value.int .i64 (-100 - (m:Int))) at z0
                  change _ = some (Value.string ⟨#[]⟩) at z1
                  change _ = some (Value.string ⟨#[]⟩) at z2
                  change _ = some (Value.string ⟨#[]⟩) at z3
                  have jn:(j:Int) < n:=by omega
                  have j0:(0:Int) ≤ (j:Int):=by omega
                  have nm:=D.out.2.2.2
                  unfold maxLen at nm
                  have HJ:Hid (j < n):=hlj
                  clear hb hcell
                  go_wp2_with fail
                  go_quiet (fail)
                  go_wp2_with fail
                  go_roundw
                  case rel=>exact ⟨j + 1,by have:=HJ.out; omega,by go_num,by simp,HR.out.drewN _⟩
                  case measure=>have:=HJ.out; simp [intOf]; omega
                · have:j = n:=by omega
                  subst this
                  have nm:=D.out.2.2.2
                  unfold maxLen at nm
                  go_wp2_with fail
                  go_roundw
                  case rel=>exact ⟨k + 1,by have:=HK.out; omega,by go_num,rfl,HR.out⟩
                  case measure=>have:=HK.out; simp [intOf]; omega
            · have:k = Lo.length:=by omega
              subst this
              go_wp2_with fail
              go_ret
              exact ⟨rfl,HR.out⟩
end Go.Proofs.YtojoafcnijajmaaGreatDoor.Z
