/- Part 39 of the proof that Devices answers true and leaves its input as it was, for input of bulk at most the bound of its row: ZF4 ZM2 ZF5. -/
import Derived.Test.YtojoafcnijajmaaGreatDoorT8
import Derived.Test.YtojoafcnijajmaaGreatDoorT38
import Derived.Deep.RegionLaw
import Derived.Test.YtojoafcnijajmaaGreatDoorT26
set_option linter.unusedSimpArgs false
set_option linter.unusedVariables false
namespace Go.Proofs.YtojoafcnijajmaaGreatDoor.Z
open Go.RowKit
attribute [local go_sem ↓] Go.wp_at_zero Go.wp_at_succ
attribute [local go_sem] After.cell After.frozen After.const
def dlCell (NN:Nat → Int) (HH:Nat → Bool) (j:Nat):Value:=if j % 2 = 0 then .int .i64 (NN (j / 2)) else .bool (HH (j / 2))
theorem dlCell_0 (NN:Nat → Int) (HH:Nat → Bool) (i:Nat):dlCell NN HH (i * 2) = .int .i64 (NN i):=by unfold dlCell; rw [if_pos (by omega),show i * 2 / 2 = i by omega]
theorem dlCell_1 (NN:Nat → Int) (HH:Nat → Bool) (i:Nat):dlCell NN HH (i * 2 + 1) = .bool (HH i):=by unfold dlCell; rw [if_neg (by omega),show (i * 2 + 1) / 2 = i by omega]
theorem dlCell_nb (NN:Nat → Int) (HH:Nat → Bool) (j:Nat):NB (dlCell NN HH j):=by
  unfold dlCell
  split
  · exact .inl ⟨_,_,rfl⟩
  · exact .inr ⟨_,rfl⟩
def dlL (n:Nat) (NN:Nat → Int) (HH:Nat → Bool):List Value:=(List.range (n * 2)).map (dlCell NN HH)
def DevAt (w:World) (b o n:Nat) (NN:Nat → Int) (HH:Nat → Bool):Prop:=∀ i,i < n → w.cell? ⟨b,o + i * 2,none⟩ = some (.int .i64 (NN i)) ∧ w.cell? ⟨b,o + i * 2 + 1,none⟩ = some (.bool (HH i))
theorem DevAt.flat {w:World} {b o n:Nat} {NN:Nat → Int} {HH:Nat → Bool} (h:DevAt w b o n NN HH) {j:Nat} (hj:j < n * 2):w.cell? ⟨b,o + j,none⟩ = some (dlCell NN HH j):=by
  obtain ⟨h0,h1⟩:=h (j / 2) (by omega)
  rcases (show j = j / 2 * 2 ∨ j = j / 2 * 2 + 1 by omega) with e | e
  · rw [e,dlCell_0]; exact h0
  · rw [e,dlCell_1]; exact h1
theorem DevAt.keep {w w':World} {b o n:Nat} {NN:Nat → Int} {HH:Nat → Bool} (h:DevAt w b o n NN HH) (hc:∀ a v,w.cell? a = some v → w'.cell? a = some v):DevAt w' b o n NN HH:=fun i hi=>⟨hc _ _ (h i hi).1,hc _ _ (h i hi).2⟩
theorem dlL_get {n:Nat} {NN:Nat → Int} {HH:Nat → Bool} {j:Nat} {u:Value} (h:(dlL n NN HH)[j]? = some u):j < n * 2 ∧ u = dlCell NN HH j:=by
  have hj:j < n * 2:=by
    have:=(List.getElem?_eq_some_iff.1 h).1
    simpa [dlL] using this
  refine ⟨hj,?_⟩
  simp [dlL,hj] at h
  exact h.symm
def registerE (A:Int) (n:Nat) (NN:Nat → Int):Int:=if 0 ≤ A ∧ A < 3 then (if 16 < n then 7 else if (List.range n).all (fun i=>decide (0 ≤ NN i ∧ NN i < 4)) then 0 else 3) else 2
def setK (D:BD) (k n:Nat) (NN:Nat → Int) (HH:Nat → Bool):BD:=⟨D.n,D.N,D.r,D.R,fun k'=>if k' = k then n else D.dn k',fun k'=>if k' = k then NN else D.dN k',fun k'=>if k' = k then HH else D.dH k'⟩
def registerD (D:BD) (A:Int) (n:Nat) (NN:Nat → Int) (HH:Nat → Bool):BD:=if registerE A n NN = 0 then setK D A.toNat n NN HH else D
theorem infoDev:((patch shutL Tryz.prog).info? 80).map (fun i=>(i.zero,i.size,i.bytes)) = some (some (.agg #[.int .i64 0,.bool false]),2,16):=by kernel_rfl
theorem ZF2:∀ u ∈ (Value.agg #[.int .i64 0,.bool false]).cells.toList,NB u:=fun u hu=>by
  simp [Value.cells] at hu
  rcases hu with rfl | rfl
  · exact .inl ⟨_,_,rfl⟩
  · exact .inr ⟨_,rfl⟩
set_option maxRecDepth 100000 in
set_option maxHeartbeats 1000000 in
theorem cloneDev_any (b o n cap:Nat) (xs:List Value) (w:World) (hn:n ≤ 16) (hl:xs.length = n * 2) (hx:∀ j u,xs[j]? = some u → w.cell? ⟨b,o + j,none⟩ = some u) (h1:∀ u ∈ xs,NB u) :
    Calls (patch shutL Tryz.prog) 111 #[.slice (some ⟨b,o,none⟩) n cap] w fun e w'=>∃ v,e = .returned v ∧ w'.ownsRow w.heap.size 80 2 v n xs ∧ Flat w' v ∧ Below w.heap.size w w':=by
  have heq:=fun (W:World)=>Lib.run_eql_slice_nil (P:=(patch shutL Tryz.prog)) W 36 80 (some ⟨b,o,none⟩) n cap 0 0 ((patch_underlying shutL Tryz.prog 36).trans Tryz.underlying36)
  obtain ⟨i,hi,hz0,hz1,hz2⟩:=info_parts infoDev
  have hu:=((patch_underlying shutL Tryz.prog 36).trans Tryz.underlying36)
  have hx':∀ j u,xs[j]? = some u → (w.alloc (.cells #[] 80)).cell? ((⟨b,o,none⟩ : Addr).add j) = some u:=fun j u hj=>by rw [Addr.add_lit,World.cell?_alloc_past _ _ _ (block_lt_of_cell (hx j u hj))]; exact hx j u hj
  have HX:Hid (∀ j u,xs[j]? = some u → (w.alloc (.cells #[] 80)).cell? ((⟨b,o,none⟩ : Addr).add j) = some u):=hx'
  have H1:Hid (∀ u ∈ xs,NB u):=h1
  clear hx hx' h1
  go_enter (pf Tryz.func111 (by rfl)),Tryz.ntmps111
  go_wp2_with (at_builtin; go_loud (refine wpList_append_flat rfl _ _ _ rfl w.heap.size 80 i _ 2 16 hu hi hz0 hz1 hz2 (by rfl) (by omega) ZF2 w.heap.size (by rfl) (heap_alloc_new _ _) (Nat.le_refl _) ⟨b,o,none⟩ n cap xs (by rfl) hl HX.out H1.out (by unfold maxLen; omega) (by omega) ?_); intro v' w1 hown hgrow hflat)
  go_ret
  exact ⟨_,rfl,hown,hflat,((Below.refl _ _).alloc (Nat.le_refl _) _).grown hgrow (by simp) (fun k hk=>by cases hk; exact Nat.le_refl _)⟩
theorem isNode_any (x:Int) (w:World):Calls (patch shutL Tryz.prog) 110 #[.int .i64 x] w fun e w'=>e = .returned (.bool (decide (0 ≤ x ∧ x < 4))) ∧ w' = w:=by
  by_cases h0:0 ≤ x
  · by_cases h1:x < 4
    · go_enter (pf Tryz.func110 (by rfl)),Tryz.ntmps110
      go_wp2_with (first | (go_at_call 185; go_enter (pf Tryz.func185 (by rfl)),Tryz.ntmps185) | (go_at_call 110; go_enter (pf Tryz.func110 (by rfl)),Tryz.ntmps110))
      go_ret
      exact ⟨by simp [h0,h1],rfl⟩
    · go_enter (pf Tryz.func110 (by rfl)),Tryz.ntmps110
      go_wp2_with (first | (go_at_call 185; go_enter (pf Tryz.func185 (by rfl)),Tryz.ntmps185) | (go_at_call 110; go_enter (pf Tryz.func110 (by rfl)),Tryz.ntmps110))
      go_ret
      exact ⟨by simp [h0,h1],rfl⟩
  · go_enter (pf Tryz.func110 (by rfl)),Tryz.ntmps110
    go_wp2_with (first | (go_at_call 185; go_enter (pf Tryz.func185 (by rfl)),Tryz.ntmps185) | (go_at_call 110; go_enter (pf Tryz.func110 (by rfl)),Tryz.ntmps110))
    go_ret
    exact ⟨by simp; omega,rfl⟩
set_option maxRecDepth 100000 in
set_option maxHeartbeats 2000000 in
theorem regB_kind (bb:Nat) (A:Int) (v:Value) (w:World) (hA:¬ (0 ≤ A ∧ A < 3)):Calls (patch shutL Tryz.prog) 50 #[.pointer (some ⟨bb,0,none⟩),.int .i64 A,v] w fun e w'=>e = .returned (.int .i64 2) ∧ w' = w:=by
  have HN:=Hid.in hA
  clear hA
  go_enter (pf Tryz.func50 (by rfl)),Tryz.ntmps50
  go_wp2_with (go_at_call 82; refine (isKind_any _ _).mono ?_; rintro e w1 ⟨he,hw⟩; rw [decide_eq_false HN.out] at he; obtain rfl:=he; obtain rfl:=hw.symm)
  go_ret
  exact ⟨rfl,rfl⟩
set_option maxRecDepth 100000 in
set_option maxHeartbeats 2000000 in
theorem regB_many (kz:Int) (bb k n cap:Nat) (ao:Option Addr) (w:World) (hk:k < 3) (hkz:kz = k) (hn:16 < n):Calls (patch shutL Tryz.prog) 50 #[.pointer (some ⟨bb,0,none⟩),.int .i64 kz,.slice ao n cap] w fun e w'=>e = .returned (.int .i64 7) ∧ w' = w:=by
  have hn':(16:Int) < n:=by omega
  have hk3':(k = 0 ∧ kz = 0) ∨ (k = 1 ∧ kz = 1) ∨ (k = 2 ∧ kz = 2):=by omega
  clear hkz
  rcases hk3' with ⟨rfl,rfl⟩ | ⟨rfl,rfl⟩ | ⟨rfl,rfl⟩
  all_goals (
    go_enter (pf Tryz.func50 (by rfl)),Tryz.ntmps50
    go_wp2_with (go_at_call 82; refine (isKind_any _ _).mono ?_; rintro e w1 ⟨he,hw⟩; obtain rfl:=he; obtain rfl:=hw.symm)
    go_ret
    exact ⟨rfl,rfl⟩)
set_option maxRecDepth 100000 in
set_option maxHeartbeats 4000000 in
theorem regB_node (kz:Int) (bb k b o n cap i0:Nat) (NN:Nat → Int) (HH:Nat → Bool) (w:World) (hk:k < 3) (hkz:kz = k) (hn:n ≤ 16) (hnc:n ≤ cap) (hd:DevAt w b o n NN HH) (hi0:i0 < n) (hbad:¬ (0 ≤ NN i0 ∧ NN i0 < 4)) (hgood:∀ i,i < i0 → 0 ≤ NN i ∧ NN i < 4) :
    Calls (patch shutL Tryz.prog) 50 #[.pointer (some ⟨bb,0,none⟩),.int .i64 kz,.slice (some ⟨b,o,none⟩) n cap] w fun e w'=>e = .returned (.int .i64 3) ∧ Below w.heap.size w w':=by
  have hn':¬ (16:Int) < n:=by omega
  have HD:=Hid.in (And.intro hd (And.intro hbad hgood))
  clear hd hbad hgood
  have hk3':(k = 0 ∧ kz = 0) ∨ (k = 1 ∧ kz = 1) ∨ (k = 2 ∧ kz = 2):=by omega
  clear hkz
  rcases hk3' with ⟨rfl,rfl⟩ | ⟨rfl,rfl⟩ | ⟨rfl,rfl⟩
  all_goals (
    go_enter (pf Tryz.func50 (by rfl)),Tryz.ntmps50
    go_wp2_with (go_at_call 82; refine (isKind_any _ _).mono ?_; rintro e w1 ⟨he,hw⟩; obtain rfl:=he; obtain rfl:=hw.symm)
    go_loopw [17] (fun i wr=>∃ j:Nat,j ≤ i0 ∧ i = .int .i64 j ∧ Below w.heap.size w wr) (fun i _=>i0 + 1 - (intOf i).toNat)
    case atStart=>exact ⟨0,by omega,rfl,Below.refl _ _⟩
    case round =>
      obtain ⟨j,hj,rfl,hb⟩:=hrel
      have HB:=Hid.in hb
      obtain ⟨c0,c1⟩:=HD.out.1.keep (fun a v hc=>keeps hb hc) j (by omega)
      have jn:(j:Int) < n:=by omega
      have hz:w.heap.size ≤ wr.heap.size:=hb.size
      clear hb
      by_cases hlt:j < i0
      · have HG:=Hid.in (HD.out.2.2 j hlt)
        go_wp2_with (go_at_call 110; refine (isNode_any _ _).mono ?_; rintro e w1 ⟨he,hw⟩; rw [decide_eq_true HG.out] at he; obtain rfl:=he; obtain rfl:=hw.symm)
        go_roundw
        case rel=>exact ⟨j + 1,by omega,by go_num,HB.out.alloc hz _⟩
        case measure=>simp [intOf]; omega
      · have:j = i0:=by omega
        subst this
        go_wp2_with (go_at_call 110; refine (isNode_any _ _).mono ?_; rintro e w1 ⟨he,hw⟩; rw [decide_eq_false HD.out.2.1] at he; obtain rfl:=he; obtain rfl:=hw.symm)
        go_ret
        exact ⟨rfl,HB.out.alloc hz _⟩)
set_option maxRecDepth 100000 in
set_option maxHeartbeats 8000000 in
theorem regB_ok (kz:Int) (bb k b o n cap:Nat) (NN:Nat → Int) (HH:Nat → Bool) (cs:Array Value) (T:TypeId) (w:World) (hk:k < 3) (hkz:kz = k) (hn:n ≤ 16) (hnc:n ≤ cap) (hd:DevAt w b o n NN HH) (hgood:∀ i,i < n → 0 ≤ NN i ∧ NN i < 4) (hbb:w.heap[bb]? = some (.cells cs T (0,0))) (hcs:5 < cs.size) :
    Calls (patch shutL Tryz.prog) 50 #[.pointer (some ⟨bb,0,none⟩),.int .i64 kz,.slice (some ⟨b,o,none⟩) n cap] w fun e w'=>e = .returned (.int .i64 0) ∧ ∃ v W1,Below w.heap.size w W1 ∧ W1.ownsRow w.heap.size 80 2 v n (dlL n NN HH) ∧ Flat W1 v ∧ w'.heap = (W1.setCell ⟨bb,3 + k,none⟩ v).heap ∧ w'.os = w.os ∧ w'.tape = w.tape ∧ w'.output = w.output:=by
  have hn':¬ (16:Int) < n:=by omega
  have HD:=Hid.in (And.intro hd (And.intro hgood hbb))
  have hbl:bb < w.heap.size:=(Array.getElem?_eq_some_iff.1 hbb).1
  clear hd hgood hbb
  have hk3':(k = 0 ∧ kz = 0) ∨ (k = 1 ∧ kz = 1) ∨ (k = 2 ∧ kz = 2):=by omega
  clear hkz
  rcases hk3' with ⟨rfl,rfl⟩ | ⟨rfl,rfl⟩ | ⟨rfl,rfl⟩
  all_goals (
    go_enter (pf Tryz.func50 (by rfl)),Tryz.ntmps50
    go_wp2_with (go_at_call 82; refine (isKind_any _ _).mono ?_; rintro e w1 ⟨he,hw⟩; obtain rfl:=he; obtain rfl:=hw.symm)
    go_loopw [17] (fun i wr=>∃ j:Nat,j ≤ n ∧ i = .int .i64 j ∧ Below w.heap.size w wr) (fun i _=>n - (intOf i).toNat)
    case atStart=>exact ⟨0,by omega,rfl,Below.refl _ _⟩
    case round =>
      obtain ⟨j,hj,rfl,hb⟩:=hrel
      have HB:=Hid.in hb
      have hz:w.heap.size ≤ wr.heap.size:=hb.size
      by_cases hlt:j < n
      · obtain ⟨c0,c1⟩:=HD.out.1.keep (fun a v hc=>keeps hb hc) j hlt
        have jn:(j:Int) < n:=by omega
        clear hb
        have HG:=Hid.in (HD.out.2.1 j hlt)
        go_wp2_with (go_at_call 110; refine (isNode_any _ _).mono ?_; rintro e w1 ⟨he,hw⟩; rw [decide_eq_true HG.out] at he; obtain rfl:=he; obtain rfl:=hw.symm)
        go_roundw
        case rel=>exact ⟨j + 1,by omega,by go_num,HB.out.alloc hz _⟩
        case measure=>simp [intOf]; omega
      · have:j = n:=by omega
        subst this
        clear hb
        have hx:=Hid.in (show ∀ q u,(dlL j NN HH)[q]? = some u → wr.drew.cell? ⟨b,o + q,none⟩ = some u from fun q u hq=>by
          obtain ⟨h1,rfl⟩:=dlL_get hq
          exact (HD.out.1.keep (fun a v hc=>keeps HB.out hc)).flat h1)
        go_wp2_with fail
        go_region_law (go_simp; go_at_call 111; refine (cloneDev_any b o j cap (dlL j NN HH) wr.drew hn (by simp [dlL]) hx.out (fun u hu=>by obtain ⟨q,_,rfl⟩:=List.mem_map.1 hu; exact dlCell_nb _ _ _)).mono ?_; rintro e w1 ⟨v,rfl,hown,hfl,hb1⟩; obtain ⟨va,vcp,rfl⟩:=ownsRow_shape hown; have kb:=(hb1.block bb (by show bb < wr.heap.size; omega)).trans ((HB.out.block bb hbl).trans HD.out.2.2); obtain ⟨y0,y1⟩:=blk kb; have y3:=(y0 3).trans (Array.getElem?_eq_getElem (show 3 < cs.size from Nat.lt_trans (by decide) hcs)); have y4:=(y0 4).trans (Array.getElem?_eq_getElem (show 4 < cs.size from Nat.lt_trans (by decide) hcs)); have y5:=(y0 5).trans (Array.getElem?_eq_getElem hcs); clear y0; have HW:=Hid.in (And.intro hown (And.intro hfl hb1)); clear hown hfl hb1 kb; dsimp only)
        all_goals (
          have hz:=HB.out.size
          have hB1:Below w.heap.size w w1:=HB.out.drew.trans (HW.out.2.2.mono hz)
          have HF:=Hid.in (And.intro hB1 (And.intro (ownsRow_base HW.out.1 hz) HW.out.2.1))
          clear hB1
          go_wp2_with fail
          go_ret
          exact ⟨rfl,_,w1,HF.out.1,HF.out.2.1,HF.out.2.2,rfl,HF.out.1.os,HF.out.1.tape,HF.out.1.output⟩))
end Go.Proofs.YtojoafcnijajmaaGreatDoor.Z

namespace Go.Proofs.YtojoafcnijajmaaGreatDoor.Z
open Go.RowKit
attribute [local go_sem ↓] Go.wp_at_zero Go.wp_at_succ
attribute [local go_sem] After.cell After.frozen After.const
set_option maxRecDepth 100000 in
set_option maxHeartbeats 2000000 in
theorem still_any (m:Mach) (cb rb:Nat) (w:World) (hm:m.At w) (hc:w.rowIs cb 71 ((m.n + 8) * 3) (hC m)) (hr:w.rowIs rb 3 (m.r + 8) (hR m)) :
    Calls (patch shutL Tryz.prog) 26 #[.agg #[.slice (some ⟨cb,0,none⟩) m.n (m.n + 8),.slice (some ⟨rb,0,none⟩) m.r (m.r + 8),.int .i64 m.p],m.val] w fun e w'=>e = .returned (.bool true) ∧ Below w.heap.size w w':=by
  obtain ⟨ao,b,o,n,cap,S,N,C,ro,rbb,rp,r,rcap,R,p⟩:=m
  obtain ⟨ncap,nmax,addr,cpus,rc,rmax,raddr,ints⟩:=hm
  simp only [Mach.val] at *
  have n8:(0:Int) ≤ (n:Int) + 8:=by omega
  have r8:(0:Int) ≤ (r:Int) + 8:=by omega
  have l1:(n:Int) ≤ (n:Int) + 8:=by omega
  have l2:(r:Int) ≤ (r:Int) + 8:=by omega
  have HM:Hid (w.rowIs cb 71 ((n + 8) * 3) (hC ⟨ao,b,o,n,cap,S,N,C,ro,rbb,rp,r,rcap,R,p⟩) ∧ w.rowIs rb 3 (r + 8) (hR ⟨ao,b,o,n,cap,S,N,C,ro,rbb,rp,r,rcap,R,p⟩) ∧ CpuAt w b o n S N C ∧ IntAt w rbb rp r R):=⟨hc,hr,cpus,ints⟩
  clear hc hr cpus ints
  obtain ⟨W0,hW0⟩ : ∃ W0,W0 = (w.alloc (.cells #[.slice (some ⟨cb,0,none⟩) n (n + 8),.slice (some ⟨rb,0,none⟩) r (r + 8),.int .i64 p] 25)).alloc (.cells #[.slice ao n cap,.slice ro r rcap,.int .i64 p] 25):=⟨_,rfl⟩
  have hs0:W0.heap.size = w.heap.size + 1 + 1:=by rw [hW0]; simp
  have hB0:Below w.heap.size w W0:=by rw [hW0]; exact ((Below.refl _ _).alloc (Nat.le_refl _) _).alloc (by simp) _
  have d0:W0.cell? ⟨w.heap.size + 1,0,none⟩ = some (.slice ao n cap):=by rw [hW0,World.cell?_alloc_at _ _ _ _ (by simp)]; simp
  have d1:W0.cell? ⟨w.heap.size + 1,1,none⟩ = some (.slice ro r rcap):=by rw [hW0,World.cell?_alloc_at _ _ _ _ (by simp)]; simp
  go_enter (pf Tryz.func26 (by rfl)),Tryz.ntmps26
  go_wp2_with fail
  rw [← hW0]
  clear hW0
  go_loopw [9] (fun i wr=>∃ k:Nat,k ≤ n + 8 ∧ i = .int .i64 k ∧ Below W0.heap.size W0 wr) (fun i _=>n + 8 - (intOf i).toNat)
  case atStart=>exact ⟨0,by omega,rfl,Below.refl _ _⟩
  case round =>
    obtain ⟨k,hk,rfl,hb⟩:=hrel
    obtain ⟨hc,hf⟩:=bcell hb
    have hz:=hb.size
    have HB:Hid (Below W0.heap.size W0 wr):=hb
    have hs1:w.heap.size + 1 < wr.heap.size:=by omega
    have hs2:w.heap.size + 1 < W0.heap.size:=by omega
    by_cases hlt:k < n + 8
    · obtain ⟨g1,g2,g3,g4⟩:=HM.out
      have hcb:cb < W0.heap.size:=by have:=g1.lt; omega
      have hcbr:cb < wr.heap.size:=by omega
      have g1':W0.rowIs cb 71 ((n + 8) * 3) (hC ⟨ao,b,o,n,cap,S,N,C,ro,rbb,rp,r,rcap,R,p⟩):=g1.of_block (hB0.block _ g1.lt)
      have i0:(k:Int) < (n:Int) + 8:=by omega
      by_cases hkn:k < n
      · have u0:W0.cell? ⟨cb,k * 3,none⟩ = some (.int .i64 (S k)):=by rw [g1'.cell (by show k * 3 < (n + 8) * 3; omega)]; unfold hC; rw [if_pos (by show k * 3 < n * 3; omega)]; simp only [cpuCell_0]
        have u1:W0.cell? ⟨cb,k * 3 + 1,none⟩ = some (.int .i64 (N k)):=by rw [g1'.cell (by show k * 3 + 1 < (n + 8) * 3; omega)]; unfold hC; rw [if_pos (by show k * 3 + 1 < n * 3; omega)]; simp only [cpuCell_1]
        have u2:W0.cell? ⟨cb,k * 3 + 2,none⟩ = some (.int .i64 (C k)):=by rw [g1'.cell (by show k * 3 + 2 < (n + 8) * 3; omega)]; unfold hC; rw [if_pos (by show k * 3 + 2 < n * 3; omega)]; simp only [cpuCell_2]
        obtain ⟨v0,v1,v2⟩:=(g3.ext hB0) k hkn
        have hbb:b < W0.heap.size:=block_lt_of_cell v0
        have hbbr:b < wr.heap.size:=by omega
        have ha:=addr (by omega)
        subst ha
        have kn:(k:Int) < n:=by omega
        clear g1 g2 g3 g4 g1' addr raddr hb hs0
        go_wp2_with (first | (go_at_call 185; go_enter (pf Tryz.func185 (by rfl)),Tryz.ntmps185) | (go_at_call 110; go_enter (pf Tryz.func110 (by rfl)),Tryz.ntmps110))
        go_quiet (fail)
        go_wp2_with (first | (go_at_call 185; go_enter (pf Tryz.func185 (by rfl)),Tryz.ntmps185) | (go_at_call 110; go_enter (pf Tryz.func110 (by rfl)),Tryz.ntmps110))
        go_roundw
        case rel=>exact ⟨k + 1,by omega,by go_num,(HB.out.alloc hz _).drewN _⟩
        case measure=>simp [intOf]; omega
      · have u0:W0.cell? ⟨cb,k * 3,none⟩ = some (.int .i64 (-5)):=by rw [g1'.cell (by show k * 3 < (n + 8) * 3; omega)]; unfold hC; rw [if_neg (by show ¬ k * 3 < n * 3; omega)]
        have u1:W0.cell? ⟨cb,k * 3 + 1,none⟩ = some (.int .i64 (-5)):=by rw [g1'.cell (by show k * 3 + 1 < (n + 8) * 3; omega)]; unfold hC; rw [if_neg (by show ¬ k * 3 + 1 < n * 3; omega)]
        have u2:W0.cell? ⟨cb,k * 3 + 2,none⟩ = some (.int .i64 (-5)):=by rw [g1'.cell (by show k * 3 + 2 < (n + 8) * 3; omega)]; unfold hC; rw [if_neg (by show ¬ k * 3 + 2 < n * 3; omega)]
        clear g1 g2 g3 g4 g1' addr raddr hb hs0
        go_wp2_with (first | (go_at_call 185; go_enter (pf Tryz.func185 (by rfl)),Tryz.ntmps185) | (go_at_call 110; go_enter (pf Tryz.func110 (by rfl)),Tryz.ntmps110))
        go_quiet (fail)
        go_wp2_with (first | (go_at_call 185; go_enter (pf Tryz.func185 (by rfl)),Tryz.ntmps185) | (go_at_call 110; go_enter (pf Tryz.func110 (by rfl)),Tryz.ntmps110))
        go_roundw
        case rel=>exact ⟨k + 1,by omega,by go_num,(HB.out.alloc hz _).drewN _⟩
        case measure=>simp [intOf]; omega
    · have:k = n + 8:=by omega
      subst this
      go_wp2_with (first | (go_at_call 185; go_enter (pf Tryz.func185 (by rfl)),Tryz.ntmps185) | (go_at_call 110; go_enter (pf Tryz.func110 (by rfl)),Tryz.ntmps110))
      have hbw:Below w.heap.size w wr:=ext_trans hB0 HB.out
      have d1':=(hc _ 1 hs2).trans d1
      clear d0 d1 hc hf hb
      obtain ⟨wo,rfl⟩ : ∃ wo,wo = wr:=⟨_,rfl⟩
      go_loopw [11] (fun i wq=>∃ k:Nat,k ≤ r + 8 ∧ i = .int .i64 k ∧ wq = wo) (fun i _=>r + 8 - (intOf i).toNat)
      case atStart=>exact ⟨0,by omega,rfl,rfl⟩
      case round =>
        obtain ⟨k,hk,rfl,rfl⟩:=hrel
        by_cases hlt:k < r + 8
        · obtain ⟨g1,g2,g3,g4⟩:=HM.out
          have g2':=g2.of_block (hbw.block _ g2.lt)
          have i0:(k:Int) < (r:Int) + 8:=by omega
          by_cases hkn:k < r
          · have u0:wr.cell? ⟨rb,k,none⟩ = some (.int .i64 (R k)):=by rw [g2'.cell (by show k < r + 8; omega)]; unfold hR; rw [if_pos (by show k < r; omega)]
            have v0:=(g4.ext hbw) k hkn
            have ha:=raddr (by omega)
            subst ha
            have kn:(k:Int) < r:=by omega
            clear g1 g2 g3 g4 g2' addr raddr hs0
            go_wp2_with (first | (go_at_call 185; go_enter (pf Tryz.func185 (by rfl)),Tryz.ntmps185) | (go_at_call 110; go_enter (pf Tryz.func110 (by rfl)),Tryz.ntmps110))
            go_roundw
            case rel=>exact ⟨k + 1,by omega,by go_num,trivial⟩
            case measure=>simp [intOf]; omega
          · have u0:wr.cell? ⟨rb,k,none⟩ = some (.int .i64 (-5)):=by rw [g2'.cell (by show k < r + 8; omega)]; unfold hR; rw [if_neg (by show ¬ k < r; omega)]
            clear g1 g2 g3 g4 g2' addr raddr hs0
            go_wp2_with (first | (go_at_call 185; go_enter (pf Tryz.func185 (by rfl)),Tryz.ntmps185) | (go_at_call 110; go_enter (pf Tryz.func110 (by rfl)),Tryz.ntmps110))
            go_roundw
            case rel=>exact ⟨k + 1,by omega,by go_num,trivial⟩
            case measure=>simp [intOf]; omega
        · have:k = r + 8:=by omega
          subst this
          clear hs0
          go_wp2_with (first | (go_at_call 185; go_enter (pf Tryz.func185 (by rfl)),Tryz.ntmps185) | (go_at_call 110; go_enter (pf Tryz.func110 (by rfl)),Tryz.ntmps110))
          go_ret
          exact ⟨rfl,hbw⟩
def onlyIn (w w':World) (a b:Nat):Prop:=w'.os = w.os ∧ w'.tape = w.tape ∧ w'.output = w.output ∧ w.heap.size ≤ w'.heap.size ∧ ∀ k,k < w.heap.size → k ≠ a → k ≠ b → w'.heap[k]? = w.heap[k]?
theorem onlyIn.set {w w1:World} {a b:Nat} (h:onlyIn w w1 a b) {p:Addr} (hp:p.block = a ∨ p.block = b) (v:Value):onlyIn w (w1.setCell p v) a b :=
  ⟨h.1,h.2.1,h.2.2.1,by simpa using h.2.2.2.1,fun k hk h1 h2=>by
    rw [Below.heap_setCell _ _ _ _ (by rcases hp with e | e <;> rw [e] <;> assumption)]
    exact h.2.2.2.2 k hk h1 h2⟩
theorem onlyIn.cell {w w1:World} {a b:Nat} (h:onlyIn w w1 a b) {p:Addr} (h0:p.block < w.heap.size) (h1:p.block ≠ a) (h2:p.block ≠ b):w1.cell? p = w.cell? p:=World.cell?_of_block (h.2.2.2.2 _ h0 h1 h2)
theorem onlyIn.of_alloc {w w1:World} {a b:Nat} {o:Obj} (h:onlyIn (w.alloc o) w1 a b):onlyIn w w1 a b :=
  ⟨h.1,h.2.1,h.2.2.1,by have:=h.2.2.2.1; simp at this; omega,fun k hk h1 h2=>(h.2.2.2.2 k (by simp; omega) h1 h2).trans (Below.heap_alloc _ _ _ hk)⟩
set_option maxRecDepth 100000 in
set_option maxHeartbeats 2000000 in
theorem blot_any (n r cb rb:Nat) (p:Int) (w:World) (hn:n * 24 ≤ 140737488355328) (hr:r * 8 ≤ 140737488355328) (f f':Nat → Value) (hc:w.rowIs cb 71 ((n + 8) * 3) f) (hrr:w.rowIs rb 3 (r + 8) f') (hne:cb ≠ rb) :
    Calls (patch shutL Tryz.prog) 27 #[.agg #[.slice (some ⟨cb,0,none⟩) n (n + 8),.slice (some ⟨rb,0,none⟩) r (r + 8),.int .i64 p]] w fun e w'=>e = .returned (.tuple #[]) ∧ onlyIn w w' cb rb:=by
  have hcl:=hc.lt
  have hrl:=hrr.lt
  have HM:Hid (w.rowIs cb 71 ((n + 8) * 3) f ∧ w.rowIs rb 3 (r + 8) f'):=⟨hc,hrr⟩
  clear hc hrr
  go_enter (pf Tryz.func27 (by rfl)),Tryz.ntmps27
  go_wp2_with fail
  obtain ⟨W0,hW0⟩ : ∃ W0,W0 = w.alloc (.cells #[.slice (some ⟨cb,0,none⟩) n (n + 8),.slice (some ⟨rb,0,none⟩) r (r + 8),.int .i64 p] 25):=⟨_,rfl⟩
  have d0:W0.cell? ⟨w.heap.size,0,none⟩ = some (.slice (some ⟨cb,0,none⟩) n (n + 8)):=by rw [hW0]; simp
  have d1:W0.cell? ⟨w.heap.size,1,none⟩ = some (.slice (some ⟨rb,0,none⟩) r (r + 8)):=by rw [hW0]; simp
  have hs0:w.heap.size < W0.heap.size:=by rw [hW0]; simp
  have HF:Hid (∀ w',onlyIn W0 w' cb rb → onlyIn w w' cb rb):=by rw [hW0]; exact fun w' h=>h.of_alloc
  have h1:∃ f,W0.rowIs cb 71 ((n + 8) * 3) f:=⟨_,by rw [hW0]; exact HM.out.1.alloc _⟩
  have h2:∃ f,W0.rowIs rb 3 (r + 8) f:=⟨_,by rw [hW0]; exact HM.out.2.alloc _⟩
  rw [← hW0]
  clear hW0 HM
  go_loopw [2] (fun i wr=>∃ k:Nat,k ≤ n ∧ i = .int .i64 k ∧ onlyIn W0 wr cb rb ∧ (∃ f,wr.rowIs cb 71 ((n + 8) * 3) f) ∧ (∃ f,wr.rowIs rb 3 (r + 8) f)) (fun i _=>n - (intOf i).toNat)
  case atStart=>exact ⟨0,by omega,rfl,⟨rfl,rfl,rfl,Nat.le_refl _,fun k hk _ _=>rfl⟩,h1,h2⟩
  case round =>
    obtain ⟨k,hk,rfl,hb,⟨g,hg⟩,⟨q,hq⟩⟩:=hrel
    have HB:Hid (onlyIn W0 wr cb rb ∧ (wr.rowIs cb 71 ((n + 8) * 3) g) ∧ (wr.rowIs rb 3 (r + 8) q)):=⟨hb,hg,hq⟩
    have d0':=(hb.cell (p:=⟨w.heap.size,0,none⟩) hs0 (by show w.heap.size ≠ cb; omega) (by show w.heap.size ≠ rb; omega)).trans d0
    have d1':=(hb.cell (p:=⟨w.heap.size,1,none⟩) hs0 (by show w.heap.size ≠ cb; omega) (by show w.heap.size ≠ rb; omega)).trans d1
    clear d0 d1
    by_cases hlt:k < n
    · have u0:=hg.cell (i:=k * 3) (by omega)
      have u1:=hg.cell (i:=k * 3 + 1) (by omega)
      have u2:=hg.cell (i:=k * 3 + 2) (by omega)
      have uf:=hg.frozen
      clear hb hg hq h1 h2
      have kn:(k:Int) < n:=by omega
      go_wp2_with (first | (go_at_call 185; go_enter (pf Tryz.func185 (by rfl)),Tryz.ntmps185) | (go_at_call 110; go_enter (pf Tryz.func110 (by rfl)),Tryz.ntmps110))
      go_roundw
      case rel=>exact ⟨k + 1,by omega,by go_num,((HB.out.1.set (.inl rfl) _).set (.inl rfl) _).set (.inl rfl) _,⟨_,((HB.out.2.1.set _ _).set _ _).set _ _⟩,⟨_,((HB.out.2.2.setOther (Ne.symm hne) _).setOther (Ne.symm hne) _).setOther (Ne.symm hne) _⟩⟩
      case measure=>simp [intOf]; omega
    · have:k = n:=by omega
      subst this
      clear hb hg hq h1 h2
      go_wp2_with (first | (go_at_call 185; go_enter (pf Tryz.func185 (by rfl)),Tryz.ntmps185) | (go_at_call 110; go_enter (pf Tryz.func110 (by rfl)),Tryz.ntmps110))
      obtain ⟨wo,rfl⟩ : ∃ wo,wo = wr:=⟨_,rfl⟩
      go_loopw [3] (fun i wq=>∃ j:Nat,j ≤ r ∧ i = .int .i64 j ∧ onlyIn W0 wq cb rb ∧ (∃ f,wq.rowIs rb 3 (r + 8) f) ∧ wq.cell? ⟨w.heap.size,1,none⟩ = some (.slice (some ⟨rb,0,none⟩) r (r + 8))) (fun i _=>r - (intOf i).toNat)
      case atStart=>exact ⟨0,by omega,rfl,HB.out.1,⟨_,HB.out.2.2⟩,d1'⟩
      case round =>
        obtain ⟨j,hj,rfl,hb,⟨q',hq⟩,d1''⟩:=hrel
        have HB2:Hid (onlyIn W0 wr cb rb ∧ (wr.rowIs rb 3 (r + 8) q')):=⟨hb,hq⟩
        by_cases hlj:j < r
        · have u0:=hq.cell (i:=j) (by omega)
          have uf:=hq.frozen
          clear hb hq d0' d1'
          have kn:(j:Int) < r:=by omega
          go_wp2_with (first | (go_at_call 185; go_enter (pf Tryz.func185 (by rfl)),Tryz.ntmps185) | (go_at_call 110; go_enter (pf Tryz.func110 (by rfl)),Tryz.ntmps110))
          go_roundw
          case rel=>exact ⟨j + 1,by omega,by go_num,HB2.out.1.set (.inr rfl) _,⟨_,HB2.out.2.set _ _⟩,(World.cell?_setCell_other _ _ _ _ (fun e=>by have:=congrArg Addr.block e; simp at this; omega)).trans d1''⟩
          case measure=>simp [intOf]; omega
        · have:j = r:=by omega
          subst this
          clear hb hq d0' d1'
          go_wp2_with (first | (go_at_call 185; go_enter (pf Tryz.func185 (by rfl)),Tryz.ntmps185) | (go_at_call 110; go_enter (pf Tryz.func110 (by rfl)),Tryz.ntmps110))
          go_end0
          exact ⟨rfl,HF.out _ HB2.out.1⟩
end Go.Proofs.YtojoafcnijajmaaGreatDoor.Z

namespace Go.Proofs.YtojoafcnijajmaaGreatDoor.Z
open Go.RowKit
attribute [local go_sem ↓] Go.wp_at_zero Go.wp_at_succ
attribute [local go_sem] After.cell After.frozen After.const
def spCell (j:Nat):Value:=if j % 2 = 0 then .int .i64 (-5) else .bool false
def hDev (n:Nat) (NN:Nat → Int) (HH:Nat → Bool) (j:Nat):Value:=if j < n * 2 then dlCell NN HH j else spCell j
theorem hDev_sp0 {n k:Nat} {NN:Nat → Int} {HH:Nat → Bool} (h:n ≤ k):hDev n NN HH (k * 2) = .int .i64 (-5):=by unfold hDev spCell; rw [if_neg (by omega),if_pos (by omega)]
theorem hDev_sp1 {n k:Nat} {NN:Nat → Int} {HH:Nat → Bool} (h:n ≤ k):hDev n NN HH (k * 2 + 1) = .bool false:=by unfold hDev spCell; rw [if_neg (by omega),if_neg (by omega)]
theorem hDev_0 {n k:Nat} {NN:Nat → Int} {HH:Nat → Bool} (h:k < n):hDev n NN HH (k * 2) = .int .i64 (NN k):=by unfold hDev; rw [if_pos (by omega),dlCell_0]
theorem hDev_1 {n k:Nat} {NN:Nat → Int} {HH:Nat → Bool} (h:k < n):hDev n NN HH (k * 2 + 1) = .bool (HH k):=by unfold hDev; rw [if_pos (by omega),dlCell_1]
set_option maxRecDepth 100000 in
set_option maxHeartbeats 2000000 in
theorem handedDev_any (ao:Option Addr) (b o n cap:Nat) (NN:Nat → Int) (HH:Nat → Bool) (w:World) (hn:n ≤ 1000000000) (hnc:n ≤ cap) (ha:0 < n → ao = some ⟨b,o,none⟩) (hd:DevAt w b o n NN HH) :
    Calls (patch shutL Tryz.prog) 78 #[.slice ao n cap] w fun e w'=>e = .returned (.slice (some ⟨w.heap.size,0,none⟩) n (n + 8)) ∧ w'.rowIs w.heap.size 80 ((n + 8) * 2) (hDev n NN HH) ∧ Below w.heap.size w w' ∧ w'.heap.size = w.heap.size + 1:=by
  obtain ⟨W1,hmk1,⟨f1,r1⟩,hB1,hs1⟩:=ex_make (P:=(patch shutL Tryz.prog)) w 36 80 _ 2 16 (n + 8) ((n:Int) + 8) (by simp) ((patch_underlying shutL Tryz.prog 36).trans Tryz.underlying36) infoDev (by omega) (by omega)
  obtain ⟨W2,hcp1,r2,hg2,hs2⟩:=ex_copy (P:=(patch shutL Tryz.prog)) W1 36 80 _ 2 16 ((patch_underlying shutL Tryz.prog 36).trans Tryz.underlying36) infoDev w.heap.size 0 (n + 8) (n + 8) ((n + 8) * 2) f1 r1 ao b o n cap n (by simp) (dlCell NN HH) ha
    (fun j hj=>keeps hB1 (hd.flat hj)) (fun j _=>by rcases dlCell_nb NN HH j with ⟨_,_,e⟩ | ⟨_,e⟩ <;> rw [e] <;> rfl) (by omega)
  have HB2:Hid (Below w.heap.size w W2 ∧ W2.heap.size = w.heap.size + 1 ∧ W2.rowIs w.heap.size 80 ((n + 8) * 2) (fun j=>if 0 ≤ j ∧ j < 0 + n * 2 then dlCell NN HH (j - 0) else f1 j)):=⟨hB1.grown hg2 (by omega) (fun k hk=>by cases hk; omega),by omega,r2⟩
  clear hd r1 r2 hB1 hs1 hs2 hg2
  have n8:(0:Int) ≤ (n:Int) + 8:=by omega
  have nl:(n:Int) ≤ (n:Int) + 8:=by omega
  go_enter (pf Tryz.func78 (by rfl)),Tryz.ntmps78
  go_wp2_with fail
  go_loopw [5] (fun i wr=>∃ k:Nat,n ≤ k ∧ k ≤ n + 8 ∧ i = .int .i64 k ∧ (∃ f,wr.rowIs w.heap.size 80 ((n + 8) * 2) f ∧ ∀ j,j < k * 2 → f j = hDev n NN HH j) ∧ Below w.heap.size w wr ∧ wr.heap.size = w.heap.size + 1) (fun i _=>n + 8 - (intOf i).toNat)
  case atStart =>
    refine ⟨n,by omega,by omega,rfl,⟨_,HB2.out.2.2,fun j hj=>?_⟩,HB2.out.1,HB2.out.2.1⟩
    rw [if_pos ⟨Nat.zero_le _,by omega⟩]
    unfold hDev
    rw [if_pos hj]
    rfl
  case round =>
    obtain ⟨k,hk0,hk,rfl,⟨f,hr,hf⟩,hb,hs⟩:=hrel
    have HR:=Hid.in (And.intro hr (And.intro hf (And.intro hb hs)))
    by_cases hlt:k < n + 8
    · have u0:=hr.cell (i:=k * 2) (by omega)
      have u1:=hr.cell (i:=k * 2 + 1) (by omega)
      have uf:=hr.frozen
      have ki:(k:Int) < (n:Int) + 8:=by omega
      clear hr hf hb hs
      go_wp2_with fail
      go_roundw
      case rel =>
        refine ⟨k + 1,by omega,by omega,by go_num,⟨_,(HR.out.1.set (k * 2) (.int .i64 (-5))).set (k * 2 + 1) (.bool false),fun j hj=>?_⟩,(HR.out.2.2.1.setCell (Nat.le_refl _) _).setCell (Nat.le_refl _) _,by simpa using HR.out.2.2.2⟩
        by_cases h1:j = k * 2 + 1
        · subst h1
          rw [if_pos rfl,hDev_sp1 hk0]
        · rw [if_neg h1]
          by_cases h0:j = k * 2
          · subst h0
            rw [if_pos rfl,hDev_sp0 hk0]
          · rw [if_neg h0]
            exact HR.out.2.1 j (by omega)
      case measure=>simp [intOf]; omega
    · have:k = n + 8:=by omega
      subst this
      clear hr hf hb hs
      go_wp2_with fail
      go_ret
      exact ⟨rfl,HR.out.1.congr (fun j hj=>HR.out.2.1 j hj),HR.out.2.2.1,HR.out.2.2.2⟩
set_option maxRecDepth 100000 in
set_option maxHeartbeats 2000000 in
theorem stillDev_any (hb:Nat) (ao:Option Addr) (b o n cap:Nat) (NN:Nat → Int) (HH:Nat → Bool) (w:World) (hn:n ≤ 1000000000) (hnc:n ≤ cap) (ha:0 < n → ao = some ⟨b,o,none⟩) (hd:DevAt w b o n NN HH) (hr:w.rowIs hb 80 ((n + 8) * 2) (hDev n NN HH)) :
    Calls (patch shutL Tryz.prog) 79 #[.slice (some ⟨hb,0,none⟩) n (n + 8),.slice ao n cap] w fun e w'=>e = .returned (.bool true) ∧ Below w.heap.size w w':=by
  have HD:=Hid.in (And.intro hd hr)
  clear hd hr
  have n8:(0:Int) ≤ (n:Int) + 8:=by omega
  go_enter (pf Tryz.func79 (by rfl)),Tryz.ntmps79
  go_wp2_with fail
  go_loopw [7] (fun i wr=>∃ k:Nat,k ≤ n + 8 ∧ i = .int .i64 k ∧ Below w.heap.size w wr) (fun i _=>n + 8 - (intOf i).toNat)
  case atStart=>exact ⟨0,by omega,rfl,Below.refl _ _⟩
  case round =>
    obtain ⟨k,hk,rfl,hbl⟩:=hrel
    have HB:=Hid.in hbl
    have hz:=hbl.size
    by_cases hlt:k < n + 8
    · have ki:(k:Int) < (n:Int) + 8:=by omega
      have hrl:hb < wr.heap.size:=Nat.lt_of_lt_of_le HD.out.2.lt hz
      by_cases hkn:k < n
      · have u0:=keeps hbl (HD.out.2.cell (i:=k * 2) (by omega))
        have u1:=keeps hbl (HD.out.2.cell (i:=k * 2 + 1) (by omega))
        rw [hDev_0 hkn] at u0
        rw [hDev_1 hkn] at u1
        obtain ⟨v0,v1⟩:=HD.out.1.keep (fun a v hc=>keeps hbl hc) k hkn
        have hbb:b < wr.heap.size:=block_lt_of_cell v0
        have ha':=ha (by omega)
        subst ha'
        have kn:(k:Int) < n:=by omega
        clear hbl ha
        go_wp2_with fail
        go_quiet (fail)
        go_wp2_with fail
        go_roundw
        case rel=>exact ⟨k + 1,by omega,by go_num,(HB.out.alloc hz _).drewN _⟩
        case measure=>simp [intOf]; omega
      · have u0:=keeps hbl (HD.out.2.cell (i:=k * 2) (by omega))
        have u1:=keeps hbl (HD.out.2.cell (i:=k * 2 + 1) (by omega))
        rw [hDev_sp0 (by omega)] at u0
        rw [hDev_sp1 (by omega)] at u1
        have kn:¬ (k:Int) < n:=by omega
        clear hbl ha
        go_wp2_with fail
        go_quiet (fail)
        go_wp2_with fail
        go_roundw
        case rel=>exact ⟨k + 1,by omega,by go_num,(HB.out.alloc hz _).drewN _⟩
        case measure=>simp [intOf]; omega
    · have:k = n + 8:=by omega
      subst this
      clear hbl ha
      go_wp2_with fail
      go_ret
      exact ⟨rfl,HB.out⟩
set_option maxRecDepth 100000 in
set_option maxHeartbeats 2000000 in
theorem blotDev_any (hb n:Nat) (NN:Nat → Int) (HH:Nat → Bool) (w:World) (hn:n ≤ 1000000000) (hr:w.rowIs hb 80 ((n + 8) * 2) (hDev n NN HH)) :
    Calls (patch shutL Tryz.prog) 80 #[.slice (some ⟨hb,0,none⟩) n (n + 8)] w fun e w'=>e = .returned (.tuple #[]) ∧ onlyIn w w' hb hb:=by
  have HD:=Hid.in hr
  clear hr
  go_enter (pf Tryz.func80 (by rfl)),Tryz.ntmps80
  go_wp2_with fail
  go_loopw [2] (fun i wr=>∃ k:Nat,k ≤ n ∧ i = .int .i64 k ∧ onlyIn w wr hb hb ∧ ∃ f,wr.rowIs hb 80 ((n + 8) * 2) f ∧ ∀ j,k * 2 ≤ j → f j = hDev n NN HH j) (fun i _=>n - (intOf i).toNat)
  case atStart=>exact ⟨0,by omega,rfl,⟨rfl,rfl,rfl,Nat.le_refl _,fun k hk _ _=>rfl⟩,_,HD.out,fun _ _=>rfl⟩
  case round =>
    obtain ⟨k,hk,rfl,ho,f,hr,hf⟩:=hrel
    have HR:=Hid.in (And.intro ho (And.intro hr hf))
    by_cases hlt:k < n
    · have u0:=hr.cell (i:=k * 2) (by omega)
      have u1:=hr.cell (i:=k * 2 + 1) (by omega)
      rw [hf _ (by omega),hDev_1 hlt] at u1
      have uf:=hr.frozen
      have ki:(k:Int) < n:=by omega
      clear ho hr hf
      go_wp2_with fail
      go_roundw
      case rel =>
        refine ⟨k + 1,by omega,by go_num,(HR.out.1.set (.inl rfl) _).set (.inl rfl) _,_,(HR.out.2.1.set (k * 2) _).set (k * 2 + 1) _,fun j hj=>?_⟩
        rw [if_neg (by omega),if_neg (by omega)]
        exact HR.out.2.2 j (by omega)
      case measure=>simp [intOf]; omega
    · have:k = n:=by omega
      subst this
      clear ho hr hf
      go_wp2_with fail
      go_end0
      exact ⟨rfl,HR.out.1⟩
end Go.Proofs.YtojoafcnijajmaaGreatDoor.Z
