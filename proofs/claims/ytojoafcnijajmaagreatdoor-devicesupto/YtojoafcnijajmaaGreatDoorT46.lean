/- Part 46 of the proof that Devices answers true and leaves its input as it was, for input of bulk at most the bound of its row: ZF2 ZFF. -/
import Derived.Test.YtojoafcnijajmaaGreatDoorT8
import Derived.Test.YtojoafcnijajmaaGreatDoorT38
import Derived.Test.YtojoafcnijajmaaGreatDoorT45
import Derived.Test.YtojoafcnijajmaaGreatDoorT43
import Derived.Deep.RegionLaw
import Derived.ChangeKeysEq
namespace Go.Proofs.YtojoafcnijajmaaGreatDoor.Z
open Go.RowKit
attribute [local go_sem ↓] Go.wp_at_zero Go.wp_at_succ
attribute [local go_sem] After.cell After.frozen After.const
theorem ordI_row {w:World} {base:Nat} {v:Value} (h:w.ownsRow base 3 1 v (ordTo 5 1).length (ordI 5 1)) :
    ∃ g cap,v = .slice (some ⟨g,0,none⟩) 15 cap ∧ 15 ≤ cap ∧ cap ≤ maxLen ∧ g < w.heap.size ∧ base ≤ g ∧ ∀ k m:Nat,ord[k]? = some m → w.cell? ⟨g,k,none⟩ = some (.int .i64 (m:Int)):=by
  have hl:(ordTo 5 1).length = 15:=by kernel_rfl
  rw [hl] at h
  obtain ⟨ao,cap,rfl,h1,h2,h3⟩:=own_list h
  obtain ⟨g,rfl,hg,hb,hc⟩:=h3 (by omega)
  refine ⟨g,cap,rfl,h1,h2,hg,hb,fun k m hk=>?_⟩
  have hk':(ordTo 5 1)[k]? = some m:=hk
  have hlt:k < 15:=by rw [← hl]; exact (List.getElem?_eq_some_iff.1 hk').1
  rw [hc k (by omega)]
  unfold ordI
  rw [List.getElem?_map,hk']
  rfl
theorem least_step {D:BD} {r:Nat} {want:Int} {k mk:Nat} (hok:D.ok) (hr:r < 4) (h:ord[k]? = some mk):leastAt (inN D r (usN D r)) want (ord.drop k) = if want ≤ inMask D r mk (usN D r) then ((pop mk:Nat):Int) else leastAt (inN D r (usN D r)) want (ord.drop (k + 1)):=by
  rw [leastAt_drop h,wsum_within D r mk (usN D r) (fun i hi=>?_)]
  unfold nodeN
  by_cases h0:r = 0
  · subst h0
    rw [if_pos rfl]
    unfold usN freeN at hi
    simp only [if_pos,List.mem_filter,List.mem_range] at hi
    exact hok.nodes i hi.1
  · rw [if_neg h0]
    unfold usN at hi
    simp only [if_neg h0,List.mem_filter,List.mem_range] at hi
    exact (hok.devs (r - 1) (by omega)).2 i hi.1
theorem pop_pos {mk:Nat} (h:0 < mk) (h16:mk < 16):(0:Int) < (pop mk:Nat):=by
  have key:(List.range 16).all (fun m=>decide (m = 0) || decide ((0:Int) < ((pop m:Nat):Int))) = true:=by kernel_rfl
  have:=List.all_eq_true.1 key mk (List.mem_range.2 h16)
  simp only [Bool.or_eq_true,decide_eq_true_eq] at this
  omega
def widS (D:BD) (c:Nat → Int) (k:Nat) (v:Int) (j:Nat):Value:=if j = k then .int .i64 v else widK D c k j
theorem widS_next {D:BD} {c:Nat → Int} {k:Nat} {v:Int} (h:v = widN D c k) (j:Nat):widS D c k v j = widK D c (k + 1) j:=by
  rw [wid_step,h]; rfl
theorem widK_skip {D:BD} {c:Nat → Int} {k:Nat} (h:¬ 0 < c k) (j:Nat):widK D c (k + 1) j = widK D c k j:=by
  rw [wid_step]
  by_cases hj:j = k
  · subst hj
    rw [if_pos rfl]
    unfold widN widK
    rw [if_neg h,if_neg (by omega)]
  · rw [if_neg hj]
theorem widS_cell {D:BD} {c:Nat → Int} {k:Nat} {v:Int} {W:World} {a:Nat} {T:TypeId} (h:W.rowIs a T 4 (widS D c k v)) (hk:k < 4):W.cell? ⟨a,k,none⟩ = some (.int .i64 v):=by
  rw [h.cell hk]; unfold widS; rw [if_pos rfl]
theorem widK_cell {D:BD} {c:Nat → Int} {k:Nat} {W:World} {a:Nat} {T:TypeId} (h:W.rowIs a T 4 (widK D c k)) (hk:k < 4):W.cell? ⟨a,k,none⟩ = some (.int .i64 0):=by
  rw [h.cell hk]; unfold widK; rw [if_neg (by omega)]
structure WF (ww a5 a6 k:Nat) (kh q WN:Int) (M LA:Nat → Int) (RK RN:Nat → Value) (WS:Int → Nat → Value) (w w1:World):Prop where
  s1:∀ (W:World) (v:Int),W.rowIs a5 40 4 RK → (W.setCell ⟨a5,k,none⟩ (.int .i64 v)).rowIs a5 40 4 (WS v)
  s2:∀ (W:World) (v v':Int),W.rowIs a5 40 4 (WS v) → (W.setCell ⟨a5,k,none⟩ (.int .i64 v')).rowIs a5 40 4 (WS v')
  s3:∀ (W:World) (v:Int),W.rowIs a5 40 4 (WS v) → W.cell? ⟨a5,k,none⟩ = some (.int .i64 v) ∧ W.frozen? ⟨a5,k,none⟩ = false
  s4:∀ (W:World),W.rowIs a5 40 4 (WS WN) → W.rowIs a5 40 4 RN
  s5:∀ (W:World),¬ 0 < q → W.rowIs a5 40 4 RK → W.rowIs a5 40 4 RN
  s6:∀ (W:World),W.rowIs a5 40 4 RK → W.cell? ⟨a5,k,none⟩ = some (.int .i64 0) ∧ W.frozen? ⟨a5,k,none⟩ = false
  u6:∀ W:World,W.heap[a6]? = w1.heap[a6]? → W.cell? ⟨a6,k,none⟩ = some (.int .i64 q)
  n0:0 < q → WN = LA 0
  n1:∀ j mk:Nat,ord[j]? = some mk → LA j = if q ≤ M mk then ((pop mk:Nat):Int) else LA (j + 1)
  n2:LA 15 = -1
  m0:∀ mk,0 ≤ M mk ∧ M mk ≤ 24
  cp:k = 0 → ∀ W,Below w.heap.size w W → ∀ mk:Nat,mk < 16 → Calls (patch shutL Tryz.prog) 75 #[.pointer (some ⟨ww,0,none⟩),.int .i64 mk,.bool false] W fun e w'=>e = .returned (.int .i64 (M mk)) ∧ w' = W
  ha:k ≠ 0 → ∀ W,Below w.heap.size w W → ∀ mk:Nat,mk < 16 → Calls (patch shutL Tryz.prog) 76 #[.pointer (some ⟨ww,0,none⟩),.int .i64 kh,.int .i64 mk,.bool false] W fun e w'=>e = .returned (.int .i64 (M mk)) ∧ w' = W
theorem WF.mk' {m:Mach} {base ww cw qw a5 a6 k:Nat} {kh:Int} {D:BD} {e:Nat → Value} {K:Nat → Nat} {c:Nat → Int} {w w1:World} (hm:WSide w base ww cw qw m D e K) (hk:k < 4) (hkh:kh = (k:Int) - 1) (h6:w1.heap[a6]? = some (.cells (intsOf c) 40 (0,0))) :
    WF ww a5 a6 k kh (c k) (widN D c k) (fun mk=>inMask D k mk (usN D k)) (fun j=>leastAt (inN D k (usN D k)) (c k) (ord.drop j)) (widK D c k) (widK D c (k + 1)) (widS D c k) w w1:=by
  have hl:ord.length = 15:=by kernel_rfl
  refine ⟨fun W v h=>h.set k _,fun W v v' h=>(h.set k _).congr fun j _=>?_,fun W v h=>⟨widS_cell h hk,h.frozen k⟩,fun W h=>h.congr fun j _=>(widS_next rfl j),fun W hq h=>h.congr fun j _=>(widK_skip hq j).symm,fun W h=>⟨widK_cell h hk,h.frozen k⟩,fun W hW=>?_,fun hq=>?_,fun j mk h=>least_step hm.ok hk h,?_,fun mk=>?_,fun h0 W hW mk h16=>?_,fun h0 W hW mk h16=>?_⟩
  · unfold widS
    by_cases hj:j = k
    · rw [if_pos hj,if_pos hj]
    · rw [if_neg hj,if_neg hj,if_neg hj]
  · rw [(blk (hW.trans h6)).1 k]
    obtain rfl | rfl | rfl | rfl:k = 0 ∨ k = 1 ∨ k = 2 ∨ k = 3:=by omega
    all_goals rfl
  · unfold widN leastW; rw [if_pos hq]; rfl
  · show leastAt _ _ (ord.drop 15) = -1
    rw [List.drop_eq_nil_of_le (by omega)]; rfl
  · have h1:=inMask_le D k mk (usN D k)
    have h2:(usN D k).length ≤ 24:=by
      unfold usN
      by_cases h0:k = 0
      · rw [if_pos h0]; exact Nat.le_trans (freeN_le _ _) hm.ok.few
      · rw [if_neg h0]
        have:=(hm.ok.devs (k - 1) (by omega)).1
        exact Nat.le_trans (List.length_filter_le _ _) (by simp; omega)
    show 0 ≤ inMask D k mk (usN D k) ∧ inMask D k mk (usN D k) ≤ 24
    omega
  · subst h0
    exact cpusR_any m base ww cw qw mk D e K W (hm.below hW) h16
  · obtain ⟨k',rfl⟩ : ∃ k',k = k' + 1:=⟨k - 1,by omega⟩
    have e1:kh = (k':Int):=by omega
    rw [e1]
    exact hasR_any m base ww cw qw k' mk D e K W (hm.below hW) (by omega) h16
def FRm (w w1 wr:World) (a5:Nat):Prop:=(∀ b,b < w1.heap.size → b ≠ a5 → wr.heap[b]? = w1.heap[b]?) ∧ Below w.heap.size w wr ∧ w1.heap.size ≤ wr.heap.size
theorem FRm.set {w w1 wr:World} {a5 k:Nat} {v:Value} (h:FRm w w1 wr a5) (ha:w.heap.size ≤ a5):FRm w w1 (wr.setCell ⟨a5,k,none⟩ v) a5 :=
  ⟨fun b hb hn=>(Below.heap_setCell _ _ _ _ hn).trans (h.1 b hb hn),h.2.1.setCell ha _,by simpa using h.2.2⟩
set_option maxRecDepth 100000 in
set_option maxHeartbeats 16000000 in
theorem widthRef_any (m:Mach) (base ww cw qw:Nat) (D:BD) (e:Nat → Value) (K:Nat → Nat) (c:Nat → Int) (w:World) (hm:WSide w base ww cw qw m D e K) :
    Calls (patch shutL Tryz.prog) 33 #[.pointer (some ⟨ww,0,none⟩),.agg (intsOf c)] w fun e w'=>e = .returned (.agg (intsOf (widN D c))) ∧ Below w.heap.size w w':=by
  have H0:=Hid.in hm
  clear hm
  unfold intsOf
  go_enter (pf Tryz.func33 (by rfl)),Tryz.ntmps33
  go_wp2_with fail
  obtain ⟨a4,ha4⟩ : ∃ a,a = w.heap.size + 1:=⟨_,rfl⟩
  obtain ⟨a5,ha5⟩ : ∃ a,a = w.heap.size + 1 + 1:=⟨_,rfl⟩
  obtain ⟨a6,ha6⟩ : ∃ a,a = w.heap.size + 1 + 1 + 1:=⟨_,rfl⟩
  obtain ⟨W0,hW0⟩ : ∃ W,W = (((w.alloc (.cells #[.int .i64 (c 0),.int .i64 (c 1),.int .i64 (c 2),.int .i64 (c 3)] 32)).alloc (.cells #[.int .i64 0,.int .i64 0,.int .i64 0,.int .i64 0] 40)).alloc (.cells #[.int .i64 0,.int .i64 0,.int .i64 0,.int .i64 0] 40)).alloc (.cells #[.int .i64 (c 0),.int .i64 (c 1),.int .i64 (c 2),.int .i64 (c 3)] 40):=⟨_,rfl⟩
  have HW:Hid (Below w.heap.size w W0 ∧ W0.heap[a4]? = some (.cells #[.int .i64 0,.int .i64 0,.int .i64 0,.int .i64 0] 40 (0,0)) ∧ W0.heap[a5]? = some (.cells #[.int .i64 0,.int .i64 0,.int .i64 0,.int .i64 0] 40 (0,0)) ∧ W0.heap[a6]? = some (.cells (intsOf c) 40 (0,0)) ∧ W0.heap.size = w.heap.size + 4):=by
    obtain ⟨w1,h1⟩ : ∃ w1,w1 = w.alloc (.cells #[.int .i64 (c 0),.int .i64 (c 1),.int .i64 (c 2),.int .i64 (c 3)] 32):=⟨_,rfl⟩
    obtain ⟨w2,h2⟩ : ∃ w2,w2 = w1.alloc (.cells #[.int .i64 0,.int .i64 0,.int .i64 0,.int .i64 0] 40):=⟨_,rfl⟩
    obtain ⟨w3,h3⟩ : ∃ w3,w3 = w2.alloc (.cells #[.int .i64 0,.int .i64 0,.int .i64 0,.int .i64 0] 40):=⟨_,rfl⟩
    rw [← h1,← h2,← h3] at hW0
    have s1:w1.heap.size = w.heap.size + 1:=by rw [h1]; simp
    have s2:w2.heap.size = w.heap.size + 1 + 1:=by rw [h2]; simp [s1]
    have s3:w3.heap.size = w.heap.size + 1 + 1 + 1:=by rw [h3]; simp [s2]
    have b0:Below w.heap.size w w1:=by rw [h1]; exact (Below.refl _ _).alloc (Nat.le_refl _) _
    have b1:Below w1.heap.size w1 w2:=by rw [h2]; exact (Below.refl _ _).alloc (Nat.le_refl _) _
    have b2:Below w2.heap.size w2 w3:=by rw [h3]; exact (Below.refl _ _).alloc (Nat.le_refl _) _
    have b3:Below w3.heap.size w3 W0:=by rw [hW0]; exact (Below.refl _ _).alloc (Nat.le_refl _) _
    refine ⟨ext_trans (ext_trans (ext_trans b0 b1) b2) b3,?_,?_,?_,by rw [hW0]; simp [s3]⟩
    · rw [ha4,← s1,b3.block _ (by omega),b2.block _ (by omega),h2]; exact heap_alloc_new _ _
    · rw [ha5,← s2,b3.block _ (by omega),h3]; exact heap_alloc_new _ _
    · rw [ha6,← s3,hW0]; exact heap_alloc_new _ _
  have Ha:=Hid.in (And.intro ha4 (And.intro ha5 ha6))
  rw [← hW0,← ha6,← ha5,← ha4]
  clear hW0 ha4 ha5 ha6
  refine (ordered_any W0).mono ?_
  rintro e' w1 ⟨v,rfl,hown,hb1⟩
  obtain ⟨g,cap,rfl,hcap,hmax,hg,hgb,hord⟩:=ordI_row hown
  have hmx:(cap:Int) ≤ 9223372036854775807:=by unfold maxLen at hmax; omega
  have H1:Hid (Below W0.heap.size W0 w1 ∧ w1.heap[a4]? = some (.cells #[.int .i64 0,.int .i64 0,.int .i64 0,.int .i64 0] 40 (0,0)) ∧ w1.rowIs a5 40 4 (widK D c 0) ∧ w1.heap[a6]? = some (.cells (intsOf c) 40 (0,0)) ∧ (∀ k m:Nat,ord[k]? = some m → w1.cell? ⟨g,k,none⟩ = some (.int .i64 (m:Int))) ∧ w.heap.size ≤ a4 ∧ w.heap.size ≤ a5 ∧ a4 ≠ a5 ∧ a6 ≠ a5 ∧ g ≠ a5 ∧ a4 < w1.heap.size ∧ a5 < w1.heap.size ∧ a6 < w1.heap.size ∧ g < w1.heap.size ∧ Below w.heap.size w w1):=by
    obtain ⟨e4,e5,e6⟩:=Ha.out
    obtain ⟨h1,h2,h3,h4,h5⟩:=HW.out
    have s1:=hb1.size
    refine ⟨hb1,(hb1.block _ (by omega)).trans h2,⟨_,(hb1.block _ (by omega)).trans h3,rfl,fun j hj=>?_⟩,(hb1.block _ (by omega)).trans h4,hord,by omega,by omega,by omega,by omega,by omega,by omega,by omega,by omega,hg,ext_trans h1 hb1⟩
    obtain rfl | rfl | rfl | rfl:j = 0 ∨ j = 1 ∨ j = 2 ∨ j = 3:=by omega
    all_goals rfl
  clear HW hown hb1 hord Ha hmax hgb
  go_wp2_with fail
  go_loopw [8] (fun i wr=>∃ (k:Nat) (kz:Int),k ≤ 4 ∧ kz = k ∧ i = .int .i64 kz ∧ wr.rowIs a5 40 4 (widK D c k) ∧ FRm w w1 wr a5) (fun i _=>4 - (intOf i).toNat)
  case atStart=>exact ⟨0,0,by omega,rfl,rfl,H1.out.2.2.1,fun _ _ _=>rfl,H1.out.2.2.2.2.2.2.2.2.2.2.2.2.2.2,Nat.le_refl _⟩
  case round =>
    obtain ⟨k,kz,hk,hkz,rfl,hrow,hfr⟩:=hrel
    have HR:=Hid.in (And.intro hrow hfr)
    clear hrow hfr
    by_cases hlt:k < 4
    · obtain ⟨q,hq⟩ : ∃ q,q = c k:=⟨_,rfl⟩
      obtain ⟨kh,hkh⟩ : ∃ kh:Int,kh = (k:Int) - 1:=⟨_,rfl⟩
      obtain ⟨WN,M,LA,WS,HF⟩ : ∃ WN M LA WS,Hid (WF ww a5 a6 k kh q WN M LA (widK D c k) (widK D c (k + 1)) WS w w1):=by
        rw [hq]
        exact ⟨_,_,_,_,WF.mk' H0.out hlt hkh H1.out.2.2.2.1⟩
      have HFs:Hid (∀ W,FRm w w1 W a5 → FRm w w1 (W.setCell ⟨a5,k,none⟩ (.int .i64 (-1))) a5):=fun W h=>h.set H1.out.2.2.2.2.2.2.1
      have hcs:(k = 0 ∧ kz = 0 ∧ kh = -1) ∨ (k = 1 ∧ kz = 1 ∧ kh = 0) ∨ (k = 2 ∧ kz = 2 ∧ kh = 1) ∨ (k = 3 ∧ kz = 3 ∧ kh = 2):=by omega
      clear hq hkh hkz
      by_cases hq0:0 < q
      · have hq1:¬ q ≤ 0:=by omega
        rcases hcs with ⟨rfl,rfl,rfl⟩ | ⟨rfl,rfl,rfl⟩ | ⟨rfl,rfl,rfl⟩ | ⟨rfl,rfl,rfl⟩
        all_goals (
          have u6:=HF.out.u6 wr (HR.out.2.1 a6 H1.out.2.2.2.2.2.2.2.2.2.2.2.2.1 H1.out.2.2.2.2.2.2.2.2.1)
          obtain ⟨u5,u5f⟩:=HF.out.s6 wr HR.out.1
          go_wp2_with fail
          have HR2:=Hid.in (And.intro (HF.out.s1 wr (-1) HR.out.1) (HFs.out wr HR.out.2))
          clear u6 u5 u5f
          go_loopw [9] (fun i wi=>∃ j:Nat,j ≤ 15 ∧ i = .int .i64 j ∧ ∃ v:Int,wi.rowIs a5 40 4 (WS v) ∧ (v = -1 ∧ WN = LA j ∨ 0 ≤ v ∧ v = WN) ∧ FRm w w1 wi a5) (fun i _=>15 - (intOf i).toNat)
          case atStart=>exact ⟨0,by omega,rfl,-1,HR2.out.1,.inl ⟨rfl,HF.out.n0 hq0⟩,HR2.out.2⟩
          case round =>
            obtain ⟨j,hj,rfl,v,hrow,hor,hfr⟩:=hrel
            obtain ⟨y5,y5f⟩:=HF.out.s3 wr v hrow
            have HI:=Hid.in (And.intro hrow hfr)
            clear hrow hfr
            by_cases hgo:j < 15 ∧ v = -1
            · obtain ⟨hlt2,rfl⟩:=hgo
              have hla:WN = LA j:=by
                rcases hor with h | h
                · exact h.2
                · omega
              obtain ⟨mk,hm,hm0,hm16⟩:=ord_get hlt2
              have uo:wr.cell? ⟨g,j,none⟩ = some (.int .i64 (mk:Int)):=(World.cell?_of_block (w:=w1) (a:=⟨g,j,none⟩) (HI.out.2.1 g H1.out.2.2.2.2.2.2.2.2.2.2.2.2.2.1 H1.out.2.2.2.2.2.2.2.2.2.1)).trans (H1.out.2.2.2.2.1 j mk hm)
              have u6:=HF.out.u6 wr (HI.out.2.1 a6 H1.out.2.2.2.2.2.2.2.2.2.2.2.2.1 H1.out.2.2.2.2.2.2.2.2.1)
              have jn:(j:Int) < 15:=by omega
              have HP:=Hid.in (And.intro hm (And.intro hla (pop_pos hm0 hm16)))
              obtain ⟨mm1,mm2⟩:=HF.out.m0 mk
              clear hm hla hor
              by_cases hge:q ≤ M mk
              · go_wp2_with (first
                  | (go_at_call 75; refine (HF.out.cp rfl _ HI.out.2.2.1 mk hm16).mono ?_; rintro e' w2 ⟨he,hw⟩; obtain rfl:=he; obtain rfl:=hw.symm)
                  | (go_at_call 76; refine (HF.out.ha (Nat.succ_ne_zero _) _ HI.out.2.2.1 mk hm16).mono ?_; rintro e' w2 ⟨he,hw⟩; obtain rfl:=he; obtain rfl:=hw.symm)
                  | (go_at_call 77; refine (widthR_any mk hm16 _).mono ?_; rintro e' w2 ⟨he,hw⟩; obtain rfl:=he; obtain rfl:=hw.symm))
                go_roundw
                case rel=>exact ⟨j + 1,by omega,by go_num,((pop mk:Nat):Int),HF.out.s2 wr _ _ HI.out.1,.inr ⟨by have:=HP.out.2.2; omega,by rw [HP.out.2.1,HF.out.n1 j mk HP.out.1,if_pos hge]⟩,HI.out.2.set H1.out.2.2.2.2.2.2.1⟩
                case measure=>simp [intOf]; omega
              · go_wp2_with (first
                  | (go_at_call 75; refine (HF.out.cp rfl _ HI.out.2.2.1 mk hm16).mono ?_; rintro e' w2 ⟨he,hw⟩; obtain rfl:=he; obtain rfl:=hw.symm)
                  | (go_at_call 76; refine (HF.out.ha (Nat.succ_ne_zero _) _ HI.out.2.2.1 mk hm16).mono ?_; rintro e' w2 ⟨he,hw⟩; obtain rfl:=he; obtain rfl:=hw.symm))
                go_roundw
                case rel=>exact ⟨j + 1,by omega,by go_num,-1,HI.out.1,.inl ⟨by trivial,by rw [HP.out.2.1,HF.out.n1 j mk HP.out.1,if_neg (by omega)]⟩,HI.out.2⟩
                case measure=>simp [intOf]; omega
            · have HV:Hid (v = WN):=by
                rcases hor with ⟨h1,h2⟩ | ⟨h1,h2⟩
                · have:j = 15:=by omega
                  subst this
                  show v = WN
                  rw [h1,h2,HF.out.n2]
                · exact h2
              have hcase:j = 15 ∨ j < 15 ∧ ¬ v < 0:=by omega
              clear hor hgo
              rcases hcase with rfl | ⟨hj15,hv⟩
              · go_wp2_with fail
                go_roundw
                case rel =>
                  first
                    | exact ⟨1,1,by omega,rfl,rfl,HF.out.s4 wr (by rw [← HV.out]; exact HI.out.1),HI.out.2⟩
                    | exact ⟨2,2,by omega,rfl,rfl,HF.out.s4 wr (by rw [← HV.out]; exact HI.out.1),HI.out.2⟩
                    | exact ⟨3,3,by omega,rfl,rfl,HF.out.s4 wr (by rw [← HV.out]; exact HI.out.1),HI.out.2⟩
                    | exact ⟨4,4,by omega,rfl,rfl,HF.out.s4 wr (by rw [← HV.out]; exact HI.out.1),HI.out.2⟩
                case measure=>simp [intOf]
              · have jn:(j:Int) < 15:=by omega
                go_wp2_with fail
                go_roundw
                case rel =>
                  first
                    | exact ⟨1,1,by omega,rfl,rfl,HF.out.s4 wr (by rw [← HV.out]; exact HI.out.1),HI.out.2⟩
                    | exact ⟨2,2,by omega,rfl,rfl,HF.out.s4 wr (by rw [← HV.out]; exact HI.out.1),HI.out.2⟩
                    | exact ⟨3,3,by omega,rfl,rfl,HF.out.s4 wr (by rw [← HV.out]; exact HI.out.1),HI.out.2⟩
                    | exact ⟨4,4,by omega,rfl,rfl,HF.out.s4 wr (by rw [← HV.out]; exact HI.out.1),HI.out.2⟩
                case measure=>simp [intOf])
      · have hq1:q ≤ 0:=by omega
        rcases hcs with ⟨rfl,rfl,rfl⟩ | ⟨rfl,rfl,rfl⟩ | ⟨rfl,rfl,rfl⟩ | ⟨rfl,rfl,rfl⟩
        all_goals (
          have u6:=HF.out.u6 wr (HR.out.2.1 a6 H1.out.2.2.2.2.2.2.2.2.2.2.2.2.1 H1.out.2.2.2.2.2.2.2.2.1)
          go_wp2_with fail
          go_roundw
          case rel =>
            first
              | exact ⟨1,1,by omega,rfl,rfl,HF.out.s5 wr hq0 HR.out.1,HR.out.2⟩
              | exact ⟨2,2,by omega,rfl,rfl,HF.out.s5 wr hq0 HR.out.1,HR.out.2⟩
              | exact ⟨3,3,by omega,rfl,rfl,HF.out.s5 wr hq0 HR.out.1,HR.out.2⟩
              | exact ⟨4,4,by omega,rfl,rfl,HF.out.s5 wr hq0 HR.out.1,HR.out.2⟩
          case measure=>simp [intOf])
    · have:k = 4:=by omega
      subst this
      obtain rfl:kz = 4:=hkz
      obtain ⟨vs,hvs⟩ : ∃ vs,vs = intsOf (widN D c):=⟨_,rfl⟩
      obtain ⟨zs,hzs⟩ : ∃ zs:Array Value,zs = #[.int .i64 0,.int .i64 0,.int .i64 0,.int .i64 0]:=⟨_,rfl⟩
      have h1:vs.all (·.oneCell') = true:=by rw [hvs]; simp [intsOf,Value.oneCell']
      have hBv:wr.heap[a5]? = some (.cells vs 40 (0,0)):=by rw [hvs]; exact row_wid HR.out.1
      have hR:wr.heap[a4]? = some (.cells zs 40 (0,0)):=by rw [hzs]; exact (HR.out.2.1 a4 H1.out.2.2.2.2.2.2.2.2.2.2.1 H1.out.2.2.2.2.2.2.2.1).trans H1.out.2.1
      have hi:((patch shutL Tryz.prog).info? 40).map (·.size) = some vs.size:=by rw [hvs]; exact info4
      have hzsz:zs.size = vs.size:=by rw [hvs,hzs]; rfl
      have HVS:=Hid.in (And.intro hvs (And.intro HR.out.2.2.1 H1.out.2.2.2.2.2.1))
      clear hvs hzs HR
      go_wp2_with (first
        | refine wpList_load_row rfl 40 _ rfl a5 rfl 40 vs (0,0) _ hBv ((patch_underlying shutL Tryz.prog 40).trans Tryz.underlying40) rfl hi ?_
        | refine wpList_store_row rfl 40 _ _ rfl a4 vs rfl rfl 40 _ hR hi hzsz h1 ?_)
      (try simp only [Exit.inBlock,Exit.then])
      refine bodyPost_ret_by (results_cell_row rfl _ _ a4 40 vs (0,0) _ rfl (setRow_heap _ _ _ _ _ _ hR) ((patch_underlying shutL Tryz.prog 40).trans Tryz.underlying40) rfl hi) rfl ?_
      refine ⟨by rw [HVS.out.1]; rfl,?_⟩
      obtain ⟨_,hB,hle⟩:=HVS.out
      exact ⟨hB.os,hB.tape,hB.output,by simpa using hB.size,fun k hk=>(setRow_other _ _ _ _ (by omega)).trans (hB.block k hk)⟩
end Go.Proofs.YtojoafcnijajmaaGreatDoor.Z

namespace Go.Proofs.YtojoafcnijajmaaGreatDoor.Z
open Go.RowKit
attribute [local go_sem ↓] Go.wp_at_zero Go.wp_at_succ
section
variable {w w1 w2:World} {g bb ww e3:Nat} {sc:Array Value}
end
theorem cells3:((patch shutL Tryz.prog)).cellsOf 3 = 1:=by kernel_rfl
theorem plain3:((patch shutL Tryz.prog)).plainKey 3 = true:=by kernel_rfl
set_option maxRecDepth 100000 in
theorem eq4 (a b c d:Int) (W:World):Sem.run (patch shutL Tryz.prog) (Op.equalIn 10000 40 (.agg #[.int .i64 a,.int .i64 b,.int .i64 c,.int .i64 d]) (.agg #[.int .i64 a,.int .i64 b,.int .i64 c,.int .i64 d])) W = .ok true W:=by
  have hu:((patch shutL Tryz.prog)).underlying 3 = some (.int .i64):=by kernel_rfl
  have hu':=((patch_underlying shutL Tryz.prog 40).trans Tryz.underlying40)
  obtain ⟨i0,hi,hz0,hz1,hz2⟩:=info_parts Tryz.infoInt
  obtain ⟨n,hn⟩ : ∃ n,9999 = n + 1:=⟨9998,rfl⟩
  have h1:=fun (x:Int) (W:World)=>run_equalIn_int (P:=(patch shutL Tryz.prog)) W n 3 .i64 .i64 x x hu
  have:=run_equalIn_array (P:=(patch shutL Tryz.prog)) W 9999 (t:=40) #[.int .i64 a,.int .i64 b,.int .i64 c,.int .i64 d] #[.int .i64 a,.int .i64 b,.int .i64 c,.int .i64 d] hu' hi
  rw [this,hn]
  clear this hn
  have p:∀ (k:Nat) (v:Value),(#[.int .i64 a,.int .i64 b,.int .i64 c,.int .i64 d]:Array Value)[k]? = some v → ∀ W,(part 3 #[.int .i64 a,.int .i64 b,.int .i64 c,.int .i64 d] k).run (patch shutL Tryz.prog) W = .ok v W:=fun k v hv W=>run_part_plain (w:=W) plain3 hv
  have p0:=p 0 _ rfl
  have p1:=p 1 _ rfl
  have p2:=p 2 _ rfl
  have p3:=p 3 _ rfl
  simp [Op.eqItems,cells3,List.range,List.range.loop,p0,p1,p2,p3,h1]
theorem canonA {w0 w2:World} (hb:Below w0.drew.heap.size w0.drew w2) (o:Obj):Below w0.heap.size w0 (w2.alloc o) ∧ (w2.alloc o).heap[w2.heap.size]? = some o ∧ w0.heap.size ≤ w2.heap.size:=by
  have h1:Below w0.heap.size w0 w2:=(Below.refl _ _).drew.trans hb
  exact ⟨h1.alloc h1.size _,heap_alloc_new _ _,h1.size⟩
theorem canonB {w0 w2:World} {t:TypeId} {z0 z1 z2 z3:Value} (hb:Below (w0.alloc (.cells #[z0,z1,z2,z3] t)).drew.heap.size (w0.alloc (.cells #[z0,z1,z2,z3] t)).drew w2) (b:Nat) (hbb:b = w0.heap.size) (v0 v1 v2 v3:Value) :
    Below w0.heap.size w0 ((((w2.setCell ⟨b,0,none⟩ v0).setCell ⟨b,1,none⟩ v1).setCell ⟨b,2,none⟩ v2).setCell ⟨b,3,none⟩ v3) ∧ ((((w2.setCell ⟨b,0,none⟩ v0).setCell ⟨b,1,none⟩ v1).setCell ⟨b,2,none⟩ v2).setCell ⟨b,3,none⟩ v3).heap[b]? = some (.cells #[v0,v1,v2,v3] t (0,0)) ∧ w0.heap.size ≤ b:=by
  subst hbb
  have h0:Below w0.heap.size w0 (w0.alloc (.cells #[z0,z1,z2,z3] t)).drew:=((Below.refl _ _).alloc (Nat.le_refl _) _).drew
  have h1:Below w0.heap.size w0 w2:=h0.trans (hb.mono h0.size)
  exact ⟨(((h1.setCell (Nat.le_refl _) _).setCell (Nat.le_refl _) _).setCell (Nat.le_refl _) _).setCell (Nat.le_refl _) _,set4 _ _ _ _ (alloc_kept_drew hb),Nat.le_refl _⟩
set_option maxRecDepth 100000 in
set_option maxHeartbeats 8000000 in
theorem stepWidth_any (g base bb ww cw qw:Nat) (m:Mach) (vc vr:Value) (D:BD) (d e:Nat → Value) (K:Nat → Nat) (w:World) (s:SV) (h0:w.cell? ⟨g,0,none⟩ = some (.pointer (some ⟨bb,0,none⟩))) (h1:w.cell? ⟨g,1,none⟩ = some (.pointer (some ⟨ww,0,none⟩)))
    (hb:BSide w base bb m vc vr D d K) (hw:WSide w base ww cw qw m D e K) (hk:s.kind = 2) :
    Calls (patch shutL Tryz.prog) 15 #[.pointer (some ⟨g,0,none⟩),.agg (stepC s)] w (RJ (fun v w'=>v = .bool true ∧ Below w.heap.size w w') AA):=by
  have gl:g < w.heap.size:=cell_lt h0
  unfold stepC
  rw [hk]
  go_enter (pf Tryz.func15 (by rfl)),Tryz.ntmps15
  obtain ⟨c,hc⟩ : ∃ c,c = s.c:=⟨_,rfl⟩
  rw [← hc]
  clear hc
  go_wp2_with fail
  obtain ⟨W0,hW0⟩ : ∃ W,W = w.alloc (.cells #[.int .i64 2,.int .i64 s.A,.int .i64 s.B,s.v3,.int .i64 (c 0),.int .i64 (c 1),.int .i64 (c 2),.int .i64 (c 3),.slice s.dao s.dn s.dcap,.bool s.yes,s.v10,s.v11,s.v12] 54):=⟨_,rfl⟩
  obtain ⟨e3,he3⟩ : ∃ a,a = w.heap.size:=⟨_,rfl⟩
  have hB0:Below w.heap.size w W0:=by rw [hW0]; exact (Below.refl _ _).alloc (Nat.le_refl _) _
  have y0:=(hB0.cell (p:=⟨g,0,none⟩) gl).trans h0
  have y1:=(hB0.cell (p:=⟨g,1,none⟩) gl).trans h1
  have y3:∀ j,W0.cell? ⟨e3,j,none⟩ = (#[.int .i64 2,.int .i64 s.A,.int .i64 s.B,s.v3,.int .i64 (c 0),.int .i64 (c 1),.int .i64 (c 2),.int .i64 (c 3),.slice s.dao s.dn s.dcap,.bool s.yes,s.v10,s.v11,s.v12]:Array Value)[j]?:=by
    rw [hW0,he3]; exact (blk (heap_alloc_new _ _)).1
  have hl:g < W0.heap.size ∧ e3 < W0.heap.size:=by rw [hW0,he3]; simp; omega
  have HI:=Hid.in (And.intro hB0 (And.intro (hb.below hB0) (hw.below hB0)))
  rw [← hW0,← he3]
  clear hW0 he3 hB0 h0 h1 hb hw
  obtain ⟨WD,hWD⟩ : ∃ WD,WD = widN D c:=⟨_,rfl⟩
  have HA:Hid (∀ u,Below W0.heap.size W0 u → Calls (patch shutL Tryz.prog) 10 #[.pointer (some ⟨bb,0,none⟩),.agg #[.int .i64 (c 0),.int .i64 (c 1),.int .i64 (c 2),.int .i64 (c 3)]] u (RJ (fun v w'=>v = .agg #[.int .i64 (WD 0),.int .i64 (WD 1),.int .i64 (WD 2),.int .i64 (WD 3)] ∧ Below u.heap.size u w') AA)):=fun u hu=>by
    have h:=(HI.out.2.1.below hu)
    rw [hWD]
    exact widthB_any D bb c (zB bb vc vr d) u h.berthC h.ok h.closed (.inl rfl)
  have HR:Hid (∀ u,Below W0.heap.size W0 u → Calls (patch shutL Tryz.prog) 33 #[.pointer (some ⟨ww,0,none⟩),.agg #[.int .i64 (c 0),.int .i64 (c 1),.int .i64 (c 2),.int .i64 (c 3)]] u fun e' w'=>e' = .returned (.agg #[.int .i64 (WD 0),.int .i64 (WD 1),.int .i64 (WD 2),.int .i64 (WD 3)]) ∧ Below u.heap.size u w'):=fun u hu=>by
    rw [hWD]
    exact widthRef_any m base ww cw qw D e K c u (HI.out.2.2.below hu)
  clear hWD
  have hbA:Hid (Below W0.heap.size W0 W0.drew):=(Below.refl _ _).drew
  have hbB:Hid (∀ o,Below W0.heap.size W0 (W0.alloc o).drew):=fun o=>((Below.refl _ _).alloc (Nat.le_refl _) o).drew
  go_region_law (go_simp; go_at_call 10; refine (HA.out _ (by with_reducible first | exact hbA.out | exact hbB.out _)).mono ?_; intro e' w2 he; rcases e' with v | ch | _; rotate_left; (first | exact ⟨rfl,he⟩ | (simp only [Exit.then,Exit.inBlock]; exact ⟨rfl,he⟩)); (exact he.elim); (obtain ⟨rfl,hb2⟩:=he); try (first | have hq:=alloc_kept_drew hb2 | have hq:=alloc_kept hb2); try (obtain ⟨qa,qb⟩:=blk hq); dsimp only)
  all_goals (try clear qa qb)
  all_goals (try clear hq)
  all_goals (first
    | (obtain ⟨b5,hb5⟩ : ∃ b,b = W0.heap.size:=⟨_,rfl⟩; have hX:=canonB hb2 b5 hb5 (.int .i64 (WD 0)) (.int .i64 (WD 1)) (.int .i64 (WD 2)) (.int .i64 (WD 3)); clear hb2; rw [← hb5]; generalize (((w2.setCell ⟨b5,0,none⟩ (.int .i64 (WD 0))).setCell ⟨b5,1,none⟩ (.int .i64 (WD 1))).setCell ⟨b5,2,none⟩ (.int .i64 (WD 2))).setCell ⟨b5,3,none⟩ (.int .i64 (WD 3)) = X at hX ⊢; clear hb5)
    | (have hX:=canonA hb2 (.cells #[.int .i64 (WD 0),.int .i64 (WD 1),.int .i64 (WD 2),.int .i64 (WD 3)] 40); clear hb2; generalize w2.alloc (.cells #[.int .i64 (WD 0),.int .i64 (WD 1),.int .i64 (WD 2),.int .i64 (WD 3)] 40) = X at hX ⊢; generalize w2.heap.size = b5 at hX ⊢))
  all_goals
    have z0:=(hX.1.cell (p:=⟨g,0,none⟩) hl.1).trans y0
    have z1:=(hX.1.cell (p:=⟨g,1,none⟩) hl.1).trans y1
    have z3:∀ j,X.cell? ⟨e3,j,none⟩ = _:=fun j=>(hX.1.cell (p:=⟨e3,j,none⟩) hl.2).trans (y3 j)
    have HX:=Hid.in (And.intro (HI.out.1.trans (hX.1.mono HI.out.1.size)) hX)
    have hlX:g < X.heap.size ∧ e3 < X.heap.size:=⟨Nat.lt_of_lt_of_le hl.1 hX.1.size,Nat.lt_of_lt_of_le hl.2 hX.1.size⟩
    have hcA:Hid (Below W0.heap.size W0 X.drew):=hX.1.drew
    have hcB:Hid (∀ o,Below W0.heap.size W0 (X.alloc o).drew):=fun o=>(hX.1.alloc hX.1.size o).drew
    clear hX hbA hbB y0 y1 y3 hl HA
    go_wp2_with fail
    go_region_law (go_simp; go_at_call 33; refine (HR.out _ (by with_reducible first | exact hcA.out | exact hcB.out _)).mono ?_; rintro e' w3 ⟨rfl,hb2⟩; try (first | have hq:=alloc_kept_drew hb2 | have hq:=alloc_kept hb2); try (obtain ⟨qa,qb⟩:=blk hq); dsimp only)
  all_goals (try clear qa qb)
  all_goals (try clear hq)
  all_goals (first
    | (obtain ⟨b6,hb6⟩ : ∃ b,b = X.heap.size:=⟨_,rfl⟩; have hX:=canonB hb2 b6 hb6 (.int .i64 (WD 0)) (.int .i64 (WD 1)) (.int .i64 (WD 2)) (.int .i64 (WD 3)); clear hb2; rw [← hb6]; generalize (((w3.setCell ⟨b6,0,none⟩ (.int .i64 (WD 0))).setCell ⟨b6,1,none⟩ (.int .i64 (WD 1))).setCell ⟨b6,2,none⟩ (.int .i64 (WD 2))).setCell ⟨b6,3,none⟩ (.int .i64 (WD 3)) = Y at hX ⊢; clear hb6)
    | (have hX:=canonA hb2 (.cells #[.int .i64 (WD 0),.int .i64 (WD 1),.int .i64 (WD 2),.int .i64 (WD 3)] 40); clear hb2; generalize w3.alloc (.cells #[.int .i64 (WD 0),.int .i64 (WD 1),.int .i64 (WD 2),.int .i64 (WD 3)] 40) = Y at hX ⊢; generalize w3.heap.size = b6 at hX ⊢))
  all_goals
    have p5:=(blk ((hX.1.block b5 (Array.getElem?_eq_some_iff.1 HX.out.2.2.1).1).trans HX.out.2.2.1)).1
    have p6:=(blk hX.2.1).1
    have HY:=Hid.in (HX.out.1.trans (hX.1.mono HX.out.1.size))
    clear hX HX hcA hcB z0 z1 z3 HR HI
    have he4:=fun W=>eq4 (WD 0) (WD 1) (WD 2) (WD 3) W
    go_wp2_with fail
    refine bodyPost_ret (v:=.bool true) (by simp [results,Tryz.results15,go_sem]) rfl ⟨rfl,HY.out⟩
end Go.Proofs.YtojoafcnijajmaaGreatDoor.Z
