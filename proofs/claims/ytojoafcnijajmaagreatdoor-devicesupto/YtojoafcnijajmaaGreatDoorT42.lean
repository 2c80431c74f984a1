/- Part 42 of the proof that Devices answers true and leaves its input as it was, for input of bulk at most the bound of its row: ZFB ZFC ZFD. -/
import Derived.Test.YtojoafcnijajmaaGreatDoorT8
import Derived.Test.YtojoafcnijajmaaGreatDoorT39
import Derived.Test.YtojoafcnijajmaaGreatDoorT41
set_option linter.unusedVariables false
namespace Go.Proofs.YtojoafcnijajmaaGreatDoor.Z
open Go.RowKit
attribute [local go_sem ↓] Go.wp_at_zero Go.wp_at_succ
attribute [local go_sem] After.cell After.frozen After.const
theorem devL_dl (D:BD) (k:Nat):devL D k = dlL (D.dn k) (D.dN k) (D.dH k):=rfl
theorem devL_setK (D:BD) (k n:Nat) (NN:Nat → Int) (HH:Nat → Bool):devL (setK D k n NN HH) k = dlL n NN HH:=by
  rw [devL_dl]; simp only [setK,if_pos]
theorem devL_setK_other (D:BD) {k k':Nat} (n:Nat) (NN:Nat → Int) (HH:Nat → Bool) (h:k' ≠ k):devL (setK D k n NN HH) k' = devL D k':=by
  rw [devL_dl,devL_dl]; simp only [setK,if_neg h]
theorem setK_ok {D:BD} {k n:Nat} {NN:Nat → Int} {HH:Nat → Bool} (hd:D.ok) (hn:n ≤ 16) (hg:∀ i,i < n → 0 ≤ NN i ∧ NN i < 4):(setK D k n NN HH).ok:=by
  refine ⟨hd.few,hd.nodes,hd.res,fun k' hk'=>?_⟩
  show (if k' = k then n else D.dn k') ≤ 16 ∧ ∀ i,i < (if k' = k then n else D.dn k') → 0 ≤ (if k' = k then NN else D.dN k') i ∧ (if k' = k then NN else D.dN k') i < 4
  by_cases h:k' = k
  · simp only [if_pos h]; exact ⟨hn,hg⟩
  · simp only [if_neg h]; exact hd.devs k' hk'
def reK (K:Nat → Nat) (v:Value) (t:Nat) (b:Nat):Nat:=if v.ownBlock = some b then t else K b
def reD (d:Nat → Value) (k:Nat) (v:Value) (k':Nat):Value:=if k' = k then v else d k'
theorem reK_old {K:Nat → Nat} {v:Value} {t b B:Nat} (hv:∀ x,v.ownBlock = some x → B ≤ x) (hb:b < B):reK K v t b = K b:=by
  unfold reK; rw [if_neg (fun e=>by have:=hv b e; omega)]
section
variable {w w' W1:World} {base bb ww cw qw:Nat} {m:Mach} {vc vr:Value} {D:BD} {d e:Nat → Value} {K:Nat → Nat}
theorem bdC_set (vc vr:Value) (p:Int) (d:Nat → Value) {k:Nat} (v:Value) (hk:k < 3):(bdC vc vr p d).setIfInBounds (3 + k) v = bdC vc vr p (reD d k v):=by
  obtain rfl | rfl | rfl:k = 0 ∨ k = 1 ∨ k = 2:=by omega
  all_goals rfl
theorem wdC_set (cw qw:Nat) (m:Mach) (e:Nat → Value) {k:Nat} (v:Value) (hk:k < 3):(wdC cw qw m e).setIfInBounds (3 + k) v = wdC cw qw m (reD e k v):=by
  obtain rfl | rfl | rfl:k = 0 ∨ k = 1 ∨ k = 2:=by omega
  all_goals rfl
theorem BSide.register (h:BSide w base bb m vc vr D d K) {k n:Nat} {NN:Nat → Int} {HH:Nat → Bool} {v:Value} (hk:k < 3) (hn:n ≤ 16) (hg:∀ i,i < n → 0 ≤ NN i ∧ NN i < 4)
    (hB:Below w.heap.size w W1) (hown:W1.ownsRow w.heap.size 80 2 v n (dlL n NN HH)) (hfl:Flat W1 v) (hw':w'.heap = (W1.setCell ⟨bb,3 + k,none⟩ v).heap):BSide w' base bb m vc vr (setK D k n NN HH) (reD d k v) (reK K v (4 + k)):=by
  have lb:bb < w.heap.size:=(Array.getElem?_eq_some_iff.1 h.blk).1
  have hv:∀ x,v.ownBlock = some x → w.heap.size ≤ x:=fun x hx=>(hown.lt x hx).1
  have oth:∀ b,b ≠ bb → w'.heap[b]? = W1.heap[b]?:=fun b hb=>by rw [hw']; exact Below.heap_setCell _ _ _ _ hb
  have old:∀ b,b < w.heap.size → b ≠ bb → w'.heap[b]? = w.heap[b]?:=fun b hb hn=>(oth b hn).trans (hB.block b hb)
  have ko:∀ b,b < w.heap.size → reK K v (4 + k) b = K b:=fun b hb=>reK_old hv hb
  have nb:∀ b t,K b = t → t ≠ 1 → b ≠ bb:=fun b t h1 h2 h3=>by rw [h3,h.tb] at h1; exact h2 h1.symm
  have kc:∀ b,vc.ownBlock = some b → w'.heap[b]? = w.heap[b]?:=fun b hb=>old b (h.cpus.lt b hb).2 (nb b 2 (h.tc b hb) (by omega))
  have kr:∀ b,vr.ownBlock = some b → w'.heap[b]? = w.heap[b]?:=fun b hb=>old b (h.res.lt b hb).2 (nb b 3 (h.tr b hb) (by omega))
  refine ⟨?_,ownsRow_of_block h.cpus kc,ownsRow_of_block h.res kr,fun k' hk'=>?_,h.fcpu.of_block kc,h.fres.of_block kr,fun k' hk'=>?_,(ko bb lb).trans h.tb,fun b hb=>(ko b (h.cpus.lt b hb).2).trans (h.tc b hb),fun b hb=>(ko b (h.res.lt b hb).2).trans (h.tr b hb),fun k' hk' b hb=>?_,h.base,h.same,setK_ok h.ok hn hg⟩
  · rw [hw',← bdC_set vc vr m.p d v hk]
    exact blk_set v ((hB.block bb lb).trans h.blk)
  · show World.ownsRow _ base _ 2 (if k' = k then v else d k') (if k' = k then n else D.dn k') _
    by_cases hkk:k' = k
    · subst hkk
      simp only [if_pos,devL_setK]
      refine ownsRow_base (ownsRow_of_block hown fun b hb=>oth b ?_) (by have:=h.base; omega)
      have:=hv b hb; omega
    · simp only [if_neg hkk,devL_setK_other D n NN HH hkk]
      exact ownsRow_of_block (h.devs k' hk') fun b hb=>old b ((h.devs k' hk').lt b hb).2 (nb b _ (h.td k' hk' b hb) (by omega))
  · show Flat w' (if k' = k then v else d k')
    by_cases hkk:k' = k
    · rw [if_pos hkk]
      exact hfl.of_block fun b hb=>oth b (by have:=hv b hb; omega)
    · rw [if_neg hkk]
      exact (h.fdev k' hk').of_block fun b hb=>old b ((h.devs k' hk').lt b hb).2 (nb b _ (h.td k' hk' b hb) (by omega))
  · have hb:(if k' = k then v else d k').ownBlock = some b:=hb
    by_cases hkk:k' = k
    · rw [if_pos hkk] at hb
      unfold reK
      rw [if_pos hb,hkk]
    · rw [if_neg hkk] at hb
      rw [ko b ((h.devs k' hk').lt b hb).2]
      exact h.td k' hk' b hb
theorem WSide.register (h:WSide w base ww cw qw m D e K) {k n:Nat} {NN:Nat → Int} {HH:Nat → Bool} {v:Value} (hk:k < 3) (hn:n ≤ 16) (hg:∀ i,i < n → 0 ≤ NN i ∧ NN i < 4)
    (hB:W1.heap[ww]? = w.heap[ww]?) (hold:∀ b,b < w.heap.size → b ≠ ww → w'.heap[b]? = w.heap[b]?) (hww:w'.heap[ww]? = (W1.setCell ⟨ww,3 + k,none⟩ v).heap[ww]?) (hown:w'.ownsRow w.heap.size 80 2 v n (dlL n NN HH)):WSide w' base ww cw qw m (setK D k n NN HH) (reD e k v) (reK K v (11 + k)):=by
  have lb:ww < w.heap.size:=(Array.getElem?_eq_some_iff.1 h.blk).1
  have hv:∀ x,v.ownBlock = some x → w.heap.size ≤ x:=fun x hx=>(hown.lt x hx).1
  have ko:∀ b,b < w.heap.size → reK K v (11 + k) b = K b:=fun b hb=>reK_old hv hb
  have nb:∀ b t,K b = t → t ≠ 8 → b ≠ ww:=fun b t h1 h2 h3=>by rw [h3,h.tw] at h1; exact h2 h1.symm
  refine ⟨?_,h.cpus.of_block (hold cw h.cpus.lt (nb cw 9 h.tc (by omega))),h.res.of_block (hold qw h.res.lt (nb qw 10 h.tr (by omega))),fun k' hk'=>?_,(ko ww lb).trans h.tw,(ko cw h.cpus.lt).trans h.tc,(ko qw h.res.lt).trans h.tr,fun k' hk' b hb=>?_,h.base,h.same,setK_ok h.ok hn hg⟩
  · rw [hww,← wdC_set cw qw m e v hk]
    exact blk_set v (hB.trans h.blk)
  · show World.ownsRow _ base _ 2 (if k' = k then v else e k') (if k' = k then n else D.dn k') _
    by_cases hkk:k' = k
    · subst hkk
      simp only [if_pos,devL_setK]
      exact ownsRow_base hown (by have:=h.base; omega)
    · simp only [if_neg hkk,devL_setK_other D n NN HH hkk]
      exact ownsRow_of_block (h.devs k' hk') fun b hb=>hold b ((h.devs k' hk').lt b hb).2 (nb b _ (h.td k' hk' b hb) (by omega))
  · have hb:(if k' = k then v else e k').ownBlock = some b:=hb
    by_cases hkk:k' = k
    · rw [if_pos hkk] at hb
      unfold reK
      rw [if_pos hb,hkk]
    · rw [if_neg hkk] at hb
      rw [ko b ((h.devs k' hk').lt b hb).2]
      exact h.td k' hk' b hb
theorem BSide.retag {K':Nat → Nat} (h:BSide w base bb m vc vr D d K) (hK:∀ b,b < w.heap.size → K' b = K b):BSide w base bb m vc vr D d K' :=
  ⟨h.blk,h.cpus,h.res,h.devs,h.fcpu,h.fres,h.fdev,(hK bb (Array.getElem?_eq_some_iff.1 h.blk).1).trans h.tb,fun b hb=>(hK b (h.cpus.lt b hb).2).trans (h.tc b hb),fun b hb=>(hK b (h.res.lt b hb).2).trans (h.tr b hb),fun k hk b hb=>(hK b ((h.devs k hk).lt b hb).2).trans (h.td k hk b hb),h.base,h.same,h.ok⟩
theorem WSide.retag {K':Nat → Nat} (h:WSide w base ww cw qw m D e K) (hK:∀ b,b < w.heap.size → K' b = K b):WSide w base ww cw qw m D e K' :=
  ⟨h.blk,h.cpus,h.res,h.devs,(hK ww (Array.getElem?_eq_some_iff.1 h.blk).1).trans h.tw,(hK cw h.cpus.lt).trans h.tc,(hK qw h.res.lt).trans h.tr,fun k hk b hb=>(hK b ((h.devs k hk).lt b hb).2).trans (h.td k hk b hb),h.base,h.same,h.ok⟩
end
theorem registerE_2 {A:Int} {n:Nat} {NN:Nat → Int} (h:¬ (0 ≤ A ∧ A < 3)):registerE A n NN = 2:=if_neg h
theorem registerE_7 {A:Int} {n:Nat} {NN:Nat → Int} (h:0 ≤ A ∧ A < 3) (h2:16 < n):registerE A n NN = 7:=by unfold registerE; rw [if_pos h,if_pos h2]
theorem registerE_0 {A:Int} {n:Nat} {NN:Nat → Int} (h:0 ≤ A ∧ A < 3) (h2:¬ 16 < n) (h3:∀ i,i < n → 0 ≤ NN i ∧ NN i < 4):registerE A n NN = 0:=by
  unfold registerE
  rw [if_pos h,if_neg h2,if_pos]
  rw [List.all_eq_true]
  exact fun i hi=>decide_eq_true (h3 i (List.mem_range.1 hi))
theorem registerE_3 {A:Int} {n i:Nat} {NN:Nat → Int} (h:0 ≤ A ∧ A < 3) (h2:¬ 16 < n) (hi:i < n) (h3:¬ (0 ≤ NN i ∧ NN i < 4)):registerE A n NN = 3:=by
  unfold registerE
  rw [if_pos h,if_neg h2,if_neg]
  rw [List.all_eq_true]
  exact fun hh=>h3 (of_decide_eq_true (hh i (List.mem_range.2 hi)))
theorem first_bad {n:Nat} {NN:Nat → Int} (h:¬ ∀ i,i < n → 0 ≤ NN i ∧ NN i < 4):∃ i,i < n ∧ ¬ (0 ≤ NN i ∧ NN i < 4) ∧ ∀ j,j < i → 0 ≤ NN j ∧ NN j < 4:=by
  induction n with
  | zero=>exact absurd (fun i hi=>absurd hi (Nat.not_lt_zero _)) h
  | succ n ih =>
    by_cases h1:∀ i,i < n → 0 ≤ NN i ∧ NN i < 4
    · refine ⟨n,by omega,fun h2=>h fun i hi=>?_,h1⟩
      by_cases e:i = n
      · rw [e]; exact h2
      · exact h1 i (by omega)
    · obtain ⟨i,h2,h3,h4⟩:=ih h1
      exact ⟨i,by omega,h3,h4⟩
theorem registerD_same {D:BD} {A:Int} {n:Nat} {NN:Nat → Int} {HH:Nat → Bool} (h:registerE A n NN ≠ 0):registerD D A n NN HH = D:=if_neg h
theorem registerB_any (A:Int) (b o n cap:Nat) (NN:Nat → Int) (HH:Nat → Bool) (base bb:Nat) (m:Mach) (vc vr:Value) (D:BD) (d:Nat → Value) (K:Nat → Nat) (w:World) (hnc:n ≤ cap) (hd:DevAt w b o n NN HH) (h:BSide w base bb m vc vr D d K) :
    Calls (patch shutL Tryz.prog) 50 #[.pointer (some ⟨bb,0,none⟩),.int .i64 A,.slice (some ⟨b,o,none⟩) n cap] w fun e' w'=>e' = .returned (.int .i64 (registerE A n NN)) ∧ ∃ d' K',BSide w' base bb m vc vr (registerD D A n NN HH) d' K' ∧ Only w w' K 1 1 ∧ (∀ x,x < w.heap.size → K' x = K x) ∧ ∀ x,w.heap.size ≤ x → K' x ≠ K x → x < w'.heap.size:=by
  by_cases hA:0 ≤ A ∧ A < 3
  case neg =>
    refine (regB_kind bb A _ w hA).mono ?_
    rintro e w1 ⟨rfl,rfl⟩
    have hE:=registerE_2 (n:=n) (NN:=NN) hA
    exact ⟨by rw [hE],d,K,by rw [registerD_same (by rw [hE]; omega)]; exact h,Only.refl _ _ _ _,fun _ _=>rfl,fun x _ hx=>absurd rfl hx⟩
  obtain ⟨k,hkA⟩ : ∃ k:Nat,A = k:=⟨A.toNat,by omega⟩
  have hk:k < 3:=by omega
  by_cases hn:16 < n
  · refine (regB_many A bb k n cap _ w hk hkA hn).mono ?_
    rintro e w1 ⟨rfl,rfl⟩
    have hE:=registerE_7 (NN:=NN) hA hn
    exact ⟨by rw [hE],d,K,by rw [registerD_same (by rw [hE]; omega)]; exact h,Only.refl _ _ _ _,fun _ _=>rfl,fun x _ hx=>absurd rfl hx⟩
  by_cases hg:∀ i,i < n → 0 ≤ NN i ∧ NN i < 4
  · refine (regB_ok A bb k b o n cap NN HH _ _ w hk hkA (by omega) hnc hd hg h.blk (by simp [bdC])).mono ?_
    rintro e w1 ⟨rfl,v,W1,k1,k2,k3,k4,k5,k6,k7⟩
    have hE:=registerE_0 hA hn hg
    have lb:bb < w.heap.size:=(Array.getElem?_eq_some_iff.1 h.blk).1
    have hsz:w1.heap.size = W1.heap.size:=by rw [k4]; simp
    refine ⟨by rw [hE],reD d k v,reK K v (4 + k),?_,⟨k5,k6,k7,by rw [hsz]; exact k1.size,fun x hx hn=>?_⟩,fun x hx=>reK_old (fun y hy=>(k2.lt y hy).1) hx,fun x _ hx=>?_⟩
    · unfold registerD
      rw [if_pos hE,hkA,Int.toNat_natCast]
      exact h.register hk (by omega) hg k1 k2 k3 k4
    · have:x ≠ bb:=fun e=>hn (by rw [e,h.tb]; omega)
      rw [k4]
      exact (Below.heap_setCell _ _ _ _ this).trans (k1.block x hx)
    · rw [hsz]
      by_cases hv:v.ownBlock = some x
      · exact (k2.lt x hv).2
      · exact absurd (if_neg hv) hx
  · obtain ⟨i,hi,hbad,hgood⟩:=first_bad hg
    refine (regB_node A bb k b o n cap i NN HH w hk hkA (by omega) hnc hd hi hbad hgood).mono ?_
    rintro e w1 ⟨rfl,hB⟩
    have hE:=registerE_3 hA hn hi hbad
    exact ⟨by rw [hE],d,K,by rw [registerD_same (by rw [hE]; omega)]; exact h.below hB,Only.of_below hB,fun _ _=>rfl,fun x _ hx=>absurd rfl hx⟩
end Go.Proofs.YtojoafcnijajmaaGreatDoor.Z

namespace Go.Proofs.YtojoafcnijajmaaGreatDoor.Z
open Go.RowKit
attribute [local go_sem ↓] Go.wp_at_zero Go.wp_at_succ
attribute [local go_sem] After.cell After.frozen After.const
theorem own_of_row {w:World} {g ty sz n base:Nat} {f:Nat → Value} (h:w.rowIs g ty (n * sz) f) (hb:base ≤ g) (hn:n ≤ maxLen):w.ownsRow base ty sz (.slice (some ⟨g,0,none⟩) n n) n ((List.range (n * sz)).map f):=by
  obtain ⟨cur,h1,h2,h3⟩:=h
  refine ⟨by simp,.inr ⟨g,n,cur,rfl,hb,h1,Nat.le_refl _,hn,h2,?_⟩⟩
  refine List.ext_getElem? fun j=>?_
  by_cases hj:j < n * sz
  · rw [List.getElem?_take,if_pos hj]
    have:=h3 j hj
    rw [Array.getElem?_toList,this]
    simp [hj]
  · rw [List.getElem?_eq_none (by simp; omega),List.getElem?_eq_none (by simp; omega)]
set_option maxRecDepth 100000 in
set_option maxHeartbeats 2000000 in
theorem regR_kind (bb:Nat) (A:Int) (v:Value) (w:World) (hA:¬ (0 ≤ A ∧ A < 3)):Calls (patch shutL Tryz.prog) 81 #[.pointer (some ⟨bb,0,none⟩),.int .i64 A,v] w fun e w'=>e = .returned (.int .i64 2) ∧ w' = w:=by
  have HN:=Hid.in hA
  clear hA
  go_enter (pf Tryz.func81 (by rfl)),Tryz.ntmps81
  go_wp2_with fail
  refine (within_any _ _ _).mono ?_
  rintro e w1 ⟨he,hw⟩
  obtain rfl:=hw.symm
  obtain rfl:=he.is_false HN.out
  clear he
  go_wp2_with fail
  go_ret
  exact ⟨rfl,rfl⟩
set_option maxRecDepth 100000 in
set_option maxHeartbeats 2000000 in
theorem regR_many (A:Int) (bb n cap:Nat) (ao:Option Addr) (w:World) (hA:0 ≤ A ∧ A < 3) (hn:16 < n):Calls (patch shutL Tryz.prog) 81 #[.pointer (some ⟨bb,0,none⟩),.int .i64 A,.slice ao n cap] w fun e w'=>e = .returned (.int .i64 7) ∧ w' = w:=by
  have hn':(16:Int) < n:=by omega
  have HN:=Hid.in hA
  clear hA
  go_enter (pf Tryz.func81 (by rfl)),Tryz.ntmps81
  go_wp2_with fail
  refine (within_any _ _ _).mono ?_
  rintro e w1 ⟨he,hw⟩
  obtain rfl:=hw.symm
  obtain rfl:=he.is_true HN.out
  clear he
  go_wp2_with fail
  go_ret
  exact ⟨rfl,rfl⟩
set_option maxRecDepth 100000 in
set_option maxHeartbeats 4000000 in
theorem regR_node (A:Int) (ao:Option Addr) (bb b o n cap i0:Nat) (NN:Nat → Int) (HH:Nat → Bool) (w:World) (hA:0 ≤ A ∧ A < 3) (hn:n ≤ 16) (hnc:n ≤ cap) (ha:0 < n → ao = some ⟨b,o,none⟩) (hd:DevAt w b o n NN HH) (hi0:i0 < n) (hbad:¬ (0 ≤ NN i0 ∧ NN i0 < 4)) (hgood:∀ i,i < i0 → 0 ≤ NN i ∧ NN i < 4) :
    Calls (patch shutL Tryz.prog) 81 #[.pointer (some ⟨bb,0,none⟩),.int .i64 A,.slice ao n cap] w fun e w'=>e = .returned (.int .i64 3) ∧ w' = w:=by
  have hn':¬ (16:Int) < n:=by omega
  obtain rfl:=ha (by omega)
  clear ha
  have HD:=Hid.in (And.intro hd (And.intro hbad (And.intro hgood hA)))
  clear hd hbad hgood hA
  go_enter (pf Tryz.func81 (by rfl)),Tryz.ntmps81
  go_wp2_with fail
  refine (within_any _ _ _).mono ?_
  rintro e w1 ⟨he,hw⟩
  obtain rfl:=hw.symm
  obtain rfl:=he.is_true HD.out.2.2.2
  clear he
  go_wp2_with fail
  obtain ⟨wo,rfl⟩ : ∃ wo,wo = w:=⟨_,rfl⟩
  go_loopw [8] (fun i wr=>∃ j:Nat,j ≤ i0 ∧ i = .int .i64 j ∧ wr = wo) (fun i _=>i0 + 1 - (intOf i).toNat)
  case atStart=>exact ⟨0,by omega,rfl,rfl⟩
  case round =>
    obtain ⟨j,hj,rfl,hw⟩:=hrel
    obtain rfl:=hw.symm
    obtain ⟨c0,c1⟩:=HD.out.1 j (by omega)
    have jn:(j:Int) < n:=by omega
    by_cases hlt:j < i0
    · have HG:=Hid.in (HD.out.2.2.1 j hlt)
      go_wp2_with fail
      refine (within_any _ _ _).mono ?_
      rintro e w1 ⟨he,hw⟩
      obtain rfl:=hw.symm
      obtain rfl:=he.is_true HG.out
      clear he
      go_wp2_with fail
      go_roundw
      case rel=>exact ⟨j + 1,by omega,by go_num,trivial⟩
      case measure=>simp [intOf]; omega
    · have:j = i0:=by omega
      subst this
      go_wp2_with fail
      refine (within_any _ _ _).mono ?_
      rintro e w1 ⟨he,hw⟩
      obtain rfl:=hw.symm
      obtain rfl:=he.is_false HD.out.2.1
      clear he
      go_wp2_with fail
      go_ret
      exact ⟨rfl,rfl⟩
set_option maxRecDepth 100000 in
set_option maxHeartbeats 8000000 in
theorem regR_ok (kz:Int) (ao:Option Addr) (ww k b o n cap:Nat) (NN:Nat → Int) (HH:Nat → Bool) (cs:Array Value) (T:TypeId) (w:World) (hk:k < 3) (hkz:kz = k) (hn:n ≤ 16) (hnc:n ≤ cap) (ha:0 < n → ao = some ⟨b,o,none⟩) (hd:DevAt w b o n NN HH) (hgood:∀ i,i < n → 0 ≤ NN i ∧ NN i < 4) (hww:w.heap[ww]? = some (.cells cs T (0,0))) (hcs:5 < cs.size) (hbw':0 < n → b ≠ ww) :
    Calls (patch shutL Tryz.prog) 81 #[.pointer (some ⟨ww,0,none⟩),.int .i64 kz,.slice ao n cap] w fun e w'=>e = .returned (.int .i64 0) ∧ w'.ownsRow w.heap.size 80 2 (.slice (some ⟨w.heap.size,0,none⟩) n n) n (dlL n NN HH) ∧
      (∀ b,b < w.heap.size → b ≠ ww → w'.heap[b]? = w.heap[b]?) ∧ w'.heap[ww]? = (w.setCell ⟨ww,3 + k,none⟩ (.slice (some ⟨w.heap.size,0,none⟩) n n)).heap[ww]? ∧ w'.os = w.os ∧ w'.tape = w.tape ∧ w'.output = w.output ∧ w.heap.size ≤ w'.heap.size:=by
  have hn':¬ (16:Int) < n:=by omega
  have lw:ww < w.heap.size:=(Array.getElem?_eq_some_iff.1 hww).1
  have hA:0 ≤ kz ∧ kz < 3:=by omega
  obtain ⟨W1,hmk,⟨f,r1⟩,hB1,hs1⟩:=ex_make (P:=(patch shutL Tryz.prog)) w.drew 36 80 _ 2 16 n (n:Int) rfl ((patch_underlying shutL Tryz.prog 36).trans Tryz.underlying36) infoDev (by omega) (by omega)
  rw [show w.drew.heap.size = w.heap.size from rfl] at hmk r1 hs1
  have hB1':Below w.heap.size w W1:=(Below.refl _ _).drew.trans hB1
  have b1:=(hB1'.block ww lw).trans hww
  obtain ⟨p,pff⟩:=blk b1
  have p3:=(p 3).trans (Array.getElem?_eq_getElem (show 3 < cs.size from Nat.lt_trans (by decide) hcs))
  have p4:=(p 4).trans (Array.getElem?_eq_getElem (show 4 < cs.size from Nat.lt_trans (by decide) hcs))
  have p5:=(p 5).trans (Array.getElem?_eq_getElem hcs)
  have c1:=blk_set (i:=3 + k) (.slice (some ⟨w.heap.size,0,none⟩) n n) b1
  have s3:(W1.setCell ⟨ww,3 + k,none⟩ (.slice (some ⟨w.heap.size,0,none⟩) n n)).cell? ⟨ww,3 + k,none⟩ = some (.slice (some ⟨w.heap.size,0,none⟩) n n):=by
    rw [(blk c1).1]
    have:3 + k < cs.size:=by omega
    simp [this]
  have hne:w.heap.size ≠ ww:=by omega
  obtain ⟨W3,hcp,r3,hg3,hs3⟩:=ex_copy (P:=(patch shutL Tryz.prog)) (W1.setCell ⟨ww,3 + k,none⟩ (.slice (some ⟨w.heap.size,0,none⟩) n n)) 36 80 _ 2 16 ((patch_underlying shutL Tryz.prog 36).trans Tryz.underlying36) infoDev w.heap.size 0 n n (n * 2) f (r1.setOther (a:=⟨ww,3 + k,none⟩) hne _) ao b o n cap n (by simp) (dlCell NN HH) ha
    (fun j hj=>by
      have h0:=hd.flat hj
      have hb:b < w.heap.size:=block_lt_of_cell h0
      have hbw:=hbw' (by omega)
      rw [World.cell?_setCell_other _ _ _ _ (fun e=>hbw (by have:=congrArg Addr.block e; simpa using this.symm))]
      exact (hB1'.cell (p:=⟨b,o + j,none⟩) hb).trans h0) (fun j _=>by rcases dlCell_nb NN HH j with ⟨_,_,e⟩ | ⟨_,e⟩ <;> rw [e] <;> rfl) (by omega)
  have HF:Hid (W3.ownsRow w.heap.size 80 2 (.slice (some ⟨w.heap.size,0,none⟩) n n) n (dlL n NN HH) ∧ (∀ b,b < w.heap.size → b ≠ ww → W3.heap[b]? = w.heap[b]?) ∧ W3.heap[ww]? = (w.setCell ⟨ww,3 + k,none⟩ (.slice (some ⟨w.heap.size,0,none⟩) n n)).heap[ww]? ∧ W3.os = w.os ∧ W3.tape = w.tape ∧ W3.output = w.output ∧ w.heap.size ≤ W3.heap.size):=by
    refine ⟨own_of_row (r3.congr fun j hj=>?_) (Nat.le_refl _) (by unfold maxLen; omega),fun b hb hn=>?_,?_,hg3.os.trans hB1'.os,hg3.tape.trans hB1'.tape,hg3.output.trans hB1'.output,?_⟩
    · rw [if_pos ⟨Nat.zero_le _,by omega⟩]; rfl
    · exact (hg3.block b (by simp; omega) (ne_some (by omega))).trans ((Below.heap_setCell _ _ _ _ hn).trans (hB1'.block b hb))
    · rw [hg3.block ww (by simp; omega) (ne_some (by omega)),c1]
      exact (blk_set _ hww).symm
    · rw [hs3]; simp; omega
  have HD:=Hid.in (And.intro hd (And.intro hgood hA))
  clear hd hgood r1 r3 hg3 hs3 hs1 hB1 hB1' b1 c1 p hww hA
  have hk3':(k = 0 ∧ kz = 0) ∨ (k = 1 ∧ kz = 1) ∨ (k = 2 ∧ kz = 2):=by omega
  clear hkz
  rcases hk3' with ⟨rfl,rfl⟩ | ⟨rfl,rfl⟩ | ⟨rfl,rfl⟩
  all_goals (
    go_enter (pf Tryz.func81 (by rfl)),Tryz.ntmps81
    go_wp2_with fail
    refine (within_any _ _ _).mono ?_
    rintro e w1 ⟨he,hw⟩
    obtain rfl:=hw.symm
    obtain rfl:=he.is_true HD.out.2.2
    clear he
    go_wp2_with fail
    obtain ⟨wo,rfl⟩ : ∃ wo,wo = w:=⟨_,rfl⟩
    go_loopw [8] (fun i wr=>∃ j:Nat,j ≤ n ∧ i = .int .i64 j ∧ wr = wo) (fun i _=>n - (intOf i).toNat)
    case atStart=>exact ⟨0,by omega,rfl,rfl⟩
    case round =>
      obtain ⟨j,hj,rfl,hw⟩:=hrel
      obtain rfl:=hw.symm
      by_cases hlt:j < n
      · obtain rfl:=ha (by omega)
        obtain ⟨c0,c1⟩:=HD.out.1 j hlt
        have jn:(j:Int) < n:=by omega
        have HG:=Hid.in (HD.out.2.1 j hlt)
        clear hmk hcp p3 p4 p5 pff s3
        go_wp2_with fail
        refine (within_any _ _ _).mono ?_
        rintro e w1 ⟨he,hw⟩
        obtain rfl:=hw.symm
        obtain rfl:=he.is_true HG.out
        clear he
        go_wp2_with fail
        go_roundw
        case rel=>exact ⟨j + 1,by omega,by go_num,trivial⟩
        case measure=>simp [intOf]; omega
      · have:j = n:=by omega
        subst this
        clear ha
        go_wp2_with fail
        go_region
        go_wp2_with fail
        go_ret
        exact ⟨rfl,HF.out⟩)
theorem registerR_any (A:Int) (ao:Option Addr) (b o n cap:Nat) (NN:Nat → Int) (HH:Nat → Bool) (base ww cw qw:Nat) (m:Mach) (D:BD) (e:Nat → Value) (K:Nat → Nat) (w:World) (hnc:n ≤ cap) (ha:0 < n → ao = some ⟨b,o,none⟩) (hd:DevAt w b o n NN HH) (hb:0 < n → b < base) (h:WSide w base ww cw qw m D e K) :
    Calls (patch shutL Tryz.prog) 81 #[.pointer (some ⟨ww,0,none⟩),.int .i64 A,.slice ao n cap] w fun e' w'=>e' = .returned (.int .i64 (registerE A n NN)) ∧ ∃ d' K',WSide w' base ww cw qw m (registerD D A n NN HH) d' K' ∧ Only w w' K 8 8 ∧ (∀ x,x < w.heap.size → K' x = K x) ∧ ∀ x,w.heap.size ≤ x → K' x ≠ K x → x < w'.heap.size:=by
  by_cases hA:0 ≤ A ∧ A < 3
  case neg =>
    refine (regR_kind ww A _ w hA).mono ?_
    rintro e' w1 ⟨rfl,rfl⟩
    have hE:=registerE_2 (n:=n) (NN:=NN) hA
    exact ⟨by rw [hE],e,K,by rw [registerD_same (by rw [hE]; omega)]; exact h,Only.refl _ _ _ _,fun _ _=>rfl,fun x _ hx=>absurd rfl hx⟩
  obtain ⟨k,hkA⟩ : ∃ k:Nat,A = k:=⟨A.toNat,by omega⟩
  have hk:k < 3:=by omega
  by_cases hn:16 < n
  · refine (regR_many A ww n cap ao w hA hn).mono ?_
    rintro e' w1 ⟨rfl,rfl⟩
    have hE:=registerE_7 (NN:=NN) hA hn
    exact ⟨by rw [hE],e,K,by rw [registerD_same (by rw [hE]; omega)]; exact h,Only.refl _ _ _ _,fun _ _=>rfl,fun x _ hx=>absurd rfl hx⟩
  by_cases hg:∀ i,i < n → 0 ≤ NN i ∧ NN i < 4
  · refine (regR_ok A ao ww k b o n cap NN HH _ _ w hk hkA (by omega) hnc ha hd hg h.blk (by simp [wdC]) (fun h0=>by have:=hb h0; have:=h.base.1; omega)).mono ?_
    rintro e' w1 ⟨rfl,k1,k2,k3,k4,k5,k6,k7⟩
    have hE:=registerE_0 hA hn hg
    refine ⟨by rw [hE],reD e k (.slice (some ⟨w.heap.size,0,none⟩) n n),reK K (.slice (some ⟨w.heap.size,0,none⟩) n n) (11 + k),?_,⟨k4,k5,k6,k7,fun x hx hn=>?_⟩,fun x hx=>reK_old (fun y hy=>(k1.lt y hy).1) hx,fun x _ hx=>?_⟩
    · unfold registerD
      rw [if_pos hE,hkA,Int.toNat_natCast]
      exact h.register (W1:=w) hk (by omega) hg rfl k2 k3 k1
    · exact k2 x hx (fun e=>hn (by rw [e,h.tw]; omega))
    · by_cases hv:(Value.slice (some ⟨w.heap.size,0,none⟩) n n).ownBlock = some x
      · exact (k1.lt x hv).2
      · exact absurd (if_neg hv) hx
  · obtain ⟨i,hi,hbad,hgood⟩:=first_bad hg
    refine (regR_node A ao ww b o n cap i NN HH w hA (by omega) hnc ha hd hi hbad hgood).mono ?_
    rintro e' w1 ⟨rfl,rfl⟩
    have hE:=registerE_3 hA hn hi hbad
    exact ⟨by rw [hE],e,K,by rw [registerD_same (by rw [hE]; omega)]; exact h,Only.refl _ _ _ _,fun _ _=>rfl,fun x _ hx=>absurd rfl hx⟩
end Go.Proofs.YtojoafcnijajmaaGreatDoor.Z

namespace Go.Proofs.YtojoafcnijajmaaGreatDoor.Z
open Go.RowKit
attribute [local go_sem ↓] Go.wp_at_zero Go.wp_at_succ
attribute [local go_sem] After.cell After.frozen After.const
structure SV where
  kind:Int
  A:Int
  B:Int
  v3:Value
  c:Nat → Int
  dao:Option Addr
  dn:Nat
  dcap:Nat
  yes:Bool
  v10:Value
  v11:Value
  v12:Value
  db:Nat
  doff:Nat
  NN:Nat → Int
  HH:Nat → Bool
def stepC (s:SV):Array Value:=#[.int .i64 s.kind,.int .i64 s.A,.int .i64 s.B,s.v3,.int .i64 (s.c 0),.int .i64 (s.c 1),.int .i64 (s.c 2),.int .i64 (s.c 3),.slice s.dao s.dn s.dcap,.bool s.yes,s.v10,s.v11,s.v12]
structure SV.At (s:SV) (w:World) (base:Nat):Prop where
  one:s.v3.oneCell' = true ∧ s.v10.oneCell' = true ∧ s.v11.oneCell' = true ∧ s.v12.oneCell' = true
  cap:s.dn ≤ s.dcap
  few:s.dn ≤ 1000000000
  ha:0 < s.dn → s.dao = some ⟨s.db,s.doff,none⟩
  dev:DevAt w s.db s.doff s.dn s.NN s.HH
  low:0 < s.dn → s.db < base
def Low (base:Nat) (c:Nat → Nat) (w:World) (c':Nat → Nat) (w':World):Prop:=∀ b,b < base → c b = 0 → w'.heap[b]? = w.heap[b]? ∧ c' b = 0
theorem Low.refl (base:Nat) (c:Nat → Nat) (w:World):Low base c w c w:=fun _ _ h=>⟨rfl,h⟩
theorem Low.trans {base:Nat} {c c' c'':Nat → Nat} {w w' w'':World} (h:Low base c w c' w') (k:Low base c' w' c'' w''):Low base c w c'' w'':=fun b hb hc=>by
  obtain ⟨h1,h2⟩:=h b hb hc
  obtain ⟨k1,k2⟩:=k b hb h2
  exact ⟨k1.trans h1,k2⟩
theorem Low.of_turn {S:Nat → Prop} {base:Nat} {c c':Nat → Nat} {w w':World} (t:Turn S c w c' w') (h0:¬ S 0) (hb:base ≤ w.heap.size):Low base c w c' w':=fun b hl hc=>by
  obtain ⟨h1,h2⟩:=t.keep b (by omega) (by rw [hc]; exact h0)
  exact ⟨h1,h2.trans hc⟩
structure Mid (g base bb ww cw qw:Nat) (m:Mach) (vc vr:Value) (D1 D2:BD) (d e:Nat → Value) (K:Nat → Nat) (c:Nat → Nat) (w:World) (G:Nat → Value) (n:Nat) (Li Lb Lo:List (Value × Nat)) (ws:List GW) (Eb Eo:List (Value × Value)):Prop where
  st:St c w g G n Li Lb Lo
  wt:Wt c w G ws Eb Eo
  bs:BSide w base bb m vc vr D1 d K
  wsd:WSide w base ww cw qw m D2 e K
  own:Own c w base K
  g0:G 0 = .pointer (some ⟨bb,0,none⟩)
  g1:G 1 = .pointer (some ⟨ww,0,none⟩)
  g6:∃ oa oc,G 6 = .slice oa 0 oc
section
variable {g base bb ww cw qw:Nat} {m:Mach} {vc vr:Value} {D D1 D2:BD} {d e d' e':Nat → Value} {K K':Nat → Nat} {c c':Nat → Nat} {w w':World} {G:Nat → Value} {n:Nat} {Li Lb Lo:List (Value × Nat)} {ws:List GW} {Eb Eo:List (Value × Value)}
theorem Mid.of_inv (h:Inv g base bb ww cw qw m vc vr D d e K c w G n Li Lb Lo ws Eb Eo):Mid g base bb ww cw qw m vc vr D D d e K c w G n Li Lb Lo ws Eb Eo:=⟨h.st,h.wt,h.three.berth,h.three.world,h.three.own,h.g0,h.g1,h.g6⟩
theorem Mid.inv (h:Mid g base bb ww cw qw m vc vr D D d e K c w G n Li Lb Lo ws Eb Eo):Inv g base bb ww cw qw m vc vr D d e K c w G n Li Lb Lo ws Eb Eo:=⟨h.st,h.wt,⟨h.bs,h.wsd,h.own⟩,h.g0,h.g1,h.g6⟩
theorem Mid.big (h:Mid g base bb ww cw qw m vc vr D1 D2 d e K c w G n Li Lb Lo ws Eb Eo):base ≤ w.heap.size:=by
  have:=h.own bb (by rw [h.bs.tb]; omega)
  omega
theorem Mid.below (h:Mid g base bb ww cw qw m vc vr D1 D2 d e K c w G n Li Lb Lo ws Eb Eo) (hb:Below w.heap.size w w'):Mid g base bb ww cw qw m vc vr D1 D2 d e K c w' G n Li Lb Lo ws Eb Eo:=by
  have t:Turn (fun _=>False) c w c w':=(Turn.refl h.st.top).below hb
  exact ⟨h.st.below hb,h.wt.turn t (fun _ _ h=>h),h.bs.below hb,h.wsd.below hb,(h.own.turn t (fun h=>h)).1,h.g0,h.g1,h.g6⟩
theorem Only.turn {lo hi:Nat} (h:Only w w' K lo hi) (hlo:1 ≤ lo) (ho:Own c w base K) (ht:Top c w):Turn (fun z=>z = 0) c w c w' :=
  ⟨h.os,h.tape,h.output,h.size,fun b hb hn=>⟨h.block b hb (fun hl=>hn (ho b (by omega)).1),rfl⟩,fun b hb=>ht b (Nat.le_trans h.size hb)⟩
theorem Only.low {lo hi:Nat} (h:Only w w' K lo hi) (hlo:1 ≤ lo) (ho:Own c w base K) (hb:base ≤ w.heap.size):Low base c w c w':=fun b hl hc =>
  ⟨h.block b (by omega) (fun hh=>by have:=(ho b (by omega)).2.1; omega),hc⟩
theorem own_new (ho:Own c w base K) (ht:Top c w) (hb:base ≤ w.heap.size) (hs:w.heap.size ≤ w'.heap.size) (h1:∀ x,x < w.heap.size → K' x = K x) (h2:∀ x,w.heap.size ≤ x → K' x ≠ K x → x < w'.heap.size):Own c w' base K':=fun b hK=>by
  by_cases hb':b < w.heap.size
  · rw [h1 b hb'] at hK
    obtain ⟨h3,h4,h5⟩:=ho b hK
    exact ⟨h3,h4,by omega⟩
  · refine ⟨ht b (by omega),by omega,?_⟩
    refine h2 b (by omega) fun e=>?_
    rw [e] at hK
    have:=(ho b hK).2.2
    omega
theorem Mid.berth (h:Mid g base bb ww cw qw m vc vr D1 D2 d e K c w G n Li Lb Lo ws Eb Eo) {D':BD} {hi:Nat} (hb:BSide w' base bb m vc vr D' d' K') (ho:Only w w' K 1 hi) (hhi:hi ≤ 7) (h1:∀ x,x < w.heap.size → K' x = K x) (h2:∀ x,w.heap.size ≤ x → K' x ≠ K x → x < w'.heap.size):Mid g base bb ww cw qw m vc vr D' D2 d' e K' c w' G n Li Lb Lo ws Eb Eo:=by
  have t:=ho.turn (by omega) h.own h.st.top
  refine ⟨h.st.turn t (fun z h1 h2 h3=>by omega),h.wt.turn t (fun z h1 h3=>by omega),hb,(h.wsd.retag h1).keep fun b hl hk=>?_,own_new h.own h.st.top h.big ho.size h1 h2,h.g0,h.g1,h.g6⟩
  refine ho.block b hl fun hh=>?_
  rw [h1 b hl] at hk
  omega
theorem Mid.world (h:Mid g base bb ww cw qw m vc vr D1 D2 d e K c w G n Li Lb Lo ws Eb Eo) {D':BD} {hi:Nat} (hb:WSide w' base ww cw qw m D' e' K') (ho:Only w w' K 8 hi) (h1:∀ x,x < w.heap.size → K' x = K x) (h2:∀ x,w.heap.size ≤ x → K' x ≠ K x → x < w'.heap.size):Mid g base bb ww cw qw m vc vr D1 D' d e' K' c w' G n Li Lb Lo ws Eb Eo:=by
  have t:=ho.turn (by omega) h.own h.st.top
  refine ⟨h.st.turn t (fun z h1 h2 h3=>by omega),h.wt.turn t (fun z h1 h3=>by omega),(h.bs.retag h1).keep fun b hl hk1 hk2=>?_,hb,own_new h.own h.st.top h.big ho.size h1 h2,h.g0,h.g1,h.g6⟩
  refine ho.block b hl fun hh=>?_
  rw [h1 b hl] at hk1 hk2
  omega
theorem Mid.blot (h:Mid g base bb ww cw qw m vc vr D1 D2 d e K c w G n Li Lb Lo ws Eb Eo) {hb:Nat} (ho:onlyIn w w' hb hb) (hK:K hb = 0) (hc:c hb = 0):Mid g base bb ww cw qw m vc vr D1 D2 d e K c w' G n Li Lb Lo ws Eb Eo:=by
  have t:Turn (fun z=>z = 0) c w c w':=⟨ho.1,ho.2.1,ho.2.2.1,ho.2.2.2.1,fun b hl hn=>⟨ho.2.2.2.2 b hl (fun e=>hn (by rw [e]; exact hc)) (fun e=>hn (by rw [e]; exact hc)),rfl⟩,fun b hl=>h.st.top b (Nat.le_trans ho.2.2.2.1 hl)⟩
  have k:∀ b,b < w.heap.size → K b ≠ 0 → w'.heap[b]? = w.heap[b]?:=fun b hl hn=>ho.2.2.2.2 b hl (fun e=>hn (by rw [e]; exact hK)) (fun e=>hn (by rw [e]; exact hK))
  exact ⟨h.st.turn t (fun z h1 h2 h3=>by omega),h.wt.turn t (fun z h1 h3=>by omega),h.bs.keep fun b hl h1 _=>k b hl (by omega),h.wsd.keep fun b hl h1=>k b hl (by omega),fun b hb=>⟨(h.own b hb).1,(h.own b hb).2.1,Nat.lt_of_lt_of_le (h.own b hb).2.2 ho.2.2.2.1⟩,h.g0,h.g1,h.g6⟩
end
theorem below_low {base:Nat} {c:Nat → Nat} {w w':World} (h:Below w.heap.size w w') (hb:base ≤ w.heap.size):Low base c w c w':=fun b hl hc=>⟨h.block b (by omega),hc⟩
theorem blot_low {base hb:Nat} {c:Nat → Nat} {w w':World} (h:onlyIn w w' hb hb) (hl:base ≤ hb) (hbw:base ≤ w.heap.size):Low base c w c w':=fun b hlt hc=>⟨h.2.2.2.2 b (by omega) (by omega) (by omega),hc⟩
theorem SV.At.kept {s:SV} {base:Nat} {c c':Nat → Nat} {w w':World} (h:s.At w base) (hl:Low base c w c' w') (hc:∀ b,b < base → c b = 0):s.At w' base:=by
  refine ⟨h.one,h.cap,h.few,h.ha,fun i hi=>?_,h.low⟩
  have hb:=h.low (by omega)
  have k:=(hl s.db hb (hc _ hb)).1
  exact ⟨(World.cell?_of_block (a:=⟨s.db,s.doff + i * 2,none⟩) k).trans (h.dev i hi).1,(World.cell?_of_block (a:=⟨s.db,s.doff + i * 2 + 1,none⟩) k).trans (h.dev i hi).2⟩
theorem hDev_at {w:World} {hb n:Nat} {NN:Nat → Int} {HH:Nat → Bool} (hr:w.rowIs hb 80 ((n + 8) * 2) (hDev n NN HH)):DevAt w hb 0 n NN HH:=fun i hi=>by
  rw [Nat.zero_add,hr.cell (by omega),hr.cell (by omega),hDev_0 hi,hDev_1 hi]
  exact ⟨rfl,rfl⟩
end Go.Proofs.YtojoafcnijajmaaGreatDoor.Z
