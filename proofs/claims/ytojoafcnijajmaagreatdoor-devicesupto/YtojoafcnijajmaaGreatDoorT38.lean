/- Part 38 of the proof that Devices answers true and leaves its input as it was, for input of bulk at most the bound of its row: ZF1 ZF3. -/
import Derived.Test.YtojoafcnijajmaaGreatDoorT8
import Derived.Test.YtojoafcnijajmaaGreatDoorT37
import Derived.Test.YtojoafcnijajmaaGreatDoorT28
set_option linter.unusedSimpArgs false
set_option linter.unusedVariables false
namespace Go.Proofs.YtojoafcnijajmaaGreatDoor.Z
open Go.RowKit
attribute [local go_sem ↓] Go.wp_at_zero Go.wp_at_succ
attribute [local go_sem] After.cell After.frozen After.const
section
variable {w w':World} {base bb ww cw qw:Nat} {m:Mach} {vc vr:Value} {D:BD} {d e:Nat → Value} {K:Nat → Nat}
theorem WSide.cell (h:WSide w base ww cw qw m D e K):∀ j,w.cell? ⟨ww,j,none⟩ = (wdC cw qw m e)[j]?:=fun j=>by rw [cell_of_row w ww j _ _ (0,0) h.blk]
theorem WSide.devs_cell (h:WSide w base ww cw qw m D e K) {k:Nat} (hk:k < 3):w.cell? ⟨ww,3 + k,none⟩ = some (e k):=by
  rw [h.cell]
  obtain rfl | rfl | rfl:k = 0 ∨ k = 1 ∨ k = 2:=by omega
  all_goals rfl
theorem WSide.few (h:WSide w base ww cw qw m D e K):m.n ≤ 24 ∧ m.r ≤ 24 ∧ ∀ k,k < 3 → D.dn k ≤ 16:=⟨by have:=h.ok.few; rw [h.same.1] at this; exact this,by have:=h.ok.res; rw [h.same.2.2.1] at this; exact this,fun k hk=>(h.ok.devs k hk).1⟩
theorem WSide.dev (h:WSide w base ww cw qw m D e K) {k:Nat} (hk:k < 3):∃ ao cap,e k = .slice ao (D.dn k) cap ∧ D.dn k ≤ cap ∧ (cap:Int) ≤ 9223372036854775807 ∧ ∀ i,i < D.dn k → ∃ g,ao = some ⟨g,0,none⟩ ∧ w.cell? ⟨g,i * 2,none⟩ = some (.int .i64 (D.dN k i)) ∧ w.cell? ⟨g,i * 2 + 1,none⟩ = some (.bool (D.dH k i)):=by
  obtain ⟨ao,cap,e1,h1,h2,h3⟩:=own_list (h.devs k hk)
  refine ⟨ao,cap,e1,h1,by unfold maxLen at h2; omega,fun i hi=>?_⟩
  obtain ⟨g,rfl,_,_,hc⟩:=h3 (by omega)
  refine ⟨g,rfl,?_,?_⟩
  · rw [hc _ (by omega),devL_get (by omega),Nat.mul_comm i 2,devCell_0]
  · rw [hc _ (by omega),devL_get (by omega),Nat.mul_comm i 2,devCell_1]
theorem WSide.usN0 (h:WSide w base ww cw qw m D e K):usN D 0 = freeN m m.n:=by
  unfold usN freeN
  simp only [if_pos]
  rw [h.same.1]
  congr 1
  funext i
  show (!resB (mk0 D 0) i) = _
  unfold resB mk0
  simp only [h.same.2.2.1,h.same.2.2.2]
end
theorem inMask_snoc (D:BD) (r mk i:Nat) (l:List Nat):inMask D r mk (l ++ [i]) = inMask D r mk l + if has mk (nodeN D r i).toNat = true then 1 else 0:=by
  unfold inMask
  rw [List.countP_append,List.countP_singleton]
  split <;> simp
theorem inMask_le (D:BD) (r mk:Nat) (l:List Nat):0 ≤ inMask D r mk l ∧ inMask D r mk l ≤ l.length:=by
  unfold inMask
  have:=List.countP_le_length (p:=fun i=>has mk (nodeN D r i).toNat) (l:=l)
  omega
set_option maxRecDepth 100000 in
set_option maxHeartbeats 1000000 in
theorem freeCPUD_any (m:Mach) (base ww cw qw:Nat) (D:BD) (e:Nat → Value) (K:Nat → Nat) (x:Int) (w:World) (hm:WSide w base ww cw qw m D e K) :
    Calls (patch shutL Tryz.prog) 142 #[.pointer (some ⟨ww,0,none⟩),.int .i64 x] w fun e w'=>Ans (¬ among m.R m.r x) e ∧ w' = w:=by
  have hr:=hm.few.2.1
  have q1:=hm.cell 1
  have q6:=hm.cell 6
  have HI:Hid (IntAt w qw 0 m.r m.R):=fun i hi=>by rw [Nat.zero_add]; exact hm.res.cell hi
  simp only [wdC] at q1 q6
  clear hm
  by_cases ha:among m.R m.r x
  · have HA:Hid (among m.R m.r x):=ha
    clear ha
    go_enter (pf Tryz.func142 (by rfl)),Tryz.ntmps142
    go_wp2_with (go_at_call 146; refine (in_any (some ⟨qw,0,none⟩) qw 0 m.r m.r m.R x _ (by omega) (fun _=>rfl) HI.out).mono ?_; rintro e w1 ⟨he,hw⟩; obtain rfl:=hw.symm; obtain rfl:=he.is_true HA.out; clear he)
    refine wp_loop_rounds 1 ?_
    rw [rounds_succ]
    go_wp2_with (first | (go_at_call 185; go_enter (pf Tryz.func185 (by rfl)),Tryz.ntmps185) | (go_at_call 110; go_enter (pf Tryz.func110 (by rfl)),Tryz.ntmps110))
    go_ret
    exact ⟨.no (fun h=>h HA.out),rfl⟩
  · have HA:Hid (¬ among m.R m.r x):=ha
    clear ha
    go_enter (pf Tryz.func142 (by rfl)),Tryz.ntmps142
    go_wp2_with (go_at_call 146; refine (in_any (some ⟨qw,0,none⟩) qw 0 m.r m.r m.R x _ (by omega) (fun _=>rfl) HI.out).mono ?_; rintro e w1 ⟨he,hw⟩; obtain rfl:=hw.symm; obtain rfl:=he.is_false HA.out; clear he)
    refine wp_loop_rounds 1 ?_
    rw [rounds_succ]
    go_wp2_with (first | (go_at_call 185; go_enter (pf Tryz.func185 (by rfl)),Tryz.ntmps185) | (go_at_call 110; go_enter (pf Tryz.func110 (by rfl)),Tryz.ntmps110))
    go_ret
    exact ⟨.yes HA.out,rfl⟩
set_option maxRecDepth 100000 in
set_option maxHeartbeats 1000000 in
theorem freeDev_any (ww k i g n cap:Nat) (hk:k < 3) (b:Bool) (w:World) (hi:i < n) (hc:n ≤ cap) (h3:w.cell? ⟨ww,3 + k,none⟩ = some (.slice (some ⟨g,0,none⟩) n cap)) (h6:w.cell? ⟨ww,6,none⟩ = some (.slice none 0 0)) (hb:w.cell? ⟨g,i * 2 + 1,none⟩ = some (.bool b)) :
    Calls (patch shutL Tryz.prog) 143 #[.pointer (some ⟨ww,0,none⟩),.int .i64 k,.int .i64 i] w fun e w'=>e = .returned (.bool b) ∧ w' = w:=by
  obtain rfl | rfl | rfl:k = 0 ∨ k = 1 ∨ k = 2:=by omega
  all_goals (
    go_enter (pf Tryz.func143 (by rfl)),Tryz.ntmps143
    go_wp2_with fail
    refine wp_loop_rounds 1 ?_
    rw [rounds_succ]
    go_wp2_with fail
    go_ret
    exact ⟨by simp,rfl⟩)
theorem freeDevD_any (m:Mach) (base ww cw qw k i:Nat) (D:BD) (e:Nat → Value) (K:Nat → Nat) (w:World) (hm:WSide w base ww cw qw m D e K) (hk:k < 3) (hi:i < D.dn k) :
    Calls (patch shutL Tryz.prog) 143 #[.pointer (some ⟨ww,0,none⟩),.int .i64 k,.int .i64 i] w fun e w'=>e = .returned (.bool (D.dH k i)) ∧ w' = w:=by
  obtain ⟨ao,cap,e1,h1,h2,h3⟩:=hm.dev hk
  obtain ⟨g,rfl,c0,c1⟩:=h3 i hi
  exact freeDev_any ww k i g _ cap hk _ w hi h1 ((hm.devs_cell hk).trans (by rw [e1])) (hm.cell 6) c1
set_option maxRecDepth 100000 in
set_option maxHeartbeats 2000000 in
theorem cpusR_any (m:Mach) (base ww cw qw mk:Nat) (D:BD) (e:Nat → Value) (K:Nat → Nat) (w:World) (hm:WSide w base ww cw qw m D e K) (h16:mk < 16) :
    Calls (patch shutL Tryz.prog) 75 #[.pointer (some ⟨ww,0,none⟩),.int .i64 mk,.bool false] w fun e w'=>e = .returned (.int .i64 (inMask D 0 mk (usN D 0))) ∧ w' = w:=by
  have hr:=hm.few.2.1
  have hn:=hm.few.1
  have q0:=hm.cell 0
  have q1:=hm.cell 1
  simp only [wdC] at q0 q1
  have HI:Hid (IntAt w qw 0 m.r m.R):=fun i hi=>by rw [Nat.zero_add]; exact hm.res.cell hi
  have HC:Hid (∀ i,i < m.n → w.cell? ⟨cw,i * 3 + 1,none⟩ = some (.int .i64 (m.N i)) ∧ 0 ≤ m.N i ∧ m.N i < 4):=fun i hi=>by
    refine ⟨by rw [hm.cpus.cell (by omega),cpuCell_1],?_⟩
    have:=hm.ok.nodes i (by rw [hm.same.1]; exact hi)
    rw [hm.same.2.1] at this
    exact this
  have HU:=Hid.in (And.intro hm.usN0 (And.intro hm hm.same.2.1))
  clear hm
  go_enter (pf Tryz.func75 (by rfl)),Tryz.ntmps75
  go_wp2_with fail
  obtain ⟨wo,rfl⟩ : ∃ wo,wo = w:=⟨_,rfl⟩
  go_loopw [7,8] (fun s i wr=>∃ k:Nat,k ≤ m.n ∧ i = .int .i64 k ∧ s = .int .i64 (inMask D 0 mk (freeN m k)) ∧ wr = wo) (fun _ i _=>m.n - (intOf i).toNat)
  case atStart=>exact ⟨0,by omega,rfl,rfl,rfl⟩
  case round =>
    obtain ⟨k,hk,rfl,rfl,hw⟩:=hrel
    obtain rfl:=hw.symm
    have hle:=inMask_le D 0 mk (freeN m k)
    have hfl:=freeN_le m k
    by_cases hlt:k < m.n
    · obtain ⟨c1,c2,c3⟩:=HC.out k hlt
      obtain ⟨nd,hnd⟩ : ∃ nd:Nat,m.N k = nd:=⟨(m.N k).toNat,by omega⟩
      rw [hnd] at c1
      have hnd4:nd < 4:=by omega
      have hnode:nodeN D 0 k = (nd:Int):=by
        show (if (0:Nat) = 0 then D.N k else _) = _
        rw [if_pos rfl,HU.out.2.2,hnd]
      have HN:=Hid.in (And.intro hnd hnode)
      clear hnd hnode c2 c3
      by_cases hres:resB m k = true
      · have HR:=Hid.in (And.intro hres ((resB_iff m k).1 hres))
        clear hres
        cases hh:has mk nd
        all_goals (
          go_wp2_with (first
            | (go_at_call 145; refine (lies_any mk nd h16 hnd4 _).mono ?_; rintro e w1 ⟨he,hw⟩; rw [hh] at he; obtain rfl:=he; obtain rfl:=hw.symm)
            | (go_at_call 146; refine (in_any (some ⟨qw,0,none⟩) qw 0 m.r m.r m.R k _ (by omega) (fun _=>rfl) HI.out).mono ?_; rintro e w1 ⟨he,hw⟩; obtain rfl:=hw.symm; obtain rfl:=he.is_true HR.out.2; clear he)
            | (go_at_call 142; refine (freeCPUD_any m base ww cw qw D e K k _ HU.out.2.1).mono ?_; rintro e w1 ⟨he,hw⟩; obtain rfl:=hw.symm; obtain rfl:=he.is_false (fun h=>h HR.out.2); clear he))
          go_roundw
          case rel=>exact ⟨k + 1,by omega,by go_num,by rw [freeN_miss HR.out.1],trivial⟩
          case measure=>simp [intOf]; omega)
      · have hres':resB m k = false:=by simpa using hres
        have HR:=Hid.in (And.intro hres' (fun h=>hres ((resB_iff m k).2 h)))
        clear hres hres'
        cases hh:has mk nd
        all_goals (
          go_wp2_with (first
            | (go_at_call 145; refine (lies_any mk nd h16 hnd4 _).mono ?_; rintro e w1 ⟨he,hw⟩; rw [hh] at he; obtain rfl:=he; obtain rfl:=hw.symm)
            | (go_at_call 146; refine (in_any (some ⟨qw,0,none⟩) qw 0 m.r m.r m.R k _ (by omega) (fun _=>rfl) HI.out).mono ?_; rintro e w1 ⟨he,hw⟩; obtain rfl:=hw.symm; obtain rfl:=he.is_false HR.out.2; clear he)
            | (go_at_call 142; refine (freeCPUD_any m base ww cw qw D e K k _ HU.out.2.1).mono ?_; rintro e w1 ⟨he,hw⟩; obtain rfl:=hw.symm; obtain rfl:=he.is_true HR.out.2; clear he))
          go_roundw
          case rel=>exact ⟨k + 1,by omega,by go_num,by rw [freeN_hit HR.out.1,inMask_snoc,HN.out.2,Int.toNat_natCast,hh]; simp,trivial⟩
          case measure=>simp [intOf]; omega)
    · have:k = m.n:=by omega
      subst this
      go_wp2_with fail
      go_ret
      exact ⟨by rw [HU.out.1]; rfl,rfl⟩
set_option maxRecDepth 100000 in
set_option maxHeartbeats 2000000 in
theorem has_aux (ww k dn cap mk:Nat) (kz:Int) (hkz:kz = k) (ao:Option Addr) (NN:Nat → Int) (HH:Nat → Bool) (C:Nat → Int) (w:World) (hk3:k < 3) (h16:mk < 16) (hdn:dn ≤ 16) (hcap:dn ≤ cap) (q3:w.cell? ⟨ww,3 + k,none⟩ = some (.slice ao dn cap))
    (hc:∀ i,i < dn → ∃ g,ao = some ⟨g,0,none⟩ ∧ w.cell? ⟨g,i * 2,none⟩ = some (.int .i64 (NN i)) ∧ w.cell? ⟨g,i * 2 + 1,none⟩ = some (.bool (HH i))) (hN:∀ i,i < dn → 0 ≤ NN i ∧ NN i < 4)
    (hC0:C 0 = 0) (hC1:∀ i,i < dn → C (i + 1) = C i + if (has mk (NN i).toNat && HH i) = true then 1 else 0) (hle:∀ i,i ≤ dn → 0 ≤ C i ∧ C i ≤ i)
    (hfree:∀ i:Nat,i < dn → Calls (patch shutL Tryz.prog) 143 #[.pointer (some ⟨ww,0,none⟩),.int .i64 kz,.int .i64 i] w fun e w'=>e = .returned (.bool (HH i)) ∧ w' = w) :
    Calls (patch shutL Tryz.prog) 76 #[.pointer (some ⟨ww,0,none⟩),.int .i64 kz,.int .i64 mk,.bool false] w fun e w'=>e = .returned (.int .i64 (C dn)) ∧ w' = w:=by
  have HC:=Hid.in (And.intro hc (And.intro hN (And.intro hC0 (And.intro hC1 (And.intro hle hfree)))))
  clear hc hN hC0 hC1 hle hfree
  have hk3':(k = 0 ∧ kz = 0) ∨ (k = 1 ∧ kz = 1) ∨ (k = 2 ∧ kz = 2):=by omega
  clear hkz
  rcases hk3' with ⟨rfl,rfl⟩ | ⟨rfl,rfl⟩ | ⟨rfl,rfl⟩
  all_goals (
    go_enter (pf Tryz.func76 (by rfl)),Tryz.ntmps76
    go_wp2_with fail
    obtain ⟨wo,rfl⟩ : ∃ wo,wo = w:=⟨_,rfl⟩
    go_loopw [9,10] (fun s i wr=>∃ j:Nat,j ≤ dn ∧ i = .int .i64 j ∧ s = .int .i64 (C j) ∧ wr = wo) (fun _ i _=>dn - (intOf i).toNat)
    case atStart=>exact ⟨0,by omega,rfl,by rw [HC.out.2.2.1],rfl⟩
    case round =>
      obtain ⟨j,hj,rfl,rfl,hw⟩:=hrel
      obtain rfl:=hw.symm
      have hle:=HC.out.2.2.2.2.1 j hj
      by_cases hlt:j < dn
      · obtain ⟨g,rfl,c0,c1⟩:=HC.out.1 j hlt
        obtain ⟨n1,n2⟩:=HC.out.2.1 j hlt
        obtain ⟨nd,hnd⟩ : ∃ nd:Nat,NN j = nd:=⟨(NN j).toNat,by omega⟩
        rw [hnd] at c0
        have hnd4:nd < 4:=by omega
        have hstep:=HC.out.2.2.2.1 j hlt
        rw [hnd,Int.toNat_natCast] at hstep
        have HF:=Hid.in (HC.out.2.2.2.2.2 j hlt)
        clear hnd n1 n2
        have jn:(j:Int) < dn:=by omega
        generalize HH j = hb at c1 hstep HF
        cases hh:has mk nd
        all_goals cases hb
        all_goals (
          rw [hh] at hstep
          have HS:=Hid.in hstep
          clear hstep
          go_wp2_with (first
            | (go_at_call 145; refine (lies_any mk nd h16 hnd4 _).mono ?_; rintro e w1 ⟨he,hw⟩; rw [hh] at he; obtain rfl:=he; obtain rfl:=hw.symm)
            | (go_at_call 143; refine HF.out.mono ?_; rintro e w1 ⟨he,hw⟩; obtain rfl:=hw.symm; obtain rfl:=he))
          go_roundw
          case rel=>exact ⟨j + 1,by omega,by go_num,by rw [HS.out]; simp,trivial⟩
          case measure=>simp [intOf]; omega)
      · have:j = dn:=by omega
        subst this
        go_wp2_with fail
        go_ret
        exact ⟨rfl,rfl⟩)
theorem hasR_any (m:Mach) (base ww cw qw k mk:Nat) (D:BD) (e:Nat → Value) (K:Nat → Nat) (w:World) (hm:WSide w base ww cw qw m D e K) (hk3:k < 3) (h16:mk < 16) :
    Calls (patch shutL Tryz.prog) 76 #[.pointer (some ⟨ww,0,none⟩),.int .i64 k,.int .i64 mk,.bool false] w fun e w'=>e = .returned (.int .i64 (inMask D (k + 1) mk (usN D (k + 1)))) ∧ w' = w:=by
  have hus:usN D (k + 1) = devN D k (D.dn k):=by
    unfold usN devN
    rw [if_neg (by omega)]
    rfl
  have hnode:∀ i,nodeN D (k + 1) i = D.dN k i:=fun i=>by
    unfold nodeN
    rw [if_neg (by omega)]
    rfl
  obtain ⟨ao,cap,e1,h1,h2,h3⟩:=hm.dev hk3
  rw [hus]
  refine has_aux ww k (D.dn k) cap mk k rfl ao (D.dN k) (D.dH k) (fun j=>inMask D (k + 1) mk (devN D k j)) w hk3 h16 (hm.few.2.2 k hk3) h1 ((hm.devs_cell hk3).trans (by rw [e1])) h3 (hm.ok.devs k hk3).2 rfl (fun i hi=>?_) (fun i hi=>?_) (fun i hi=>freeDevD_any m base ww cw qw k i D e K w hm hk3 hi)
  · show inMask D (k + 1) mk (devN D k (i + 1)) = inMask D (k + 1) mk (devN D k i) + _
    cases hh:D.dH k i
    · rw [devN_miss hh,Bool.and_false,if_neg (by simp),Int.add_zero]
    · rw [devN_hit hh,inMask_snoc,hnode,Bool.and_true]
  · have:=inMask_le D (k + 1) mk (devN D k i)
    have:=devN_le D k i
    show 0 ≤ inMask D (k + 1) mk (devN D k i) ∧ inMask D (k + 1) mk (devN D k i) ≤ i
    omega
end Go.Proofs.YtojoafcnijajmaaGreatDoor.Z

namespace Go.Proofs.YtojoafcnijajmaaGreatDoor.Z
open Go.RowKit
attribute [local go_sem ↓] Go.wp_at_zero Go.wp_at_succ
attribute [local go_sem] After.cell After.frozen After.const
def healthE (D:BD) (A B:Int):Int:=if 0 ≤ A ∧ A < 3 then (if 0 ≤ B ∧ B < D.dn A.toNat then 0 else 3) else 2
def setH (D:BD) (k i:Nat) (h:Bool):BD:=⟨D.n,D.N,D.r,D.R,D.dn,D.dN,fun k' i'=>if k' = k ∧ i' = i then h else D.dH k' i'⟩
def healthD (D:BD) (A B:Int) (h:Bool):BD:=if 0 ≤ A ∧ A < 3 ∧ 0 ≤ B ∧ B < D.dn A.toNat then setH D A.toNat B.toNat h else D
theorem setH_ok {D:BD} {k i:Nat} {h:Bool} (hd:D.ok):(setH D k i h).ok:=⟨hd.few,hd.nodes,hd.res,hd.devs⟩
theorem isKind_any (x:Int) (w:World):Calls (patch shutL Tryz.prog) 82 #[.int .i64 x] w fun e w'=>e = .returned (.bool (decide (0 ≤ x ∧ x < 3))) ∧ w' = w:=by
  by_cases h0:0 ≤ x
  · by_cases h1:x < 3
    · go_enter (pf Tryz.func82 (by rfl)),Tryz.ntmps82
      go_wp2_with fail
      go_ret
      exact ⟨by simp [h0,h1],rfl⟩
    · go_enter (pf Tryz.func82 (by rfl)),Tryz.ntmps82
      go_wp2_with fail
      go_ret
      exact ⟨by simp [h0,h1],rfl⟩
  · go_enter (pf Tryz.func82 (by rfl)),Tryz.ntmps82
    go_wp2_with fail
    go_ret
    exact ⟨by simp; omega,rfl⟩
structure Only (w w':World) (K:Nat → Nat) (lo hi:Nat):Prop where
  os:w'.os = w.os
  tape:w'.tape = w.tape
  output:w'.output = w.output
  size:w.heap.size ≤ w'.heap.size
  block:∀ b,b < w.heap.size → ¬ (lo ≤ K b ∧ K b ≤ hi) → w'.heap[b]? = w.heap[b]?
theorem Only.refl (w:World) (K:Nat → Nat) (lo hi:Nat):Only w w K lo hi:=⟨rfl,rfl,rfl,Nat.le_refl _,fun _ _ _=>rfl⟩
theorem Only.of_below {w w':World} {K:Nat → Nat} {lo hi:Nat} (h:Below w.heap.size w w'):Only w w' K lo hi:=⟨h.os,h.tape,h.output,h.size,fun b hb _=>h.block b hb⟩
theorem Only.set {w w':World} {K:Nat → Nat} {lo hi:Nat} (h:Only w w' K lo hi) {a:Addr} (ha:lo ≤ K a.block ∧ K a.block ≤ hi) (v:Value):Only w (w'.setCell a v) K lo hi:=⟨h.os,h.tape,h.output,by simpa using h.size,fun b hb hn=>(Below.heap_setCell _ _ _ _ (fun e=>hn (by rw [e]; exact ha))).trans (h.block b hb hn)⟩
theorem own_write {w:World} {base ty sz:Nat} {v:Value} {n:Nat} {xs:List Value} (h:w.ownsRow base ty sz v n xs) {g j:Nat} (hg:v.ownBlock = some g) (hj:j < n * sz) (u:Value):(w.setCell ⟨g,j,none⟩ u).ownsRow base ty sz v n (xs.set j u):=by
  refine ⟨by rw [List.length_set]; exact h.1,?_⟩
  rcases h.2 with ⟨rfl,_⟩ | ⟨g',cap,cur,rfl,hh,hg',hk,hc,hs,ht⟩
  · cases hg
  · cases hg
    refine .inr ⟨g',cap,cur.setIfInBounds j u,rfl,hh,blk_set (i:=j) u hg',hk,hc,by simpa using hs,?_⟩
    rw [Array.toList_setIfInBounds,List.take_set,ht]
theorem flat_write {w:World} {v:Value} (h:Flat w v) {g j:Nat} (u:Value) (hu:NB u):Flat (w.setCell ⟨g,j,none⟩ u) v:=fun b hb=>by
  obtain ⟨cur,e,h1,h2⟩:=h b hb
  by_cases hbg:b = g
  · subst hbg
    refine ⟨_,e,blk_set (i:=j) u h1,fun x hx=>?_⟩
    rw [Array.toList_setIfInBounds] at hx
    rcases List.mem_or_eq_of_mem_set hx with h | h
    · exact h2 x h
    · rw [h]; exact hu
  · exact ⟨cur,e,(Below.heap_setCell _ _ _ _ hbg).trans h1,h2⟩
theorem devL_set (D:BD) (k i:Nat) (h:Bool):(devL D k).set (i * 2 + 1) (.bool h) = devL (setH D k i h) k:=by
  refine List.ext_getElem? fun j=>?_
  rw [List.getElem?_set]
  by_cases hj:j < D.dn k * 2
  · rw [devL_get (D:=setH D k i h) (k:=k) hj,devL_length]
    by_cases he:i * 2 + 1 = j
    · rw [if_pos he,if_pos (by omega),← he,Nat.mul_comm i 2,devCell_1]
      show _ = some (Value.bool (if k = k ∧ i = i then h else _))
      rw [if_pos ⟨rfl,rfl⟩]
    · rw [if_neg he,devL_get hj]
      congr 1
      unfold devCell
      by_cases h2:j % 2 = 0
      · rw [if_pos h2,if_pos h2]; rfl
      · rw [if_neg h2,if_neg h2]
        show _ = Value.bool (if k = k ∧ j / 2 = i then h else _)
        rw [if_neg (by omega)]
  · have e1:(devL (setH D k i h) k)[j]? = none:=List.getElem?_eq_none (by rw [devL_length]; exact Nat.le_of_not_lt hj)
    have e2:(devL D k)[j]? = none:=List.getElem?_eq_none (by rw [devL_length]; omega)
    rw [e1,e2,devL_length]
    split
    · rw [if_neg (by omega)]
    · rfl
theorem devL_other (D:BD) {k k' i:Nat} (h:Bool) (hk:k' ≠ k):devL (setH D k i h) k' = devL D k':=by
  refine List.map_congr_left fun j _=>?_
  unfold devCell
  by_cases h2:j % 2 = 0
  · rw [if_pos h2,if_pos h2]; rfl
  · rw [if_neg h2,if_neg h2]
    show Value.bool (if k' = k ∧ _ then h else _) = _
    rw [if_neg (fun e=>hk e.1)]
section
variable {w w':World} {base bb ww cw qw:Nat} {m:Mach} {vc vr:Value} {D:BD} {d e:Nat → Value} {K:Nat → Nat}
theorem BSide.dev (h:BSide w base bb m vc vr D d K) {k:Nat} (hk:k < 3):∃ ao cap,d k = .slice ao (D.dn k) cap ∧ D.dn k ≤ cap ∧ (cap:Int) ≤ 9223372036854775807 ∧ ∀ i,i < D.dn k → ∃ g,ao = some ⟨g,0,none⟩ ∧ w.cell? ⟨g,i * 2,none⟩ = some (.int .i64 (D.dN k i)) ∧ w.cell? ⟨g,i * 2 + 1,none⟩ = some (.bool (D.dH k i)):=by
  obtain ⟨ao,cap,e1,h1,h2,h3⟩:=own_list (h.devs k hk)
  refine ⟨ao,cap,e1,h1,by unfold maxLen at h2; omega,fun i hi=>?_⟩
  obtain ⟨g,rfl,_,_,hc⟩:=h3 (by omega)
  refine ⟨g,rfl,?_,?_⟩
  · rw [hc _ (by omega),devL_get (by omega),Nat.mul_comm i 2,devCell_0]
  · rw [hc _ (by omega),devL_get (by omega),Nat.mul_comm i 2,devCell_1]
theorem BSide.health (h:BSide w base bb m vc vr D d K) {k i g:Nat} (hk:k < 3) (hi:i < D.dn k) (hg:(d k).ownBlock = some g) (b:Bool):BSide (w.setCell ⟨g,i * 2 + 1,none⟩ (.bool b)) base bb m vc vr (setH D k i b) d K:=by
  have hK:=h.td k hk g hg
  have oth:∀ x,K x ≠ 4 + k → (w.setCell ⟨g,i * 2 + 1,none⟩ (.bool b)).heap[x]? = w.heap[x]?:=fun x hx=>Below.heap_setCell _ _ _ _ (fun e=>hx (by rw [e]; exact hK))
  have kc:∀ x,vc.ownBlock = some x → (w.setCell ⟨g,i * 2 + 1,none⟩ (.bool b)).heap[x]? = w.heap[x]?:=fun x hx=>oth x (by rw [h.tc x hx]; omega)
  have kr:∀ x,vr.ownBlock = some x → (w.setCell ⟨g,i * 2 + 1,none⟩ (.bool b)).heap[x]? = w.heap[x]?:=fun x hx=>oth x (by rw [h.tr x hx]; omega)
  refine ⟨(oth bb (by rw [h.tb]; omega)).trans h.blk,ownsRow_of_block h.cpus kc,ownsRow_of_block h.res kr,fun k' hk'=>?_,h.fcpu.of_block kc,h.fres.of_block kr,fun k' hk'=>flat_write (h.fdev k' hk') _ (.inr ⟨_,rfl⟩),h.tb,h.tc,h.tr,h.td,h.base,h.same,setH_ok h.ok⟩
  show World.ownsRow _ base _ 2 (d k') (D.dn k') _
  by_cases hkk:k' = k
  · subst hkk
    rw [← devL_set]
    exact own_write (h.devs k' hk') hg (by omega) _
  · rw [devL_other D b hkk]
    exact ownsRow_of_block (h.devs k' hk') fun x hx=>oth x (by rw [h.td k' hk' x hx]; omega)
theorem WSide.health (h:WSide w base ww cw qw m D e K) {k i g:Nat} (hk:k < 3) (hi:i < D.dn k) (hg:(e k).ownBlock = some g) (b:Bool):WSide (w.setCell ⟨g,i * 2 + 1,none⟩ (.bool b)) base ww cw qw m (setH D k i b) e K:=by
  have hK:=h.td k hk g hg
  have oth:∀ x,K x ≠ 11 + k → (w.setCell ⟨g,i * 2 + 1,none⟩ (.bool b)).heap[x]? = w.heap[x]?:=fun x hx=>Below.heap_setCell _ _ _ _ (fun e=>hx (by rw [e]; exact hK))
  refine ⟨(oth ww (by rw [h.tw]; omega)).trans h.blk,h.cpus.of_block (oth cw (by rw [h.tc]; omega)),h.res.of_block (oth qw (by rw [h.tr]; omega)),fun k' hk'=>?_,h.tw,h.tc,h.tr,h.td,h.base,h.same,setH_ok h.ok⟩
  show World.ownsRow _ base _ 2 (e k') (D.dn k') _
  by_cases hkk:k' = k
  · subst hkk
    rw [← devL_set]
    exact own_write (h.devs k' hk') hg (by omega) _
  · rw [devL_other D b hkk]
    exact ownsRow_of_block (h.devs k' hk') fun x hx=>oth x (by rw [h.td k' hk' x hx]; omega)
theorem healthD_same (D:BD) (A B:Int) (b:Bool) (h:¬ (0 ≤ A ∧ A < 3 ∧ 0 ≤ B ∧ B < D.dn A.toNat)):healthD D A B b = D:=if_neg h
end
theorem healthE_2 {D:BD} {A B:Int} (h:¬ (0 ≤ A ∧ A < 3)):healthE D A B = 2:=if_neg h
theorem healthE_3 {D:BD} {A B:Int} (h:0 ≤ A ∧ A < 3) (h2:¬ (0 ≤ B ∧ B < D.dn A.toNat)):healthE D A B = 3:=by unfold healthE; rw [if_pos h,if_neg h2]
theorem healthE_0 {D:BD} {A B:Int} (h:0 ≤ A ∧ A < 3) (h2:0 ≤ B ∧ B < D.dn A.toNat):healthE D A B = 0:=by unfold healthE; rw [if_pos h,if_pos h2]
set_option maxRecDepth 100000 in
set_option maxHeartbeats 2000000 in
theorem healthB_kind (bb:Nat) (A B:Int) (hy:Bool) (w:World) (hA:¬ (0 ≤ A ∧ A < 3)):Calls (patch shutL Tryz.prog) 35 #[.pointer (some ⟨bb,0,none⟩),.int .i64 A,.int .i64 B,.bool hy] w fun e w'=>e = .returned (.int .i64 2) ∧ w' = w:=by
  have HN:=Hid.in hA
  clear hA
  go_enter (pf Tryz.func35 (by rfl)),Tryz.ntmps35
  go_wp2_with (go_at_call 82; refine (isKind_any _ _).mono ?_; rintro e w1 ⟨he,hw⟩; rw [decide_eq_false HN.out] at he; obtain rfl:=he; obtain rfl:=hw.symm)
  go_ret
  exact ⟨rfl,rfl⟩
set_option maxRecDepth 100000 in
set_option maxHeartbeats 4000000 in
theorem healthB_dev (bb k n cap:Nat) (ao:Option Addr) (B:Int) (hy:Bool) (w:World) (hk:k < 3) (h3:w.cell? ⟨bb,3 + k,none⟩ = some (.slice ao n cap)) (hB:¬ (0 ≤ B ∧ B < (n:Int))):Calls (patch shutL Tryz.prog) 35 #[.pointer (some ⟨bb,0,none⟩),.int .i64 k,.int .i64 B,.bool hy] w fun e w'=>e = .returned (.int .i64 3) ∧ w' = w:=by
  have HN:=Hid.in hB
  have hor:B < 0 ∨ ¬ B < 0 ∧ (n:Int) ≤ B:=by omega
  clear hB
  rcases hor with hB | ⟨hB,hB2⟩
  all_goals have HKk:Hid (0 ≤ (k:Int) ∧ (k:Int) < 3):=⟨by omega,by omega⟩
  all_goals (obtain rfl | rfl | rfl:k = 0 ∨ k = 1 ∨ k = 2:=by omega)
  all_goals (
    go_enter (pf Tryz.func35 (by rfl)),Tryz.ntmps35
    go_wp2_with (go_at_call 82; refine (isKind_any _ _).mono ?_; rintro e w1 ⟨he,hw⟩; obtain rfl:=he; obtain rfl:=hw.symm)
    go_ret
    exact ⟨rfl,rfl⟩)
set_option maxRecDepth 100000 in
set_option maxHeartbeats 4000000 in
theorem healthB_hit (bb k i g n cap:Nat) (hy b0:Bool) (w:World) (hk:k < 3) (hi:i < n) (hc:n ≤ cap) (h3:w.cell? ⟨bb,3 + k,none⟩ = some (.slice (some ⟨g,0,none⟩) n cap)) (hc1:w.cell? ⟨g,i * 2 + 1,none⟩ = some (.bool b0)) (hf:w.frozen? ⟨g,i * 2 + 1,none⟩ = false) :
    Calls (patch shutL Tryz.prog) 35 #[.pointer (some ⟨bb,0,none⟩),.int .i64 k,.int .i64 i,.bool hy] w fun e w'=>e = .returned (.int .i64 0) ∧ w' = w.setCell ⟨g,i * 2 + 1,none⟩ (.bool hy):=by
  have ki:(i:Int) < n:=by omega
  have k0:¬ (i:Int) < 0:=by omega
  have HB:Hid (0 ≤ (i:Int) ∧ (i:Int) < n):=⟨by omega,ki⟩
  have HKk:Hid (0 ≤ (k:Int) ∧ (k:Int) < 3):=⟨by omega,by omega⟩
  obtain rfl | rfl | rfl:k = 0 ∨ k = 1 ∨ k = 2:=by omega
  all_goals (
    go_enter (pf Tryz.func35 (by rfl)),Tryz.ntmps35
    go_wp2_with (go_at_call 82; refine (isKind_any _ _).mono ?_; rintro e w1 ⟨he,hw⟩; obtain rfl:=he; obtain rfl:=hw.symm)
    go_ret
    exact ⟨rfl,rfl⟩)
set_option maxRecDepth 100000 in
set_option maxHeartbeats 2000000 in
theorem healthR_kind (bb:Nat) (A B:Int) (hy:Bool) (w:World) (hA:¬ (0 ≤ A ∧ A < 3)):Calls (patch shutL Tryz.prog) 36 #[.pointer (some ⟨bb,0,none⟩),.int .i64 A,.int .i64 B,.bool hy] w fun e w'=>e = .returned (.int .i64 2) ∧ w' = w:=by
  have HN:=Hid.in hA
  clear hA
  go_enter (pf Tryz.func36 (by rfl)),Tryz.ntmps36
  go_wp2_with fail
  refine (within_any _ _ _).mono ?_
  rintro e w1 ⟨he,hw⟩
  obtain rfl:=hw.symm
  obtain rfl:=he.is_false HN.out
  clear he
  go_wp2_with fail
  go_ret
  exact ⟨rfl,rfl⟩
set_option maxRecDepth 100000 in
set_option maxHeartbeats 4000000 in
theorem healthR_dev (bb k n cap:Nat) (ao:Option Addr) (B:Int) (hy:Bool) (w:World) (hk:k < 3) (h3:w.cell? ⟨bb,3 + k,none⟩ = some (.slice ao n cap)) (hB:¬ (0 ≤ B ∧ B < (n:Int))):Calls (patch shutL Tryz.prog) 36 #[.pointer (some ⟨bb,0,none⟩),.int .i64 k,.int .i64 B,.bool hy] w fun e w'=>e = .returned (.int .i64 3) ∧ w' = w:=by
  have HN:=Hid.in hB
  have hor:B < 0 ∨ ¬ B < 0 ∧ (n:Int) ≤ B:=by omega
  clear hB
  rcases hor with hB | ⟨hB,hB2⟩
  all_goals have HKk:Hid (0 ≤ (k:Int) ∧ (k:Int) < 3):=⟨by omega,by omega⟩
  all_goals (obtain rfl | rfl | rfl:k = 0 ∨ k = 1 ∨ k = 2:=by omega)
  all_goals (
    go_enter (pf Tryz.func36 (by rfl)),Tryz.ntmps36
    go_wp2_with fail
    refine (within_any _ _ _).mono ?_
    rintro e w1 ⟨he,hw⟩
    obtain rfl:=hw.symm
    obtain rfl:=he.is_true HKk.out
    clear he
    go_wp2_with fail
    refine (within_any _ _ _).mono ?_
    rintro e w1 ⟨he,hw⟩
    obtain rfl:=hw.symm
    obtain rfl:=he.is_false HN.out
    clear he
    go_wp2_with fail
    go_ret
    exact ⟨rfl,rfl⟩)
set_option maxRecDepth 100000 in
set_option maxHeartbeats 4000000 in
theorem healthR_hit (bb k i g n cap:Nat) (hy b0:Bool) (w:World) (hk:k < 3) (hi:i < n) (hc:n ≤ cap) (h3:w.cell? ⟨bb,3 + k,none⟩ = some (.slice (some ⟨g,0,none⟩) n cap)) (hc1:w.cell? ⟨g,i * 2 + 1,none⟩ = some (.bool b0)) (hf:w.frozen? ⟨g,i * 2 + 1,none⟩ = false) :
    Calls (patch shutL Tryz.prog) 36 #[.pointer (some ⟨bb,0,none⟩),.int .i64 k,.int .i64 i,.bool hy] w fun e w'=>e = .returned (.int .i64 0) ∧ w' = w.setCell ⟨g,i * 2 + 1,none⟩ (.bool hy):=by
  have ki:(i:Int) < n:=by omega
  have k0:¬ (i:Int) < 0:=by omega
  have HB:Hid (0 ≤ (i:Int) ∧ (i:Int) < n):=⟨by omega,ki⟩
  have HKk:Hid (0 ≤ (k:Int) ∧ (k:Int) < 3):=⟨by omega,by omega⟩
  obtain rfl | rfl | rfl:k = 0 ∨ k = 1 ∨ k = 2:=by omega
  all_goals (
    go_enter (pf Tryz.func36 (by rfl)),Tryz.ntmps36
    go_wp2_with fail
    refine (within_any _ _ _).mono ?_
    rintro e w1 ⟨he,hw⟩
    obtain rfl:=hw.symm
    obtain rfl:=he.is_true HKk.out
    clear he
    go_wp2_with fail
    refine (within_any _ _ _).mono ?_
    rintro e w1 ⟨he,hw⟩
    obtain rfl:=hw.symm
    obtain rfl:=he.is_true HB.out
    clear he
    go_wp2_with fail
    go_ret
    exact ⟨rfl,rfl⟩)
theorem healthB_any (A B:Int) (hy:Bool) (base bb:Nat) (m:Mach) (vc vr:Value) (D:BD) (d:Nat → Value) (K:Nat → Nat) (w:World) (h:BSide w base bb m vc vr D d K) :
    Calls (patch shutL Tryz.prog) 35 #[.pointer (some ⟨bb,0,none⟩),.int .i64 A,.int .i64 B,.bool hy] w fun e w'=>e = .returned (.int .i64 (healthE D A B)) ∧ BSide w' base bb m vc vr (healthD D A B hy) d K ∧ Only w w' K 1 7 ∧ w'.heap.size = w.heap.size:=by
  by_cases hA:0 ≤ A ∧ A < 3
  case neg =>
    refine (healthB_kind bb A B hy w hA).mono ?_
    rintro e w1 ⟨rfl,rfl⟩
    exact ⟨by rw [healthE_2 hA],by rw [healthD_same D A B hy (fun h=>hA ⟨h.1,h.2.1⟩)]; exact h,Only.refl _ _ _ _,rfl⟩
  obtain ⟨k,rfl⟩ : ∃ k:Nat,A = k:=⟨A.toNat,by omega⟩
  have hk:k < 3:=by omega
  obtain ⟨ao,cap,e1,h1,h2,h3⟩:=h.dev hk
  have q3:=h.devs_cell hk
  rw [e1] at q3
  by_cases hB:0 ≤ B ∧ B < D.dn k
  · obtain ⟨i,rfl⟩ : ∃ i:Nat,B = i:=⟨B.toNat,by omega⟩
    have hi:i < D.dn k:=by omega
    obtain ⟨g,rfl,c0,c1⟩:=h3 i hi
    have hg:(d k).ownBlock = some g:=by rw [e1]; rfl
    have hf:w.frozen? ⟨g,i * 2 + 1,none⟩ = false:=by
      obtain ⟨cur,e,f1,f2⟩:=h.fdev k hk g hg
      exact (blk f1).2 _
    refine (healthB_hit bb k i g _ cap hy _ w hk hi h1 q3 c1 hf).mono ?_
    rintro e w1 ⟨rfl,rfl⟩
    refine ⟨by rw [healthE_0 hA (by rw [Int.toNat_natCast]; exact hB)],?_,(Only.refl _ _ _ _).set (by rw [h.td k hk g hg]; omega) _,by simp⟩
    rw [show healthD D (k:Int) (i:Int) hy = setH D k i hy by unfold healthD; rw [Int.toNat_natCast,Int.toNat_natCast,if_pos ⟨hA.1,hA.2,hB.1,hB.2⟩]]
    exact h.health hk hi hg hy
  · refine (healthB_dev bb k _ cap ao B hy w hk q3 hB).mono ?_
    rintro e w1 ⟨rfl,rfl⟩
    exact ⟨by rw [healthE_3 hA (by rw [Int.toNat_natCast]; exact hB)],by rw [healthD_same D k B hy (fun h=>hB (by have:=h.2.2; rw [Int.toNat_natCast] at this; exact this))]; exact h,Only.refl _ _ _ _,rfl⟩
theorem healthR_any (A B:Int) (hy:Bool) (base ww cw qw:Nat) (m:Mach) (D:BD) (e:Nat → Value) (K:Nat → Nat) (w:World) (h:WSide w base ww cw qw m D e K) :
    Calls (patch shutL Tryz.prog) 36 #[.pointer (some ⟨ww,0,none⟩),.int .i64 A,.int .i64 B,.bool hy] w fun e' w'=>e' = .returned (.int .i64 (healthE D A B)) ∧ WSide w' base ww cw qw m (healthD D A B hy) e K ∧ Only w w' K 8 14 ∧ w'.heap.size = w.heap.size:=by
  by_cases hA:0 ≤ A ∧ A < 3
  case neg =>
    refine (healthR_kind ww A B hy w hA).mono ?_
    rintro e w1 ⟨rfl,rfl⟩
    exact ⟨by rw [healthE_2 hA],by rw [healthD_same D A B hy (fun h=>hA ⟨h.1,h.2.1⟩)]; exact h,Only.refl _ _ _ _,rfl⟩
  obtain ⟨k,rfl⟩ : ∃ k:Nat,A = k:=⟨A.toNat,by omega⟩
  have hk:k < 3:=by omega
  obtain ⟨ao,cap,e1,h1,h2,h3⟩:=h.dev hk
  have q3:=h.devs_cell hk
  rw [e1] at q3
  by_cases hB:0 ≤ B ∧ B < D.dn k
  · obtain ⟨i,rfl⟩ : ∃ i:Nat,B = i:=⟨B.toNat,by omega⟩
    have hi:i < D.dn k:=by omega
    obtain ⟨g,rfl,c0,c1⟩:=h3 i hi
    have hg:(e k).ownBlock = some g:=by rw [e1]; rfl
    have hf:w.frozen? ⟨g,i * 2 + 1,none⟩ = false:=by
      rcases (h.devs k hk).2 with ⟨h0,_⟩ | ⟨g',cap',cur,hv,_,f1,_⟩
      · rw [h0] at hg; cases hg
      · rw [hv] at hg; cases hg
        exact (blk f1).2 _
    refine (healthR_hit ww k i g _ cap hy _ w hk hi h1 q3 c1 hf).mono ?_
    rintro e' w1 ⟨rfl,rfl⟩
    refine ⟨by rw [healthE_0 hA (by rw [Int.toNat_natCast]; exact hB)],?_,(Only.refl _ _ _ _).set (by rw [h.td k hk g hg]; omega) _,by simp⟩
    rw [show healthD D (k:Int) (i:Int) hy = setH D k i hy by unfold healthD; rw [Int.toNat_natCast,Int.toNat_natCast,if_pos ⟨hA.1,hA.2,hB.1,hB.2⟩]]
    exact h.health hk hi hg hy
  · refine (healthR_dev ww k _ cap ao B hy w hk q3 hB).mono ?_
    rintro e w1 ⟨rfl,rfl⟩
    exact ⟨by rw [healthE_3 hA (by rw [Int.toNat_natCast]; exact hB)],by rw [healthD_same D k B hy (fun h=>hB (by have:=h.2.2; rw [Int.toNat_natCast] at this; exact this))]; exact h,Only.refl _ _ _ _,rfl⟩
end Go.Proofs.YtojoafcnijajmaaGreatDoor.Z
