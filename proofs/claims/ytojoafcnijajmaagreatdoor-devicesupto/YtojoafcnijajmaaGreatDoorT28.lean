/- Part 28 of the proof that Devices answers true and leaves its input as it was, for input of bulk at most the bound of its row: ZU2 ZD6 ZD7 ZD8 ZE3. -/
import Derived.Test.YtojoafcnijajmaaGreatDoorT8
import Derived.Test.YtojoafcnijajmaaGreatDoorT27
import Derived.Test.YtojoafcnijajmaaGreatDoorT25
set_option linter.unusedVariables false
namespace Go.Proofs.YtojoafcnijajmaaGreatDoor.Z
open Go.RowKit
attribute [local go_sem ↓] Go.wp_at_zero Go.wp_at_succ
attribute [local go_sem] After.cell After.frozen After.const
theorem HidI {p:Prop} (h:p):Hid p:=h
set_option maxRecDepth 100000 in
set_option maxHeartbeats 1000000 in
theorem indexFuncB0_any (f:Value) (w:World):Calls (patch shutL Tryz.prog) 226 #[.slice none 0 0,f] w fun e w'=>e = .returned (.int .i64 (-1)) ∧ w' = w:=by
  go_enter (pf Tryz.func226 (by rfl)),Tryz.ntmps226
  go_wp2_with (first | (go_at_call 185; go_enter (pf Tryz.func185 (by rfl)),Tryz.ntmps185) | (go_at_call 110; go_enter (pf Tryz.func110 (by rfl)),Tryz.ntmps110))
  refine wp_loop_rounds 1 ?_
  rw [rounds_succ]
  go_wp2_with (first | (go_at_call 185; go_enter (pf Tryz.func185 (by rfl)),Tryz.ntmps185) | (go_at_call 110; go_enter (pf Tryz.func110 (by rfl)),Tryz.ntmps110))
  go_ret
  exact ⟨rfl,rfl⟩
set_option maxRecDepth 100000 in
set_option maxHeartbeats 1000000 in
theorem containsFuncB0_any (f:Value) (w:World):Calls (patch shutL Tryz.prog) 192 #[.slice none 0 0,f] w fun e w'=>e = .returned (.bool false) ∧ w' = w:=by
  go_enter (pf Tryz.func192 (by rfl)),Tryz.ntmps192
  go_wp2_with (go_at_call 226; refine (indexFuncB0_any f _).mono ?_; rintro e w1 ⟨rfl,hw⟩; obtain rfl:=hw.symm)
  go_ret
  exact ⟨rfl,rfl⟩
set_option maxRecDepth 100000 in
set_option maxHeartbeats 1000000 in
theorem isOwned0_any (bb:Nat) (r x:Int) (w:World) (h6:w.cell? ⟨bb,6,none⟩ = some (.slice none 0 0)):Calls (patch shutL Tryz.prog) 129 #[.pointer (some ⟨bb,0,none⟩),.int .i64 r,.int .i64 x] w fun e w'=>e = .returned (.bool false) ∧ Below w.heap.size w w':=by
  have hbl:bb < w.heap.size:=block_lt_of_cell h6
  go_enter (pf Tryz.func129 (by rfl)),Tryz.ntmps129
  go_wp2_with (go_at_call 192; refine (containsFuncB0_any _ _).mono ?_; rintro e w1 ⟨rfl,hw⟩; obtain rfl:=hw.symm)
  go_ret
  exact ⟨rfl,((Below.refl _ _).alloc (Nat.le_refl _) _).alloc (by simp) _⟩
set_option maxRecDepth 100000 in
set_option maxHeartbeats 1000000 in
theorem freeFn0_any (bb pb pr:Nat) (r x:Int) (w:World) (h6:w.cell? ⟨bb,6,none⟩ = some (.slice none 0 0)) (hp:w.cell? ⟨pb,0,none⟩ = some (.pointer (some ⟨bb,0,none⟩))) (hr:w.cell? ⟨pr,0,none⟩ = some (.int .i64 r)) :
    Calls (patch shutL Tryz.prog) 128 #[.int .i64 x,.pointer (some ⟨pb,0,none⟩),.pointer (some ⟨pr,0,none⟩)] w fun e w'=>e = .returned (.bool false) ∧ Below w.heap.size w w':=by
  go_enter (pf Tryz.func128 (by rfl)),Tryz.ntmps128
  go_wp2_with (go_at_call 129; refine (isOwned0_any bb r x _ h6).mono ?_; rintro e w1 ⟨rfl,hb⟩)
  go_ret
  exact ⟨rfl,hb⟩
set_option maxRecDepth 100000 in
set_option maxHeartbeats 1000000 in
theorem indexFunc0_any (pb pr:Nat) (v f:Value) (n:Nat) (R:Nat → Int) (W w:World) (hb0:Below W.heap.size W w) (h:Ints W v n R) (hf:f = .func (.func 128) #[] #[.pointer (some ⟨pb,0,none⟩),.pointer (some ⟨pr,0,none⟩)])
    (hcall:∀ x W',Below W.heap.size W W' → Calls (patch shutL Tryz.prog) 128 #[.int .i64 x,.pointer (some ⟨pb,0,none⟩),.pointer (some ⟨pr,0,none⟩)] W' fun e w'=>e = .returned (.bool false) ∧ Below W'.heap.size W' w') :
    Calls (patch shutL Tryz.prog) 191 #[v,f] w fun e w'=>e = .returned (.int .i64 (-1)) ∧ Below w.heap.size w w':=by
  obtain ⟨ao,cap,rfl,hc,hm,ha⟩:=h
  subst hf
  have HC:=HidI hcall
  clear hcall
  go_enter (pf Tryz.func191 (by rfl)),Tryz.ntmps191
  go_wp2_with (first | (go_at_call 185; go_enter (pf Tryz.func185 (by rfl)),Tryz.ntmps185) | (go_at_call 110; go_enter (pf Tryz.func110 (by rfl)),Tryz.ntmps110))
  go_loopw [8] (fun i wr=>∃ k:Nat,k ≤ n ∧ i = .int .i64 k ∧ Below w.heap.size w wr) (fun i _=>n - (intOf i).toNat)
  case atStart=>exact ⟨0,by omega,rfl,Below.refl _ _⟩
  case round =>
    obtain ⟨k,hk,rfl,hb⟩:=hrel
    have HB:=HidI (And.intro hb (ext_trans hb0 hb))
    by_cases hlt:k < n
    · obtain ⟨b,o,rfl,hi⟩:=ha (by omega)
      have u0:=(hi.ext HB.out.2) k hlt
      have kn:(k:Int) < n:=by omega
      clear hi ha hb hb0
      go_wp2_with (go_at_call 128; refine (HC.out _ _ HB.out.2).mono ?_; rintro e w1 ⟨rfl,hb1⟩; have HB1:=HidI hb1; clear hb1)
      go_roundw
      case rel=>exact ⟨k + 1,by omega,by go_num,ext_trans HB.out.1 HB1.out⟩
      case measure=>simp [intOf]; omega
    · have:k = n:=by omega
      subst this
      clear ha hb hb0
      go_wp2_with (first | (go_at_call 185; go_enter (pf Tryz.func185 (by rfl)),Tryz.ntmps185) | (go_at_call 110; go_enter (pf Tryz.func110 (by rfl)),Tryz.ntmps110))
      go_ret
      exact ⟨rfl,HB.out.1⟩
set_option maxRecDepth 100000 in
set_option maxHeartbeats 1000000 in
theorem deleteFunc0_any (pb pr:Nat) (ao:Option Addr) (cap:Nat) (f:Value) (n:Nat) (R:Nat → Int) (w:World) (h:Ints w (.slice ao n cap) n R) (hf:f = .func (.func 128) #[] #[.pointer (some ⟨pb,0,none⟩),.pointer (some ⟨pr,0,none⟩)])
    (hcall:∀ x W',Below w.heap.size w W' → Calls (patch shutL Tryz.prog) 128 #[.int .i64 x,.pointer (some ⟨pb,0,none⟩),.pointer (some ⟨pr,0,none⟩)] W' fun e w'=>e = .returned (.bool false) ∧ Below W'.heap.size W' w') :
    Calls (patch shutL Tryz.prog) 127 #[.slice ao n cap,f] w fun e w'=>e = .returned (.slice ao n cap) ∧ Below w.heap.size w w':=by
  have HC:=HidI (And.intro h (And.intro hcall hf))
  clear hcall h hf
  go_enter (pf Tryz.func127 (by rfl)),Tryz.ntmps127
  go_wp2_with (go_at_call 191; refine (indexFunc0_any pb pr _ _ n R w w (Below.refl _ _) HC.out.1 HC.out.2.2 HC.out.2.1).mono ?_; rintro e w1 ⟨rfl,hb⟩)
  go_ret
  exact ⟨rfl,hb⟩
end Go.Proofs.YtojoafcnijajmaaGreatDoor.Z

namespace Go.Proofs.YtojoafcnijajmaaGreatDoor.Z
open Go.RowKit
attribute [local go_sem ↓] Go.wp_at_zero Go.wp_at_succ
attribute [local go_sem] After.cell After.frozen After.const
def mk0 (D:BD) (p:Int):Mach:=⟨none,0,0,D.n,D.n,fun _=>0,D.N,fun _=>0,none,0,0,D.r,D.r,D.R,p⟩
def usN (D:BD) (r:Nat):List Nat:=if r = 0 then freeN (mk0 D 0) D.n else (List.range (D.dn (r - 1))).filter (fun i=>D.dH (r - 1) i)
def devN (D:BD) (k i:Nat):List Nat:=(List.range i).filter (fun j=>D.dH k j)
def intV (l:List Nat):List Value:=l.map fun i:Nat=>.int .i64 (i:Int)
def nodeN (D:BD) (r i:Nat):Int:=if r = 0 then D.N i else D.dN (r - 1) i
def inN (D:BD) (r:Nat) (l:List Nat) (k:Nat):Int:=(l.countP (fun i=>nodeN D r i == (k:Int)):Nat)
theorem devN_hit {D:BD} {k i:Nat} (h:D.dH k i = true):devN D k (i + 1) = devN D k i ++ [i]:=by
  unfold devN; rw [List.range_succ,List.filter_append]; simp [h]
theorem devN_miss {D:BD} {k i:Nat} (h:D.dH k i = false):devN D k (i + 1) = devN D k i:=by
  unfold devN; rw [List.range_succ,List.filter_append]; simp [h]
theorem devN_le (D:BD) (k i:Nat):(devN D k i).length ≤ i:=by
  unfold devN; exact Nat.le_trans (List.length_filter_le _ _) (by simp)
theorem keeps {w w':World} (h:Below w.heap.size w w') {a:Addr} {v:Value} (hc:w.cell? a = some v):w'.cell? a = some v:=by
  by_cases hl:a.block < w.heap.size
  · exact (h.cell hl).trans hc
  · have:w.heap[a.block]? = none:=Array.getElem?_eq_none_iff.2 (by omega)
    simp [World.cell?,this] at hc
theorem BerthC.below {w w':World} {bb:Nat} {D:BD} (h:BerthC w bb D) (hb:Below w.heap.size w w'):BerthC w' bb D:=h.same fun _ _ hc=>keeps hb hc
theorem ListC.ints {w:World} {v:Value} {D:BD} (h:ListC w v D.r (resC D)):Ints w v D.r D.R:=by
  obtain ⟨ao,cap,e,h1,h2,h3⟩:=h
  exact ⟨ao,cap,e,h1,by omega,fun hn=>let ⟨b,o,q,hh⟩:=h3 hn; ⟨b,o,q,hh⟩⟩
set_option maxRecDepth 100000 in
set_option maxHeartbeats 1000000 in
theorem nodeOf0_any (bb i:Nat) (D:BD) (w:World) (hb:BerthC w bb D) (hok:D.ok) (hi:i < D.n) :
    Calls (patch shutL Tryz.prog) 125 #[.pointer (some ⟨bb,0,none⟩),.int .i64 0,.int .i64 i] w fun e w'=>e = .returned (.int .i64 (D.N i)) ∧ w' = w:=by
  obtain ⟨v,q0,ao,cap,rfl,hcap,hbig,h3⟩:=hb.cpus
  obtain ⟨b,o,rfl,hc⟩:=h3 (by omega)
  have q1:=hc i hi
  rw [Nat.mul_comm 3 i] at q1
  clear hc h3 hb hok
  go_enter (pf Tryz.func125 (by rfl)),Tryz.ntmps125
  go_wp2_with fail
  go_ret
  exact ⟨rfl,rfl⟩
set_option maxRecDepth 100000 in
set_option maxHeartbeats 1000000 in
theorem nodeOf1_any (bb i:Nat) (D:BD) (w:World) (hb:BerthC w bb D) (hok:D.ok) (hi:i < D.dn 0) :
    Calls (patch shutL Tryz.prog) 125 #[.pointer (some ⟨bb,0,none⟩),.int .i64 1,.int .i64 i] w fun e w'=>e = .returned (.int .i64 (D.dN 0 i)) ∧ w' = w:=by
  obtain ⟨v,q0,ao,cap,rfl,hcap,hbig,h3⟩:=hb.devs 0 (by omega)
  have hd:=(hok.devs 0 (by omega)).1
  obtain ⟨b,o,rfl,hc⟩:=h3 (by omega)
  have q1:=(hc i hi).1
  rw [Nat.mul_comm 2 i] at q1
  clear hc h3 hb hok
  go_enter (pf Tryz.func125 (by rfl)),Tryz.ntmps125
  go_wp2_with fail
  go_ret
  exact ⟨rfl,rfl⟩
set_option maxRecDepth 100000 in
set_option maxHeartbeats 1000000 in
theorem nodeOf2_any (bb i:Nat) (D:BD) (w:World) (hb:BerthC w bb D) (hok:D.ok) (hi:i < D.dn 1) :
    Calls (patch shutL Tryz.prog) 125 #[.pointer (some ⟨bb,0,none⟩),.int .i64 2,.int .i64 i] w fun e w'=>e = .returned (.int .i64 (D.dN 1 i)) ∧ w' = w:=by
  obtain ⟨v,q0,ao,cap,rfl,hcap,hbig,h3⟩:=hb.devs 1 (by omega)
  have hd:=(hok.devs 1 (by omega)).1
  obtain ⟨b,o,rfl,hc⟩:=h3 (by omega)
  have q1:=(hc i hi).1
  rw [Nat.mul_comm 2 i] at q1
  clear hc h3 hb hok
  go_enter (pf Tryz.func125 (by rfl)),Tryz.ntmps125
  go_wp2_with fail
  go_ret
  exact ⟨rfl,rfl⟩
set_option maxRecDepth 100000 in
set_option maxHeartbeats 1000000 in
theorem nodeOf3_any (bb i:Nat) (D:BD) (w:World) (hb:BerthC w bb D) (hok:D.ok) (hi:i < D.dn 2) :
    Calls (patch shutL Tryz.prog) 125 #[.pointer (some ⟨bb,0,none⟩),.int .i64 3,.int .i64 i] w fun e w'=>e = .returned (.int .i64 (D.dN 2 i)) ∧ w' = w:=by
  obtain ⟨v,q0,ao,cap,rfl,hcap,hbig,h3⟩:=hb.devs 2 (by omega)
  have hd:=(hok.devs 2 (by omega)).1
  obtain ⟨b,o,rfl,hc⟩:=h3 (by omega)
  have q1:=(hc i hi).1
  rw [Nat.mul_comm 2 i] at q1
  clear hc h3 hb hok
  go_enter (pf Tryz.func125 (by rfl)),Tryz.ntmps125
  go_wp2_with fail
  go_ret
  exact ⟨rfl,rfl⟩
theorem nodeOf_any (bb i r:Nat) (D:BD) (w:World) (hr:r < 4) (hb:BerthC w bb D) (hok:D.ok) (hi:if r = 0 then i < D.n else i < D.dn (r - 1)) :
    Calls (patch shutL Tryz.prog) 125 #[.pointer (some ⟨bb,0,none⟩),.int .i64 r,.int .i64 i] w fun e w'=>e = .returned (.int .i64 (nodeN D r i)) ∧ w' = w:=by
  obtain rfl | rfl | rfl | rfl:r = 0 ∨ r = 1 ∨ r = 2 ∨ r = 3:=by omega
  · exact nodeOf0_any bb i D w hb hok hi
  · exact nodeOf1_any bb i D w hb hok hi
  · exact nodeOf2_any bb i D w hb hok hi
  · exact nodeOf3_any bb i D w hb hok hi
end Go.Proofs.YtojoafcnijajmaaGreatDoor.Z

namespace Go.Proofs.YtojoafcnijajmaaGreatDoor.Z
open Go.RowKit
attribute [local go_sem ↓] Go.wp_at_zero Go.wp_at_succ
attribute [local go_sem] After.cell After.frozen After.const
theorem cell_one_new2 (w:World) (A:Obj) (v:Value) (t:TypeId):∀ j u,[v][j]? = some u → ((w.alloc A).alloc (.cells #[v] t)).cell? ((⟨w.heap.size + 1,0,none⟩ : Addr).add j) = some u:=by
  have h:=cell_one_new (w.alloc A) v t
  intro j u hj
  have:=h j u hj
  simpa using this
set_option maxRecDepth 100000 in
set_option maxHeartbeats 1000000 in
theorem usableB0_any (bb:Nat) (D:BD) (w:World) (hb:BerthC w bb D) (hok:D.ok) :
    Calls (patch shutL Tryz.prog) 55 #[.pointer (some ⟨bb,0,none⟩),.int .i64 0] w fun e w'=>∃ v,e = .returned v ∧ w'.ownsRow w.heap.size 3 1 v (usN D 0).length (intV (usN D 0)) ∧ Below w.heap.size w w':=by
  obtain ⟨vc,q0,ao,cap,rfl,hcap,hbig,h3⟩:=hb.cpus
  obtain ⟨vr,q1,hr⟩:=hb.res
  obtain ⟨p,q2⟩:=hb.pol
  have HR:=HidI (ListC.ints hr)
  have hn:=hok.few
  clear hb hr hok
  go_enter (pf Tryz.func55 (by rfl)),Tryz.ntmps55
  go_wp2_with (go_at_call 126; refine (unreserved_any (mk0 D p) (.slice ao D.n cap) vr ao cap _ rfl hn HR.out).mono ?_; rintro e w1 ⟨v,rfl,hown,hb1⟩)
  go_ret
  exact ⟨_,rfl,hown,hb1⟩
set_option maxRecDepth 100000 in
set_option maxHeartbeats 2000000 in
theorem usableB1_any (bb:Nat) (D:BD) (w:World) (hb:BerthC w bb D) (hok:D.ok) :
    Calls (patch shutL Tryz.prog) 55 #[.pointer (some ⟨bb,0,none⟩),.int .i64 1] w fun e w'=>∃ v,e = .returned v ∧ w'.ownsRow w.heap.size 3 1 v (usN D 1).length (intV (usN D 1)) ∧ Below w.heap.size w w':=by
  obtain ⟨vc,q0,ao,cap,rfl,hcap,hbig,h3⟩:=hb.devs 0 (by omega)
  have hd:=(hok.devs 0 (by omega)).1
  obtain ⟨i0,hi,hz0,hz1,hz2⟩:=info_parts Tryz.infoInt
  have hu:=((patch_underlying shutL Tryz.prog 23).trans Tryz.underlying23)
  have H3:Hid (0 < D.dn 0 → ∃ b o,ao = some ⟨b,o,none⟩ ∧ devC D 0 b o w):=h3
  clear hb hok h3
  go_enter (pf Tryz.func55 (by rfl)),Tryz.ntmps55
  go_wp2_with fail
  go_loopw [5,23] (fun v i wr=>∃ j:Nat,j ≤ D.dn 0 ∧ i = .int .i64 j ∧ wr.ownsRow w.heap.size 3 1 v (devN D 0 j).length (intV (devN D 0 j)) ∧ Below w.heap.size w wr) (fun _ i _=>D.dn 0 - (intOf i).toNat)
  case atStart=>exact ⟨0,by omega,rfl,World.ownsRow_nil _ _ _ _,Below.refl _ _⟩
  case round =>
    obtain ⟨j,hj,rfl,hown,hb⟩:=hrel
    have HO:Hid (wr.ownsRow w.heap.size 3 1 u5 (devN D 0 j).length (intV (devN D 0 j)) ∧ Below w.heap.size w wr):=⟨hown,hb⟩
    clear hown hb
    have hlen:=devN_le D 0 j
    by_cases hlt:j < D.dn 0
    · obtain ⟨b,o,rfl,hc⟩:=H3.out (by omega)
      have q1:=keeps HO.out.2 (hc j hlt).1
      have q2:=keeps HO.out.2 (hc j hlt).2
      rw [Nat.mul_comm 2 j] at q1 q2
      clear hc
      have hz:w.heap.size ≤ wr.heap.size:=HO.out.2.size
      cases hh:D.dH 0 j
      · rw [hh] at q2
        have HM:=HidI hh
        clear hh
        go_wp2_with fail
        go_roundw
        case rel=>exact ⟨j + 1,by omega,by go_num,by rw [devN_miss HM.out]; exact HO.out.1.alloc _,HO.out.2.alloc hz _⟩
        case measure=>simp [intOf]; omega
      · rw [hh] at q2
        have HM:=HidI hh
        clear hh
        go_wp2_with (at_builtin; refine wpList_append_own _ rfl _ _ _ rfl w.heap.size 3 i0 _ 1 8 hu hi hz0 hz1 hz2 rfl (by omega) _ (devN D 0 j).length (intV (devN D 0 j)) rfl ((HO.out.1.alloc _).alloc _) ⟨wr.heap.size + 1,0,none⟩ 1 1 [.int .i64 j] rfl rfl (cell_one_new2 _ _ _ _) (by intro u hu; simp at hu; subst hu; rfl) (by unfold maxLen; omega) (by omega) (by simp; omega) ?_; intro v' w1 hown hgrow _)
        have HN:Hid (w1.ownsRow w.heap.size 3 1 v' (devN D 0 (j + 1)).length (intV (devN D 0 (j + 1))) ∧ Below w.heap.size w w1):=by
          refine ⟨?_,((HO.out.2.alloc hz _).alloc (by simp; omega) _).grown hgrow (by simp; omega) (fun q hq=>(HO.out.1.lt q hq).1)⟩
          unfold intV; rw [devN_hit HM.out]
          simpa [intV] using hown
        clear hown hgrow
        go_wp2_with (first | (go_at_call 185; go_enter (pf Tryz.func185 (by rfl)),Tryz.ntmps185) | (go_at_call 110; go_enter (pf Tryz.func110 (by rfl)),Tryz.ntmps110))
        go_roundw
        case rel=>exact ⟨j + 1,by omega,by go_num,HN.out.1,HN.out.2⟩
        case measure=>simp [intOf]; omega
    · have:j = D.dn 0:=by omega
      rw [this] at HO
      go_wp2_with fail
      go_ret
      exact ⟨_,rfl,HO.out.1,HO.out.2⟩
set_option maxRecDepth 100000 in
set_option maxHeartbeats 2000000 in
theorem usableB2_any (bb:Nat) (D:BD) (w:World) (hb:BerthC w bb D) (hok:D.ok) :
    Calls (patch shutL Tryz.prog) 55 #[.pointer (some ⟨bb,0,none⟩),.int .i64 2] w fun e w'=>∃ v,e = .returned v ∧ w'.ownsRow w.heap.size 3 1 v (usN D 2).length (intV (usN D 2)) ∧ Below w.heap.size w w':=by
  obtain ⟨vc,q0,ao,cap,rfl,hcap,hbig,h3⟩:=hb.devs 1 (by omega)
  have hd:=(hok.devs 1 (by omega)).1
  obtain ⟨i0,hi,hz0,hz1,hz2⟩:=info_parts Tryz.infoInt
  have hu:=((patch_underlying shutL Tryz.prog 23).trans Tryz.underlying23)
  have H3:Hid (0 < D.dn 1 → ∃ b o,ao = some ⟨b,o,none⟩ ∧ devC D 1 b o w):=h3
  clear hb hok h3
  go_enter (pf Tryz.func55 (by rfl)),Tryz.ntmps55
  go_wp2_with fail
  go_loopw [5,23] (fun v i wr=>∃ j:Nat,j ≤ D.dn 1 ∧ i = .int .i64 j ∧ wr.ownsRow w.heap.size 3 1 v (devN D 1 j).length (intV (devN D 1 j)) ∧ Below w.heap.size w wr) (fun _ i _=>D.dn 1 - (intOf i).toNat)
  case atStart=>exact ⟨0,by omega,rfl,World.ownsRow_nil _ _ _ _,Below.refl _ _⟩
  case round =>
    obtain ⟨j,hj,rfl,hown,hb⟩:=hrel
    have HO:Hid (wr.ownsRow w.heap.size 3 1 u5 (devN D 1 j).length (intV (devN D 1 j)) ∧ Below w.heap.size w wr):=⟨hown,hb⟩
    clear hown hb
    have hlen:=devN_le D 1 j
    by_cases hlt:j < D.dn 1
    · obtain ⟨b,o,rfl,hc⟩:=H3.out (by omega)
      have q1:=keeps HO.out.2 (hc j hlt).1
      have q2:=keeps HO.out.2 (hc j hlt).2
      rw [Nat.mul_comm 2 j] at q1 q2
      clear hc
      have hz:w.heap.size ≤ wr.heap.size:=HO.out.2.size
      cases hh:D.dH 1 j
      · rw [hh] at q2
        have HM:=HidI hh
        clear hh
        go_wp2_with fail
        go_roundw
        case rel=>exact ⟨j + 1,by omega,by go_num,by rw [devN_miss HM.out]; exact HO.out.1.alloc _,HO.out.2.alloc hz _⟩
        case measure=>simp [intOf]; omega
      · rw [hh] at q2
        have HM:=HidI hh
        clear hh
        go_wp2_with (at_builtin; refine wpList_append_own _ rfl _ _ _ rfl w.heap.size 3 i0 _ 1 8 hu hi hz0 hz1 hz2 rfl (by omega) _ (devN D 1 j).length (intV (devN D 1 j)) rfl ((HO.out.1.alloc _).alloc _) ⟨wr.heap.size + 1,0,none⟩ 1 1 [.int .i64 j] rfl rfl (cell_one_new2 _ _ _ _) (by intro u hu; simp at hu; subst hu; rfl) (by unfold maxLen; omega) (by omega) (by simp; omega) ?_; intro v' w1 hown hgrow _)
        have HN:Hid (w1.ownsRow w.heap.size 3 1 v' (devN D 1 (j + 1)).length (intV (devN D 1 (j + 1))) ∧ Below w.heap.size w w1):=by
          refine ⟨?_,((HO.out.2.alloc hz _).alloc (by simp; omega) _).grown hgrow (by simp; omega) (fun q hq=>(HO.out.1.lt q hq).1)⟩
          unfold intV; rw [devN_hit HM.out]
          simpa [intV] using hown
        clear hown hgrow
        go_wp2_with (first | (go_at_call 185; go_enter (pf Tryz.func185 (by rfl)),Tryz.ntmps185) | (go_at_call 110; go_enter (pf Tryz.func110 (by rfl)),Tryz.ntmps110))
        go_roundw
        case rel=>exact ⟨j + 1,by omega,by go_num,HN.out.1,HN.out.2⟩
        case measure=>simp [intOf]; omega
    · have:j = D.dn 1:=by omega
      rw [this] at HO
      go_wp2_with fail
      go_ret
      exact ⟨_,rfl,HO.out.1,HO.out.2⟩
set_option maxRecDepth 100000 in
set_option maxHeartbeats 2000000 in
theorem usableB3_any (bb:Nat) (D:BD) (w:World) (hb:BerthC w bb D) (hok:D.ok) :
    Calls (patch shutL Tryz.prog) 55 #[.pointer (some ⟨bb,0,none⟩),.int .i64 3] w fun e w'=>∃ v,e = .returned v ∧ w'.ownsRow w.heap.size 3 1 v (usN D 3).length (intV (usN D 3)) ∧ Below w.heap.size w w':=by
  obtain ⟨vc,q0,ao,cap,rfl,hcap,hbig,h3⟩:=hb.devs 2 (by omega)
  have hd:=(hok.devs 2 (by omega)).1
  obtain ⟨i0,hi,hz0,hz1,hz2⟩:=info_parts Tryz.infoInt
  have hu:=((patch_underlying shutL Tryz.prog 23).trans Tryz.underlying23)
  have H3:Hid (0 < D.dn 2 → ∃ b o,ao = some ⟨b,o,none⟩ ∧ devC D 2 b o w):=h3
  clear hb hok h3
  go_enter (pf Tryz.func55 (by rfl)),Tryz.ntmps55
  go_wp2_with fail
  go_loopw [5,23] (fun v i wr=>∃ j:Nat,j ≤ D.dn 2 ∧ i = .int .i64 j ∧ wr.ownsRow w.heap.size 3 1 v (devN D 2 j).length (intV (devN D 2 j)) ∧ Below w.heap.size w wr) (fun _ i _=>D.dn 2 - (intOf i).toNat)
  case atStart=>exact ⟨0,by omega,rfl,World.ownsRow_nil _ _ _ _,Below.refl _ _⟩
  case round =>
    obtain ⟨j,hj,rfl,hown,hb⟩:=hrel
    have HO:Hid (wr.ownsRow w.heap.size 3 1 u5 (devN D 2 j).length (intV (devN D 2 j)) ∧ Below w.heap.size w wr):=⟨hown,hb⟩
    clear hown hb
    have hlen:=devN_le D 2 j
    by_cases hlt:j < D.dn 2
    · obtain ⟨b,o,rfl,hc⟩:=H3.out (by omega)
      have q1:=keeps HO.out.2 (hc j hlt).1
      have q2:=keeps HO.out.2 (hc j hlt).2
      rw [Nat.mul_comm 2 j] at q1 q2
      clear hc
      have hz:w.heap.size ≤ wr.heap.size:=HO.out.2.size
      cases hh:D.dH 2 j
      · rw [hh] at q2
        have HM:=HidI hh
        clear hh
        go_wp2_with fail
        go_roundw
        case rel=>exact ⟨j + 1,by omega,by go_num,by rw [devN_miss HM.out]; exact HO.out.1.alloc _,HO.out.2.alloc hz _⟩
        case measure=>simp [intOf]; omega
      · rw [hh] at q2
        have HM:=HidI hh
        clear hh
        go_wp2_with (at_builtin; refine wpList_append_own _ rfl _ _ _ rfl w.heap.size 3 i0 _ 1 8 hu hi hz0 hz1 hz2 rfl (by omega) _ (devN D 2 j).length (intV (devN D 2 j)) rfl ((HO.out.1.alloc _).alloc _) ⟨wr.heap.size + 1,0,none⟩ 1 1 [.int .i64 j] rfl rfl (cell_one_new2 _ _ _ _) (by intro u hu; simp at hu; subst hu; rfl) (by unfold maxLen; omega) (by omega) (by simp; omega) ?_; intro v' w1 hown hgrow _)
        have HN:Hid (w1.ownsRow w.heap.size 3 1 v' (devN D 2 (j + 1)).length (intV (devN D 2 (j + 1))) ∧ Below w.heap.size w w1):=by
          refine ⟨?_,((HO.out.2.alloc hz _).alloc (by simp; omega) _).grown hgrow (by simp; omega) (fun q hq=>(HO.out.1.lt q hq).1)⟩
          unfold intV; rw [devN_hit HM.out]
          simpa [intV] using hown
        clear hown hgrow
        go_wp2_with (first | (go_at_call 185; go_enter (pf Tryz.func185 (by rfl)),Tryz.ntmps185) | (go_at_call 110; go_enter (pf Tryz.func110 (by rfl)),Tryz.ntmps110))
        go_roundw
        case rel=>exact ⟨j + 1,by omega,by go_num,HN.out.1,HN.out.2⟩
        case measure=>simp [intOf]; omega
    · have:j = D.dn 2:=by omega
      rw [this] at HO
      go_wp2_with fail
      go_ret
      exact ⟨_,rfl,HO.out.1,HO.out.2⟩
theorem usableB_any (bb r:Nat) (D:BD) (w:World) (hr:r < 4) (hb:BerthC w bb D) (hok:D.ok) :
    Calls (patch shutL Tryz.prog) 55 #[.pointer (some ⟨bb,0,none⟩),.int .i64 r] w fun e w'=>∃ v,e = .returned v ∧ w'.ownsRow w.heap.size 3 1 v (usN D r).length (intV (usN D r)) ∧ Below w.heap.size w w':=by
  obtain rfl | rfl | rfl | rfl:r = 0 ∨ r = 1 ∨ r = 2 ∨ r = 3:=by omega
  · exact usableB0_any bb D w hb hok
  · exact usableB1_any bb D w hb hok
  · exact usableB2_any bb D w hb hok
  · exact usableB3_any bb D w hb hok
theorem intV_ints {w:World} {base:Nat} {v:Value} {l:List Nat} (h:w.ownsRow base 3 1 v l.length (intV l)):Ints w v l.length (fun j=>((l[j]?.getD 0:Nat):Int)):=by
  rcases h.2 with ⟨rfl,h0⟩ | ⟨g,cap,cur,rfl,_,hg,hn,hc,hs,ht⟩
  · rw [h0]; exact ⟨none,0,rfl,Nat.le_refl _,by omega,fun h=>absurd h (Nat.lt_irrefl _)⟩
  · refine ⟨_,cap,rfl,hn,by unfold maxLen at hc; omega,fun h0=>⟨g,0,rfl,fun i hi=>?_⟩⟩
    have e:(intV l)[i]? = some (.int .i64 ((l[i]?.getD 0:Nat):Int)):=by simp [intV,hi]
    rw [Nat.zero_add,cell_of_row w g i cur _ (0,0) hg]
    rw [← ht,List.getElem?_take] at e
    split at e
    · simpa using e
    · cases e
set_option maxRecDepth 100000 in
set_option maxHeartbeats 1000000 in
theorem freeB_any (bb r:Nat) (D:BD) (w:World) (hr:r < 4) (hb:BerthC w bb D) (hok:D.ok) :
    Calls (patch shutL Tryz.prog) 56 #[.pointer (some ⟨bb,0,none⟩),.int .i64 r] w fun e w'=>∃ v,e = .returned v ∧ w'.ownsRow w.heap.size 3 1 v (usN D r).length (intV (usN D r)) ∧ Below w.heap.size w w':=by
  have HI:=HidI (And.intro hb hok)
  clear hb hok
  go_enter (pf Tryz.func56 (by rfl)),Tryz.ntmps56
  go_wp2_with fail
  obtain ⟨W,hW⟩ : ∃ W,W = (w.alloc (.cells #[.pointer (some ⟨bb,0,none⟩)] 34)).alloc (.cells #[.int .i64 r] 3):=⟨_,rfl⟩
  have hA:Below w.heap.size w W:=by rw [hW]; exact ((Below.refl _ _).alloc (Nat.le_refl _) _).alloc (by simp) _
  have hk0:W.heap[w.heap.size]? = some (.cells #[.pointer (some ⟨bb,0,none⟩)] 34 (0,0)):=by rw [hW]; exact heap_alloc2_old _ _ _
  have hk1:W.heap[w.heap.size + 1]? = some (.cells #[.int .i64 r] 3 (0,0)):=by rw [hW]; exact heap_alloc2_new _ _ _
  rw [← hW]
  refine (usableB_any bb r D W hr (BerthC.below HI.out.1 hA) HI.out.2).mono ?_
  rintro e w1 ⟨v,rfl,hown,hb1⟩
  obtain ⟨va,vc,rfl⟩:=ownsRow_shape hown
  have l1:w.heap.size + 1 < W.heap.size:=(Array.getElem?_eq_some_iff.1 hk1).1
  have HA:=HidI (And.intro hown (And.intro (ext_trans hA hb1) (And.intro ((hb1.block _ (by omega)).trans hk0) ((hb1.block _ l1).trans hk1))))
  clear hW hA hk0 hk1 hown hb1
  go_wp2_with (go_at_call 127; refine (deleteFunc0_any w.heap.size (w.heap.size + 1) _ _ _ _ _ _ (intV_ints HA.out.1) rfl (fun x W' hW'=>freeFn0_any bb w.heap.size (w.heap.size + 1) r x W' (by
    exact (BerthC.below (BerthC.below HI.out.1 HA.out.2.1) hW').boxes) (by
    have hl:=(Array.getElem?_eq_some_iff.1 HA.out.2.2.1).1
    obtain ⟨q,_⟩:=blk ((hW'.block _ hl).trans HA.out.2.2.1)
    exact q 0) (by
    have hl:=(Array.getElem?_eq_some_iff.1 HA.out.2.2.2).1
    obtain ⟨q,_⟩:=blk ((hW'.block _ hl).trans HA.out.2.2.2)
    exact q 0))).mono ?_; rintro e w2 ⟨rfl,hb2⟩)
  go_ret
  exact ⟨_,rfl,ownsRow_base (ownsRow_below HA.out.1 hb2) (by omega),ext_trans HA.out.2.1 hb2⟩
end Go.Proofs.YtojoafcnijajmaaGreatDoor.Z

namespace Go.Proofs.YtojoafcnijajmaaGreatDoor.Z
open Go.RowKit
attribute [local go_sem ↓] Go.wp_at_zero Go.wp_at_succ
attribute [local go_sem] After.cell After.frozen After.const
theorem inN_le (D:BD) (r:Nat) (l:List Nat) (k:Nat):0 ≤ inN D r l k ∧ inN D r l k ≤ l.length:=by
  unfold inN
  have:=List.countP_le_length (p:=fun i=>nodeN D r i == (k:Int)) (l:=l)
  omega
theorem inN_take {D:BD} {r:Nat} {l:List Nat} {j i m:Nat} (h:l[j]? = some i) (hm:nodeN D r i = (m:Int)) (k:Nat):inN D r (l.take (j + 1)) k = if k = m then inN D r (l.take j) m + 1 else inN D r (l.take j) k:=by
  obtain ⟨hj,rfl⟩:=List.getElem?_eq_some_iff.1 h
  unfold inN
  rw [List.take_succ_eq_append_getElem hj,List.countP_append]
  by_cases hk:k = m
  · subst hk
    rw [if_pos rfl]
    simp [hm]
  · rw [if_neg hk]
    have:¬ ((m:Int) = (k:Int)):=by omega
    simp [hm,this]
def cntK (D:BD) (r:Nat) (l:List Nat) (k:Nat):Value:=.int .i64 (inN D r l k)
def cntV (D:BD) (r:Nat) (l:List Nat):Array Value:=#[cntK D r l 0,cntK D r l 1,cntK D r l 2,cntK D r l 3]
theorem infoCnt:((patch shutL Tryz.prog).info? 119).map (·.size) = some 4:=by kernel_rfl
theorem row_cnt {w:World} {b:Nat} {D:BD} {r:Nat} {l:List Nat} (h:w.rowIs b 119 4 (cntK D r l)):w.heap[b]? = some (.cells (cntV D r l) 119 (0,0)):=by
  obtain ⟨cur,h1,h2,h3⟩:=h
  have:cur = cntV D r l:=by
    refine Array.ext (by rw [h2]; rfl) fun j j1 j2=>?_
    have:=h3 j (by omega)
    rw [Array.getElem?_eq_getElem j1] at this
    obtain rfl | rfl | rfl | rfl:j = 0 ∨ j = 1 ∨ j = 2 ∨ j = 3:=by omega
    all_goals (simpa [cntV] using this)
  rw [← this]; exact h1
set_option maxRecDepth 100000 in
set_option maxHeartbeats 2000000 in
theorem byNode_any (bb r:Nat) (D:BD) (l:List Nat) (v:Value) (w:World) (hr:r < 4) (hb:BerthC w bb D) (hok:D.ok) (hv:Ints w v l.length (fun j=>((l[j]?.getD 0:Nat):Int))) (hl:l.length ≤ 24)
    (hin:∀ i ∈ l,if r = 0 then i < D.n else i < D.dn (r - 1)) :
    Calls (patch shutL Tryz.prog) 54 #[.pointer (some ⟨bb,0,none⟩),.int .i64 r,v] w fun e w'=>e = .returned (.agg (cntV D r l)) ∧ Below w.heap.size w w':=by
  obtain ⟨ao,cap,rfl,hcap,hbig,h3⟩:=hv
  have HI:Hid (BerthC w bb D ∧ D.ok ∧ (0 < l.length → ∃ b o,ao = some ⟨b,o,none⟩ ∧ IntAt w b o l.length (fun j=>((l[j]?.getD 0:Nat):Int))) ∧ ∀ i ∈ l,if r = 0 then i < D.n else i < D.dn (r - 1)):=⟨hb,hok,h3,hin⟩
  clear hb hok h3 hin
  go_enter (pf Tryz.func54 (by rfl)),Tryz.ntmps54
  go_wp2_with fail
  obtain ⟨W,hW⟩ : ∃ W,W = (w.alloc (.cells #[.int .i64 0,.int .i64 0,.int .i64 0,.int .i64 0] 119)).alloc (.cells #[.int .i64 0,.int .i64 0,.int .i64 0,.int .i64 0] 119):=⟨_,rfl⟩
  have HW:Hid (W.rowIs (w.heap.size + 1) 119 4 (cntK D r (l.take 0)) ∧ W.heap[w.heap.size]? = some (.cells #[.int .i64 0,.int .i64 0,.int .i64 0,.int .i64 0] 119 (0,0)) ∧ Below w.heap.size w W ∧ w.heap.size + 2 = W.heap.size):=by
    rw [hW]
    refine ⟨?_,heap_alloc2_old _ _ _,((Below.refl _ _).alloc (Nat.le_refl _) _).alloc (by simp) _,by simp⟩
    have:=World.rowIs_alloc (w.alloc (.cells #[.int .i64 0,.int .i64 0,.int .i64 0,.int .i64 0] 119)) #[.int .i64 0,.int .i64 0,.int .i64 0,.int .i64 0] 119 (cntK D r (l.take 0)) fun i hi=>by
      have hi4:i < 4:=hi
      obtain rfl | rfl | rfl | rfl:i = 0 ∨ i = 1 ∨ i = 2 ∨ i = 3:=by omega
      all_goals rfl
    simpa using this
  rw [← hW]
  clear hW
  go_loopw [12] (fun i wr=>∃ j:Nat,j ≤ l.length ∧ i = .int .i64 j ∧ wr.rowIs (w.heap.size + 1) 119 4 (cntK D r (l.take j)) ∧ (∀ b,b ≠ w.heap.size + 1 → wr.heap[b]? = W.heap[b]?) ∧ Below w.heap.size w wr) (fun i _=>l.length - (intOf i).toNat)
  case atStart=>exact ⟨0,by omega,rfl,HW.out.1,fun _ _=>rfl,HW.out.2.2.1⟩
  case round =>
    obtain ⟨j,hj,rfl,hrow,hkp,hb⟩:=hrel
    have HO:Hid (wr.rowIs (w.heap.size + 1) 119 4 (cntK D r (l.take j)) ∧ (∀ b,b ≠ w.heap.size + 1 → wr.heap[b]? = W.heap[b]?) ∧ Below w.heap.size w wr):=⟨hrow,hkp,hb⟩
    clear hrow hkp hb
    by_cases hlt:j < l.length
    · obtain ⟨b,o,rfl,hc⟩:=HI.out.2.2.1 (by omega)
      have hget:l[j]? = some l[j]:=List.getElem?_eq_getElem hlt
      have q1:=keeps HO.out.2.2 (hc j hlt)
      simp only [hget,Option.getD_some] at q1
      obtain ⟨i,hi⟩ : ∃ i,i = l[j]:=⟨_,rfl⟩
      rw [← hi] at q1 hget
      have hin:=HI.out.2.2.2 i (by rw [hi]; exact List.getElem_mem hlt)
      obtain ⟨m,hm,hm4⟩ : ∃ m:Nat,nodeN D r i = (m:Int) ∧ m < 4:=by
        have hok:=HI.out.2.1
        have:0 ≤ nodeN D r i ∧ nodeN D r i < 4:=by
          unfold nodeN
          by_cases h0:r = 0
          · rw [if_pos h0] at hin ⊢; exact hok.nodes i hin
          · rw [if_neg h0] at hin ⊢; exact (hok.devs (r - 1) (by omega)).2 i hin
        exact ⟨(nodeN D r i).toNat,by omega,by omega⟩
      have q2:=HO.out.1.cell hm4
      have q3:=HO.out.1.frozen m
      have hle:=inN_le D r (l.take j) m
      rw [List.length_take] at hle
      unfold cntK at q2
      have HG:Hid (l[j]? = some i ∧ (if r = 0 then i < D.n else i < D.dn (r - 1)) ∧ nodeN D r i = (m:Int)):=⟨hget,hin,hm⟩
      clear hget hin hm hi hc
      go_wp2_with (go_at_call 125; refine (nodeOf_any bb i r D _ hr (BerthC.below HI.out.1 HO.out.2.2) HI.out.2.1 HG.out.2.1).mono ?_; rintro e w1 ⟨he,hw⟩; obtain rfl:=hw.symm; rw [HG.out.2.2] at he; obtain rfl:=he)
      go_roundw
      case rel =>
        refine ⟨j + 1,by omega,by go_num,?_,?_,?_⟩
        · refine (HO.out.1.set m _).congr fun k hk=>?_
          unfold cntK
          rw [inN_take HG.out.1 HG.out.2.2]
          by_cases hkm:k = m
          · rw [if_pos hkm,if_pos hkm]
          · rw [if_neg hkm,if_neg hkm]
        · intro c hc
          exact (Below.heap_setCell _ _ _ _ hc).trans (HO.out.2.1 c hc)
        · exact HO.out.2.2.setCell (by show w.heap.size ≤ w.heap.size + 1; omega) _
      case measure=>simp [intOf]; omega
    · have:j = l.length:=by omega
      subst this
      obtain ⟨vs,hvs⟩ : ∃ vs,vs = cntV D r l:=⟨_,rfl⟩
      have hsz:vs.size = 4:=by rw [hvs]; rfl
      have h1:vs.all (·.oneCell') = true:=by rw [hvs]; simp [cntV,cntK,Value.oneCell']
      have hBv:wr.heap[w.heap.size + 1]? = some (.cells vs 119 (0,0)):=by
        have:=HO.out.1
        rw [List.take_length] at this
        rw [hvs]; exact row_cnt this
      have hR:=(HO.out.2.1 w.heap.size (by omega)).trans HW.out.2.1
      have hi:((patch shutL Tryz.prog).info? 119).map (·.size) = some vs.size:=by rw [hsz]; exact infoCnt
      have HVS:Hid (vs = cntV D r l):=hvs
      have HI':Hid (Below w.heap.size w wr):=HO.out.2.2
      clear hvs HO HI HW
      go_wp2_with (first
        | refine wpList_load_row rfl 119 _ rfl (w.heap.size + 1) rfl 119 vs (0,0) _ hBv ((patch_underlying shutL Tryz.prog 119).trans Tryz.underlying119) rfl hi ?_
        | refine wpList_store_row rfl 119 _ _ rfl w.heap.size vs rfl rfl 119 _ hR hi (by rw [hsz]; rfl) h1 ?_)
      (try simp only [Exit.inBlock,Exit.then])
      refine bodyPost_ret_by (results_cell_row rfl _ _ w.heap.size 119 vs (0,0) _ rfl (setRow_heap _ _ _ _ _ _ hR) ((patch_underlying shutL Tryz.prog 119).trans Tryz.underlying119) rfl hi) rfl ?_
      refine ⟨by rw [HVS.out],?_⟩
      exact ⟨HI'.out.os,HI'.out.tape,HI'.out.output,by simpa using HI'.out.size,fun k hk=>(setRow_other _ _ _ _ (by omega)).trans (HI'.out.block k hk)⟩
end Go.Proofs.YtojoafcnijajmaaGreatDoor.Z

namespace Go.Proofs.YtojoafcnijajmaaGreatDoor.Z
open Go.RowKit
theorem inN_cons (D:BD) (r i:Nat) (l:List Nat) (k:Nat):inN D r (i :: l) k = inN D r l k + if nodeN D r i = (k:Int) then 1 else 0:=by
  unfold inN
  rw [List.countP_cons]
  by_cases h:nodeN D r i = (k:Int) <;> simp [h]
def inMask (D:BD) (r m:Nat) (l:List Nat):Int:=(l.countP (fun i=>has m (nodeN D r i).toNat):Nat)
theorem inMask_cons (D:BD) (r m i:Nat) (l:List Nat):inMask D r m (i :: l) = inMask D r m l + if has m (nodeN D r i).toNat = true then 1 else 0:=by
  unfold inMask
  rw [List.countP_cons]
  by_cases h:has m (nodeN D r i).toNat = true <;> simp [h]
theorem wsum_within (D:BD) (r m:Nat):∀ (l:List Nat),(∀ i ∈ l,0 ≤ nodeN D r i ∧ nodeN D r i < 4) → wsum (inN D r l) m 4 = inMask D r m l
  | [],_=>by
    have h0:∀ k,inN D r [] k = 0:=fun k=>rfl
    simp [wsum,h0,inMask]
  | i :: l,h=>by
    have ih:=wsum_within D r m l fun j hj=>h j (List.mem_cons_of_mem _ hj)
    have hi:=h i List.mem_cons_self
    rw [inMask_cons,← ih]
    obtain ⟨n,hn,hn4⟩ : ∃ n:Nat,nodeN D r i = (n:Int) ∧ n < 4:=⟨(nodeN D r i).toNat,by omega,by omega⟩
    simp only [wsum,inN_cons,hn,Int.toNat_natCast]
    obtain rfl | rfl | rfl | rfl:n = 0 ∨ n = 1 ∨ n = 2 ∨ n = 3:=by omega
    all_goals
      cases h0:has m 0 <;> cases h1:has m 1 <;> cases h2:has m 2 <;> cases h3:has m 3 <;> simp <;> omega
end Go.Proofs.YtojoafcnijajmaaGreatDoor.Z
