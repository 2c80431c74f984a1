/- Part 47 of the proof that Devices answers true and leaves its input as it was, for input of bulk at most the bound of its row: ZFG ZJ11 ZJ12 ZL4. -/
import Derived.Test.YtojoafcnijajmaaGreatDoorT8
import Derived.Test.YtojoafcnijajmaaGreatDoorT43
import Derived.Deep.RegionHeld3
import Derived.Test.YtojoafcnijajmaaGreatDoorT37
import Derived.Test.YtojoafcnijajmaaGreatDoorT25
namespace Go.Proofs.YtojoafcnijajmaaGreatDoor.Z
open Go.RowKit
attribute [local go_sem ↓] Go.wp_at_zero Go.wp_at_succ
theorem infoStep:((patch shutL Tryz.prog).info? 54).map (·.size) = some 13:=by kernel_rfl
set_option maxRecDepth 100000 in
set_option maxHeartbeats 8000000 in
theorem stepNone_any (g:Nat) (w:World) (s:SV) (hk:s.kind ≤ 0) :
    Calls (patch shutL Tryz.prog) 15 #[.pointer (some ⟨g,0,none⟩),.agg (stepC s)] w fun e' w'=>e' = .returned (.bool true) ∧ Below w.heap.size w w':=by
  unfold stepC
  have e1:¬ s.kind = 1:=by omega
  have e2:¬ s.kind = 2:=by omega
  have e3:¬ s.kind = 3:=by omega
  have e4:¬ s.kind = 4:=by omega
  have e5:¬ s.kind = 5:=by omega
  have e6:¬ s.kind = 6:=by omega
  have e7:¬ s.kind = 7:=by omega
  have e8:¬ s.kind = 8:=by omega
  generalize s.kind = kd at *
  clear hk
  go_enter (pf Tryz.func15 (by rfl)),Tryz.ntmps15
  go_wp2_with fail
  go_ret
  exact ⟨rfl,(Below.refl _ _).alloc (Nat.le_refl _) _⟩
set_option maxRecDepth 100000 in
set_option maxHeartbeats 8000000 in
theorem stepLook_any (g base bb ww cw qw:Nat) (m:Mach) (vc vr:Value) (D:BD) (d e:Nat → Value) (K:Nat → Nat) (G:Nat → Value) (c:Nat → Nat) (w:World) (n N:Nat) (Li Lb Lo:List (Value × Nat)) (ws:List GW) (Eb Eo:List (Value × Value)) (s:SV) (h:Inv g base bb ww cw qw m vc vr D d e K c w G n Li Lb Lo ws Eb Eo)
    (hl:ws.length + Eb.length + Eo.length ≤ 7) (hN:N ≤ 100000000000) (h1:n ≤ N) (h2:Li.length ≤ N) (h3:Lb.length ≤ N) (h4:Lo.length ≤ N) (hk:s.kind = 1) :
    Calls (patch shutL Tryz.prog) 15 #[.pointer (some ⟨g,0,none⟩),.agg (stepC s)] w fun e' w'=>e' = .returned (.bool true) ∧ ∃ c',InvE g base bb ww cw qw m vc vr D d e K (N + 400) c' w' ∧ Turn (fun z=>z ≠ 0 ∧ z ≠ 14) c w c' w':=by
  unfold stepC
  rw [hk]
  have H0:=Hid.in h
  have ht:=h.st.top
  clear h hk
  go_enter (pf Tryz.func15 (by rfl)),Tryz.ntmps15
  go_wp2_with fail
  have hB0:Below w.heap.size w (w.alloc (.cells #[.int .i64 1,.int .i64 s.A,.int .i64 s.B,s.v3,.int .i64 (s.c 0),.int .i64 (s.c 1),.int .i64 (s.c 2),.int .i64 (s.c 3),.slice s.dao s.dn s.dcap,.bool s.yes,s.v10,s.v11,s.v12] 54)):=(Below.refl _ _).alloc (Nat.le_refl _) _
  refine Calls.mono (gameLooksD_any g base bb ww cw qw m vc vr D d e K G c _ n N Li Lb Lo ws Eb Eo ((Mid.of_inv H0.out).below hB0).inv hl hN h1 h2 h3 h4) ?_
  rintro e' w1 ⟨rfl,c1,k1,k2⟩
  have H1:=Hid.in (And.intro k1 (((Turn.refl (S:=fun z=>z ≠ 0 ∧ z ≠ 14) ht).below hB0).trans k2))
  clear k1 k2 hB0 ht
  go_wp2_with fail
  go_ret
  exact ⟨rfl,c1,H1.out⟩
set_option maxRecDepth 100000 in
set_option maxHeartbeats 8000000 in
theorem stepReg_any (g base bb ww cw qw:Nat) (m:Mach) (vc vr:Value) (D:BD) (d e:Nat → Value) (K:Nat → Nat) (G:Nat → Value) (c:Nat → Nat) (w:World) (n:Nat) (Li Lb Lo:List (Value × Nat)) (ws:List GW) (Eb Eo:List (Value × Value)) (s:SV)
    (h:Inv g base bb ww cw qw m vc vr D d e K c w G n Li Lb Lo ws Eb Eo) (hs:s.At w base) (hc:∀ b,b < base → c b = 0) (hl:Eo.length ≤ 1000) (hk:s.kind = 3) :
    Calls (patch shutL Tryz.prog) 15 #[.pointer (some ⟨g,0,none⟩),.agg (stepC s)] w fun e' w'=>e' = .returned (.bool true) ∧ ∃ D' d' e' K' c' G',Inv g base bb ww cw qw m vc vr D' d' e' K' c' w' G' n Li Lb Lo ws Eb (Eo ++ [(.slice none 0 0,.slice none 0 0),(.slice none 0 0,.slice none 0 0)]) ∧ Low base c w c' w' ∧ w.heap.size ≤ w'.heap.size:=by
  have hB0:Below w.heap.size w (w.alloc (.cells (stepC s) 54)):=(Below.refl _ _).alloc (Nat.le_refl _) _
  have M0:=(Mid.of_inv h)
  have HR:=registersD_any g base bb ww cw qw m vc vr D d e K G c (w.alloc (.cells (stepC s) 54)) n Li Lb Lo ws Eb Eo s (M0.below hB0).inv (hs.kept (below_low (c:=c) hB0 M0.big) hc) hc hl
  have HB:=Hid.in (And.intro (below_low (c:=c) hB0 M0.big) hB0.size)
  unfold stepC at HR HB ⊢
  rw [hk] at HR HB ⊢
  have HC:=Hid.in HR
  clear hB0 M0 HR h hs hc hk
  go_enter (pf Tryz.func15 (by rfl)),Tryz.ntmps15
  go_wp2_with fail
  refine Calls.mono HC.out ?_
  rintro e' w1 ⟨rfl,D',d',e1,K',c',G',k1,k2,k3⟩
  have H1:=Hid.in (And.intro k1 (And.intro (HB.out.1.trans k2) (Nat.le_trans HB.out.2 k3)))
  clear k1 k2 k3 HC HB
  go_wp2_with fail
  go_ret
  exact ⟨rfl,_,_,_,_,_,_,H1.out.1,H1.out.2.1,H1.out.2.2⟩
theorem SH_only {c:Nat → Nat} {w w':World} {K:Nat → Nat} {lo hi base g e3 j n:Nat} {G:Nat → Value} {Li Lb Lo:List (Value × Nat)} {v0 v1 v2 v3:Value} (h:Only w w' K lo hi) (hlo:1 ≤ lo) (ho:Own c w base K) (hs:St c w g G n Li Lb Lo) (he:e3 < w.heap.size) (hK:K e3 = 0)
    (h0:w.cell? ⟨g,j,none⟩ = some v0) (h1:w.cell? ⟨e3,1,none⟩ = some v1) (h2:w.cell? ⟨e3,2,none⟩ = some v2) (h3:w.cell? ⟨e3,9,none⟩ = some v3):w'.cell? ⟨g,j,none⟩ = some v0 ∧ w'.cell? ⟨e3,1,none⟩ = some v1 ∧ w'.cell? ⟨e3,2,none⟩ = some v2 ∧ w'.cell? ⟨e3,9,none⟩ = some v3:=by
  have kg:w'.heap[g]? = w.heap[g]?:=h.block g hs.row.lt fun hh=>by
    have:=(ho g (by omega)).1
    rw [hs.col] at this
    omega
  have ke:w'.heap[e3]? = w.heap[e3]?:=h.block e3 he (by omega)
  exact ⟨(World.cell?_of_block (a:=⟨g,j,none⟩) kg).trans h0,(World.cell?_of_block (a:=⟨e3,1,none⟩) ke).trans h1,(World.cell?_of_block (a:=⟨e3,2,none⟩) ke).trans h2,(World.cell?_of_block (a:=⟨e3,9,none⟩) ke).trans h3⟩
set_option maxRecDepth 100000 in
set_option maxHeartbeats 8000000 in
theorem stepHealth_any (g base bb ww cw qw:Nat) (m:Mach) (vc vr:Value) (D:BD) (d e:Nat → Value) (K:Nat → Nat) (G:Nat → Value) (c:Nat → Nat) (w:World) (n:Nat) (Li Lb Lo:List (Value × Nat)) (ws:List GW) (Eb Eo:List (Value × Value)) (s:SV)
    (h:Inv g base bb ww cw qw m vc vr D d e K c w G n Li Lb Lo ws Eb Eo) (hl:Eo.length ≤ 1000) (hk:s.kind = 4) :
    Calls (patch shutL Tryz.prog) 15 #[.pointer (some ⟨g,0,none⟩),.agg (stepC s)] w fun e' w'=>e' = .returned (.bool true) ∧ ∃ D' d' e' K' c' G',Inv g base bb ww cw qw m vc vr D' d' e' K' c' w' G' n Li Lb Lo ws Eb (Eo ++ [(.slice none 0 0,.slice none 0 0),(.slice none 0 0,.slice none 0 0)]) ∧ Low base c w c' w' ∧ w.heap.size ≤ w'.heap.size:=by
  have M0:=Hid.in (Mid.of_inv h)
  have gl:g < w.heap.size:=h.st.row.lt
  clear h
  unfold stepC
  rw [hk]
  clear hk
  go_enter (pf Tryz.func15 (by rfl)),Tryz.ntmps15
  go_wp2_with fail
  obtain ⟨W0,hW0⟩ : ∃ W,W = w.alloc (.cells #[.int .i64 4,.int .i64 s.A,.int .i64 s.B,s.v3,.int .i64 (s.c 0),.int .i64 (s.c 1),.int .i64 (s.c 2),.int .i64 (s.c 3),.slice s.dao s.dn s.dcap,.bool s.yes,s.v10,s.v11,s.v12] 54):=⟨_,rfl⟩
  obtain ⟨e3,he3⟩ : ∃ a,a = w.heap.size:=⟨_,rfl⟩
  have H0:Hid (Below w.heap.size w W0 ∧ W0.heap[e3]? = some (.cells #[.int .i64 4,.int .i64 s.A,.int .i64 s.B,s.v3,.int .i64 (s.c 0),.int .i64 (s.c 1),.int .i64 (s.c 2),.int .i64 (s.c 3),.slice s.dao s.dn s.dcap,.bool s.yes,s.v10,s.v11,s.v12] 54 (0,0)) ∧ w.heap.size ≤ e3 ∧ e3 < W0.heap.size):=by
    rw [hW0,he3]
    exact ⟨(Below.refl _ _).alloc (Nat.le_refl _) _,heap_alloc_new _ _,Nat.le_refl _,by simp⟩
  rw [← hW0,← he3]
  clear hW0 he3
  have M1:=Hid.in ((M0.out.below H0.out.1).below (Below.refl _ _).drew)
  have HL:=Hid.in (show Low base c w c W0.drew ∧ K e3 = 0 ∧ w.heap.size ≤ W0.drew.heap.size from by
    refine ⟨below_low H0.out.1.drew M0.out.big,?_,H0.out.1.size⟩
    by_cases hk:K e3 = 0
    · exact hk
    · have:=(M0.out.own e3 hk).2.2
      have:=H0.out.2.2.1
      omega)
  have q0:=M1.out.st.row.cell (i:=0) (by omega)
  rw [M1.out.g0] at q0
  have z3:=(blk (w:=W0.drew) H0.out.2.1).1
  have z3a:W0.drew.cell? ⟨e3,1,none⟩ = some (.int .i64 s.A):=z3 1
  have z3b:W0.drew.cell? ⟨e3,2,none⟩ = some (.int .i64 s.B):=z3 2
  have z3c:W0.drew.cell? ⟨e3,9,none⟩ = some (.bool s.yes):=z3 9
  have HB:=Hid.in (healthB_any s.A s.B s.yes base bb m vc vr D d K W0.drew M1.out.bs)
  have HSB:=Hid.in (fun (w2:World) (k2:Only W0.drew w2 K 1 7)=>SH_only (g:=g) (e3:=e3) k2 (by omega) M1.out.own M1.out.st H0.out.2.2.2 HL.out.2.1 q0 z3a z3b z3c)
  go_region_held3 (fun w'=>w'.cell? ⟨g,0,none⟩ = some (.pointer (some ⟨bb,0,none⟩)) ∧ w'.cell? ⟨e3,1,none⟩ = some (.int .i64 s.A) ∧ w'.cell? ⟨e3,2,none⟩ = some (.int .i64 s.B) ∧ w'.cell? ⟨e3,9,none⟩ = some (.bool s.yes)) (with_reducible (first | exact ⟨q0,z3a,z3b,z3c⟩ | assumption))
    (first | (go_at_call 35; refine Calls.mono HB.out ?_; rintro e' w2 ⟨rfl,k1,k2,k3⟩; have hS2:=HSB.out _ k2; have H2:=Hid.in (And.intro k1 (And.intro k2 k3)); clear k1 k2 k3))
  all_goals
    clear q0 z3 z3a z3b z3c HB HSB
    have M2:=Hid.in ((M1.out.berth (hi:=7) (d':=d) (K':=K) H2.out.1 H2.out.2.1 (by omega) (fun _ _=>rfl) (fun x _ hx=>absurd rfl hx)).below (Below.refl _ _).drew)
    have HL2:=Hid.in (show Low base c w c w2.drew ∧ w2.drew.heap[e3]? = some (.cells #[.int .i64 4,.int .i64 s.A,.int .i64 s.B,s.v3,.int .i64 (s.c 0),.int .i64 (s.c 1),.int .i64 (s.c 2),.int .i64 (s.c 3),.slice s.dao s.dn s.dcap,.bool s.yes,s.v10,s.v11,s.v12] 54 (0,0)) ∧ w.heap.size ≤ w2.drew.heap.size ∧ K e3 = 0 from
      ⟨HL.out.1.trans (H2.out.2.1.low (by omega) M1.out.own M1.out.big),(H2.out.2.1.block e3 H0.out.2.2.2 (by have:=HL.out.2.1; omega)).trans H0.out.2.1,Nat.le_trans HL.out.2.2 H2.out.2.1.size,HL.out.2.1⟩)
    clear H2 M1 H0 HL M0
    have q1:=M2.out.st.row.cell (i:=1) (by omega)
    rw [M2.out.g1] at q1
    have z3:=(blk HL2.out.2.1).1
    have z3a:w2.drew.cell? ⟨e3,1,none⟩ = some (.int .i64 s.A):=z3 1
    have z3b:w2.drew.cell? ⟨e3,2,none⟩ = some (.int .i64 s.B):=z3 2
    have z3c:w2.drew.cell? ⟨e3,9,none⟩ = some (.bool s.yes):=z3 9
    have HB:=Hid.in (healthR_any s.A s.B s.yes base ww cw qw m D e K w2.drew M2.out.wsd)
    have HSB:=Hid.in (fun (w3:World) (k2:Only w2.drew w3 K 8 14)=>SH_only (g:=g) (e3:=e3) k2 (by omega) M2.out.own M2.out.st (Array.getElem?_eq_some_iff.1 HL2.out.2.1).1 HL2.out.2.2.2 q1 z3a z3b z3c)
    go_wp2_with fail
    go_region_held3 (fun w'=>w'.cell? ⟨g,1,none⟩ = some (.pointer (some ⟨ww,0,none⟩)) ∧ w'.cell? ⟨e3,1,none⟩ = some (.int .i64 s.A) ∧ w'.cell? ⟨e3,2,none⟩ = some (.int .i64 s.B) ∧ w'.cell? ⟨e3,9,none⟩ = some (.bool s.yes)) (with_reducible (first | exact ⟨q1,z3a,z3b,z3c⟩ | assumption))
      (first | (go_at_call 36; refine Calls.mono HB.out ?_; rintro e' w3 ⟨rfl,k1,k2,k3⟩; have hS3:=HSB.out _ k2; have H3:=Hid.in (And.intro k1 (And.intro k2 k3)); clear k1 k2 k3))
    all_goals
      clear q1 z3 z3a z3b z3c HB HSB
      have M3:=Hid.in (show Mid g base bb ww cw qw m vc vr (healthD D s.A s.B s.yes) (healthD D s.A s.B s.yes) d e K c w3 G n Li Lb Lo ws Eb Eo ∧ Low base c w c w3 ∧ w.heap.size ≤ w3.heap.size from
        ⟨M2.out.world H3.out.1 H3.out.2.1 (fun _ _=>rfl) (fun x _ hx=>absurd rfl hx),HL2.out.1.trans (H3.out.2.1.low (by omega) M2.out.own M2.out.big),Nat.le_trans HL2.out.2.2.1 H3.out.2.1.size⟩)
      clear M2 HL2 H3
      go_wp2_with (first
        | (go_at_call 37; refine Calls.mono (refusedD_any M3.out.1.inv hl) ?_; rintro e' w6 ⟨rfl,c6,G6,k1,k2⟩; have H6:=Hid.in (And.intro k1 k2); clear k1 k2)
        | (go_at_call 29; refine Calls.mono (num_any _ _) ?_; rintro e' w7 ⟨rfl,hw7⟩; obtain rfl:=hw7.symm))
      go_ret
      exact ⟨by simp,_,_,_,_,c6,G6,H6.out.1,M3.out.2.1.trans (Low.of_turn H6.out.2 (by omega) M3.out.1.big),Nat.le_trans M3.out.2.2 H6.out.2.size⟩
end Go.Proofs.YtojoafcnijajmaaGreatDoor.Z

namespace Go.Proofs.YtojoafcnijajmaaGreatDoor.Z
open Go.RowKit
attribute [local go_sem ↓] Go.wp_at_zero Go.wp_at_succ
end Go.Proofs.YtojoafcnijajmaaGreatDoor.Z

namespace Go.Proofs.YtojoafcnijajmaaGreatDoor.Z
open Go.RowKit
attribute [local go_sem ↓] Go.wp_at_zero Go.wp_at_succ
end Go.Proofs.YtojoafcnijajmaaGreatDoor.Z

namespace Go.Proofs.YtojoafcnijajmaaGreatDoor.Z
open Go.RowKit
attribute [local go_sem ↓] Go.wp_at_zero Go.wp_at_succ
attribute [local go_sem] After.cell After.frozen After.const
theorem agr_not {s n c s' n' c':Int} (h:(c' = c ∧ n' ≠ n) ∨ (n' = n ∧ s' ≠ s)):¬ agr s n c s' n' c':=by
  unfold agr
  rcases h with ⟨h1,h2⟩ | ⟨h1,h2⟩
  · exact fun h=>h.1 ⟨h1.symm,fun e=>h2 e.symm⟩
  · exact fun h=>h.2.elim (fun e=>e h1.symm) (fun e=>h2 e.symm)
theorem agr_of {s n c s' n' c':Int} (h1:¬ (c' = c ∧ n' ≠ n)) (h2:¬ (n' = n ∧ s' ≠ s)):agr s n c s' n' c' :=
  ⟨fun ⟨e,f⟩=>h1 ⟨e.symm,fun e=>f e.symm⟩,by
    by_cases e:n' = n
    · exact .inr (Classical.byContradiction fun f=>h2 ⟨e,fun e=>f e.symm⟩)
    · exact .inl fun f=>e f.symm⟩
set_option maxRecDepth 100000 in
set_option maxHeartbeats 2000000 in
theorem isMachine_any (m:Mach) (w:World) (hm:m.At w) :
    Calls (patch shutL Tryz.prog) 28 #[m.val] w fun e w'=>Ans m.ok e ∧ Below w.heap.size w w':=by
  obtain ⟨ao,b,o,n,cap,S,N,C,ro,rb,rp,r,rcap,R,p⟩:=m
  obtain ⟨ncap,nmax,addr,cpus,rc,rmax,raddr,ints⟩:=hm
  simp only [Mach.val,Mach.ok] at *
  by_cases hn1:n < 1
  · go_enter (pf Tryz.func28 (by rfl)),Tryz.ntmps28
    go_wp2_with (go_at_call 59; refine (within_any _ _ _).mono ?_; rintro e w1 ⟨⟨q,rfl,hq⟩,rfl⟩; clear hq)
    go_ret
    exact ⟨.no fun h=>by have:=h.1; omega,(Below.refl _ _).alloc (Nat.le_refl _) _⟩
  by_cases hn24:24 < n
  · go_enter (pf Tryz.func28 (by rfl)),Tryz.ntmps28
    go_wp2_with (go_at_call 59; refine (within_any _ _ _).mono ?_; rintro e w1 ⟨⟨q,rfl,hq⟩,rfl⟩; clear hq)
    go_ret
    exact ⟨.no fun h=>by have:=h.2.1; omega,(Below.refl _ _).alloc (Nat.le_refl _) _⟩
  by_cases hp:0 ≤ p ∧ p < 4
  case neg =>
    go_enter (pf Tryz.func28 (by rfl)),Tryz.ntmps28
    go_wp2_with (go_at_call 59; refine (within_any _ _ _).mono ?_; rintro e w1 ⟨he,rfl⟩; obtain rfl:=he.is_false hp; clear he)
    go_ret
    exact ⟨.no fun h=>by have:=h.2.2.2.2; omega,(Below.refl _ _).alloc (Nat.le_refl _) _⟩
  have HPP:Hid (0 ≤ p ∧ p < 4):=hp
  clear hp
  have haddr:=addr (by omega)
  subst haddr
  clear addr
  have ncap':(n:Int) ≤ cap:=by omega
  go_enter (pf Tryz.func28 (by rfl)),Tryz.ntmps28
  go_wp2_with (go_at_call 59; refine (within_any _ _ _).mono ?_; rintro e w1 ⟨he,rfl⟩; obtain rfl:=he.is_true HPP.out; clear he)
  obtain ⟨W0,hW0⟩ : ∃ W0,W0 = w.alloc (.cells #[.slice (some ⟨b,o,none⟩) n cap,.slice ro r rcap,.int .i64 p] 25):=⟨_,rfl⟩
  have HW:Hid (W0 = w.alloc (.cells #[.slice (some ⟨b,o,none⟩) n cap,.slice ro r rcap,.int .i64 p] 25)):=hW0
  have d0:W0.cell? ⟨w.heap.size,0,none⟩ = some (.slice (some ⟨b,o,none⟩) n cap):=by rw [hW0]; simp
  have d1:W0.cell? ⟨w.heap.size,1,none⟩ = some (.slice ro r rcap):=by rw [hW0]; simp
  have hs0:w.heap.size < W0.heap.size:=by rw [hW0]; simp
  have hB0:Below w.heap.size w W0:=by rw [hW0]; exact (Below.refl _ _).alloc (Nat.le_refl _) _
  have cpus0:=cpus.ext hB0
  have ints0:=ints.ext hB0
  rw [← hW0]
  clear hW0 cpus ints
  go_loopw [5] (fun i wr=>∃ j:Nat,j ≤ n ∧ i = .int .i64 j ∧ Below W0.heap.size W0 wr ∧ okCs S N C j) (fun i _=>n - (intOf i).toNat)
  case atStart=>exact ⟨0,Nat.zero_le _,rfl,Below.refl _ _,fun i hi=>absurd hi (Nat.not_lt_zero _)⟩
  case round =>
    obtain ⟨i,hi,rfl,hb,hok⟩:=hrel
    have HA:Hid (okCs S N C i):=hok
    clear hok
    obtain ⟨hc,hf⟩:=bcell hb
    have hz:=hb.size
    by_cases hlt:i < n
    · obtain ⟨c0,c1,c2⟩:=cpus0 i hlt
      have hbb:b < W0.heap.size:=block_lt_of_cell c0
      have HQ:Hid (CpuAt wr b o n S N C):=cpus0.ext hb
      clear cpus0 ints0
      by_cases hp:place (S i) (N i) (C i)
      case neg =>
        have HP:Hid (¬ place (S i) (N i) (C i)):=hp
        have hbw:Below w.heap.size w wr:=ext_trans hB0 hb
        clear hp
        go_wp2_with (go_at_call 59; refine (within_any _ _ _).mono ?_; rintro e w1 ⟨he,rfl⟩; rcases he.cases with ⟨hp,rfl⟩ | ⟨hp,rfl⟩ <;> clear he)
        all_goals first
          | (exfalso; have:=HP.out; unfold place at this; omega)
          | (go_ret; exact ⟨.no fun h=>HP.out (h.2.2.1 i hlt).1,hbw.alloc hbw.size _⟩)
      have HP:Hid (place (S i) (N i) (C i)):=hp
      clear hp
      go_wp2_with (go_at_call 59; refine (within_any _ _ _).mono ?_; rintro e w1 ⟨he,rfl⟩; obtain rfl:=he.is_true (by have:=HP.out; unfold place at this; omega); clear he)
      obtain ⟨W1,hW1⟩ : ∃ W1,W1 = wr.alloc (.cells #[.int .i64 (S i),.int .i64 (N i),.int .i64 (C i)] 71):=⟨_,rfl⟩
      have e0:W1.cell? ⟨wr.heap.size,0,none⟩ = some (.int .i64 (S i)):=by rw [hW1]; simp
      have e1:W1.cell? ⟨wr.heap.size,1,none⟩ = some (.int .i64 (N i)):=by rw [hW1]; simp
      have e2:W1.cell? ⟨wr.heap.size,2,none⟩ = some (.int .i64 (C i)):=by rw [hW1]; simp
      have hs1:wr.heap.size < W1.heap.size:=by rw [hW1]; simp
      have hB1:Below wr.heap.size wr W1:=by rw [hW1]; exact (Below.refl _ _).alloc (Nat.le_refl _) _
      have cpus1:=HQ.out.ext hB1
      have d0':W1.cell? ⟨w.heap.size,0,none⟩ = some (.slice (some ⟨b,o,none⟩) n cap):=((hB1.cell (p:=⟨w.heap.size,0,none⟩) (by show w.heap.size < wr.heap.size; omega)).trans (hc _ _ hs0)).trans d0
      have hs0':w.heap.size < W1.heap.size:=by omega
      have hbw1:Below w.heap.size w W1:=ext_trans hB0 (ext_trans hb hB1)
      have hb01:Below W0.heap.size W0 W1:=ext_trans hb hB1
      rw [← hW1]
      clear hW1 hc hf c0 c1 c2 hB1 hb HQ
      obtain ⟨wo,rfl⟩ : ∃ wo,wo = wr:=⟨_,rfl⟩
      go_loopw [10] (fun k wq=>∃ j:Nat,j ≤ i ∧ k = .int .i64 j ∧ Below W1.heap.size W1 wq ∧ ∀ k,k < j → agr (S i) (N i) (C i) (S k) (N k) (C k)) (fun k _=>i - (intOf k).toNat)
      case atStart=>exact ⟨0,Nat.zero_le _,rfl,Below.refl _ _,fun i hi=>absurd hi (Nat.not_lt_zero _)⟩
      case round =>
        obtain ⟨j,hj,rfl,hb,hok⟩:=hrel
        have HJ:Hid (∀ k,k < j → agr (S i) (N i) (C i) (S k) (N k) (C k)):=hok
        clear hok
        obtain ⟨hc,hf⟩:=bcell hb
        have hz1:=hb.size
        have hs2:wo.heap.size < wr.heap.size:=by omega
        have hs3:w.heap.size < wr.heap.size:=by omega
        by_cases hlj:j < i
        · obtain ⟨c0,c1,c2⟩:=cpus1 j (by omega)
          have hbb1:b < W1.heap.size:=block_lt_of_cell c0
          have hjn:(j:Int) < n:=by omega
          have hbq:Below w.heap.size w wr:=ext_trans hbw1 hb
          clear cpus1
          go_wp2_with (first | (go_at_call 185; go_enter (pf Tryz.func185 (by rfl)),Tryz.ntmps185) | (go_at_call 110; go_enter (pf Tryz.func110 (by rfl)),Tryz.ntmps110))
          all_goals first
            | (go_ret; refine ⟨.no fun h=>agr_not ?_ ((h.2.2.1 i hlt).2 j hlj),hbq.alloc hbq.size _⟩; (try simp only [bne_iff_ne] at *); omega)
            | (go_roundw
               case rel=>exact ⟨j + 1,by omega,by go_num,hb.alloc hz1 _,fun k hk=>by
                 rcases Nat.lt_succ_iff_lt_or_eq.1 hk with h | h
                 · exact HJ.out k h
                 · subst h
                   (try simp only [bne_eq_false_iff_eq] at *)
                   exact agr_of (by omega) (by omega)⟩
               case measure=>simp [intOf]; omega)
        · have:j = i:=by omega
          subst this
          go_wp2_with (first | (go_at_call 185; go_enter (pf Tryz.func185 (by rfl)),Tryz.ntmps185) | (go_at_call 110; go_enter (pf Tryz.func110 (by rfl)),Tryz.ntmps110))
          go_roundw
          case rel=>exact ⟨j + 1,by omega,by go_num,ext_trans hb01 hb,fun k hk=>by
              rcases Nat.lt_succ_iff_lt_or_eq.1 hk with h | h
              · exact HA.out k h
              · subst h; exact ⟨HP.out,HJ.out⟩⟩
          case measure=>simp [intOf]; omega
    · have:i = n:=by omega
      subst this
      have HN:Hid (1 ≤ i ∧ i ≤ 24):=⟨by omega,by omega⟩
      have hbw:Below w.heap.size w wr:=ext_trans hB0 hb
      have hwz:w.heap.size < wr.heap.size:=by omega
      have d1':=(hc w.heap.size 1 hs0).trans d1
      have ints1:=ints0.ext hb
      clear cpus0 ints0 hc hf d0 d1
      obtain ⟨wo,rfl⟩ : ∃ wo,wo = wr:=⟨_,rfl⟩
      go_wp2_with (first | (go_at_call 185; go_enter (pf Tryz.func185 (by rfl)),Tryz.ntmps185) | (go_at_call 110; go_enter (pf Tryz.func110 (by rfl)),Tryz.ntmps110))
      go_loopw [12] (fun k wq=>∃ j:Nat,j ≤ r ∧ k = .int .i64 j ∧ Below wo.heap.size wo wq ∧ okRs i R j) (fun k _=>r - (intOf k).toNat)
      case atStart=>exact ⟨0,Nat.zero_le _,rfl,Below.refl _ _,fun i hi=>absurd hi (Nat.not_lt_zero _)⟩
      case round =>
        obtain ⟨k,hk,rfl,hb2,hok⟩:=hrel
        have HK:Hid (okRs i R k):=hok
        clear hok
        obtain ⟨hc,hf⟩:=bcell hb2
        have hz2:=hb2.size
        have hwz2:w.heap.size < wr.heap.size:=by omega
        have hbq:Below w.heap.size w wr:=ext_trans hbw hb2
        by_cases hlk:k < r
        · have c0:=ints1 k hlk
          have hrb:rb < wo.heap.size:=block_lt_of_cell c0
          have c1:0 < k → wo.cell? ⟨rb,rp + (k - 1),none⟩ = some (.int .i64 (R (k - 1))):=fun _=>ints1 (k - 1) (by omega)
          have hra:=raddr (by omega)
          subst hra
          have hkr:(k:Int) < r:=by omega
          clear ints1
          by_cases hw:0 ≤ R k ∧ R k < i
          · by_cases hk0:k = 0
            · subst hk0
              have c0':wo.cell? ⟨rb,rp,none⟩ = some (.int .i64 (R 0)):=by simpa using c0
              go_wp2_with (go_at_call 59; refine (within_any _ _ _).mono ?_; rintro e w1 ⟨he,rfl⟩; obtain rfl:=he.is_true hw; clear he)
              go_quiet (fail)
              go_wp2_with (first | (go_at_call 185; go_enter (pf Tryz.func185 (by rfl)),Tryz.ntmps185) | (go_at_call 110; go_enter (pf Tryz.func110 (by rfl)),Tryz.ntmps110))
              go_roundw
              case rel=>exact ⟨1,by omega,by go_num,hb2.drewN _,fun j hj=>by
                 have:j = 0:=by omega
                 subst this
                 exact ⟨hw.1,hw.2,fun h=>absurd h (Nat.lt_irrefl _)⟩⟩
              case measure=>simp [intOf]; omega
            · have c1':=c1 (by omega)
              have k0:0 < k:=by omega
              clear c1
              by_cases hle:R k ≤ R (k - 1)
              · go_wp2_with (go_at_call 59; refine (within_any _ _ _).mono ?_; rintro e w1 ⟨he,rfl⟩; obtain rfl:=he.is_true hw; clear he)
                go_quiet (fail)
                go_wp2_with (first | (go_at_call 185; go_enter (pf Tryz.func185 (by rfl)),Tryz.ntmps185) | (go_at_call 110; go_enter (pf Tryz.func110 (by rfl)),Tryz.ntmps110))
                go_ret
                exact ⟨.no fun h=>by have:=(h.2.2.2.1 k hlk).2.2 (by omega); omega,hbq.drewN _⟩
              · go_wp2_with (go_at_call 59; refine (within_any _ _ _).mono ?_; rintro e w1 ⟨he,rfl⟩; obtain rfl:=he.is_true hw; clear he)
                go_quiet (fail)
                go_wp2_with (first | (go_at_call 185; go_enter (pf Tryz.func185 (by rfl)),Tryz.ntmps185) | (go_at_call 110; go_enter (pf Tryz.func110 (by rfl)),Tryz.ntmps110))
                go_roundw
                case rel=>exact ⟨k + 1,by omega,by go_num,hb2.drewN _,fun j hj=>by
                   rcases Nat.lt_succ_iff_lt_or_eq.1 hj with h | h
                   · exact HK.out j h
                   · subst h; exact ⟨hw.1,hw.2,fun _=>by omega⟩⟩
                case measure=>simp [intOf]; omega
          · go_wp2_with (go_at_call 59; refine (within_any _ _ _).mono ?_; rintro e w1 ⟨he,rfl⟩; obtain rfl:=he.is_false hw; clear he)
            go_quiet (fail)
            go_wp2_with (first | (go_at_call 185; go_enter (pf Tryz.func185 (by rfl)),Tryz.ntmps185) | (go_at_call 110; go_enter (pf Tryz.func110 (by rfl)),Tryz.ntmps110))
            go_ret
            exact ⟨.no fun h=>by have:=h.2.2.2.1 k hlk; omega,hbq.drewN _⟩
        · have:k = r:=by omega
          subst this
          go_wp2_with (first | (go_at_call 185; go_enter (pf Tryz.func185 (by rfl)),Tryz.ntmps185) | (go_at_call 110; go_enter (pf Tryz.func110 (by rfl)),Tryz.ntmps110))
          go_ret
          exact ⟨.yes ⟨HN.out.1,HN.out.2,HA.out,HK.out,HPP.out.1,by have:=HPP.out.2; omega⟩,hbq⟩
end Go.Proofs.YtojoafcnijajmaaGreatDoor.Z
