/- Part 41 of the proof that Devices answers true and leaves its input as it was, for input of bulk at most the bound of its row: ZF9 ZFA. -/
import Derived.Test.YtojoafcnijajmaaGreatDoorT8
import Derived.Test.YtojoafcnijajmaaGreatDoorT40
import Derived.Test.YtojoafcnijajmaaGreatDoorT36
import Derived.Test.YtojoafcnijajmaaGreatDoorT38
namespace Go.Proofs.YtojoafcnijajmaaGreatDoor.Z
open Go.RowKit
attribute [local go_sem ↓] Go.wp_at_zero Go.wp_at_succ
def lenU (D:BD) (q:Nat):Nat:=(usN D q).length
def intU (D:BD) (q:Nat):List Int:=(usN D q).map fun i:Nat=>(i:Int)
theorem intU_eq (D:BD) (q:Nat):intV (usN D q) = IL (intU D q):=by unfold intV IL intU; rw [List.map_map]; rfl
def slU (A:Nat → Option Addr) (N C:Nat → Nat) (q:Nat):Value:=.slice (A q) (N q) (C q)
theorem told_shape {D:BD} {w w':World} {V:Nat → Value} (h:Told4 D w w' V):∃ A C,gC V = gC (slU A (lenU D) C) ∧ Told4 D w w' (slU A (lenU D) C):=by
  have e:∀ q,∃ ao cap,q < 4 → V q = .slice ao (lenU D q) cap:=fun q=>by
    by_cases hq:q < 4
    · obtain ⟨ao,cap,e⟩:=ownsRow_shape (h.rows q hq)
      exact ⟨ao,cap,fun _=>e⟩
    · exact ⟨none,0,fun h=>absurd h hq⟩
  have hA:=fun q=>(e q).choose_spec.choose_spec
  refine ⟨fun q=>(e q).choose,fun q=>(e q).choose_spec.choose,?_,h.below,fun q hq=>?_,fun q q' hq hq' hne=>?_⟩
  · unfold gC slU
    rw [hA 0 (by omega),hA 1 (by omega),hA 2 (by omega),hA 3 (by omega)]
  · unfold slU
    rw [← hA q hq]
    exact h.rows q hq
  · unfold slU
    rw [← hA q hq,← hA q' hq']
    exact h.apart q q' hq hq' hne
def gV (A:Nat → Option Addr) (N C:Nat → Nat):Array Value:=#[.slice (A 0) (N 0) (C 0),.slice (A 1) (N 1) (C 1),.slice (A 2) (N 2) (C 2),.slice (A 3) (N 3) (C 3)]
structure Tell3 (D:BD) (w2 W:World) (e8 e9 e10:Nat) (A3 A4 A5:Nat → Option Addr) (C3 C4 C5:Nat → Nat):Prop where
  below:Below w2.heap.size w2 W
  x:∀ q,q < 4 → W.ownsRow w2.heap.size 3 1 (slU A3 (lenU D) C3 q) (lenU D q) (IL (intU D q))
  xa:∀ q q',q < 4 → q' < 4 → q ≠ q' → ∀ b,(slU A3 (lenU D) C3 q).ownBlock = some b → (slU A3 (lenU D) C3 q').ownBlock ≠ some b
  z:∃ B,(∀ q,q < 4 → ∀ b,(slU A3 (lenU D) C3 q).ownBlock = some b → b < B) ∧ w2.heap.size ≤ B ∧ ∀ q,q < 4 → W.ownsRow B 3 1 (slU A4 (lenU D) C4 q) (lenU D q) (IL (intU D q))
  za:∀ q q',q < 4 → q' < 4 → q ≠ q' → ∀ b,(slU A4 (lenU D) C4 q).ownBlock = some b → (slU A4 (lenU D) C4 q').ownBlock ≠ some b
  y:∀ q,q < 4 → W.ownsRow 0 3 1 (slU A5 (lenU D) C5 q) (lenU D q) (IL (intU D q))
  k8:W.heap[e8]? = some (.cells (gV A3 (lenU D) C3) 44 (0,0))
  k9:W.heap[e9]? = some (.cells (gV A4 (lenU D) C4) 44 (0,0))
  k10:W.heap[e10]? = some (.cells (gV A5 (lenU D) C5) 44 (0,0))
theorem Tell3.mono {D:BD} {w2 W W':World} {e8 e9 e10:Nat} {A3 A4 A5:Nat → Option Addr} {C3 C4 C5:Nat → Nat} (h:Tell3 D w2 W e8 e9 e10 A3 A4 A5 C3 C4 C5) (hb:Below W.heap.size W W'):Tell3 D w2 W' e8 e9 e10 A3 A4 A5 C3 C4 C5:=by
  have k:∀ e o,W.heap[e]? = some o → W'.heap[e]? = some o:=fun e o he=>(hb.block e (Array.getElem?_eq_some_iff.1 he).1).trans he
  obtain ⟨B,z1,z2,z3⟩:=h.z
  exact ⟨ext_trans h.below hb,fun q hq=>ownsRow_below (h.x q hq) hb,h.xa,⟨B,z1,z2,fun q hq=>ownsRow_below (z3 q hq) hb⟩,h.za,fun q hq=>ownsRow_below (h.y q hq) hb,k _ _ h.k8,k _ _ h.k9,k _ _ h.k10⟩
def pick4 (P:Nat → Prop) [DecidablePred P] (k d:Nat):Nat:=if P 0 then k else if P 1 then k + 1 else if P 2 then k + 2 else if P 3 then k + 3 else d
theorem pick4_hit {P:Nat → Prop} [DecidablePred P] {k d q:Nat} (hq:q < 4) (h:P q) (hne:∀ q',q' < 4 → q' ≠ q → ¬ P q'):pick4 P k d = k + q:=by
  unfold pick4
  obtain rfl | rfl | rfl | rfl:q = 0 ∨ q = 1 ∨ q = 2 ∨ q = 3:=by omega
  · rw [if_pos h]; rfl
  · rw [if_neg (hne 0 (by omega) (by omega)),if_pos h]
  · rw [if_neg (hne 0 (by omega) (by omega)),if_neg (hne 1 (by omega) (by omega)),if_pos h]
  · rw [if_neg (hne 0 (by omega) (by omega)),if_neg (hne 1 (by omega) (by omega)),if_neg (hne 2 (by omega) (by omega)),if_pos h]
theorem pick4_miss {P:Nat → Prop} [DecidablePred P] {k d:Nat} (hne:∀ q',q' < 4 → ¬ P q'):pick4 P k d = d:=by
  unfold pick4
  rw [if_neg (hne 0 (by omega)),if_neg (hne 1 (by omega)),if_neg (hne 2 (by omega)),if_neg (hne 3 (by omega))]
theorem tell3_dye {D:BD} {c:Nat → Nat} {w2 W:World} {e8 e9 e10 k:Nat} {A3 A4 A5:Nat → Option Addr} {C3 C4 C5:Nat → Nat} (h:Tell3 D w2 W e8 e9 e10 A3 A4 A5 C3 C4 C5) (l8:w2.heap.size ≤ e8) (l9:w2.heap.size ≤ e9) :
    ∃ c',Turn (fun _=>False) c w2 c' W ∧ (∀ q,q < 4 → RowC c' W (k + q) 3 1 (slU A3 (lenU D) C3 q) (lenU D q) (IL (intU D q))) ∧ (∀ q,q < 4 → RowC c' W (k + 4 + q) 3 1 (slU A4 (lenU D) C4 q) (lenU D q) (IL (intU D q))) ∧ c' e8 = 0 ∧ c' e9 = 0:=by
  obtain ⟨B,z1,z2,z3⟩:=h.z
  have b8:e8 < W.heap.size:=(Array.getElem?_eq_some_iff.1 h.k8).1
  have b9:e9 < W.heap.size:=(Array.getElem?_eq_some_iff.1 h.k9).1
  have x8:∀ q,q < 4 → ¬ (slU A3 (lenU D) C3 q).ownBlock = some e8:=fun q hq=>own_type (h.x q hq) h.k8 (by decide)
  have x9:∀ q,q < 4 → ¬ (slU A3 (lenU D) C3 q).ownBlock = some e9:=fun q hq=>own_type (h.x q hq) h.k9 (by decide)
  have y8:∀ q,q < 4 → ¬ (slU A4 (lenU D) C4 q).ownBlock = some e8:=fun q hq=>own_type (z3 q hq) h.k8 (by decide)
  have y9:∀ q,q < 4 → ¬ (slU A4 (lenU D) C4 q).ownBlock = some e9:=fun q hq=>own_type (z3 q hq) h.k9 (by decide)
  obtain ⟨f,hf⟩ : ∃ f:Nat → Nat,f = fun b=>pick4 (fun q=>(slU A3 (lenU D) C3 q).ownBlock = some b) k (pick4 (fun q=>(slU A4 (lenU D) C4 q).ownBlock = some b) (k + 4) 0):=⟨_,rfl⟩
  have ev:∀ b,w2.heap.size ≤ b → b < W.heap.size → dye c w2 W f b = f b:=fun b h1 h2=>by
    unfold dye; rw [if_neg (by omega),if_pos h2]
  refine ⟨dye c w2 W f,Turn.dyed h.below _,fun q hq=>⟨ownsRow_base (h.x q hq) (Nat.zero_le _),fun b hb=>?_⟩,fun q hq=>⟨ownsRow_base (z3 q hq) (Nat.zero_le _),fun b hb=>?_⟩,?_,?_⟩
  · rw [ev b ((h.x q hq).lt b hb).1 ((h.x q hq).lt b hb).2,hf]
    exact pick4_hit hq hb fun q' hq' hne=>h.xa q q' hq hq' (Ne.symm hne) b hb
  · have hB:=((z3 q hq).lt b hb).1
    rw [ev b (by omega) ((z3 q hq).lt b hb).2,hf]
    show pick4 _ k _ = _
    rw [pick4_miss (fun q' hq' e=>by have:=z1 q' hq' b e; omega)]
    exact pick4_hit hq hb fun q' hq' hne=>h.za q q' hq hq' (Ne.symm hne) b hb
  · rw [ev e8 l8 b8,hf]
    show pick4 _ k _ = _
    rw [pick4_miss x8,pick4_miss y8]
  · rw [ev e9 l9 b9,hf]
    show pick4 _ k _ = _
    rw [pick4_miss x9,pick4_miss y9]
theorem gintsU {D:BD} {w:World} {base:Nat} {A:Nat → Option Addr} {C:Nat → Nat} (h:∀ q,q < 4 → w.ownsRow base 3 1 (slU A (lenU D) C q) (lenU D q) (IL (intU D q))):GInts w A (lenU D) C (fun q j=>(intU D q).getD j 0):=fun q hq=>ints_of_IL (h q hq)
theorem sameGrantU_any (D:BD) (A B:Nat → Option Addr) (C E:Nat → Nat) (ba bb:Nat) (w:World) (h:∀ q,q < 4 → w.ownsRow ba 3 1 (slU A (lenU D) C q) (lenU D q) (IL (intU D q))) (h':∀ q,q < 4 → w.ownsRow bb 3 1 (slU B (lenU D) E q) (lenU D q) (IL (intU D q))) :
    Calls (patch shutL Tryz.prog) 72 #[.agg (gV A (lenU D) C),.agg (gV B (lenU D) E)] w fun e w'=>e = .returned (.bool true) ∧ Below w.heap.size w w' :=
  (sameGrant_any A B (lenU D) C (lenU D) E _ _ w (gintsU h) (gintsU h')).mono (fun _ _ h=>⟨h.1.is_true (sameG_refl _ _),h.2⟩)
theorem keepGrantU_any (D:BD) (g:Nat) (G:Nat → Value) (c:Nat → Nat) (w:World) (n:Nat) (Li Lb Lo:List (Value × Nat)) (ws:List GW) (Eb Eo:List (Value × Value)) (A:Nat → Option Addr) (C:Nat → Nat) (hs:St c w g G n Li Lb Lo) (hw:Wt c w G ws Eb Eo)
    (hv:∀ q,q < 4 → RowC c w (1000 + 4 * ws.length + q) 3 1 (slU A (lenU D) C q) (lenU D q) (IL (intU D q))) (hk:∀ q,q < 4 → lenU D q ≤ 1000) (hl:ws.length ≤ 1000) :
    Calls (patch shutL Tryz.prog) 73 #[.pointer (some ⟨g,11,none⟩),.agg (gV A (lenU D) C)] w fun e w'=>e = .returned (.tuple #[]) ∧ ∃ c' G' x,St c' w' g G' n Li Lb Lo ∧ Wt c' w' G' (ws ++ [x]) Eb Eo ∧ (∀ j,j ≠ 18 → j ≠ 19 → G' j = G j) ∧ Turn (fun y=>y = 1 ∨ y = 8 ∨ y = 9) c w c' w':=by
  refine (keepGrant_any g G c w A (lenU D) C (intU D) ws hs.row hs.col hs.top hw.g (fun q hq=>⟨hv q hq,by have:=hk q hq; omega⟩) (by omega)).mono ?_
  rintro e w' ⟨he,c',G',x,k1,k2,k3,k4,_,_,_,_,k5⟩
  have k6:=kept_grant hs hw k1 k2 k3 k4 k5
  exact ⟨he,c',G',x,k6.1,k6.2,k3,k5⟩
theorem lenU_le {D:BD} (hok:D.ok) {q:Nat} (hq:q < 4):lenU D q ≤ 24:=by
  unfold lenU usN
  by_cases h0:q = 0
  · rw [if_pos h0]; exact Nat.le_trans (freeN_le _ _) hok.few
  · rw [if_neg h0]
    have:=(hok.devs (q - 1) (by omega)).1
    exact Nat.le_trans (List.length_filter_le _ _) (by simp; omega)
end Go.Proofs.YtojoafcnijajmaaGreatDoor.Z

namespace Go.Proofs.YtojoafcnijajmaaGreatDoor.Z
open Go.RowKit
attribute [local go_sem ↓] Go.wp_at_zero Go.wp_at_succ
structure Three (c:Nat → Nat) (w:World) (base bb ww cw qw:Nat) (m:Mach) (vc vr:Value) (D:BD) (d e:Nat → Value) (K:Nat → Nat):Prop where
  berth:BSide w base bb m vc vr D d K
  world:WSide w base ww cw qw m D e K
  own:Own c w base K
theorem Three.turn {S:Nat → Prop} {c c':Nat → Nat} {w w':World} {base bb ww cw qw:Nat} {m:Mach} {vc vr:Value} {D:BD} {d e:Nat → Value} {K:Nat → Nat} (h:Three c w base bb ww cw qw m vc vr D d e K) (t:Turn S c w c' w') (h0:¬ S 0):Three c' w' base bb ww cw qw m vc vr D d e K :=
  ⟨h.berth.turn h.own t h0,h.world.turn h.own t h0,(h.own.turn t h0).1⟩
structure Inv (g base bb ww cw qw:Nat) (m:Mach) (vc vr:Value) (D:BD) (d e:Nat → Value) (K:Nat → Nat) (c:Nat → Nat) (w:World) (G:Nat → Value) (n:Nat) (Li Lb Lo:List (Value × Nat)) (ws:List GW) (Eb Eo:List (Value × Value)):Prop where
  st:St c w g G n Li Lb Lo
  wt:Wt c w G ws Eb Eo
  three:Three c w base bb ww cw qw m vc vr D d e K
  g0:G 0 = .pointer (some ⟨bb,0,none⟩)
  g1:G 1 = .pointer (some ⟨ww,0,none⟩)
  g6:∃ oa oc,G 6 = .slice oa 0 oc
def InvE (g base bb ww cw qw:Nat) (m:Mach) (vc vr:Value) (D:BD) (d e:Nat → Value) (K:Nat → Nat) (N:Nat) (c:Nat → Nat) (w:World):Prop :=
  ∃ G n Li Lb Lo ws Eb Eo,Inv g base bb ww cw qw m vc vr D d e K c w G n Li Lb Lo ws Eb Eo ∧ n ≤ N ∧ Li.length ≤ N ∧ Lb.length ≤ N ∧ Lo.length ≤ N ∧ ws.length + Eb.length + Eo.length ≤ 7
section
variable {g base bb ww cw qw:Nat} {m:Mach} {vc vr:Value} {D:BD} {d e:Nat → Value} {K:Nat → Nat} {c:Nat → Nat} {w:World} {G:Nat → Value} {n:Nat} {Li Lb Lo:List (Value × Nat)} {ws:List GW} {Eb Eo:List (Value × Value)}
theorem refusedD_any (h:Inv g base bb ww cw qw m vc vr D d e K c w G n Li Lb Lo ws Eb Eo) (h3:Eo.length ≤ 1000) :
    Calls (patch shutL Tryz.prog) 37 #[.pointer (some ⟨g,0,none⟩)] w fun e' w'=>e' = .returned (.bool true) ∧ ∃ c' G',Inv g base bb ww cw qw m vc vr D d e K c' w' G' n Li Lb Lo ws Eb (Eo ++ [(.slice none 0 0,.slice none 0 0),(.slice none 0 0,.slice none 0 0)]) ∧ Turn (fun z=>z = 1 ∨ z = 12 ∨ z = 13) c w c' w':=by
  obtain ⟨oa,oc,g6⟩:=h.g6
  refine (refused0_any g bb G c w n Li Lb Lo ws Eb Eo oa oc h.st h.wt h.g0 g6 h3 (h.three.berth.cell 7)).mono ?_
  rintro e' w' ⟨he,c',G',oa',oc',k1,k2,k3,k4,k5⟩
  exact ⟨he,c',G',⟨k1,k2,h.three.turn k5 (by omega),(k4 0 (by omega) (by omega)).trans h.g0,(k4 1 (by omega) (by omega)).trans h.g1,oa',oc',k3⟩,k5⟩
theorem looksD_book (h:Inv g base bb ww cw qw m vc vr D d e K c w G n Li Lb Lo ws Eb Eo) {N:Nat} (hl:ws.length + Eb.length + Eo.length ≤ 20) (hN:N ≤ 100000000000) (h1:n ≤ N) (h2:Li.length ≤ N) (h3:Lb.length ≤ N) (h4:Lo.length ≤ N) :
    Calls (patch shutL Tryz.prog) 16 #[.pointer (some ⟨g,11,none⟩)] w fun e' w'=>e' = .returned (.bool true) ∧ ∃ c',InvE g base bb ww cw qw m vc vr D d e K (N + 400) c' w' ∧ Turn (fun z=>z ≠ 0 ∧ z ≠ 14) c w c' w':=by
  refine (looksB_any g G c w n Li Lb Lo ws Eb Eo h.st h.wt hl (by omega) (by omega) (by omega) (by omega)).mono ?_
  rintro e' w' ⟨he,c',G',hk,hG⟩
  obtain ⟨n',Li',Lb',Lo',ws',Eb',Eo',k1,k2,k3,k4,k5,k6,k7⟩:=hk.ex
  obtain ⟨oa,oc,g6⟩:=h.g6
  exact ⟨he,c',⟨G',n',Li',Lb',Lo',ws',Eb',Eo',⟨k1,k2,h.three.turn hk.turn (fun h=>h.1 rfl),(hG 0 (by omega)).trans h.g0,(hG 1 (by omega)).trans h.g1,oa,oc,(hG 6 (by omega)).trans g6⟩,by omega,by omega,by omega,by omega,k7⟩,hk.turn⟩
end
theorem gV_gC (A:Nat → Option Addr) (N C:Nat → Nat):gC (slU A N C) = gV A N C:=rfl
theorem gV_apart {D:BD} {w w':World} {A:Nat → Option Addr} {C:Nat → Nat} (h:Told4 D w w' (slU A (lenU D) C)):(∀ q,q < 4 → w'.ownsRow w.heap.size 3 1 (slU A (lenU D) C q) (lenU D q) (IL (intU D q))):=fun q hq=>by
  rw [← intU_eq]
  exact h.rows q hq
set_option maxRecDepth 100000 in
set_option maxHeartbeats 4000000 in
theorem gameLooksD_any (g base bb ww cw qw:Nat) (m:Mach) (vc vr:Value) (D:BD) (d e:Nat → Value) (K:Nat → Nat) (G:Nat → Value) (c:Nat → Nat) (w:World) (n N:Nat) (Li Lb Lo:List (Value × Nat)) (ws:List GW) (Eb Eo:List (Value × Value)) (h:Inv g base bb ww cw qw m vc vr D d e K c w G n Li Lb Lo ws Eb Eo)
    (hl:ws.length + Eb.length + Eo.length ≤ 7) (hN:N ≤ 100000000000) (h1:n ≤ N) (h2:Li.length ≤ N) (h3:Lb.length ≤ N) (h4:Lo.length ≤ N) :
    Calls (patch shutL Tryz.prog) 32 #[.pointer (some ⟨g,0,none⟩)] w fun e' w'=>e' = .returned (.bool true) ∧ ∃ c',InvE g base bb ww cw qw m vc vr D d e K (N + 400) c' w' ∧ Turn (fun z=>z ≠ 0 ∧ z ≠ 14) c w c' w':=by
  obtain ⟨hs,hw,h3',h0,hg1,g6⟩:=h
  have hok:=h3'.berth.ok
  have q0:=hs.row.cell (i:=0) (by omega)
  have q1:=hs.row.cell (i:=1) (by omega)
  rw [h0] at q0
  rw [hg1] at q1
  have y6:w.cell? ⟨ww,6,none⟩ = some (.slice none 0 0):=h3'.world.cell 6
  have y7:w.cell? ⟨bb,6,none⟩ = some (.slice none 0 0):=h3'.berth.cell 6
  have H0:=Hid.in (And.intro hs (And.intro hw h3'))
  have HG:=Hid.in (And.intro h0 (And.intro hg1 g6))
  have HN:=Hid.in (And.intro hl (And.intro hN (And.intro h1 (And.intro h2 (And.intro h3 h4)))))
  have HO:=Hid.in hok
  clear hs hw h3' h0 hg1 g6 hl hN h1 h2 h3 h4 hok
  go_enter (pf Tryz.func32 (by rfl)),Tryz.ntmps32
  go_wp2_with (first
    | (go_at_call 66; refine (berthBoxes_any bb w y7).mono ?_; rintro e w1 ⟨rfl,hw1⟩; obtain rfl:=hw1.symm)
    | (go_at_call 67; refine (worldBoxes_any ww none 0 0 w y6).mono ?_; rintro e w1 ⟨rfl,hw1⟩; obtain rfl:=hw1.symm)
    | (go_at_call 68; refine (sameBoxes0_any _ _ _ _ _).mono ?_; rintro e w1 ⟨rfl,hw1⟩; obtain rfl:=hw1.symm))
  go_wp2_with (go_at_call 69; refine Calls.mono (keepBoxes0_any g G c w (.slice none 0 0) Eb H0.out.1.row H0.out.1.col H0.out.1.top H0.out.2.1.b (RowC.nil _ _ _ _ _) (by have:=HN.out.1; omega)) ?_; rintro e w1 ⟨rfl,c1,G1,k1,k2,k3,k4,k5⟩; have k6:=kept_boxes H0.out.1 H0.out.2.1 k1 k2 k3 k4 k5; have p0:=k1.cell (i:=0) (by omega); rw [k3 0 (by omega) (by omega),HG.out.1] at p0; have p1:=k1.cell (i:=1) (by omega); rw [k3 1 (by omega) (by omega),HG.out.2.1] at p1; have H1:=Hid.in (And.intro k6.1 (And.intro k6.2 (And.intro k3 (And.intro (H0.out.2.2.turn k5 (by omega)) k5)))); clear k1 k2 k3 k4 k5 k6)
  go_wp2_with (go_at_call 69; refine Calls.mono (keepBoxes0_any g G1 c1 w1 (.slice none 0 0) _ H1.out.1.row H1.out.1.col H1.out.1.top H1.out.2.1.b (RowC.nil _ _ _ _ _) (by have:=HN.out.1; simp; omega)) ?_; rintro e w2 ⟨rfl,c2,G2,k1,k2,k3,k4,k5⟩; have k6:=kept_boxes H1.out.1 H1.out.2.1 k1 k2 k3 k4 k5; have v0:=k1.cell (i:=0) (by omega); rw [k3 0 (by omega) (by omega),H1.out.2.2.1 0 (by omega) (by omega),HG.out.1] at v0; have v1:=k1.cell (i:=1) (by omega); rw [k3 1 (by omega) (by omega),H1.out.2.2.1 1 (by omega) (by omega),HG.out.2.1] at v1; have H2:=Hid.in (And.intro k6.1 (And.intro k6.2 (And.intro k3 (And.intro (H1.out.2.2.2.1.turn k5 (by omega)) k5)))); clear k1 k2 k3 k4 k5 k6)
  clear p0 p1 q0 q1 y6 y7
  have gl2:g < w2.heap.size:=H2.out.1.row.lt
  go_wp2_with fail
  refine Calls.mono (berthFreeD_any bb D w2 H2.out.2.2.2.1.berth.berthC HO.out) ?_
  rintro e w3 ⟨V3,rfl,t3⟩
  obtain ⟨A3,C3,eV,tt⟩:=told_shape t3
  clear t3
  have t3:=tt
  clear tt
  rw [eV,gV_gC]
  clear eV V3
  have u0:=(t3.below.cell (p:=⟨g,0,none⟩) gl2).trans v0
  have u1:=(t3.below.cell (p:=⟨g,1,none⟩) gl2).trans v1
  have gl3:g < w3.heap.size:=Nat.lt_of_lt_of_le gl2 t3.below.size
  have H3:=Hid.in t3
  clear t3 v0 v1
  unfold gV
  generalize hL:lenU D = L
  go_wp2_with fail
  obtain ⟨W3,hW3⟩ : ∃ W,W = w3.alloc (.cells #[.slice (A3 0) (L 0) (C3 0),.slice (A3 1) (L 1) (C3 1),.slice (A3 2) (L 2) (C3 2),.slice (A3 3) (L 3) (C3 3)] 44):=⟨_,rfl⟩
  obtain ⟨e8,he8⟩ : ∃ e,e = w3.heap.size:=⟨_,rfl⟩
  have B3:Below w3.heap.size w3 W3:=by rw [hW3]; exact (Below.refl _ _).alloc (Nat.le_refl _) _
  have K8:W3.heap[e8]? = some (.cells (gV A3 L C3) 44 (0,0)):=by rw [hW3,he8]; exact heap_alloc_new _ _
  have S3:e8 < W3.heap.size:=(Array.getElem?_eq_some_iff.1 K8).1
  have u0':=(B3.cell (p:=⟨g,0,none⟩) gl3).trans u0
  have u1':=(B3.cell (p:=⟨g,1,none⟩) gl3).trans u1
  have gl3':g < W3.heap.size:=Nat.lt_of_lt_of_le gl3 B3.size
  have H4:=Hid.in (show Below w2.heap.size w2 W3 ∧ W3.heap[e8]? = some (.cells (gV A3 (lenU D) C3) 44 (0,0)) ∧ w2.heap.size ≤ e8 ∧ (∀ q,q < 4 → W3.ownsRow w2.heap.size 3 1 (slU A3 (lenU D) C3 q) (lenU D q) (IL (intU D q))) from
    ⟨ext_trans H3.out.below B3,by rw [hL]; exact K8,by rw [he8]; exact H3.out.below.size,fun q hq=>ownsRow_below (gV_apart H3.out q hq) B3⟩)
  have HX:=Hid.in H3.out.apart
  rw [← hW3,← he8]
  clear hW3 he8 B3 K8 u0 u1 gl3 H3
  clear w3
  refine Calls.mono (berthFreeD_any bb D W3 (H2.out.2.2.2.1.turn ((Turn.refl (S:=fun _=>False) H2.out.1.top).below H4.out.1) (fun h=>h)).berth.berthC HO.out) ?_
  rintro e w4 ⟨V4,rfl,t4⟩
  obtain ⟨A4,C4,eV,tt⟩:=told_shape t4
  clear t4
  have t4:=tt
  clear tt
  rw [eV,gV_gC]
  clear eV V4
  have u0:=(t4.below.cell (p:=⟨g,0,none⟩) gl3').trans u0'
  have u1:=(t4.below.cell (p:=⟨g,1,none⟩) gl3').trans u1'
  have gl4:g < w4.heap.size:=Nat.lt_of_lt_of_le gl3' t4.below.size
  have H5:=Hid.in t4
  clear t4 u0' u1'
  unfold gV
  rw [hL]
  go_wp2_with fail
  obtain ⟨W4,hW4⟩ : ∃ W,W = w4.alloc (.cells #[.slice (A4 0) (L 0) (C4 0),.slice (A4 1) (L 1) (C4 1),.slice (A4 2) (L 2) (C4 2),.slice (A4 3) (L 3) (C4 3)] 44):=⟨_,rfl⟩
  obtain ⟨e9,he9⟩ : ∃ e,e = w4.heap.size:=⟨_,rfl⟩
  have B4:Below w4.heap.size w4 W4:=by rw [hW4]; exact (Below.refl _ _).alloc (Nat.le_refl _) _
  have K9:W4.heap[e9]? = some (.cells (gV A4 L C4) 44 (0,0)):=by rw [hW4,he9]; exact heap_alloc_new _ _
  have u0':=(B4.cell (p:=⟨g,0,none⟩) gl4).trans u0
  have u1':=(B4.cell (p:=⟨g,1,none⟩) gl4).trans u1
  have B34:Below W3.heap.size W3 W4:=ext_trans H5.out.below B4
  have H6:=Hid.in (show Below w2.heap.size w2 W4 ∧ W4.heap[e8]? = some (.cells (gV A3 (lenU D) C3) 44 (0,0)) ∧ w2.heap.size ≤ e8 ∧ (∀ q,q < 4 → W4.ownsRow w2.heap.size 3 1 (slU A3 (lenU D) C3 q) (lenU D q) (IL (intU D q))) ∧
      W4.heap[e9]? = some (.cells (gV A4 (lenU D) C4) 44 (0,0)) ∧ w2.heap.size ≤ e9 ∧ ∃ B,(∀ q,q < 4 → ∀ b,(slU A3 (lenU D) C3 q).ownBlock = some b → b < B) ∧ w2.heap.size ≤ B ∧ ∀ q,q < 4 → W4.ownsRow B 3 1 (slU A4 (lenU D) C4 q) (lenU D q) (IL (intU D q)) from
    ⟨ext_trans H4.out.1 B34,(B34.block _ S3).trans H4.out.2.1,H4.out.2.2.1,fun q hq=>ownsRow_below (H4.out.2.2.2 q hq) B34,by rw [hL]; exact K9,by rw [he9]; exact Nat.le_trans H4.out.1.size H5.out.below.size,
      W3.heap.size,fun q hq b hb=>((H4.out.2.2.2 q hq).lt b hb).2,H4.out.1.size,fun q hq=>ownsRow_below (gV_apart H5.out q hq) B4⟩)
  have HZ:=Hid.in H5.out.apart
  rw [← hW4,← he9]
  clear hW4 he9 B4 K9 u0 u1 gl4 H4 H5 B34 S3
  clear w4
  refine Calls.mono (worldFreeD_any m base ww cw qw D _ K W4 (H2.out.2.2.2.1.turn ((Turn.refl (S:=fun _=>False) H2.out.1.top).below H6.out.1) (fun h=>h)).world) ?_
  rintro e w5 ⟨V5,rfl,t5⟩
  obtain ⟨A5,C5,eV,tt⟩:=told_shape t5
  clear t5
  have t5:=tt
  clear tt
  rw [eV,gV_gC]
  clear eV V5
  have H7:=Hid.in t5
  clear t5 u0' u1'
  unfold gV
  rw [hL]
  have l8:e8 < w5.heap.size:=Nat.lt_of_lt_of_le (Array.getElem?_eq_some_iff.1 H6.out.2.1).1 H7.out.below.size
  have l9:e9 < w5.heap.size:=Nat.lt_of_lt_of_le (Array.getElem?_eq_some_iff.1 H6.out.2.2.2.2.1).1 H7.out.below.size
  have z8:=(blk ((H7.out.below.block _ (Array.getElem?_eq_some_iff.1 H6.out.2.1).1).trans H6.out.2.1)).1
  have z9:=(blk ((H7.out.below.block _ (Array.getElem?_eq_some_iff.1 H6.out.2.2.2.2.1).1).trans H6.out.2.2.2.2.1)).1
  unfold gV at z8 z9
  rw [hL] at z8 z9
  go_wp2_with fail
  obtain ⟨W5,hW5⟩ : ∃ W,W = w5.alloc (.cells #[.slice (A5 0) (L 0) (C5 0),.slice (A5 1) (L 1) (C5 1),.slice (A5 2) (L 2) (C5 2),.slice (A5 3) (L 3) (C5 3)] 44):=⟨_,rfl⟩
  obtain ⟨e10,he10⟩ : ∃ e,e = w5.heap.size:=⟨_,rfl⟩
  have B5:Below w5.heap.size w5 W5:=by rw [hW5]; exact (Below.refl _ _).alloc (Nat.le_refl _) _
  have K10:W5.heap[e10]? = some (.cells (gV A5 L C5) 44 (0,0)):=by rw [hW5,he10]; exact heap_alloc_new _ _
  have B45:Below W4.heap.size W4 W5:=ext_trans H7.out.below B5
  have HL:=Hid.in (show Tell3 D w2 W5 e8 e9 e10 A3 A4 A5 C3 C4 C5 from ⟨ext_trans H6.out.1 B45,fun q hq=>ownsRow_below (H6.out.2.2.2.1 q hq) B45,HX.out,
    ⟨H6.out.2.2.2.2.2.2.choose,H6.out.2.2.2.2.2.2.choose_spec.1,H6.out.2.2.2.2.2.2.choose_spec.2.1,fun q hq=>ownsRow_below (H6.out.2.2.2.2.2.2.choose_spec.2.2 q hq) B45⟩,HZ.out,fun q hq=>ownsRow_base (ownsRow_below (gV_apart H7.out q hq) B5) (Nat.zero_le _),
    (B45.block _ (Array.getElem?_eq_some_iff.1 H6.out.2.1).1).trans H6.out.2.1,(B45.block _ (Array.getElem?_eq_some_iff.1 H6.out.2.2.2.2.1).1).trans H6.out.2.2.2.2.1,by rw [hL]; exact K10⟩)
  have Hl:=Hid.in (And.intro H6.out.2.2.1 H6.out.2.2.2.2.2.1)
  rw [← hW5,← he10]
  clear hW5 he10 B5 K10 B45 H6 H7 z8 z9 l8 l9 HX HZ
  clear w5
  clear gl3'
  clear W3 W4
  have HS1:=Hid.in (fun (W:World) (hT:Tell3 D w2 W e8 e9 e10 A3 A4 A5 C3 C4 C5)=>sameGrantU_any D A3 A5 C3 C5 _ _ W hT.x hT.y)
  have HS2:=Hid.in (fun (W:World) (hT:Tell3 D w2 W e8 e9 e10 A3 A4 A5 C3 C4 C5)=>sameGrantU_any D A4 A5 C4 C5 _ _ W hT.z.choose_spec.2.2 hT.y)
  unfold gV at HS1 HS2
  rw [hL] at HS1 HS2
  refine Calls.mono (HS1.out W5 HL.out) ?_
  rintro e W6 ⟨rfl,b6⟩
  have HL6:=Hid.in (HL.out.mono b6)
  clear b6 HL
  clear W5
  have z9:=(blk HL6.out.k9).1
  have z10:=(blk HL6.out.k10).1
  unfold gV at z9 z10
  rw [hL] at z9 z10
  go_wp2_with fail
  clear z9 z10
  refine Calls.mono (HS2.out W6 HL6.out) ?_
  rintro e W7 ⟨rfl,b7⟩
  have HL7:=Hid.in (HL6.out.mono b7)
  clear b7 HL6 HS1 HS2
  clear W6
  obtain ⟨c3,t3,rx,rz,y8,y9⟩:=tell3_dye (c:=c2) (k:=1000 + 4 * ws.length) HL7.out Hl.out.1 Hl.out.2
  have H8:Hid (St c3 W7.drew g G2 n Li Lb Lo ∧ Wt c3 W7.drew G2 ws (Eb ++ [(Value.slice none 0 0,Value.slice none 0 0)] ++ [(Value.slice none 0 0,Value.slice none 0 0)]) Eo ∧ (∀ q,q < 4 → RowC c3 W7.drew (1000 + 4 * ws.length + q) 3 1 (slU A3 (lenU D) C3 q) (lenU D q) (IL (intU D q))) ∧ (∀ q,q < 4 → RowC c3 W7.drew (1000 + 4 * ws.length + 4 + q) 3 1 (slU A4 (lenU D) C4 q) (lenU D q) (IL (intU D q))) ∧ Three c3 W7.drew base bb ww cw qw m vc vr D d _ K ∧ Turn (fun _=>False) c2 w2 c3 W7.drew ∧ c3 e8 = 0 ∧ c3 e9 = 0 ∧ W7.drew.heap[e9]? = some (.cells (gV A4 (lenU D) C4) 44 (0,0))) :=
    ⟨H2.out.1.turn t3.drew (fun _ _ _ h=>h),H2.out.2.1.turn t3.drew (fun _ _ h=>h),fun q hq=>(rx q hq).turn (Turn.refl (S:=fun _=>False) t3.top).drew (fun h=>h),fun q hq=>(rz q hq).turn (Turn.refl (S:=fun _=>False) t3.top).drew (fun h=>h),H2.out.2.2.2.1.turn t3.drew (fun h=>h),t3.drew,y8,y9,HL7.out.k9⟩
  have z8:=(blk HL7.out.k8).1
  unfold gV at z8
  rw [hL] at z8
  clear t3 rx rz y8 y9 HL7
  have HK1:=Hid.in (keepGrantU_any D g G2 c3 W7.drew n Li Lb Lo ws _ _ A3 C3 H8.out.1 H8.out.2.1 H8.out.2.2.1 (fun q hq=>by have:=lenU_le HO.out hq; omega) (by have:=HN.out.1; omega))
  unfold gV at HK1
  rw [hL] at HK1
  go_wp2_with fail
  go_region_law (go_simp; go_at_call 73; refine Calls.mono HK1.out ?_; rintro e W8 ⟨rfl,c4,G4,x8,k1,k2,k3,k4⟩; have H9:=Hid.in (And.intro k1 (And.intro k2 (And.intro k3 (And.intro (fun q hq=>(H8.out.2.2.2.1 q hq).turn k4 (by omega)) (And.intro (H8.out.2.2.2.2.1.turn k4 (by omega)) (And.intro k4 (k4.blk0 (by omega) H8.out.2.2.2.2.2.2.2.1 H8.out.2.2.2.2.2.2.2.2))))))); clear k1 k2 k3 k4; dsimp only)
  all_goals
    have td:Turn (fun _=>False) c4 W8 c4 W8.drew:=(Turn.refl H9.out.1.top).drew
    have H10:=Hid.in (And.intro (H9.out.1.turn td (fun _ _ _ h=>h)) (And.intro (H9.out.2.1.turn td (fun _ _ h=>h)) (And.intro (fun q hq=>(H9.out.2.2.2.1 q hq).turn td (fun h=>h)) (And.intro (H9.out.2.2.2.2.1.turn td (fun h=>h)) H9.out.2.2.2.2.2.1.drew))))
    clear z8 td
    have z9:=(blk H9.out.2.2.2.2.2.2.2).1
    unfold gV at z9
    rw [hL] at z9
    have HK2:=Hid.in (keepGrantU_any D g G4 c4 W8.drew n Li Lb Lo (ws ++ [x8]) _ _ A4 C4 H10.out.1 H10.out.2.1 (fun q hq=>by
      have:=H10.out.2.2.1 q hq
      rw [show 1000 + 4 * (ws ++ [x8]).length + q = 1000 + 4 * ws.length + 4 + q by simp; omega]
      exact this) (fun q hq=>by have:=lenU_le HO.out hq; omega) (by have:=HN.out.1; simp; omega))
    unfold gV at HK2
    rw [hL] at HK2
    go_wp2_with fail
    go_region_law (go_simp; go_at_call 73; refine Calls.mono HK2.out ?_; rintro e W9 ⟨rfl,c5,G5,x9,k1,k2,k3,k4⟩; have H11:=Hid.in (And.intro k1 (And.intro k2 (And.intro k3 (And.intro (H10.out.2.2.2.1.turn k4 (by omega)) k4)))); clear k1 k2 k3 k4; dsimp only)
    all_goals
      clear z9
      have hG5:∀ j,j < 11 → G5 j = G j:=fun j hj=>(H11.out.2.2.1 j (by omega) (by omega)).trans ((H9.out.2.2.1 j (by omega) (by omega)).trans ((H2.out.2.2.1 j (by omega) (by omega)).trans (H1.out.2.2.1 j (by omega) (by omega))))
      have HI:=Hid.in (show Inv g base bb ww cw qw m vc vr D d _ K c5 W9 G5 n Li Lb Lo _ _ Eo from ⟨H11.out.1,H11.out.2.1,H11.out.2.2.2.1,(hG5 0 (by omega)).trans HG.out.1,(hG5 1 (by omega)).trans HG.out.2.1,HG.out.2.2.choose,HG.out.2.2.choose_spec.choose,(hG5 6 (by omega)).trans HG.out.2.2.choose_spec.choose_spec⟩)
      clear hG5
      go_wp2_with (go_at_call 37; refine Calls.mono (refusedD_any HI.out (by have:=HN.out.1; omega)) ?_; rintro e W10 ⟨rfl,c6,G6,k1,k2⟩; have H12:=Hid.in (And.intro k1 k2); clear k1 k2)
      go_wp2_with (go_at_call 16; refine Calls.mono (looksD_book (N:=N) H12.out.1 (by have:=HN.out.1; simp; omega) HN.out.2.1 HN.out.2.2.1 HN.out.2.2.2.1 HN.out.2.2.2.2.1 HN.out.2.2.2.2.2) ?_; rintro e W11 ⟨rfl,c7,k1,k2⟩; have H13:=Hid.in (And.intro k1 k2); clear k1 k2)
      go_ret
      refine ⟨rfl,c7,H13.out.1,?_⟩
      exact (((((H1.out.2.2.2.2.mono (by omega)).trans (H2.out.2.2.2.2.mono (by omega))).trans (H8.out.2.2.2.2.2.1.mono (fun _ h=>h.elim))).trans (H10.out.2.2.2.2.mono (by omega))).trans (H11.out.2.2.2.2.mono (by omega))).trans ((H12.out.2.mono (by omega)).trans H13.out.2)
end Go.Proofs.YtojoafcnijajmaaGreatDoor.Z
