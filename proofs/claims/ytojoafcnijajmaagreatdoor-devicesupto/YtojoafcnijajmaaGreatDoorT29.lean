/- Part 29 of the proof that Devices answers true and leaves its input as it was, for input of bulk at most the bound of its row: ZJ1 ZK0 ZK2. -/
import Derived.Test.YtojoafcnijajmaaGreatDoorT8
import Derived.Test.YtojoafcnijajmaaGreatDoorT27
import Derived.Test.YtojoafcnijajmaaGreatDoorT25
import Derived.Maps.AppendAt
import Derived.Deep.AppendLies
namespace Go.Proofs.YtojoafcnijajmaaGreatDoor.Z
open Go.RowKit
attribute [local go_sem ↓] Go.wp_at_zero Go.wp_at_succ
attribute [local go_sem] After.cell After.frozen After.const
def GVal (A:Nat → Option Addr) (N C:Nat → Nat):Value:=.agg #[.slice (A 0) (N 0) (C 0),.slice (A 1) (N 1) (C 1),.slice (A 2) (N 2) (C 2),.slice (A 3) (N 3) (C 3)]
def GInts (w:World) (A:Nat → Option Addr) (N C:Nat → Nat) (R:Nat → Nat → Int):Prop:=∀ q,q < 4 → Ints w (.slice (A q) (N q) (C q)) (N q) (R q)
theorem GInts.ext {w w':World} {A:Nat → Option Addr} {N C:Nat → Nat} {R:Nat → Nat → Int} (h:GInts w A N C R) (hb:Below w.heap.size w w'):GInts w' A N C R:=fun q hq=>(h q hq).ext hb
def sameG (N:Nat → Nat) (R:Nat → Nat → Int) (N':Nat → Nat) (R':Nat → Nat → Int) (k:Nat):Prop:=∀ q,q < k → sameI (N q) (R q) (N' q) (R' q)
theorem sameG.one {N N':Nat → Nat} {R R':Nat → Nat → Int}:sameG N R N' R' 1 ↔ sameI (N 0) (R 0) (N' 0) (R' 0):=by
  refine ⟨fun h=>h 0 (by omega),fun h q hq=>?_⟩
  obtain rfl:q = 0:=by omega
  exact h
theorem sameG.succ {N N':Nat → Nat} {R R':Nat → Nat → Int} {k:Nat} (h:sameG N R N' R' k) (hs:sameI (N k) (R k) (N' k) (R' k)):sameG N R N' R' (k + 1):=fun q hq=>by
  rcases Nat.lt_succ_iff_lt_or_eq.1 hq with h1 | h1
  · exact h q h1
  · subst h1; exact hs
theorem sameG.step_yes {r:Bool} {N N':Nat → Nat} {R R':Nat → Nat → Int} {k:Nat} (h:r = true ↔ sameG N R N' R' (k + 1)) (hs:sameI (N (k + 1)) (R (k + 1)) (N' (k + 1)) (R' (k + 1))):r = true ↔ sameG N R N' R' (k + 1 + 1) :=
  h.trans ⟨fun h=>h.succ hs,fun h q hq=>h q (by omega)⟩
theorem sameG.step_no {r:Bool} {N N':Nat → Nat} {R R':Nat → Nat → Int} {k:Nat} (_:r = true ↔ sameG N R N' R' (k + 1)) (hs:¬ sameI (N (k + 1)) (R (k + 1)) (N' (k + 1)) (R' (k + 1))):false = true ↔ sameG N R N' R' (k + 1 + 1) :=
  ⟨fun h=>(by cases h),fun h=>absurd (h (k + 1) (by omega)) hs⟩
set_option maxRecDepth 100000 in
set_option maxHeartbeats 4000000 in
theorem sameGrant_any (A A':Nat → Option Addr) (N C N' C':Nat → Nat) (R R':Nat → Nat → Int) (w:World) (h:GInts w A N C R) (h':GInts w A' N' C' R') :
    Calls (patch shutL Tryz.prog) 72 #[GVal A N C,GVal A' N' C'] w fun e w'=>Ans (sameG N R N' R' 4) e ∧ Below w.heap.size w w':=by
  unfold GVal
  obtain ⟨W0,hW0⟩ : ∃ W0,W0 = (w.alloc (.cells #[.slice (A 0) (N 0) (C 0),.slice (A 1) (N 1) (C 1),.slice (A 2) (N 2) (C 2),.slice (A 3) (N 3) (C 3)] 44)).alloc (.cells #[.slice (A' 0) (N' 0) (C' 0),.slice (A' 1) (N' 1) (C' 1),.slice (A' 2) (N' 2) (C' 2),.slice (A' 3) (N' 3) (C' 3)] 44):=⟨_,rfl⟩
  have hB0:Below w.heap.size w W0:=by rw [hW0]; exact ((Below.refl _ _).alloc (Nat.le_refl _) _).alloc (by simp) _
  have k0:W0.heap[w.heap.size]? = some (.cells #[.slice (A 0) (N 0) (C 0),.slice (A 1) (N 1) (C 1),.slice (A 2) (N 2) (C 2),.slice (A 3) (N 3) (C 3)] 44 (0,0)):=by rw [hW0]; exact heap_alloc2_old _ _ _
  have k1:W0.heap[w.heap.size + 1]? = some (.cells #[.slice (A' 0) (N' 0) (C' 0),.slice (A' 1) (N' 1) (C' 1),.slice (A' 2) (N' 2) (C' 2),.slice (A' 3) (N' 3) (C' 3)] 44 (0,0)):=by rw [hW0]; exact heap_alloc2_new _ _ _
  have hs0:w.heap.size + 1 < W0.heap.size:=by rw [hW0]; simp
  have HB:Hid (Below w.heap.size w W0 ∧ GInts W0 A N C R ∧ GInts W0 A' N' C' R'):=⟨hB0,h.ext hB0,h'.ext hB0⟩
  obtain ⟨q0,q0f⟩:=blk k0
  obtain ⟨q1,q1f⟩:=blk k1
  have HK:Hid (W0.heap[w.heap.size]? = some (.cells #[.slice (A 0) (N 0) (C 0),.slice (A 1) (N 1) (C 1),.slice (A 2) (N 2) (C 2),.slice (A 3) (N 3) (C 3)] 44 (0,0)) ∧ W0.heap[w.heap.size + 1]? = some (.cells #[.slice (A' 0) (N' 0) (C' 0),.slice (A' 1) (N' 1) (C' 1),.slice (A' 2) (N' 2) (C' 2),.slice (A' 3) (N' 3) (C' 3)] 44 (0,0))):=⟨k0,k1⟩
  clear hB0 h h' k0 k1
  go_enter (pf Tryz.func72 (by rfl)),Tryz.ntmps72
  go_wp2_with (go_at_call 144; rw [← hW0]; clear hW0; refine (sameInts_any _ _ (N 0) (N' 0) (R 0) (R' 0) W0 (HB.out.2.1 0 (by omega)) (HB.out.2.2 0 (by omega))).mono ?_; rintro e w1 ⟨he,hb1⟩; obtain ⟨r0,rfl,hr0⟩:=he; have H1:Hid (Below W0.heap.size W0 w1 ∧ (r0 = true ↔ sameG N R N' R' 1)):=⟨hb1,hr0.trans sameG.one.symm⟩; clear hb1 hr0)
  go_wp2_with fail
  go_loopw [5,6] (fun s i wr=>∃ q:Nat,q ≤ 3 ∧ i = .int .i64 q ∧ ∃ r:Bool,s = .bool r ∧ Below W0.heap.size W0 wr ∧ (r = true ↔ sameG N R N' R' (q + 1))) (fun _ i _=>3 - (intOf i).toNat)
  case atStart=>exact ⟨0,by omega,rfl,r0,rfl,H1.out.1,H1.out.2⟩
  case round =>
    obtain ⟨q,hq,rfl,r,rfl,hb,hr⟩:=hrel
    have HR:Hid (Below W0.heap.size W0 wr ∧ (r = true ↔ sameG N R N' R' (q + 1))):=⟨hb,hr⟩
    obtain ⟨y0,y0f⟩:=blk ((hb.block w.heap.size (by omega)).trans HK.out.1)
    obtain ⟨y1,y1f⟩:=blk ((hb.block (w.heap.size + 1) hs0).trans HK.out.2)
    have hz0:w.heap.size < wr.heap.size:=by have:=hb.size; omega
    have hz1:w.heap.size + 1 < wr.heap.size:=by have:=hb.size; omega
    clear q0 q0f q1 q1f hb hr
    by_cases hlt:q < 3
    · by_cases hS:sameI (N (q + 1)) (R (q + 1)) (N' (q + 1)) (R' (q + 1))
      · have HS:Hid (sameI (N (q + 1)) (R (q + 1)) (N' (q + 1)) (R' (q + 1))):=hS
        clear hS
        rcases (show q = 0 ∨ q = 1 ∨ q = 2 by omega) with rfl | rfl | rfl <;> (
          go_wp2_with (first | (go_at_call 185; go_enter (pf Tryz.func185 (by rfl)),Tryz.ntmps185) | (go_at_call 110; go_enter (pf Tryz.func110 (by rfl)),Tryz.ntmps110))
          refine wp_region_after (by kernel_rfl) (by kernel_rfl) ?_
          repeat (go_big_quiet_step (first | (go_at_call 144; exact Calls.after_yes HS.out (sameInts_any _ _ _ _ _ _ _ (((HB.out.2.1.ext HR.out.1).ext (After.later _)) _ (by omega)) (((HB.out.2.2.ext HR.out.1).ext (After.later _)) _ (by omega))))))
          refine wpQuiet_nil ?_
          rintro _ ⟨⟨w1,hw1⟩,rfl⟩
          cases r <;> (
            go_wp2_with (first | (go_at_call 185; go_enter (pf Tryz.func185 (by rfl)),Tryz.ntmps185) | (go_at_call 110; go_enter (pf Tryz.func110 (by rfl)),Tryz.ntmps110))
            go_roundw
            case rel=>exact ⟨_ + 1,by omega,by go_num,_,rfl,ext_trans HR.out.1 hw1,sameG.step_yes HR.out.2 HS.out⟩
            case measure=>simp [intOf]))
      · have HS:Hid (¬ sameI (N (q + 1)) (R (q + 1)) (N' (q + 1)) (R' (q + 1))):=hS
        clear hS
        rcases (show q = 0 ∨ q = 1 ∨ q = 2 by omega) with rfl | rfl | rfl <;> (
          go_wp2_with (first | (go_at_call 185; go_enter (pf Tryz.func185 (by rfl)),Tryz.ntmps185) | (go_at_call 110; go_enter (pf Tryz.func110 (by rfl)),Tryz.ntmps110))
          refine wp_region_after (by kernel_rfl) (by kernel_rfl) ?_
          repeat (go_big_quiet_step (first | (go_at_call 144; exact Calls.after_no HS.out (sameInts_any _ _ _ _ _ _ _ (((HB.out.2.1.ext HR.out.1).ext (After.later _)) _ (by omega)) (((HB.out.2.2.ext HR.out.1).ext (After.later _)) _ (by omega))))))
          refine wpQuiet_nil ?_
          rintro _ ⟨⟨w1,hw1⟩,rfl⟩
          cases r <;> (
            go_wp2_with (first | (go_at_call 185; go_enter (pf Tryz.func185 (by rfl)),Tryz.ntmps185) | (go_at_call 110; go_enter (pf Tryz.func110 (by rfl)),Tryz.ntmps110))
            go_roundw
            case rel=>exact ⟨_ + 1,by omega,by go_num,_,rfl,ext_trans HR.out.1 hw1,sameG.step_no HR.out.2 HS.out⟩
            case measure=>simp [intOf]))
    · have:q = 3:=by omega
      subst this
      go_wp2_with fail
      go_ret
      exact ⟨⟨r,rfl,HR.out.2⟩,ext_trans HB.out.1 HR.out.1⟩
end Go.Proofs.YtojoafcnijajmaaGreatDoor.Z

namespace Go.Proofs.YtojoafcnijajmaaGreatDoor.Z
open Go.RowKit
def Top (c:Nat → Nat) (w:World):Prop:=∀ k,w.heap.size ≤ k → c k = 0
structure Turn (S:Nat → Prop) (c:Nat → Nat) (w:World) (c':Nat → Nat) (w':World):Prop where
  os:w'.os = w.os
  tape:w'.tape = w.tape
  output:w'.output = w.output
  size:w.heap.size ≤ w'.heap.size
  keep:∀ k,k < w.heap.size → ¬ S (c k) → w'.heap[k]? = w.heap[k]? ∧ c' k = c k
  top:Top c' w'
theorem Turn.refl {S:Nat → Prop} {c:Nat → Nat} {w:World} (h:Top c w):Turn S c w c w:=⟨rfl,rfl,rfl,Nat.le_refl _,fun _ _ _=>⟨rfl,rfl⟩,h⟩
theorem Turn.trans {S:Nat → Prop} {c c' c'':Nat → Nat} {w w' w'':World} (h:Turn S c w c' w') (k:Turn S c' w' c'' w''):Turn S c w c'' w'' :=
  ⟨k.os.trans h.os,k.tape.trans h.tape,k.output.trans h.output,Nat.le_trans h.size k.size,fun b hb hs=>by
    obtain ⟨h1,h2⟩:=h.keep b hb hs
    obtain ⟨k1,k2⟩:=k.keep b (Nat.lt_of_lt_of_le hb h.size) (by rw [h2]; exact hs)
    exact ⟨k1.trans h1,k2.trans h2⟩,k.top⟩
theorem Turn.mono {S S':Nat → Prop} {c c':Nat → Nat} {w w':World} (h:Turn S c w c' w') (hs:∀ x,S x → S' x):Turn S' c w c' w' :=
  ⟨h.os,h.tape,h.output,h.size,fun b hb hn=>h.keep b hb (fun e=>hn (hs _ e)),h.top⟩
theorem Turn.drew {S:Nat → Prop} {c c':Nat → Nat} {w w':World} (h:Turn S c w c' w'):Turn S c w c' w'.drew:=⟨h.os,h.tape,h.output,h.size,h.keep,h.top⟩
theorem Turn.drewN {S:Nat → Prop} {c c':Nat → Nat} {w w':World} (h:Turn S c w c' w') (n:Nat):Turn S c w c' (w'.drewN n):=⟨h.os,h.tape,h.output,h.size,h.keep,h.top⟩
theorem Turn.below {S:Nat → Prop} {c c':Nat → Nat} {w w1 w':World} (h:Turn S c w c' w1) (hb:Below w1.heap.size w1 w'):Turn S c w c' w' :=
  ⟨hb.os.trans h.os,hb.tape.trans h.tape,hb.output.trans h.output,Nat.le_trans h.size hb.size,fun k hk hn=>by
    obtain ⟨h1,h2⟩:=h.keep k hk hn
    exact ⟨(hb.block k (Nat.lt_of_lt_of_le hk h.size)).trans h1,h2⟩,fun k hk=>h.top k (Nat.le_trans hb.size hk)⟩
def dye (c:Nat → Nat) (w w1:World) (f:Nat → Nat):Nat → Nat:=fun k=>if k < w.heap.size then c k else if k < w1.heap.size then f k else 0
theorem Turn.dyed {S:Nat → Prop} {c:Nat → Nat} {w w1:World} (hb:Below w.heap.size w w1) (f:Nat → Nat):Turn S c w (dye c w w1 f) w1 :=
  ⟨hb.os,hb.tape,hb.output,hb.size,fun k hk _=>⟨hb.block k hk,by unfold dye; rw [if_pos hk]⟩,fun k hk=>by unfold dye; have:=hb.size; rw [if_neg (by omega),if_neg (by omega)]⟩
theorem Turn.set {S:Nat → Prop} {c c':Nat → Nat} {w w1:World} (h:Turn S c w c' w1) {a:Addr} (ha:∀ k,k < w.heap.size → k = a.block → S (c k)) (v:Value):Turn S c w c' (w1.setCell a v) :=
  ⟨h.os,h.tape,h.output,by simpa using h.size,fun k hk hn=>by
    obtain ⟨h1,h2⟩:=h.keep k hk hn
    exact ⟨(Below.heap_setCell _ _ _ _ (fun e=>hn (ha k hk e))).trans h1,h2⟩,fun k hk=>h.top k (by simpa using hk)⟩
def RowC (c:Nat → Nat) (w:World) (x:Nat) (e size:Nat) (v:Value) (n:Nat) (xs:List Value):Prop:=w.ownsRow 0 e size v n xs ∧ ∀ b,v.ownBlock = some b → c b = x
theorem RowC.nil (c:Nat → Nat) (w:World) (x e size:Nat):RowC c w x e size (.slice none 0 0) 0 []:=⟨World.ownsRow_nil _ _ _ _,fun b h=>by cases h⟩
theorem ownsRow_of_block {w w':World} {base:Nat} {e:TypeId} {size:Nat} {v:Value} {n:Nat} {xs:List Value} (h:w.ownsRow base e size v n xs) (hb:∀ b,v.ownBlock = some b → w'.heap[b]? = w.heap[b]?):w'.ownsRow base e size v n xs:=by
  refine ⟨h.1,?_⟩
  rcases h.2 with h2 | ⟨g,cap,cur,hv,hg,hh,r⟩
  · exact .inl h2
  · exact .inr ⟨g,cap,cur,hv,hg,by rw [hb g (by rw [hv]; rfl)]; exact hh,r⟩
theorem RowC.lt {c:Nat → Nat} {w:World} {x e size:Nat} {v:Value} {n:Nat} {xs:List Value} (h:RowC c w x e size v n xs):∀ b,v.ownBlock = some b → b < w.heap.size:=fun b hb=>(h.1.lt b hb).2
theorem RowC.turn {S:Nat → Prop} {c c':Nat → Nat} {w w':World} {x e size:Nat} {v:Value} {n:Nat} {xs:List Value} (h:RowC c w x e size v n xs) (t:Turn S c w c' w') (hx:¬ S x):RowC c' w' x e size v n xs :=
  ⟨ownsRow_of_block h.1 (fun b hb=>(t.keep b (h.lt b hb) (by rw [h.2 b hb]; exact hx)).1),fun b hb=>by rw [(t.keep b (h.lt b hb) (by rw [h.2 b hb]; exact hx)).2]; exact h.2 b hb⟩
def Fill (sz:Nat) (pat:Nat → Value) (c:Nat → Nat) (w:World) (v:Value):Prop :=
  ∃ ao n cap,v = .slice ao n cap ∧ n ≤ cap ∧ cap ≤ maxLen ∧ (0 < n → ∃ b,ao = some ⟨b,0,none⟩ ∧ c b = 14 ∧ b < w.heap.size ∧ ∀ i j,i < n → j < sz → w.cell? ⟨b,i * sz + j,none⟩ = some (pat j))
theorem Fill.turn {S:Nat → Prop} {sz:Nat} {pat:Nat → Value} {c c':Nat → Nat} {w w':World} {v:Value} (h:Fill sz pat c w v) (t:Turn S c w c' w') (hx:¬ S 14):Fill sz pat c' w' v:=by
  obtain ⟨ao,n,cap,rfl,h1,h2,h3⟩:=h
  refine ⟨ao,n,cap,rfl,h1,h2,fun h0=>?_⟩
  obtain ⟨b,rfl,hc,hb,hcell⟩:=h3 h0
  obtain ⟨k1,k2⟩:=t.keep b hb (by rw [hc]; exact hx)
  exact ⟨b,rfl,k2.trans hc,Nat.lt_of_lt_of_le hb t.size,fun i j hi hj=>(World.cell?_of_block (w:=w) (a:=⟨b,i * sz + j,none⟩) k1).trans (hcell i j hi hj)⟩
structure MK (c:Nat → Nat) (w:World) (x xm:Nat) (e sz:Nat) (pat:Nat → Nat → Value) (v vm:Value) (L:List (Value × Nat)):Prop where
  rows:RowC c w x e 1 v L.length (L.map Prod.fst)
  marks:RowC c w xm 3 1 vm L.length (L.map (fun p=>Value.int .i64 (p.2:Int)))
  fill:∀ p,p ∈ L → Fill sz (pat p.2) c w p.1
  small:∀ p,p ∈ L → p.2 ≤ 1000000000000
theorem MK.turn {S:Nat → Prop} {c c':Nat → Nat} {w w':World} {x xm e sz:Nat} {pat:Nat → Nat → Value} {v vm:Value} {L:List (Value × Nat)} (h:MK c w x xm e sz pat v vm L) (t:Turn S c w c' w') (h1:¬ S x) (h2:¬ S xm) (h3:¬ S 14):MK c' w' x xm e sz pat v vm L :=
  ⟨h.rows.turn t h1,h.marks.turn t h2,fun p hp=>(h.fill p hp).turn t h3,h.small⟩
theorem append_turn {c:Nat → Nat} {w w1:World} {x e size:Nat} {v v':Value} {n n':Nat} {xs xs':List Value} (ht:Top c w) (h:RowC c w x e size v n xs) (hown:w1.ownsRow 0 e size v' n' xs') (hg:w.grownBy w1 v.ownBlock) (hat:v'.ownBlock = v.ownBlock ∨ v'.ownBlock = some w.heap.size) :
    ∃ c',Turn (fun y=>y = x) c w c' w1 ∧ RowC c' w1 x e size v' n' xs' ∧ (∀ k,k < w.heap.size → c' k = c k):=by
  refine ⟨fun k=>if v'.ownBlock = some k then x else c k,⟨hg.os,hg.tape,hg.output,hg.size,fun k hk hn=>⟨hg.block k hk (fun e=>hn (h.2 k e.symm)),?_⟩,fun k hk=>?_⟩,⟨hown,fun b hb=>by show (if v'.ownBlock = some b then x else c b) = x; rw [if_pos hb]⟩,fun k hk=>?_⟩
  · rcases hat with h1 | h1
    · rw [h1]
      by_cases h2:v.ownBlock = some k
      · rw [if_pos h2]; exact (h.2 k h2).symm
      · rw [if_neg h2]
    · rw [h1,if_neg (by intro e; have:=Option.some.inj e; omega)]
  · show (if v'.ownBlock = some k then x else c k) = 0
    rw [if_neg (fun e=>by have:=(hown.lt k e).2; omega)]
    exact ht k (Nat.le_trans hg.size hk)
  · show (if v'.ownBlock = some k then x else c k) = c k
    rcases hat with h1 | h1
    · rw [h1]
      by_cases h2:v.ownBlock = some k
      · rw [if_pos h2]; exact (h.2 k h2).symm
      · rw [if_neg h2]
    · rw [h1,if_neg (by intro e; have:=Option.some.inj e; omega)]
theorem append_lies {c:Nat → Nat} {w w1:World} {x e size:Nat} {v:Value} {n n' g cap H:Nat} {xs xs':List Value} (ht:Top c w) (h:RowC c w x e size v n xs) (hown:w1.ownsRow 0 e size (.slice (some ⟨g,0,none⟩) n' cap) n' xs') (hg:w.grownBy w1 v.ownBlock) (hat:v.ownBlock = some g ∨ g = H) (hH:w.heap.size = H) :
    ∃ c',Turn (fun y=>y = x) c w c' w1 ∧ RowC c' w1 x e size (.slice (some ⟨g,0,none⟩) n' cap) n' xs' ∧ (∀ k,k < w.heap.size → c' k = c k) :=
  append_turn ht h hown hg (by rcases hat with e | e
                               · exact .inl e.symm
                               · exact .inr (by rw [e,hH]; rfl))
theorem RowC.set {c:Nat → Nat} {w:World} {x e size:Nat} {v:Value} {n:Nat} {xs:List Value} (h:RowC c w x e size v n xs) {a:Addr} (ha:c a.block ≠ x) (u:Value):RowC c (w.setCell a u) x e size v n xs :=
  ⟨ownsRow_of_block h.1 (fun b hb=>Below.heap_setCell _ _ _ _ (fun e=>ha (by rw [← e]; exact h.2 b hb))),h.2⟩
theorem field_app {S:Nat → Prop} {c c':Nat → Nat} {w wr WA w1:World} {g j x e sz L L' g' cap T H:Nat} {G':Nat → Value} {xs xs':List Value} (hT:wr.rowIs g T 24 G') (hcg:c' g = 1) (htn:Turn S c w c' wr) (h1:S 1) (hx:S x) (hx1:x ≠ 1)
    (hm:RowC c' wr x e sz (G' j) L xs) (hA:Below wr.heap.size wr WA) (hown:w1.ownsRow 0 e sz (.slice (some ⟨g',0,none⟩) L' cap) L' xs') (hg:WA.grownBy w1 (G' j).ownBlock) (hat:(G' j).ownBlock = some g' ∨ g' = H) (hH:WA.heap.size = H) :
    ∃ c'',(w1.setCell ⟨g,j,none⟩ (.slice (some ⟨g',0,none⟩) L' cap)).rowIs g T 24 (fun i=>if i = j then .slice (some ⟨g',0,none⟩) L' cap else G' i) ∧ c'' g = 1 ∧
      RowC c'' (w1.setCell ⟨g,j,none⟩ (.slice (some ⟨g',0,none⟩) L' cap)) x e sz (.slice (some ⟨g',0,none⟩) L' cap) L' xs' ∧ Turn S c w c'' (w1.setCell ⟨g,j,none⟩ (.slice (some ⟨g',0,none⟩) L' cap)) ∧
      Turn (fun y=>y = 1 ∨ y = x) c' wr c'' (w1.setCell ⟨g,j,none⟩ (.slice (some ⟨g',0,none⟩) L' cap)) ∧ (∀ k,k < wr.heap.size → c'' k = c' k):=by
  have tA:Turn (fun _=>False) c' wr c' WA:=(Turn.refl htn.top).below hA
  have hmA:=hm.turn tA (fun h=>h)
  obtain ⟨c'',t1,rc,hk⟩:=append_lies tA.top hmA hown hg hat hH
  have hgl:g < wr.heap.size:=hT.lt
  have hgA:g < WA.heap.size:=Nat.lt_of_lt_of_le hgl hA.size
  have hg1:c'' g = 1:=(hk g hgA).trans hcg
  have r1:=(hT.of_block ((t1.keep g hgA (by rw [hcg]; exact fun e=>hx1 e.symm)).1.trans (tA.keep g hgl (fun h=>h)).1)).set j (.slice (some ⟨g',0,none⟩) L' cap)
  have tB:Turn (fun y=>y = 1 ∨ y = x) c' wr c'' (w1.setCell ⟨g,j,none⟩ (.slice (some ⟨g',0,none⟩) L' cap)) :=
    ((tA.mono (fun _ h=>h.elim)).trans (t1.mono (fun y h=>.inr h))).set (fun k _ e=>.inl (by rw [e]; exact hcg)) _
  exact ⟨c'',r1,hg1,rc.set (by rw [show (⟨g,j,none⟩ : Addr).block = g from rfl,hg1]; exact fun e=>hx1 e.symm) _,
    htn.trans (tB.mono (fun y h=>by rcases h with rfl | rfl <;> assumption)),tB,fun k hk'=>hk k (Nat.lt_of_lt_of_le hk' hA.size)⟩
end Go.Proofs.YtojoafcnijajmaaGreatDoor.Z

namespace Go.Proofs.YtojoafcnijajmaaGreatDoor.Z
open Go.RowKit
theorem own_set {w:World} {base e size n cap g i:Nat} {xs:List Value} (h:w.ownsRow base e size (.slice (some ⟨g,0,none⟩) n cap) n xs) (v:Value):(w.setCell ⟨g,i,none⟩ v).ownsRow base e size (.slice (some ⟨g,0,none⟩) n cap) n (xs.set i v):=by
  refine ⟨by rw [List.length_set]; exact h.1,?_⟩
  rcases h.2 with ⟨h1,_⟩ | ⟨g',cap',cur,hv,hb,hg,h1,h2,h3,h4⟩
  · cases h1
  · injection hv with e1 e2 e3
    injection e1 with e1
    injection e1 with e1
    subst e1
    subst e3
    refine .inr ⟨g,cap,cur.setIfInBounds i v,rfl,hb,blk_set v hg,h1,h2,by simpa using h3,?_⟩
    rw [← h4,Array.toList_setIfInBounds,List.take_set]
section
variable {P:Program} (w:World)
theorem run_append_keeps (t ty:TypeId) (base:Nat) (e:TypeId) (i:TypeInfo) (z:Value) (size bytes:Nat) (ht:P.underlying t = some (.slice e)) (hi:P.info? e = some i) (hz:i.zero = some z)
    (hsize:i.size = size) (hby:i.bytes = bytes) (hzs:z.cells.size = size) (hsz:0 < size)
    (v:Value) (n:Nat) (xs:List Value) (hown:w.ownsRow base e size v n xs)
    (ad:Addr) (m c:Nat) (news:List Value) (hl:news.length = m * size) (hnews:∀ j u,news[j]? = some u → w.cell? (ad.add j) = some u) (h1:∀ u ∈ news,u.oneCell' = true)
    (hm:0 < m) (h63:n + m ≤ maxLen) (hbytes:(n + m) * bytes ≤ 140737488355328) (hbase:base ≤ w.heap.size) (H:Nat) (hH:w.heap.size = H) :
    ∃ g cap w',(Builtin.append_ #[t,t] ty #[v,.slice (some ad) m c]).run P w = .ok (.slice (some ⟨g,0,none⟩) (n + m) cap) w' ∧
      w'.ownsRow base e size (.slice (some ⟨g,0,none⟩) (n + m) cap) (n + m) (xs ++ news) ∧ w.grownBy w' v.ownBlock ∧ (v = .slice (some ⟨g,0,none⟩) n cap ∨ (g = H ∧ w.grownBy w' none)) ∧ g < w'.heap.size:=by
  obtain ⟨g,cap,w',hr,h2,h3,h4,h5⟩:=run_append_lies (P:=P) w t ty base e i z size bytes ht hi hz hsize hby hzs hsz v n xs hown ad m c news hl hnews h1 hm h63 hbytes hbase H hH
  refine ⟨g,cap,w',hr,h2,h3,?_,h5⟩
  rcases hown.2 with ⟨rfl,rfl⟩ | ⟨g0,cap0,cur,rfl,hbg,hg,hnc,hcm,hcs,htake⟩
  · rcases h4 with h4 | h4
    · cases h4
    · exact .inr ⟨h4,h3⟩
  · subst hsize
    subst hby
    by_cases hroom:n + m ≤ cap0
    · have hfit:n * i.size + news.length ≤ cur.size:=by rw [hl,hcs,← Nat.add_mul]; exact Nat.mul_le_mul_right _ hroom
      have hr':=run_append_room (P:=P) w t ty e i ht hi g0 n cap0 cur hg ad m c news hl hnews h1 hroom hfit
      rw [hr'] at hr
      injection hr with e1 e2
      injection e1 with e1 _ e3
      injection e1 with e1
      injection e1 with e1
      left
      rw [← e1,← e3]
    · have holds:∀ j u,xs[j]? = some u → w.cell? ((⟨g0,0,none⟩ : Addr).add j) = some u:=hown.cells (g:=g0) rfl
      have hsmall:n + m ≤ 9223372036854775807:=by simp only [maxLen] at h63; omega
      have hr':=run_append_grow (P:=P) w t ty e i z ht hi hz ⟨g0,0,none⟩ n cap0 xs hown.1 holds ad m c news hl hnews (by omega) (by omega) (growslice_fits (by omega) hbytes)
      rw [hr'] at hr
      injection hr with e1 e2
      injection e1 with e1
      injection e1 with e1
      injection e1 with e1
      subst e2
      exact .inr ⟨by rw [← e1,hH],⟨rfl,rfl,rfl,by simp,fun k hk _=>heap_alloc_old w.drew _ hk⟩⟩
theorem wp_append_keeps {o:Oper} {a:Act} {K:Act → World → Prop} {Q:Exit → Act → World → Prop} (s x:Operand) (t:TypeId)
    (ho:o.op = .call { callee:=.builtin .append,args:=#[s,x],argTypes:=#[t,t] })
    (base:Nat) (e:TypeId) (i:TypeInfo) (z:Value) (size bytes:Nat) (ht:P.underlying t = some (.slice e)) (hi:P.info? e = some i) (hz:i.zero = some z)
    (hsize:i.size = size) (hby:i.bytes = bytes) (hzs:z.cells.size = size) (hsz:0 < size)
    (v:Value) (n:Nat) (xs:List Value) (hs:a.eval s = v) (hown:w.ownsRow base e size v n xs)
    (ad:Addr) (m c:Nat) (news:List Value) (hx:a.eval x = .slice (some ad) m c) (hl:news.length = m * size) (hnews:∀ j u,news[j]? = some u → w.cell? (ad.add j) = some u) (h1:∀ u ∈ news,u.oneCell' = true)
    (hm:0 < m) (h63:n + m ≤ maxLen) (hbytes:(n + m) * bytes ≤ 140737488355328) (hbase:base ≤ w.heap.size) (H:Nat) (hH:w.heap.size = H)
    (h:∀ g cap w',w'.ownsRow base e size (.slice (some ⟨g,0,none⟩) (n + m) cap) (n + m) (xs ++ news) → w.grownBy w' v.ownBlock → (v = .slice (some ⟨g,0,none⟩) n cap ∨ (g = H ∧ w.grownBy w' none)) → g < w'.heap.size → K (a.put o.dst (.slice (some ⟨g,0,none⟩) (n + m) cap)) w'):o.wp P a w K Q:=by
  obtain ⟨g,cap,w',hr,h2,h3,h4,h5⟩:=run_append_keeps (P:=P) w t o.type base e i z size bytes ht hi hz hsize hby hzs hsz v n xs hown ad m c news hl hnews h1 hm h63 hbytes hbase H hH
  unfold Oper.wp execOp
  simp only [ho,resolve,invoke,builtin,Sem.run_bind,Sem.run_pure,Result.andThen_ok,List.map_toArray,List.map_cons,List.map_nil,hs,hx,hr]
  exact h g cap w' h2 h3 h4 h5
theorem wpList_append_keeps {ops:Array Oper} {rest:List Oper} {o:Oper} {a:Act} {Q:Exit → Act → World → Prop} (hgd:o.guard = none) (s x:Operand) (t:TypeId)
    (ho:o.op = .call { callee:=.builtin .append,args:=#[s,x],argTypes:=#[t,t] })
    (base:Nat) (e:TypeId) (i:TypeInfo) (z:Value) (size bytes:Nat) (ht:P.underlying t = some (.slice e)) (hi:P.info? e = some i) (hz:i.zero = some z)
    (hsize:i.size = size) (hby:i.bytes = bytes) (hzs:z.cells.size = size) (hsz:0 < size)
    (v:Value) (n:Nat) (xs:List Value) (hs:a.eval s = v) (hown:w.ownsRow base e size v n xs)
    (ad:Addr) (m c:Nat) (news:List Value) (hx:a.eval x = .slice (some ad) m c) (hl:news.length = m * size) (hnews:∀ j u,news[j]? = some u → w.cell? (ad.add j) = some u) (h1:∀ u ∈ news,u.oneCell' = true)
    (hm:0 < m) (h63:n + m ≤ maxLen) (hbytes:(n + m) * bytes ≤ 140737488355328) (hbase:base ≤ w.heap.size) (H:Nat) (hH:w.heap.size = H)
    (h:∀ g cap w',w'.ownsRow base e size (.slice (some ⟨g,0,none⟩) (n + m) cap) (n + m) (xs ++ news) → w.grownBy w' v.ownBlock → (v = .slice (some ⟨g,0,none⟩) n cap ∨ (g = H ∧ w.grownBy w' none)) → g < w'.heap.size → wpList P ops Q rest (a.put o.dst (.slice (some ⟨g,0,none⟩) (n + m) cap)) w'):wpList P ops Q (o :: rest) a w :=
  wpList_plain hgd fun _ hK=>wp_append_keeps w s x t ho base e i z size bytes ht hi hz hsize hby hzs hsz v n xs hs hown ad m c news hx hl hnews h1 hm h63 hbytes hbase H hH fun g cap w' h2 h3 h4 h5=>hK _ _ (h g cap w' h2 h3 h4 h5)
end
theorem own_keep {w w':World} {e sz n m k g cap H:Nat} {v u:Value} {vs xs ys:List Value} (hsz:0 < sz) (hv:w.ownsRow 0 e sz v n vs) (hnew:w'.ownsRow 0 e sz (.slice (some ⟨g,0,none⟩) m cap) m ys) (hg:w.grownBy w' v.ownBlock) (hat:v = .slice (some ⟨g,0,none⟩) n cap ∨ (g = H ∧ w.grownBy w' none))
    (hu:w.ownsRow 0 e sz u k xs) (hk:k ≤ m) (hx:xs = ys.take (k * sz)):w'.ownsRow 0 e sz u k xs:=by
  rcases hat with rfl | ⟨_,hat⟩
  · by_cases hb:u.ownBlock = some g
    · refine ⟨hu.1,?_⟩
      rcases hu.2 with ⟨rfl,_⟩ | ⟨g1,cap1,cur1,rfl,_,hgc1,hnc1,hcm1,hcs1,htake1⟩
      · cases hb
      · have:g1 = g:=by simpa [Value.ownBlock] using hb
        subst this
        rcases hnew.2 with ⟨h0,_⟩ | ⟨g2,cap2,cur2,hv2,_,hgc2,hnc2,hcm2,hcs2,htake2⟩
        · cases h0
        · injection hv2 with e1 _ e3
          injection e1 with e1
          injection e1 with e1
          subst e1
          subst e3
          rcases hv.2 with ⟨h0,_⟩ | ⟨g3,cap3,cur3,hv3,_,hgc3,hnc3,hcm3,hcs3,htake3⟩
          · cases h0
          · injection hv3 with e1 _ e3
            injection e1 with e1
            injection e1 with e1
            subst e1
            subst e3
            rw [hgc3] at hgc1
            injection hgc1 with e1
            injection e1 with e1
            subst e1
            have hc:cap1 = cap:=Nat.eq_of_mul_eq_mul_right hsz (hcs1.symm.trans hcs3)
            subst hc
            refine .inr ⟨g1,cap1,cur2,rfl,Nat.zero_le _,hgc2,hnc1,hcm1,hcs2,?_⟩
            rw [hx,← htake2,List.take_take,Nat.min_eq_left (Nat.mul_le_mul_right _ hk)]
    · exact ownsRow_of_block hu (fun b hb1=>hg.block b ((hu.lt b hb1).2) (fun e=>hb (by rw [hb1,e]; rfl)))
  · exact ownsRow_of_block hu (fun b hb1=>hat.block b ((hu.lt b hb1).2) (fun e=>by cases e))
end Go.Proofs.YtojoafcnijajmaaGreatDoor.Z
