/- Part 48 of the proof that Devices answers true and leaves its input as it was, for input of bulk at most the bound of its row: ZJ13 ZFH. -/
import Derived.Test.YtojoafcnijajmaaGreatDoorT8
import Derived.Test.YtojoafcnijajmaaGreatDoorT47
import Derived.Test.YtojoafcnijajmaaGreatDoorT39
import Derived.Test.YtojoafcnijajmaaGreatDoorT27
import Derived.Test.YtojoafcnijajmaaGreatDoorT37
import Derived.Test.YtojoafcnijajmaaGreatDoorT46
namespace Go.Proofs.YtojoafcnijajmaaGreatDoor.Z
open Go.RowKit
attribute [local go_sem ↓] Go.wp_at_zero Go.wp_at_succ
structure Begun (w w':World) (m:Mach) (g:Nat):Prop where
  is:∃ base bb ww cw qw vc vr G c Eo oa oc,St c w' g G 0 [] [] [] ∧ Wt c w' G [] [] Eo ∧ Two c w' base bb ww cw qw m vc vr ∧ G 0 = .pointer (some ⟨bb,0,none⟩) ∧ G 1 = .pointer (some ⟨ww,0,none⟩) ∧ G 6 = .slice oa 0 oc ∧ Eo.length = 2 ∧ (∀ k,k < w.heap.size → c k = 0) ∧ (∀ b,vc.ownBlock = some b → b ≠ cw) ∧ (∀ b,vr.ownBlock = some b → b ≠ qw) ∧ w.heap.size ≤ base
theorem BerthIs.keep {w w':World} {base bb:Nat} {m:Mach} {vc vr:Value} (h:BerthIs w base bb m vc vr) (hk:∀ k,base ≤ k → k < w.heap.size → w'.heap[k]? = w.heap[k]?):BerthIs w' base bb m vc vr :=
  ⟨(hk bb h.base (Array.getElem?_eq_some_iff.1 h.blk).1).trans h.blk,ownsRow_of_block h.cpus (fun b hb=>hk b (h.cpus.lt b hb).1 (h.cpus.lt b hb).2),ownsRow_of_block h.res (fun b hb=>hk b (h.res.lt b hb).1 (h.res.lt b hb).2),h.base,h.fcpu.of_block (fun b hb=>hk b (h.cpus.lt b hb).1 (h.cpus.lt b hb).2),h.fres.of_block (fun b hb=>hk b (h.res.lt b hb).1 (h.res.lt b hb).2)⟩
theorem below_of_onlyIn {w w1 w2:World} {a b:Nat} (h:Below w.heap.size w w1) (k:onlyIn w1 w2 a b) (ha:w.heap.size ≤ a) (hb:w.heap.size ≤ b):Below w.heap.size w w2 :=
  ⟨k.1.trans h.os,k.2.1.trans h.tape,k.2.2.1.trans h.output,Nat.le_trans h.size k.2.2.2.1,fun x hx=>(k.2.2.2.2 x (Nat.lt_of_lt_of_le hx h.size) (by omega) (by omega)).trans (h.block x hx)⟩
def gameL (bb ww:Nat) (m:Mach) (v7:Value):Array Value:=#[.pointer (some ⟨bb,0,none⟩),.pointer (some ⟨ww,0,none⟩),.slice m.ao m.n m.cap,.slice m.ro m.r m.rcap,.int .i64 m.p,.slice none 0 0,.slice none 0 0,v7,.bool false,.int .i64 0,.slice none 0 0,.slice none 0 0,.slice none 0 0,.slice none 0 0,.int .i64 0,.slice none 0 0,.slice none 0 0,.slice none 0 0,.slice none 0 0,.slice none 0 0,.slice none 0 0,.slice none 0 0,.slice none 0 0,.slice none 0 0]
theorem four_new (w:World) (o0 o1 o2 o3:Obj):Below w.heap.size w ((((w.alloc o0).alloc o1).alloc o2).alloc o3).drew ∧ ((((w.alloc o0).alloc o1).alloc o2).alloc o3).drew.heap[w.heap.size]? = some o0:=by
  have a0:Below w.heap.size w (w.alloc o0):=(Below.refl _ _).alloc (Nat.le_refl _) o0
  have a1:Below (w.alloc o0).heap.size (w.alloc o0) ((w.alloc o0).alloc o1):=(Below.refl _ _).alloc (Nat.le_refl _) o1
  have a2:Below ((w.alloc o0).alloc o1).heap.size ((w.alloc o0).alloc o1) (((w.alloc o0).alloc o1).alloc o2):=(Below.refl _ _).alloc (Nat.le_refl _) o2
  have a3:Below (((w.alloc o0).alloc o1).alloc o2).heap.size (((w.alloc o0).alloc o1).alloc o2) ((((w.alloc o0).alloc o1).alloc o2).alloc o3).drew:=((Below.refl _ _).alloc (Nat.le_refl _) o3).drew
  have a4:=ext_trans (ext_trans a1 a2) a3
  exact ⟨ext_trans a0 a4,(a4.block w.heap.size (by simp)).trans (heap_alloc_new w o0)⟩
theorem WorldIs.base_le {w:World} {base base' ww c q:Nat} {m:Mach} (h:WorldIs w base ww c q m) (hb:base' ≤ base):WorldIs w base' ww c q m:=⟨h.blk,h.cpus,h.res,Nat.le_trans hb h.base.1,Nat.le_trans hb h.base.2.1,Nat.le_trans hb h.base.2.2⟩
theorem MK.empty (c:Nat → Nat) (w:World) (x xm e sz:Nat) (pat:Nat → Nat → Value):MK c w x xm e sz pat (.slice none 0 0) (.slice none 0 0) [] :=
  ⟨RowC.nil _ _ _ _ _,RowC.nil _ _ _ _ _,fun p hp=>(by cases hp),fun p hp=>(by cases hp)⟩
theorem beginEnd_any (g:Nat) (w6 W7:World) (base bb ww cw qw:Nat) (m:Mach) (vc vr v7:Value) (he:g = w6.heap.size) (hB:BerthIs w6 base bb m vc vr) (hW:WorldIs w6 base ww cw qw m) (hb:Below w6.heap.size w6 W7) (hg:W7.heap[g]? = some (.cells (gameL bb ww m v7) 67 (0,0))) :
    Calls (patch shutL Tryz.prog) 31 #[.pointer (some ⟨g,0,none⟩)] W7 fun e w'=>e = .returned (.bool true) ∧ Below w6.heap.size w6 w' ∧ ∃ c G Eo oa oc,St c w' g G 0 [] [] [] ∧ Wt c w' G [] [] Eo ∧ Two c w' base bb ww cw qw m vc vr ∧ G 0 = .pointer (some ⟨bb,0,none⟩) ∧ G 1 = .pointer (some ⟨ww,0,none⟩) ∧ G 6 = .slice oa 0 oc ∧ Eo.length = 2 ∧ ∀ k,k < w6.heap.size → c k = 0:=by
  have hlt:g < W7.heap.size:=(Array.getElem?_eq_some_iff.1 hg).1
  have hrow:W7.rowIs g 67 24 (fun j=>(gameL bb ww m v7).getD j (.slice none 0 0)):=by
    refine ⟨gameL bb ww m v7,hg,rfl,fun i hi=>?_⟩
    have:i < (gameL bb ww m v7).size:=hi
    simp [Array.getD,this]
  have hc0:∀ k,k < w6.heap.size → (if k = g then 1 else 0) = 0:=fun k hk=>by rw [if_neg (by omega)]
  have hcg:(fun k=>if k = g then 1 else 0) g = 1:=by simp
  have hst:St (fun k=>if k = g then 1 else 0) W7 g (fun j=>(gameL bb ww m v7).getD j (.slice none 0 0)) 0 [] [] [] :=
    ⟨hrow,hcg,fun k hk=>by show (if k = g then 1 else 0) = 0; rw [if_neg (by omega)],rfl,MK.empty ..,MK.empty ..,MK.empty ..⟩
  have hwt:Wt (fun k=>if k = g then 1 else 0) W7 (fun j=>(gameL bb ww m v7).getD j (.slice none 0 0)) [] [] []:=Wt.nil _ _ _ (fun j h1 h2=>by
    rcases (show j = 18 ∨ j = 19 ∨ j = 20 ∨ j = 21 ∨ j = 22 ∨ j = 23 by omega) with rfl | rfl | rfl | rfl | rfl | rfl <;> rfl)
  have hB7:BerthIs W7 base bb m vc vr:=hB.keep fun k _ hk=>hb.block k hk
  have h2:Two (fun k=>if k = g then 1 else 0) W7 base bb ww cw qw m vc vr :=
    ⟨hB7,hW.of_below hb,hc0 _ (Array.getElem?_eq_some_iff.1 hB.blk).1,fun b h=>hc0 b (hB.cpus.lt b h).2,fun b h=>hc0 b (hB.res.lt b h).2,hc0 _ (Array.getElem?_eq_some_iff.1 hW.blk).1,hc0 _ hW.cpus.lt,hc0 _ hW.res.lt⟩
  refine Calls.mono (gameDisk0_any g bb _ _ W7 0 [] [] [] [] [] [] none 0 hst hwt rfl rfl (by simp) (berthIs_cells hB7).2) ?_
  rintro e w' ⟨he',c',G',oa,oc,k1,k2,k3,k4,k5⟩
  refine ⟨he',⟨k5.os.trans hb.os,k5.tape.trans hb.tape,k5.output.trans hb.output,Nat.le_trans hb.size k5.size,fun k hk=>(k5.keep k (Nat.lt_of_lt_of_le hk hb.size) ?_).1.trans (hb.block k hk)⟩,c',G',_,oa,oc,k1,k2,h2.turn k5 (by omega),(k4 0 (by omega) (by omega)).trans rfl,(k4 1 (by omega) (by omega)).trans rfl,k3,rfl,fun k hk=>(k5.keep k (Nat.lt_of_lt_of_le hk hb.size) ?_).2.trans (hc0 k hk)⟩
  · rw [hc0 k hk]; omega
  · rw [hc0 k hk]; omega
set_option maxRecDepth 100000 in
set_option maxHeartbeats 1000000 in
theorem beginLaw_any (m:Mach) (w:World) (hm:m.At w) :
    Calls (patch shutL Tryz.prog) 14 #[m.val] w fun e w'=>Below w.heap.size w w' ∧ ((¬ m.ok ∧ e = .returned (.tuple #[.pointer none,.bool true])) ∨ (m.ok ∧ ∃ g,e = .returned (.tuple #[.pointer (some ⟨g,0,none⟩),.bool true]) ∧ Begun w w' m g)):=by
  show Calls (patch shutL Tryz.prog) 14 #[.agg #[.slice m.ao m.n m.cap,.slice m.ro m.r m.rcap,.int .i64 m.p]] w _
  go_enter (pf Tryz.func14 (by rfl)),Tryz.ntmps14
  have HM:=Hid.in hm
  clear hm
  go_wp2_with fail
  obtain ⟨W0,hW0⟩ : ∃ W,W = w.alloc (.cells #[.slice m.ao m.n m.cap,.slice m.ro m.r m.rcap,.int .i64 m.p] 25):=⟨_,rfl⟩
  obtain ⟨e1,he1⟩ : ∃ e,e = w.heap.size:=⟨_,rfl⟩
  have B0:Below w.heap.size w W0:=by rw [hW0]; exact (Below.refl _ _).alloc (Nat.le_refl _) _
  have K1:W0.heap[e1]? = some (.cells #[.slice m.ao m.n m.cap,.slice m.ro m.r m.rcap,.int .i64 m.p] 25 (0,0)):=by rw [hW0,he1]; exact heap_alloc_new _ _
  rw [← hW0,← he1]
  have S1:e1 < W0.heap.size:=(Array.getElem?_eq_some_iff.1 K1).1
  have HE:=Hid.in he1
  have H0:=Hid.in (And.intro B0 (And.intro K1 S1))
  clear hW0 he1 B0 K1 S1
  refine Calls.mono (handed_any m W0 (HM.out.ext H0.out.1)) ?_
  rintro e w1 ⟨cb,rb,rfl,q1,q2,q3,q4,q5,q6⟩
  have H1:=Hid.in (And.intro q4 (And.intro q5 (And.intro (H0.out.1.trans (q6.mono H0.out.1.size)) (And.intro ((q6.block e1 H0.out.2.2).trans H0.out.2.1) (And.intro (Nat.lt_of_lt_of_le H0.out.2.2 q1) (And.intro (Nat.lt_of_lt_of_le H0.out.2.2 q2) q3))))))
  clear q1 q2 q3 q4 q5 q6 H0
  clear W0
  go_wp2_with fail
  obtain ⟨W1,hW1⟩ : ∃ W,W = w1.alloc (.cells #[.slice (some ⟨cb,0,none⟩) m.n (m.n + 8),.slice (some ⟨rb,0,none⟩) m.r (m.r + 8),.int .i64 m.p] 25):=⟨_,rfl⟩
  obtain ⟨e4,he4⟩ : ∃ e,e = w1.heap.size:=⟨_,rfl⟩
  have B1:Below w1.heap.size w1 W1:=by rw [hW1]; exact (Below.refl _ _).alloc (Nat.le_refl _) _
  have K4:W1.heap[e4]? = some (.cells #[.slice (some ⟨cb,0,none⟩) m.n (m.n + 8),.slice (some ⟨rb,0,none⟩) m.r (m.r + 8),.int .i64 m.p] 25 (0,0)):=by rw [hW1,he4]; exact heap_alloc_new _ _
  have lc:cb < e4:=by rw [he4]; exact H1.out.1.lt
  have lr:rb < e4:=by rw [he4]; exact H1.out.2.1.lt
  have l1:e1 < w1.heap.size:=(Array.getElem?_eq_some_iff.1 H1.out.2.2.2.1).1
  have H2:=Hid.in (And.intro (H1.out.1.of_block (B1.block cb H1.out.1.lt)) (And.intro (H1.out.2.1.of_block (B1.block rb H1.out.2.1.lt)) (And.intro (H1.out.2.2.1.trans (B1.mono H1.out.2.2.1.size)) (And.intro ((B1.block e1 l1).trans H1.out.2.2.2.1) (And.intro K4 (And.intro H1.out.2.2.2.2 (And.intro lc (And.intro lr (show e1 < e4 by rw [he4]; exact l1)))))))))
  rw [← hW1,← he4]
  clear hW1 he4 B1 K4 lc lr l1 H1
  clear w1
  refine Calls.mono (start_any m cb rb W1 HM.out.nmax HM.out.rmax H2.out.1 H2.out.2.1) ?_
  rintro e w2 ⟨hbl,hor⟩
  obtain ⟨bp,kp,rfl,hor'⟩ : ∃ bp kp,e = .returned (.tuple #[.pointer bp,.int .i64 kp]) ∧ ((¬ m.ok ∧ bp = none ∧ kp = 1) ∨ (m.ok ∧ ∃ bb vc vr,bp = some ⟨bb,0,none⟩ ∧ kp = 0 ∧ BerthIs w2 W1.heap.size bb m vc vr)):=by
    rcases hor with ⟨h,rfl⟩ | ⟨h,bb,vc,vr,rfl,hB⟩
    · exact ⟨none,1,rfl,.inl ⟨h,rfl,rfl⟩⟩
    · exact ⟨_,0,rfl,.inr ⟨h,bb,vc,vr,rfl,rfl,hB⟩⟩
  have H3:=Hid.in (And.intro (H2.out.1.of_block (hbl.block cb H2.out.1.lt)) (And.intro (H2.out.2.1.of_block (hbl.block rb H2.out.2.1.lt)) (And.intro (H2.out.2.2.1.trans (hbl.mono H2.out.2.2.1.size)) (And.intro ((hbl.block e1 (Array.getElem?_eq_some_iff.1 H2.out.2.2.2.1).1).trans H2.out.2.2.2.1) (And.intro ((hbl.block e4 (Array.getElem?_eq_some_iff.1 H2.out.2.2.2.2.1).1).trans H2.out.2.2.2.2.1) (And.intro H2.out.2.2.2.2.2 (And.intro hor' hbl)))))))
  have H2s:=Hid.in (Array.getElem?_eq_some_iff.1 H2.out.2.2.2.2.1).1
  clear hor hor' hbl H2
  have z1:=(blk H3.out.2.2.2.1).1
  have z4:=(blk H3.out.2.2.2.2.1).1
  go_wp2_with fail
  clear z1 z4
  refine Calls.mono (still_any m cb rb w2 (HM.out.ext H3.out.2.2.1) H3.out.1 H3.out.2.1) ?_
  rintro e w3 ⟨rfl,b3⟩
  have H4:=Hid.in (And.intro (H3.out.1.of_block (b3.block cb H3.out.1.lt)) (And.intro (H3.out.2.1.of_block (b3.block rb H3.out.2.1.lt)) (And.intro (H3.out.2.2.1.trans (b3.mono H3.out.2.2.1.size)) (And.intro ((b3.block e1 (Array.getElem?_eq_some_iff.1 H3.out.2.2.2.1).1).trans H3.out.2.2.2.1) (And.intro ((b3.block e4 (Array.getElem?_eq_some_iff.1 H3.out.2.2.2.2.1).1).trans H3.out.2.2.2.2.1) b3)))))
  clear b3
  have z4:=(blk H4.out.2.2.2.2.1).1
  go_wp2_with fail
  clear z4
  refine Calls.mono (blot_any m.n m.r cb rb m.p w3 HM.out.nmax HM.out.rmax (hC m) (hR m) H4.out.1 H4.out.2.1 H3.out.2.2.2.2.2.1.1.2.2) ?_
  rintro e w4 ⟨rfl,o4⟩
  have hl:e1 < cb ∧ e1 < rb ∧ cb ≠ rb:=H3.out.2.2.2.2.2.1.1
  have hl4:cb < e4 ∧ rb < e4 ∧ e1 < e4:=H3.out.2.2.2.2.2.1.2
  have hB4:Below w.heap.size w w4:=below_of_onlyIn H4.out.2.2.1 o4 (by have:=HE.out; omega) (by have:=HE.out; omega)
  have k4:w4.heap[e1]? = some (.cells #[.slice m.ao m.n m.cap,.slice m.ro m.r m.rcap,.int .i64 m.p] 25 (0,0)):=(o4.2.2.2.2 e1 (Array.getElem?_eq_some_iff.1 H4.out.2.2.2.1).1 (by omega) (by omega)).trans H4.out.2.2.2.1
  have hor:(¬ m.ok ∧ bp = none ∧ kp = 1) ∨ (m.ok ∧ ∃ bb vc vr,bp = some ⟨bb,0,none⟩ ∧ kp = 0 ∧ BerthIs w4 W1.heap.size bb m vc vr):=by
    rcases H3.out.2.2.2.2.2.2.1 with h | ⟨h,bb,vc,vr,h1,h2,h3⟩
    · exact .inl h
    · refine .inr ⟨h,bb,vc,vr,h1,h2,h3.keep fun k hk hk2=>?_⟩
      have hs:=H2s.out
      exact (o4.2.2.2.2 k (Nat.lt_of_lt_of_le hk2 H4.out.2.2.2.2.2.size) (by omega) (by omega)).trans (H4.out.2.2.2.2.2.block k hk2)
  have hsz:W1.heap.size ≤ w4.heap.size:=Nat.le_trans (Nat.le_trans H3.out.2.2.2.2.2.2.2.size H4.out.2.2.2.2.2.size) o4.2.2.2.1
  have H5:=Hid.in (And.intro hB4 (And.intro k4 (And.intro hor (And.intro hsz (show w.heap.size ≤ W1.heap.size by have:=HE.out; have:=H2s.out; omega)))))
  clear o4 hl hl4 hB4 k4 hor hsz H4 H3 H2s
  clear w3 w2
  generalize W1.heap.size = base at H5
  clear W1
  have z1:=(blk H5.out.2.1).1
  go_wp2_with fail
  clear z1
  refine Calls.mono (isMachine_any m w4 (HM.out.ext H5.out.1)) ?_
  rintro e w5 ⟨ha,b5⟩
  have H6:=Hid.in (And.intro (H5.out.1.trans (b5.mono H5.out.1.size)) (And.intro ((b5.block e1 (Array.getElem?_eq_some_iff.1 H5.out.2.1).1).trans H5.out.2.1) (And.intro (Nat.le_trans H5.out.2.2.2.1 b5.size) H5.out.2.2.2.2)))
  rcases H5.out.2.2.1 with ⟨hno,rfl,rfl⟩ | ⟨hok,bb,vc,vr,rfl,rfl,hB⟩
  · obtain rfl:=ha.is_false hno
    have H7:=Hid.in hno
    clear ha b5 H5 hno
    clear w4
    go_wp2_with (go_at_call 29; refine Calls.mono (num_any 1 w5) ?_; rintro e w6 ⟨rfl,hw6⟩; obtain rfl:=hw6.symm)
    go_ret2
    exact ⟨H6.out.1,.inl ⟨H7.out,rfl⟩⟩
  · obtain rfl:=ha.is_true hok
    have hB5:BerthIs w5 base bb m vc vr:=hB.keep fun k _ hk=>b5.block k hk
    have H7:=Hid.in (And.intro hok hB5)
    clear ha b5 H5 hok hB hB5
    clear w4
    have z1:=(blk H6.out.2.1).1
    go_wp2_with (go_at_call 29; refine Calls.mono (num_any 0 w5) ?_; rintro e w6 ⟨rfl,hw6⟩; obtain rfl:=hw6.symm)
    clear z1
    refine Calls.mono (begin_any m w5 (HM.out.ext H6.out.1)) ?_
    rintro e w6 ⟨ww,cw,qw,rfl,hW,b6⟩
    have H8:=Hid.in (And.intro (H6.out.1.trans (b6.mono H6.out.1.size)) (And.intro ((b6.block e1 (Array.getElem?_eq_some_iff.1 H6.out.2.1).1).trans H6.out.2.1) (And.intro (H7.out.2.keep fun k _ hk=>b6.block k hk) (And.intro hW (And.intro H6.out.2.2.1 H6.out.2.2.2)))))
    have HS:=Hid.in (show (∀ b,vc.ownBlock = some b → b ≠ cw) ∧ (∀ b,vr.ownBlock = some b → b ≠ qw) from ⟨fun b hb=>Nat.ne_of_lt (Nat.lt_of_lt_of_le (H7.out.2.cpus.lt b hb).2 hW.base.2.1),fun b hb=>Nat.ne_of_lt (Nat.lt_of_lt_of_le (H7.out.2.res.lt b hb).2 hW.base.2.2)⟩)
    clear hW b6 H6
    have z1:=(blk H8.out.2.1).1
    go_wp2_with fail
    have HF:=Hid.in (fun (W:World) (v7:Value) (h1:Below w6.heap.size w6 W) (h2:W.heap[w6.heap.size]? = some (.cells (gameL bb ww m v7) 67 (0,0)))=>beginEnd_any w6.heap.size w6 W base bb ww cw qw m vc vr v7 rfl H8.out.2.2.1 (H8.out.2.2.2.1.base_le H8.out.2.2.2.2.1) h1 h2)
    refine Calls.mono (HF.out _ _ (four_new w6 _ _ _ _).1 (four_new w6 _ _ _ _).2) ?_
    generalize hgg:w6.heap.size = g at *
    rintro e w7 ⟨rfl,hb7,c7,G7,Eo,oa,oc,k1,k2,k3,k4,k5,k6,k7,k8⟩
    have q6:=k1.row.cell (i:=6) (by omega)
    rw [k6] at q6
    have td:∀ q,Turn (fun _=>False) c7 w7 c7 (w7.drewN q):=fun q=>(Turn.refl k1.top).drewN q
    have hg0:w.heap.size ≤ g:=by rw [← hgg]; exact H8.out.1.size
    have H9:=Hid.in (show m.ok ∧ ∀ q,Below w.heap.size w (w7.drewN q) ∧ Begun w (w7.drewN q) m g from ⟨H7.out.1,fun q=>⟨(H8.out.1.trans (by rw [← hgg] at hb7; exact hb7.mono H8.out.1.size)).drewN q,⟨base,bb,ww,cw,qw,vc,vr,G7,c7,Eo,oa,oc,k1.turn (td q) (fun _ _ _ h=>h),k2.turn (td q) (fun _ _ h=>h),k3.turn (td q) (fun h=>h),k4,k5,k6,k7,fun k hk=>k8 k (by omega),HS.out.1,HS.out.2,H8.out.2.2.2.2.2⟩⟩⟩)
    clear hgg HF H8 H7 HS hb7 k1 k2 k3 k4 k5 k6 k7 k8 td hg0 z1
    go_wp2_with fail
    go_quiet (fail)
    go_wp2_with fail
    go_ret2
    exact ⟨(H9.out.2 _).1,.inr ⟨H9.out.1,g,rfl,(H9.out.2 _).2⟩⟩
end Go.Proofs.YtojoafcnijajmaaGreatDoor.Z

namespace Go.Proofs.YtojoafcnijajmaaGreatDoor.Z
open Go.RowKit
attribute [local go_sem ↓] Go.wp_at_zero Go.wp_at_succ
def tyAt (w:World) (b:Nat) (e:TypeId):Prop:=∃ cs fr,w.heap[b]? = some (.cells cs e fr)
theorem tyAt.ne {w:World} {a b:Nat} {e e':TypeId} (h:tyAt w a e) (h':tyAt w b e') (hne:e ≠ e'):a ≠ b:=by
  rintro rfl
  obtain ⟨cs,fr,h1⟩:=h
  obtain ⟨cs',fr',h2⟩:=h'
  rw [h1] at h2
  injection h2 with h2
  injection h2 with _ h3 _
  exact hne h3
theorem own_ty {w:World} {base:Nat} {e:TypeId} {size:Nat} {v:Value} {n:Nat} {xs:List Value} (h:w.ownsRow base e size v n xs):∀ b,v.ownBlock = some b → tyAt w b e:=fun b hb=>by
  rcases h.2 with ⟨rfl,_⟩ | ⟨g,cap,cur,rfl,_,hg,_⟩
  · cases hb
  · cases hb
    exact ⟨_,_,hg⟩
theorem row_ty {w:World} {b:Nat} {t:TypeId} {n:Nat} {f:Nat → Value} (h:w.rowIs b t n f):tyAt w b t:=by
  obtain ⟨cur,h1,_⟩:=h
  exact ⟨_,_,h1⟩
theorem res_few {n r:Nat} {R:Nat → Int} (h:okRs n R r) (hn:n ≤ 24):r ≤ 24:=by
  have key:∀ i,i < r → (i:Int) ≤ R i:=by
    intro i
    induction i with
    | zero=>intro hi; have:=(h 0 hi).1; omega
    | succ i ih =>
      intro hi
      have h1:=ih (by omega)
      have h2:=(h (i + 1) hi).2.2 (by omega)
      rw [Nat.add_sub_cancel] at h2
      omega
  by_cases h0:r = 0
  · omega
  · have h1:=key (r - 1) (by omega)
    have h2:=(h (r - 1) (by omega)).2.1
    omega
def bd0 (m:Mach):BD:=⟨m.n,m.N,m.r,m.R,fun _=>0,fun _ _=>0,fun _ _=>false⟩
theorem bd0_ok {m:Mach} (h:m.ok):(bd0 m).ok:=by
  obtain ⟨h1,h2,h3,h4,_⟩:=h
  exact ⟨h2,fun i hi=>⟨((h3 i hi).1).2.2.1,((h3 i hi).1).2.2.2.1⟩,res_few h4 h2,fun k _=>⟨Nat.zero_le _,fun i hi=>absurd hi (Nat.not_lt_zero _)⟩⟩
def tag0 (bb ww cw qw:Nat) (vc vr:Value) (b:Nat):Nat:=if b = bb then 1 else if vc.ownBlock = some b then 2 else if vr.ownBlock = some b then 3 else if b = ww then 8 else if b = cw then 9 else if b = qw then 10 else 0
theorem three_of_two {c:Nat → Nat} {w:World} {base base' bb ww cw qw:Nat} {m:Mach} {vc vr:Value} (h:Two c w base bb ww cw qw m vc vr) (hok:m.ok) (h1:∀ b,vc.ownBlock = some b → b ≠ cw) (h2:∀ b,vr.ownBlock = some b → b ≠ qw) (hb:base' ≤ base) :
    Three c w base' bb ww cw qw m vc vr (bd0 m) nilV nilV (tag0 bb ww cw qw vc vr):=by
  have tb:tyAt w bb 103:=⟨_,_,h.berth.blk⟩
  have tw:tyAt w ww 126:=⟨_,_,h.world.blk⟩
  have tc:=row_ty h.world.cpus
  have tq:=row_ty h.world.res
  have tvc:=own_ty h.berth.cpus
  have tvr:=own_ty h.berth.res
  have lb:bb < w.heap.size:=(Array.getElem?_eq_some_iff.1 h.berth.blk).1
  have lw:ww < w.heap.size:=(Array.getElem?_eq_some_iff.1 h.world.blk).1
  have kb:tag0 bb ww cw qw vc vr bb = 1:=if_pos rfl
  have kc:∀ b,vc.ownBlock = some b → tag0 bb ww cw qw vc vr b = 2:=fun b hb=>by
    unfold tag0
    rw [if_neg ((tvc b hb).ne tb (by decide)),if_pos hb]
  have nvc:∀ x e,tyAt w x e → e ≠ 71 → ¬ vc.ownBlock = some x:=fun x e hx hne hv=>(tvc x hv).ne hx (Ne.symm hne) rfl
  have nvr:∀ x e,tyAt w x e → e ≠ 3 → ¬ vr.ownBlock = some x:=fun x e hx hne hv=>(tvr x hv).ne hx (Ne.symm hne) rfl
  have kr:∀ b,vr.ownBlock = some b → tag0 bb ww cw qw vc vr b = 3:=fun b hb=>by
    unfold tag0
    rw [if_neg ((tvr b hb).ne tb (by decide)),if_neg (nvc b _ (tvr b hb) (by decide)),if_pos hb]
  have kw:tag0 bb ww cw qw vc vr ww = 8:=by
    unfold tag0
    rw [if_neg (tw.ne tb (by decide)),if_neg (nvc ww _ tw (by decide)),if_neg (nvr ww _ tw (by decide)),if_pos rfl]
  have kcw:tag0 bb ww cw qw vc vr cw = 9:=by
    unfold tag0
    rw [if_neg (tc.ne tb (by decide)),if_neg (fun e=>h1 cw e rfl),if_neg (nvr cw _ tc (by decide)),if_neg (tc.ne tw (by decide)),if_pos rfl]
  have kqw:tag0 bb ww cw qw vc vr qw = 10:=by
    unfold tag0
    rw [if_neg (tq.ne tb (by decide)),if_neg (nvc qw _ tq (by decide)),if_neg (fun e=>h2 qw e rfl),if_neg (tq.ne tw (by decide)),if_neg (tq.ne tc (by decide)),if_pos rfl]
  refine ⟨⟨h.berth.blk,ownsRow_base h.berth.cpus hb,ownsRow_base h.berth.res hb,fun k _=>World.ownsRow_nil _ _ _ _,h.berth.fcpu,h.berth.fres,fun k _=>Flat.nil _,kb,kc,kr,fun k _ b hb=>(by cases hb),Nat.le_trans hb h.berth.base,⟨rfl,rfl,rfl,rfl⟩,bd0_ok hok⟩,
    ⟨h.world.blk,h.world.cpus,h.world.res,fun k _=>World.ownsRow_nil _ _ _ _,kw,kcw,kqw,fun k _ b hb=>(by cases hb),⟨Nat.le_trans hb h.world.base.1,Nat.le_trans hb h.world.base.2.1,Nat.le_trans hb h.world.base.2.2⟩,⟨rfl,rfl,rfl,rfl⟩,bd0_ok hok⟩,fun b hK=>?_⟩
  unfold tag0 at hK
  by_cases e1:b = bb
  · subst e1; exact ⟨h.cb,Nat.le_trans hb h.berth.base,lb⟩
  rw [if_neg e1] at hK
  by_cases e2:vc.ownBlock = some b
  · exact ⟨h.cvc b e2,Nat.le_trans hb (h.berth.cpus.lt b e2).1,(h.berth.cpus.lt b e2).2⟩
  rw [if_neg e2] at hK
  by_cases e3:vr.ownBlock = some b
  · exact ⟨h.cvr b e3,Nat.le_trans hb (h.berth.res.lt b e3).1,(h.berth.res.lt b e3).2⟩
  rw [if_neg e3] at hK
  by_cases e4:b = ww
  · subst e4; exact ⟨h.cww,Nat.le_trans hb h.world.base.1,lw⟩
  rw [if_neg e4] at hK
  by_cases e5:b = cw
  · subst e5; exact ⟨h.ccw,Nat.le_trans hb h.world.base.2.1,h.world.cpus.lt⟩
  rw [if_neg e5] at hK
  by_cases e6:b = qw
  · subst e6; exact ⟨h.cqw,Nat.le_trans hb h.world.base.2.2,h.world.res.lt⟩
  rw [if_neg e6] at hK
  exact absurd rfl hK
def PlayS (g base bb ww cw qw:Nat) (m:Mach) (vc vr:Value) (N s:Nat) (c:Nat → Nat) (w:World):Prop :=
  ∃ D d e K G n Li Lb Lo ws Eb Eo,Inv g base bb ww cw qw m vc vr D d e K c w G n Li Lb Lo ws Eb Eo ∧ n ≤ N ∧ Li.length ≤ N ∧ Lb.length ≤ N ∧ Lo.length ≤ N ∧ ws.length + Eb.length + Eo.length ≤ s
theorem InvE.play {g base bb ww cw qw:Nat} {m:Mach} {vc vr:Value} {D:BD} {d e:Nat → Value} {K:Nat → Nat} {N:Nat} {c:Nat → Nat} {w:World} (h:InvE g base bb ww cw qw m vc vr D d e K N c w):PlayS g base bb ww cw qw m vc vr N 7 c w:=by
  obtain ⟨G,n,Li,Lb,Lo,ws,Eb,Eo,h⟩:=h
  exact ⟨D,d,e,K,G,n,Li,Lb,Lo,ws,Eb,Eo,h⟩
theorem rj_of {P:Program} {f:FuncId} {args:Array Value} {w:World} {R:Value → World → Prop} {A:List PanicEntry → World → Prop} (h:Calls P f args w fun e w'=>∃ v,e = .returned v ∧ R v w'):Calls P f args w (RJ R A):=h.mono fun e w' he=>by
  obtain ⟨v,rfl,hv⟩:=he
  exact hv
theorem stepD_any (g base bb ww cw qw:Nat) (m:Mach) (vc vr:Value) (N:Nat) (c:Nat → Nat) (w:World) (s:SV) (h:PlayS g base bb ww cw qw m vc vr N 7 c w) (hN:N ≤ 100000000000) (hs:s.At w base) (hc:∀ b,b < base → c b = 0) (hk:s.kind ≤ 4) :
    Calls (patch shutL Tryz.prog) 15 #[.pointer (some ⟨g,0,none⟩),.agg (stepC s)] w (RJ (fun v w'=>v = .bool true ∧ ∃ c',PlayS g base bb ww cw qw m vc vr (N + 400) 9 c' w' ∧ Low base c w c' w' ∧ w.heap.size ≤ w'.heap.size) AA):=by
  obtain ⟨D,d,e,K,G,n,Li,Lb,Lo,ws,Eb,Eo,hI,h1,h2,h3,h4,h5⟩:=h
  have hbig:=(Mid.of_inv hI).big
  by_cases k1:s.kind = 1
  · refine rj_of ((stepLook_any g base bb ww cw qw m vc vr D d e K G c w n N Li Lb Lo ws Eb Eo s hI h5 hN h1 h2 h3 h4 k1).mono ?_)
    rintro e' w' ⟨he,c',⟨G',n',Li',Lb',Lo',ws',Eb',Eo',i1,i2,i3,i4,i5,i6⟩,t⟩
    exact ⟨_,he,rfl,c',⟨D,d,e,K,G',n',Li',Lb',Lo',ws',Eb',Eo',i1,i2,i3,i4,i5,by omega⟩,Low.of_turn t (fun h=>h.1 rfl) hbig,t.size⟩
  by_cases k2:s.kind = 2
  · have q0:=hI.st.row.cell (i:=0) (by omega)
    have q1:=hI.st.row.cell (i:=1) (by omega)
    rw [hI.g0] at q0
    rw [hI.g1] at q1
    refine (stepWidth_any g base bb ww cw qw m vc vr D d e K w s q0 q1 hI.three.berth hI.three.world k2).mono ?_
    intro e' w' he
    cases e' with
    | returned v=>exact ⟨he.1,c,⟨D,d,e,K,G,n,Li,Lb,Lo,ws,Eb,Eo,((Mid.of_inv hI).below he.2).inv,by omega,by omega,by omega,by omega,by omega⟩,below_low he.2 hbig,he.2.size⟩
    | panicked ch=>exact he
    | outgrown=>exact he
  by_cases k3:s.kind = 3
  · refine rj_of ((stepReg_any g base bb ww cw qw m vc vr D d e K G c w n Li Lb Lo ws Eb Eo s hI hs hc (by omega) k3).mono ?_)
    rintro e' w' ⟨he,D',d',e1,K',c',G',i1,i2,i3⟩
    exact ⟨_,he,rfl,c',⟨D',d',e1,K',G',n,Li,Lb,Lo,ws,Eb,_,i1,by omega,by omega,by omega,by omega,by simp; omega⟩,i2,i3⟩
  by_cases k4:s.kind = 4
  · refine rj_of ((stepHealth_any g base bb ww cw qw m vc vr D d e K G c w n Li Lb Lo ws Eb Eo s hI (by omega) k4).mono ?_)
    rintro e' w' ⟨he,D',d',e1,K',c',G',i1,i2,i3⟩
    exact ⟨_,he,rfl,c',⟨D',d',e1,K',G',n,Li,Lb,Lo,ws,Eb,_,i1,by omega,by omega,by omega,by omega,by simp; omega⟩,i2,i3⟩
  refine rj_of ((stepNone_any g w s (by omega)).mono ?_)
  rintro e' w' ⟨he,hB⟩
  exact ⟨_,he,rfl,c,⟨D,d,e,K,G,n,Li,Lb,Lo,ws,Eb,Eo,((Mid.of_inv hI).below hB).inv,by omega,by omega,by omega,by omega,by omega⟩,below_low hB hbig,hB.size⟩
theorem looksP_any (g base bb ww cw qw:Nat) (m:Mach) (vc vr:Value) (N:Nat) (c:Nat → Nat) (w:World) (h:PlayS g base bb ww cw qw m vc vr N 9 c w) (hN:N ≤ 100000000000) :
    Calls (patch shutL Tryz.prog) 16 #[.pointer (some ⟨g,11,none⟩)] w fun e' w'=>e' = .returned (.bool true) ∧ ∃ c',PlayS g base bb ww cw qw m vc vr (N + 400) 7 c' w' ∧ Low base c w c' w' ∧ w.heap.size ≤ w'.heap.size:=by
  obtain ⟨D,d,e,K,G,n,Li,Lb,Lo,ws,Eb,Eo,hI,h1,h2,h3,h4,h5⟩:=h
  refine (looksD_book (N:=N) hI (by omega) hN h1 h2 h3 h4).mono ?_
  rintro e' w' ⟨he,c',k1,k2⟩
  exact ⟨he,c',k1.play,Low.of_turn k2 (fun h=>h.1 rfl) (Mid.of_inv hI).big,k2.size⟩
theorem gameLooksP_any (g base bb ww cw qw:Nat) (m:Mach) (vc vr:Value) (N:Nat) (c:Nat → Nat) (w:World) (h:PlayS g base bb ww cw qw m vc vr N 7 c w) (hN:N ≤ 100000000000) :
    Calls (patch shutL Tryz.prog) 32 #[.pointer (some ⟨g,0,none⟩)] w fun e' w'=>e' = .returned (.bool true) ∧ ∃ c',PlayS g base bb ww cw qw m vc vr (N + 400) 7 c' w' ∧ Low base c w c' w' ∧ w.heap.size ≤ w'.heap.size:=by
  obtain ⟨D,d,e,K,G,n,Li,Lb,Lo,ws,Eb,Eo,hI,h1,h2,h3,h4,h5⟩:=h
  refine (gameLooksD_any g base bb ww cw qw m vc vr D d e K G c w n N Li Lb Lo ws Eb Eo hI h5 hN h1 h2 h3 h4).mono ?_
  rintro e' w' ⟨he,c',k1,k2⟩
  exact ⟨he,c',k1.play,Low.of_turn k2 (fun h=>h.1 rfl) (Mid.of_inv hI).big,k2.size⟩
theorem settlesP_any (g base bb ww cw qw:Nat) (m:Mach) (vc vr:Value) (N:Nat) (c:Nat → Nat) (w:World) (h:PlayS g base bb ww cw qw m vc vr N 7 c w) (hN:N ≤ 100000000000) :
    Calls (patch shutL Tryz.prog) 42 #[.pointer (some ⟨g,11,none⟩)] w fun e' w'=>e' = .returned (.bool true) ∧ ∃ c',Low base c w c' w' ∧ w.heap.size ≤ w'.heap.size:=by
  obtain ⟨D,d,e,K,G,n,Li,Lb,Lo,ws,Eb,Eo,hI,h1,h2,h3,h4,h5⟩:=h
  refine (settles_any g G c w n Li Lb Lo ws Eb Eo hI.st hI.wt (by omega) (by omega) (by omega) (by omega) (by omega) (by omega) (by omega)).mono ?_
  rintro e' w' ⟨he,c',G',Li',Lb',Lo',_,_,_,_,_,_,t⟩
  exact ⟨he,c',Low.of_turn t (fun h=>h.1 rfl) (Mid.of_inv hI).big,t.size⟩
set_option maxRecDepth 100000 in
set_option maxHeartbeats 1000000 in
theorem endsP_any (g base bb ww cw qw:Nat) (m:Mach) (vc vr:Value) (N:Nat) (c:Nat → Nat) (w:World) (h:PlayS g base bb ww cw qw m vc vr N 7 c w) (hN:N + 400 ≤ 100000000000) :
    Calls (patch shutL Tryz.prog) 17 #[.pointer (some ⟨g,0,none⟩)] w fun e' w'=>e' = .returned (.bool true) ∧ ∃ c',Low base c w c' w' ∧ w.heap.size ≤ w'.heap.size:=by
  have H0:=Hid.in h
  clear h
  go_enter (pf Tryz.func17 (by rfl)),Tryz.ntmps17
  go_wp2_with fail
  refine Calls.mono (gameLooksP_any g base bb ww cw qw m vc vr N c w H0.out (by omega)) ?_
  rintro e' w1 ⟨rfl,c1,k1,k2,k3⟩
  have H1:=Hid.in (And.intro k1 (And.intro k2 k3))
  clear k1 k2 k3
  go_wp2_with fail
  refine Calls.mono (settlesP_any g base bb ww cw qw m vc vr (N + 400) c1 w1 H1.out.1 hN) ?_
  rintro e' w2 ⟨rfl,c2,k1,k2⟩
  have H2:=Hid.in (And.intro k1 k2)
  clear k1 k2
  go_wp2_with fail
  go_ret
  exact ⟨by simp,c2,H1.out.2.1.trans H2.out.1,Nat.le_trans H1.out.2.2 H2.out.2⟩
end Go.Proofs.YtojoafcnijajmaaGreatDoor.Z
