/- Part 49 of the proof that Devices answers true and leaves its input as it was, for input of bulk at most the bound of its row: ZFI G8 G0 G1. -/
import Derived.Test.YtojoafcnijajmaaGreatDoorT8
import Derived.Test.YtojoafcnijajmaaGreatDoorT48
import Derived.Test.YtojoafcnijajmaaGreatDoorT25
import Derived.ProofKit
import Derived.SizedLaws
import Derived.Deep.Slices
import Derived.Lib.SmallJoins
import Derived.Test.YtojoafcnijajmaaGreatDoorT42
import Derived.Laws.IdiomArrays
import Derived.Test.YtojoafcnijajmaaGreatDoorT45
namespace Go.Proofs.YtojoafcnijajmaaGreatDoor.Z
open Go.RowKit
attribute [local go_sem ↓] Go.wp_at_zero Go.wp_at_succ
structure Scr where
  L:Nat
  sao:Option Addr
  scap:Nat
  sb:Nat
  so:Nat
  S:Nat → SV
structure Scr.At (r:Scr) (w:World) (base:Nat):Prop where
  cap:r.L ≤ r.scap
  few:r.L ≤ 100000000
  ha:0 < r.L → r.sao = some ⟨r.sb,r.so,none⟩
  cells:∀ i,i < r.L → ∀ j,j < 13 → w.cell? ⟨r.sb,r.so + i * 13 + j,none⟩ = (stepC (r.S i))[j]?
  steps:∀ i,i < r.L → (r.S i).At w base
  low:0 < r.L → r.sb < base
theorem Scr.At.kept {r:Scr} {base:Nat} {c c':Nat → Nat} {w w':World} (h:r.At w base) (hl:Low base c w c' w') (hc:∀ b,b < base → c b = 0):r.At w' base :=
  ⟨h.cap,h.few,h.ha,fun i hi j hj=>(World.cell?_of_block (a:=⟨r.sb,r.so + i * 13 + j,none⟩) (hl r.sb (h.low (by omega)) (hc _ (h.low (by omega)))).1).trans (h.cells i hi j hj),fun i hi=>(h.steps i hi).kept hl hc,h.low⟩
theorem PlayS.more {g base bb ww cw qw:Nat} {m:Mach} {vc vr:Value} {N N' s s':Nat} {c:Nat → Nat} {w:World} (h:PlayS g base bb ww cw qw m vc vr N s c w) (hN:N ≤ N') (hs:s ≤ s'):PlayS g base bb ww cw qw m vc vr N' s' c w:=by
  obtain ⟨D,d,e,K,G,n,Li,Lb,Lo,ws,Eb,Eo,hI,h1,h2,h3,h4,h5⟩:=h
  exact ⟨D,d,e,K,G,n,Li,Lb,Lo,ws,Eb,Eo,hI,by omega,by omega,by omega,by omega,by omega⟩
theorem infoStep13:((patch shutL Tryz.prog).info? 54).map (·.size) = some 13:=infoStep
set_option maxRecDepth 100000 in
set_option maxHeartbeats 4000000 in
theorem playsD_any (m:Mach) (r:Scr) (w:World) (hm:m.At w) (hr:r.At w w.heap.size) :
    Calls (patch shutL Tryz.prog) 5 #[m.val,.slice r.sao r.L r.scap,.int .i64 4] w (RJ (fun v w'=>v = .bool true ∧ ∀ b,b < w.heap.size → w'.heap[b]? = w.heap[b]?) AA):=by
  show Calls (patch shutL Tryz.prog) 5 #[.agg #[.slice m.ao m.n m.cap,.slice m.ro m.r m.rcap,.int .i64 m.p],.slice r.sao r.L r.scap,.int .i64 4] w _
  go_enter (pf Tryz.func5 (by rfl)),Tryz.ntmps5
  have HM:=Hid.in hm
  have HR0:=Hid.in hr
  have hcap:=hr.cap
  have hfew:=hr.few
  clear hm hr
  go_wp2_with fail
  obtain ⟨W0,hW0⟩ : ∃ W,W = w.alloc (.cells #[.slice m.ao m.n m.cap,.slice m.ro m.r m.rcap,.int .i64 m.p] 25):=⟨_,rfl⟩
  obtain ⟨e1,he1⟩ : ∃ e,e = w.heap.size:=⟨_,rfl⟩
  have B0:Below w.heap.size w W0:=by rw [hW0]; exact (Below.refl _ _).alloc (Nat.le_refl _) _
  rw [← hW0,← he1]
  clear hW0 he1
  refine Calls.mono (beginLaw_any m W0 (HM.out.ext B0)) ?_
  rintro e w1 ⟨hb,hor⟩
  have H1:=Hid.in (And.intro B0 (ext_trans B0 hb))
  clear B0
  rcases hor with ⟨hno,rfl⟩ | ⟨hok,g,rfl,hg⟩
  · clear hb hno
    go_wp2_with fail
    refine bodyPost_ret (v:=.bool true) (by simp [results,Tryz.results5,go_sem]) rfl ⟨rfl,fun b hb=>H1.out.2.block b hb⟩
  · obtain ⟨base,bb,ww,cw,qw,vc,vr,G,c,Eo,oa,oc,k1,k2,k3,k4,k5,k6,k7,k8,k9,k10,k11⟩:=hg.is
    have hb0:=H1.out.1.size
    have HP:Hid (PlayS g w.heap.size bb ww cw qw m vc vr 10 7 c w1 ∧ ∀ b,b < w.heap.size → c b = 0) :=
      ⟨⟨bd0 m,nilV,nilV,tag0 bb ww cw qw vc vr,G,0,[],[],[],[],[],Eo,⟨k1,k2,three_of_two k3 hok k9 k10 (by omega),k4,k5,oa,oc,k6⟩,by omega,by simp,by simp,by simp,by simp; omega⟩,fun b hb=>k8 b (by omega)⟩
    have HR:Hid (r.At w1 w.heap.size):=HR0.out.kept (c:=c) (below_low H1.out.2 (Nat.le_refl _)) HP.out.2
    clear hb hok hg k1 k2 k3 k4 k5 k6 k7 k8 k9 k10 k11 hb0 HR0 HM
    go_wp2_with fail
    go_loopw [9] (fun i wr=>∃ k:Nat,k ≤ r.L ∧ i = .int .i64 k ∧ ∃ c',PlayS g w.heap.size bb ww cw qw m vc vr (10 + 800 * k) 7 c' wr ∧ Low w.heap.size c w1 c' wr) (fun i _=>r.L - (intOf i).toNat)
    case atStart=>exact ⟨0,by omega,rfl,c,HP.out.1,Low.refl _ _ _⟩
    case round =>
      obtain ⟨k,hk,rfl,c',hps,hlow⟩:=hrel
      have HI:=Hid.in (And.intro hps hlow)
      have Hc:Hid (∀ b,b < w.heap.size → c' b = 0):=fun b hb=>(hlow b hb (HP.out.2 b hb)).2
      clear hps hlow
      by_cases hlt:k < r.L
      · have hsa:=HR.out.ha (by omega)
        have HRr:Hid (r.At wr w.heap.size):=HR.out.kept HI.out.2 HP.out.2
        have y0:wr.cell? ⟨r.sb,r.so + k * 13,none⟩ = some (.int .i64 (r.S k).kind):=HRr.out.cells k hlt 0 (by omega)
        have kn:(k:Int) < r.L:=by omega
        rw [hsa]
        by_cases hkd:(r.S k).kind ≤ 4
        · have hkd':¬ 4 < (r.S k).kind:=by omega
          obtain ⟨cs,hcs⟩ : ∃ cs:List Value,cs = (stepC (r.S k)).toList:=⟨_,rfl⟩
          have hcl:cs.length = 13:=by rw [hcs]; rfl
          have hrg:wr.rangeAt r.sb (r.so + k * 13) cs:=fun j v hv=>by
            have hj:j < 13:=by rw [← hcl]; exact (List.getElem?_eq_some_iff.1 hv).1
            rw [HRr.out.cells k hlt j hj]
            rw [hcs] at hv
            simpa using hv
          have hiL:((patch shutL Tryz.prog).info? 54).map (·.size) = some cs.length:=by rw [hcl]; exact infoStep13
          have HC:Hid (Calls (patch shutL Tryz.prog) 15 #[.pointer (some ⟨g,0,none⟩),.agg cs.toArray] wr (RJ (fun v w'=>v = .bool true ∧ ∃ c2,PlayS g w.heap.size bb ww cw qw m vc vr (10 + 800 * k + 400) 9 c2 w' ∧ Low w.heap.size c' wr c2 w' ∧ wr.heap.size ≤ w'.heap.size) AA)):=by
            rw [hcs]
            exact stepD_any g w.heap.size bb ww cw qw m vc vr (10 + 800 * k) c' wr (r.S k) HI.out.1 (by omega) (HRr.out.steps k hlt) Hc.out hkd
          generalize (r.S k).kind = kd at y0 hkd hkd'
          clear hcs HRr
          go_wp2_with (refine wpList_load_mid rfl 54 _ rfl r.sb (r.so + k * 13) rfl cs _ hrg ((patch_underlying shutL Tryz.prog 54).trans Tryz.underlying54) rfl hiL ?_)
          refine Calls.mono HC.out ?_
          intro e' w2 he
          cases e' with
          | outgrown=>exact he.elim
          | panicked ch=>exact ⟨rfl,he⟩
          | returned v =>
            obtain ⟨rfl,c2,p2,l2,s2⟩:=he
            have H2:=Hid.in (And.intro p2 l2)
            clear p2 l2 s2 HC
            go_wp2_with fail
            refine Calls.mono (looksP_any g w.heap.size bb ww cw qw m vc vr (10 + 800 * k + 400) c2 w2 H2.out.1 (by omega)) ?_
            rintro e' w3 ⟨rfl,c3,p3,l3,s3⟩
            have H3:=Hid.in (And.intro p3 l3)
            clear p3 l3 s3
            go_wp2_with fail
            go_roundw
            case rel=>exact ⟨k + 1,by omega,by go_num,c3,H3.out.1.more (by omega) (Nat.le_refl _),(HI.out.2.trans H2.out.2).trans H3.out.2⟩
            case measure=>simp [intOf]; omega
        · have hkd':4 < (r.S k).kind:=by omega
          generalize (r.S k).kind = kd at y0 hkd hkd'
          go_wp2_with fail
          go_roundw
          case rel=>exact ⟨k + 1,by omega,by go_num,c',HI.out.1.more (by omega) (Nat.le_refl _),HI.out.2⟩
          case measure=>simp [intOf]; omega
      · have:k = r.L:=by omega
        subst this
        go_wp2_with fail
        refine Calls.mono (endsP_any g w.heap.size bb ww cw qw m vc vr (10 + 800 * r.L) c' wr HI.out.1 (by omega)) ?_
        rintro e' w2 ⟨rfl,c2,l2,s2⟩
        have H2:=Hid.in l2
        clear l2 s2
        go_wp2_with fail
        refine bodyPost_ret (v:=.bool true) (by simp [results,Tryz.results5,go_sem]) rfl ⟨rfl,fun b hb=>?_⟩
        exact ((H2.out b hb (Hc.out b hb)).1.trans (HI.out.2 b hb (HP.out.2 b hb)).1).trans (H1.out.2.block b hb)
set_option maxRecDepth 100000 in
set_option maxHeartbeats 4000000 in
theorem devicesD_any (m:Mach) (r:Scr) (w:World) (hm:m.At w) (hr:r.At w w.heap.size) :
    Calls (patch shutL Tryz.prog) 3 #[m.val,.slice r.sao r.L r.scap] w (RJ (fun v w'=>v = .bool true ∧ ∀ b,b < w.heap.size → w'.heap[b]? = w.heap[b]?) AA):=by
  show Calls (patch shutL Tryz.prog) 3 #[.agg #[.slice m.ao m.n m.cap,.slice m.ro m.r m.rcap,.int .i64 m.p],.slice r.sao r.L r.scap] w _
  have B0:Below w.heap.size w (w.alloc (.cells #[.slice m.ao m.n m.cap,.slice m.ro m.r m.rcap,.int .i64 m.p] 25)):=(Below.refl _ _).alloc (Nat.le_refl _) _
  have hr1:r.At (w.alloc (.cells #[.slice m.ao m.n m.cap,.slice m.ro m.r m.rcap,.int .i64 m.p] 25)) (w.alloc (.cells #[.slice m.ao m.n m.cap,.slice m.ro m.r m.rcap,.int .i64 m.p] 25)).heap.size:=by
    have h:=hr.kept (c:=fun _=>0) (below_low B0 (Nat.le_refl _)) (fun _ _=>rfl)
    have hz:=B0.size
    exact ⟨h.cap,h.few,h.ha,h.cells,fun i hi=>⟨(h.steps i hi).one,(h.steps i hi).cap,(h.steps i hi).few,(h.steps i hi).ha,(h.steps i hi).dev,fun h0=>Nat.lt_of_lt_of_le ((h.steps i hi).low h0) hz⟩,fun h0=>Nat.lt_of_lt_of_le (h.low h0) hz⟩
  have HP:=Hid.in (playsD_any m r _ (hm.ext B0) hr1)
  have HB:=Hid.in B0
  unfold Mach.val at HP
  clear hm hr hr1 B0
  go_enter (pf Tryz.func3 (by rfl)),Tryz.ntmps3
  go_wp2_with fail
  refine Calls.mono HP.out ?_
  intro e' w2 he
  cases e' with
  | outgrown=>exact he.elim
  | panicked ch=>exact ⟨rfl,he⟩
  | returned v =>
    obtain ⟨rfl,h2⟩:=he
    have H2:=Hid.in h2
    clear h2
    go_wp2_with fail
    refine bodyPost_ret (v:=.bool true) (by simp [results,Tryz.results3,go_sem]) rfl ⟨rfl,fun b hb=>?_⟩
    exact (H2.out b (Nat.lt_of_lt_of_le hb HB.out.size)).trans (HB.out.block b hb)
end Go.Proofs.YtojoafcnijajmaaGreatDoor.Z

namespace Go.Proofs.YtojoafcnijajmaaGreatDoor
open Go.ChangeShapes Go.WideShapes Go.ChangeAt Go.RowKit Go.Deep Go.Joins
set_option maxRecDepth 100000 in
theorem cpu_of_trod {H:Type} {enc:TypeId × Value → H} {W:World} {n:Nat} {a:Addr} {cs:List Value} {x:DataW H × List MemPlace} {sp:Nat → Bool} (hc:W.cells? 0 a 3 = some cs) (h:DataW.trod enc Tryz.prog W 0 sp true n 71 cs = some x) :
    ∃ z:Int × Int × Int,W.cell? a = some (.int .i64 z.1) ∧ W.cell? (a.add 1) = some (.int .i64 z.2.1) ∧ W.cell? (a.add 2) = some (.int .i64 z.2.2):=by
  obtain ⟨y0,y1,y2,k,rfl,hl,h0,h1,h2⟩:=trod_struct3 Tryz.underlying71 h
  obtain ⟨_,hlen,hat⟩:=World.cells?_some hc
  match cs,hlen with
  | [c0,c1,c2],_ =>
    have i1:Tryz.prog.cellsOf 3 = 1:=by kernel_rfl
    simp only [i1,List.drop,List.take] at h0 h1 h2
    obtain ⟨z0,e0,_,_⟩:=DataW.trod_int Tryz.underlying3 h0
    obtain ⟨z1,e1,_,_⟩:=DataW.trod_int Tryz.underlying3 h1
    obtain ⟨z2,e2,_,_⟩:=DataW.trod_int Tryz.underlying3 h2
    simp only [List.cons.injEq,and_true] at e0 e1 e2
    subst e0 e1 e2
    exact ⟨(z0,z1,z2),by simpa [Addr.add] using hat 0 (by omega),hat 1 (by omega),hat 2 (by omega)⟩
set_option maxRecDepth 100000 in
theorem mach_of_trod {H:Type} {enc:TypeId × Value → H} {W:World} {base:Nat} {v0:Value} {d0:DataW H} {p0:List MemPlace} (hv:Value.okWide Tryz.prog W .any base 25 v0)
    (h:DataW.Trod enc Tryz.prog W 0 (fun _=>true) true 25 v0 d0 p0) (hsz:∀ x ∈ d0.weights Tryz.prog 25,x ≤ reachBytes):∃ m:Z.Mach,v0 = m.val ∧ m.At W:=by
  obtain ⟨c0,c1,c2,y0,y1,y2,n,rfl,rfl,rfl,h0,h1,h2⟩:=open_agg3 Tryz.underlying25 (by kernel_rfl) (by kernel_rfl) hv h
  obtain ⟨p,e2,_,_⟩:=DataW.trod_int Tryz.underlying3 h2
  simp only [List.cons.injEq,and_true] at e2
  subst e2
  have b3:Tryz.prog.bytesOf 3 = 8:=by kernel_rfl
  have bc:Tryz.prog.bytesOf 71 = 24:=by kernel_rfl
  have hr:∃ (ro:Option Addr) (rb rp r rcap:Nat) (R:Nat → Int),c1 = .slice ro r rcap ∧ r ≤ rcap ∧ r * 8 ≤ 140737488355328 ∧ (0 < r → ro = some ⟨rb,rp,none⟩) ∧ Z.IntAt W rb rp r R:=by
    rcases open_ints Tryz.underlying23 Tryz.underlying3 (by kernel_rfl) h1 with ⟨hcs,hx⟩ | ⟨a,len,cap,zs,hcs,_,hl,hm,hz,hx,hcell,hwz⟩
    · simp only [List.cons.injEq,and_true] at hcs
      subst hcs
      exact ⟨none,0,0,0,0,fun _=>0,rfl,Nat.le_refl _,by omega,fun h=>absurd h (by omega),fun i hi=>absurd hi (by omega)⟩
    · simp only [List.cons.injEq,and_true] at hcs
      subst hcs
      subst hx
      simp only [if_true] at hz
      have hs:(len + (cap - len)) * 8 ≤ reachBytes:=by
        have:=hsz ((len + (cap - len)) * 8) (by simp [DataW.weights,DataW.weightsEach,Tryz.underlying25,Tryz.underlying23,b3,lits,hz,Nat.min_eq_left hl])
        exact this
      obtain ⟨rb,rp,spot⟩:=a
      refine ⟨_,rb,rp,len,cap,fun i=>zs.getD i 0,rfl,hl,by simp only [reachBytes] at hs; omega,fun hpos=>?_,fun i hi=>?_⟩
      · have hsn:spot = none:=by simpa [Addr.add] using World.cell?_spot (hcell 0 (by omega))
        rw [hsn]
      · have hc:=hcell i (by omega)
        have hsn:spot = none:=by simpa [Addr.add] using World.cell?_spot (hcell 0 (by omega))
        subst hsn
        rw [Go.WideShapes.add_plain] at hc
        exact hc
  have hcp:∃ (ao:Option Addr) (b o k cap:Nat) (S N C:Nat → Int),c0 = .slice ao k cap ∧ k ≤ cap ∧ k * 24 ≤ 140737488355328 ∧ (0 < k → ao = some ⟨b,o,none⟩) ∧ Z.CpuAt W b o k S N C:=by
    rcases open_slice Tryz.underlying22 h0 with ⟨hcs,hx⟩ | ⟨a,len,cap,m,n',D,Pl,hcs,_,hl,hm,hmm,hx,hel⟩
    · simp only [List.cons.injEq,and_true] at hcs
      subst hcs
      exact ⟨none,0,0,0,0,fun _=>0,fun _=>0,fun _=>0,rfl,Nat.le_refl _,by omega,fun h=>absurd h (by omega),fun i hi=>absurd hi (by omega)⟩
    · simp only [List.cons.injEq,and_true] at hcs
      subst hcs
      subst hx
      simp only [if_true] at hmm
      subst hmm
      have cc:Tryz.prog.cellsOf 71 = 3:=by kernel_rfl
      rw [cc] at hel
      have hs:(len + (m - len)) * 24 ≤ reachBytes:=by
        have:=hsz ((len + (m - len)) * 24) (by simp [DataW.weights,DataW.weightsEach,Tryz.underlying25,Tryz.underlying22,bc])
        exact this
      obtain ⟨Z,hZ⟩:=choose_lt (α:=Int × Int × Int) (p:=fun i z=>W.cell? (a.add (i * 3)) = some (.int .i64 z.1) ∧ W.cell? ((a.add (i * 3)).add 1) = some (.int .i64 z.2.1) ∧ W.cell? ((a.add (i * 3)).add 2) = some (.int .i64 z.2.2)) (fun i hi=>by
        obtain ⟨cs,q1,q2⟩:=hel i hi
        exact cpu_of_trod q1 q2)
      obtain ⟨b,o,spot⟩:=a
      refine ⟨_,b,o,len,m,fun i=>(Z i).1,fun i=>(Z i).2.1,fun i=>(Z i).2.2,rfl,hl,by simp only [reachBytes] at hs; omega,fun hpos=>?_,fun i hi=>?_⟩
      · have hsn:spot = none:=by simpa [Addr.add] using World.cell?_spot (hZ 0 (by omega)).1
        rw [hsn]
      · have hc:=hZ i (by omega)
        have hsn:spot = none:=by simpa [Addr.add] using World.cell?_spot (hZ 0 (by omega)).1
        subst hsn
        simp only [Go.WideShapes.add_plain] at hc
        exact hc
  obtain ⟨ro,rb,rp,r,rcap,R,rfl,q1,q2,q3,q4⟩:=hr
  obtain ⟨ao,b,o,k,cap,S,N,C,rfl,u1,u2,u3,u4⟩:=hcp
  exact ⟨⟨ao,b,o,k,cap,S,N,C,ro,rb,rp,r,rcap,R,p⟩,rfl,⟨u1,u2,u3,u4,q1,q2,q3,q4⟩⟩
end Go.Proofs.YtojoafcnijajmaaGreatDoor

namespace Go.Proofs.YtojoafcnijajmaaGreatDoor
open Go.ChangeShapes Go.WideShapes Go.ChangeAt Go.RowKit Go.Deep Go.Joins
def CB (w:World) (b:Nat):Prop:=∃ xs e g,w.heap[b]? = some (.cells xs e g)
theorem cb_of_cell {w:World} {a:Addr} {v:Value} (h:w.cell? a = some v):CB w a.block:=by
  unfold World.cell? at h
  cases ho:w.heap[a.block]? with
  | none=>rw [ho] at h; cases h
  | some o =>
    rw [ho] at h
    cases o with
    | cells xs t g=>exact ⟨_,_,_,ho⟩
    | _=>cases h
theorem cb_of_shape {w:World} {b:Nat} {x:TypeId × Nat} (h:w.shape? b = some x):CB w b:=by
  unfold World.shape? at h
  cases ho:w.heap[b]? with
  | none=>rw [ho] at h; cases h
  | some o =>
    rw [ho] at h
    cases o with
    | cells xs t g=>exact ⟨_,_,_,ho⟩
    | _=>cases h
theorem cb_of_okWide {P:Program} {w:World} {r:Reach} {base:Nat} {t e:TypeId} {a:Addr} {l c:Nat} (hu:P.underlying t = some (.slice e)) (h:Cell.okWide P w r base t (.slice (some a) l c)):CB w a.block:=by
  unfold Cell.okWide at h
  rw [hu] at h
  simp only [Cell.ok,hu] at h
  obtain ⟨_,_,_,_,row,cells,h1,_⟩:=h
  exact cb_of_shape h1
theorem bulk_one {H:Type} (d:DataW H):1 ≤ Rows.uptoBulk d:=by
  cases d with
  | lit l=>cases l <;> simp [Rows.uptoBulk]
  | nil=>simp [Rows.uptoBulk]
  | ptr d=>simp [Rows.uptoBulk]
  | slice elems spare=>simp [Rows.uptoBulk]
  | agg parts=>simp [Rows.uptoBulk]
  | iface t d=>simp [Rows.uptoBulk]
  | map entries=>simp [Rows.uptoBulk]
  | held h=>simp [Rows.uptoBulk]
theorem bulk_part {H:Type} {d:DataW H} {l:List (DataW H)} (h:d ∈ l):Rows.uptoBulk d ≤ Rows.uptoBulkAll l:=by
  induction l with
  | nil=>cases h
  | cons x r ih =>
    simp only [Rows.uptoBulkAll]
    cases List.mem_cons.1 h with
    | inl e=>subst e; omega
    | inr e=>have:=ih e; omega
theorem bulk_length {H:Type} (l:List (DataW H)):l.length ≤ Rows.uptoBulkAll l:=by
  induction l with
  | nil=>simp [Rows.uptoBulkAll]
  | cons x r ih=>have:=bulk_one x; simp only [Rows.uptoBulkAll,List.length_cons]; omega
theorem bulk_slice {H:Type} (elems spare:List (DataW H)):elems.length ≤ Rows.uptoBulk (.slice elems spare):=by
  have h1:=bulk_length elems
  simp only [Rows.uptoBulk]
  omega
section
variable {H:Type} {enc:TypeId × Value → H} {W:World}
set_option maxRecDepth 100000 in
theorem dev_of_trod {n:Nat} {a:Addr} {cs:List Value} {x:DataW H × List MemPlace} {sp:Nat → Bool} (hc:W.cells? 0 a 2 = some cs) (h:DataW.trod enc Tryz.prog W 0 sp true n 80 cs = some x) :
    ∃ z:Int × Bool,W.cell? a = some (.int .i64 z.1) ∧ W.cell? (a.add 1) = some (.bool z.2):=by
  obtain ⟨y0,y1,k,rfl,hl,h0,h1⟩:=trod_struct2 Tryz.underlying80 h
  obtain ⟨_,hlen,hat⟩:=World.cells?_some hc
  match cs,hlen with
  | [c0,c1],_ =>
    have i1:Tryz.prog.cellsOf 3 = 1:=by kernel_rfl
    have i2:Tryz.prog.cellsOf 4 = 1:=by kernel_rfl
    simp only [i1,i2,List.drop,List.take] at h0 h1
    obtain ⟨z0,e0,_,_⟩:=DataW.trod_int Tryz.underlying3 h0
    obtain ⟨z1,e1,_⟩:=DataW.trod_bool Tryz.underlying4 h1
    simp only [List.cons.injEq,and_true] at e0 e1
    subst e0 e1
    exact ⟨(z0,z1),by simpa [Addr.add] using hat 0 (by omega),hat 1 (by omega)⟩
theorem slice_cell {n:Nat} {t e:TypeId} {c:Value} {y:DataW H × List MemPlace} {sp:Nat → Bool} (ht:Tryz.prog.underlying t = some (.slice e)) (h:DataW.trod enc Tryz.prog W 0 sp true n t [c] = some y):c.oneCell' = true:=by
  rcases open_slice ht h with ⟨hcs,_⟩ | ⟨a,len,cap,m,n',D,Pl,hcs,_⟩
  · simp only [List.cons.injEq,and_true] at hcs; subst hcs; rfl
  · simp only [List.cons.injEq,and_true] at hcs; subst hcs; rfl
set_option maxRecDepth 100000 in
theorem devs_of_trod {n:Nat} {c:Value} {y:DataW H × List MemPlace} (h:DataW.trod enc Tryz.prog W 0 (fun _=>true) true n 36 [c] = some y) :
    ∃ (dao:Option Addr) (dn dcap db doff:Nat) (NN:Nat → Int) (HH:Nat → Bool),c = .slice dao dn dcap ∧ dn ≤ dcap ∧ dn ≤ Rows.uptoBulk y.1 ∧ (0 < dn → dao = some ⟨db,doff,none⟩) ∧ Z.DevAt W db doff dn NN HH ∧ (∀ x,dao = some x → CB W x.block ∨ (dn = 0 ∧ dcap = 0)):=by
  rcases open_slice Tryz.underlying36 h with ⟨hcs,hx⟩ | ⟨a,len,cap,m,n',D,Pl,hcs,_,hl,hm,hmm,hx,hel⟩
  · simp only [List.cons.injEq,and_true] at hcs
    subst hcs
    exact ⟨none,0,0,0,0,fun _=>0,fun _=>false,rfl,Nat.le_refl _,Nat.zero_le _,fun h=>absurd h (by omega),fun i hi=>absurd hi (by omega),fun x hx=>by cases hx⟩
  · simp only [List.cons.injEq,and_true] at hcs
    subst hcs
    subst hx
    simp only [if_true] at hmm
    subst hmm
    have cc:Tryz.prog.cellsOf 80 = 2:=by kernel_rfl
    rw [cc] at hel
    obtain ⟨Z,hZ⟩:=choose_lt (α:=Int × Bool) (p:=fun i z=>W.cell? (a.add (i * 2)) = some (.int .i64 z.1) ∧ W.cell? ((a.add (i * 2)).add 1) = some (.bool z.2)) (fun i hi=>by
      obtain ⟨cs,q1,q2⟩:=hel i hi
      exact dev_of_trod q1 q2)
    obtain ⟨b,o,spot⟩:=a
    refine ⟨_,len,m,b,o,fun i=>(Z i).1,fun i=>(Z i).2,rfl,hl,?_,fun hpos=>?_,fun i hi=>?_,fun x hx=>?_⟩
    · have:=bulk_slice ((List.range len).map D) ((List.range (m - len)).map fun j=>D (len + j))
      simpa using this
    · have hsn:spot = none:=by simpa [Addr.add] using World.cell?_spot (hZ 0 (by omega)).1
      rw [hsn]
    · have hc:=hZ i (by omega)
      have hsn:spot = none:=by simpa [Addr.add] using World.cell?_spot (hZ 0 (by omega)).1
      subst hsn
      simp only [Go.WideShapes.add_plain] at hc
      exact hc
    · cases hx
      rcases Nat.eq_zero_or_pos m with h0 | h0
      · exact .inr ⟨by omega,h0⟩
      · exact .inl (cb_of_cell (a:=(⟨b,o,spot⟩ : Addr).add (0 * 2)) (hZ 0 h0).1)
theorem trod_struct10 {P:Program} {t:TypeId} {f0 f1 f2 f3 f4 f5 f6 f7 f8 f9:Field} {base fuel:Nat} {sp:Nat → Bool} {held:Bool} {cs:List Value} {x:DataW H × List MemPlace} (ht:P.underlying t = some (.struct #[f0,f1,f2,f3,f4,f5,f6,f7,f8,f9])) (h:DataW.trod enc P W base sp held fuel t cs = some x) :
    ∃ y0 y1 y2 y3 y4 y5 y6 y7 y8 y9 n q,x = (.agg [y0.1,y1.1,y2.1,y3.1,y4.1,y5.1,y6.1,y7.1,y8.1,y9.1],q) ∧ DataW.trod enc P W base sp held n f0.type ((cs.drop f0.offset).take (P.cellsOf f0.type)) = some y0 ∧ DataW.trod enc P W base sp held n f1.type ((cs.drop f1.offset).take (P.cellsOf f1.type)) = some y1 ∧ DataW.trod enc P W base sp held n f2.type ((cs.drop f2.offset).take (P.cellsOf f2.type)) = some y2 ∧ DataW.trod enc P W base sp held n f3.type ((cs.drop f3.offset).take (P.cellsOf f3.type)) = some y3 ∧ DataW.trod enc P W base sp held n f4.type ((cs.drop f4.offset).take (P.cellsOf f4.type)) = some y4 ∧ DataW.trod enc P W base sp held n f5.type ((cs.drop f5.offset).take (P.cellsOf f5.type)) = some y5 ∧ DataW.trod enc P W base sp held n f6.type ((cs.drop f6.offset).take (P.cellsOf f6.type)) = some y6 ∧ DataW.trod enc P W base sp held n f7.type ((cs.drop f7.offset).take (P.cellsOf f7.type)) = some y7 ∧ DataW.trod enc P W base sp held n f8.type ((cs.drop f8.offset).take (P.cellsOf f8.type)) = some y8 ∧ DataW.trod enc P W base sp held n f9.type ((cs.drop f9.offset).take (P.cellsOf f9.type)) = some y9:=by
  obtain ⟨xs,n,_,rfl,hl,hlen,hf⟩:=DataW.trod_struct ht h
  match xs,hlen with
  | [y0,y1,y2,y3,y4,y5,y6,y7,y8,y9],_=>exact ⟨y0,y1,y2,y3,y4,y5,y6,y7,y8,y9,n,_,rfl,by simpa using hf 0 f0 rfl,by simpa using hf 1 f1 rfl,by simpa using hf 2 f2 rfl,by simpa using hf 3 f3 rfl,by simpa using hf 4 f4 rfl,by simpa using hf 5 f5 rfl,by simpa using hf 6 f6 rfl,by simpa using hf 7 f7 rfl,by simpa using hf 8 f8 rfl,by simpa using hf 9 f9 rfl⟩
structure StepIn (W:World) (a:Addr) (s:Z.SV) (bulk:Nat):Prop where
  cells:∀ j,j < 13 → W.cell? (a.add j) = (Z.stepC s)[j]?
  one:s.v3.oneCell' = true ∧ s.v10.oneCell' = true ∧ s.v11.oneCell' = true ∧ s.v12.oneCell' = true
  cap:s.dn ≤ s.dcap
  few:s.dn ≤ bulk
  ha:0 < s.dn → s.dao = some ⟨s.db,s.doff,none⟩
  dev:Z.DevAt W s.db s.doff s.dn s.NN s.HH
  cb:∀ x,s.dao = some x → CB W x.block ∨ (s.dn = 0 ∧ s.dcap = 0)
set_option maxRecDepth 100000 in
theorem step_of_trod {n:Nat} {a:Addr} {cs:List Value} {x:DataW H × List MemPlace} (hc:W.cells? 0 a 13 = some cs) (h:DataW.trod enc Tryz.prog W 0 (fun _=>true) true n 54 cs = some x) :
    ∃ s:Z.SV,StepIn W a s (Rows.uptoBulk x.1):=by
  obtain ⟨y0,y1,y2,y3,y4,y5,y6,y7,y8,y9,m,q,rfl,f0,f1,f2,f3,f4,f5,f6,f7,f8,f9⟩:=trod_struct10 Tryz.underlying54 h
  obtain ⟨_,hlen',hat⟩:=World.cells?_some hc
  match cs,hlen' with
  | [c0,c1,c2,c3,c4,c5,c6,c7,c8,c9,c10,c11,c12],_ =>
      have i1:Tryz.prog.cellsOf 3 = 1:=by kernel_rfl
      have i2:Tryz.prog.cellsOf 4 = 1:=by kernel_rfl
      have i3:Tryz.prog.cellsOf 9 = 1:=by kernel_rfl
      have i4:Tryz.prog.cellsOf 32 = 4:=by kernel_rfl
      have i5:Tryz.prog.cellsOf 36 = 1:=by kernel_rfl
      have i6:Tryz.prog.cellsOf 23 = 1:=by kernel_rfl
      have i7:Tryz.prog.cellsOf 52 = 1:=by kernel_rfl
      have i8:Tryz.prog.cellsOf 30 = 3:=by kernel_rfl
      simp only [i1,i2,i3,i4,i5,i6,i7,List.drop,List.take] at f0 f1 f2 f3 f4 f5 f6 f7 f8 f9
      obtain ⟨z0,e0,_,_⟩:=DataW.trod_int Tryz.underlying3 f0
      obtain ⟨z1,e1,_,_⟩:=DataW.trod_int Tryz.underlying3 f1
      obtain ⟨z2,e2,_,_⟩:=DataW.trod_int Tryz.underlying3 f2
      obtain ⟨s3,e3,_,_⟩:=DataW.trod_string Tryz.underlying9 f3
      obtain ⟨g0,g1,k4,_,_,h40,h41⟩:=trod_struct2 Tryz.underlying32 f4
      simp only [i1,i8,List.drop,List.take] at h40 h41
      obtain ⟨z4,e4,_,_⟩:=DataW.trod_int Tryz.underlying3 h40
      obtain ⟨g5,g6,g7,k5,_,h50,h51,h52⟩:=trod_array3 Tryz.underlying30 i1 h41
      obtain ⟨z5,e5,_,_⟩:=DataW.trod_int Tryz.underlying3 h50
      obtain ⟨z6,e6,_,_⟩:=DataW.trod_int Tryz.underlying3 h51
      obtain ⟨z7,e7,_,_⟩:=DataW.trod_int Tryz.underlying3 h52
      obtain ⟨dao,dn,dcap,db,doff,NN,HH,rfl,d1,d2,d3,d4,d5⟩:=devs_of_trod f5
      obtain ⟨z9,e9,_⟩:=DataW.trod_bool Tryz.underlying4 f6
      have o10:=slice_cell Tryz.underlying23 f7
      have o11:=slice_cell Tryz.underlying52 f8
      obtain ⟨z12,e12,_,_⟩:=DataW.trod_int Tryz.underlying3 f9
      simp only [List.cons.injEq,and_true] at e0 e1 e2 e3 e4 e5 e6 e7 e9 e12
      subst e0 e1 e2 e3 e4 e5 e6 e7 e9 e12
      refine ⟨⟨z0,z1,z2,.string s3,fun k=>match k with | 0=>z4 | 1=>z5 | 2=>z6 | _=>z7,dao,dn,dcap,z9,c10,c11,.int .i64 z12,db,doff,NN,HH⟩,⟨fun j hj=>?_,⟨rfl,o10,o11,rfl⟩,d1,?_,d3,d4,d5⟩⟩
      · rw [hat j hj]
        obtain rfl | rfl | rfl | rfl | rfl | rfl | rfl | rfl | rfl | rfl | rfl | rfl | rfl:j = 0 ∨ j = 1 ∨ j = 2 ∨ j = 3 ∨ j = 4 ∨ j = 5 ∨ j = 6 ∨ j = 7 ∨ j = 8 ∨ j = 9 ∨ j = 10 ∨ j = 11 ∨ j = 12:=by omega
        all_goals rfl
      · refine Nat.le_trans d2 ?_
        have h1:Rows.uptoBulk y5.1 ≤ Rows.uptoBulkAll [y0.1,y1.1,y2.1,y3.1,y4.1,y5.1,y6.1,y7.1,y8.1,y9.1]:=bulk_part (by simp)
        simp only [Rows.uptoBulk]
        omega
end
end Go.Proofs.YtojoafcnijajmaaGreatDoor

namespace Go.Proofs.YtojoafcnijajmaaGreatDoor
open Go.RowKit Go.Conc Go.ConcN
theorem VR.one {p:Nat → Nat → Prop} {v u:Value} (h:VR p v u) (hu:u.oneCell' = true):v.oneCell' = true:=by
  have hc:=h.cases
  cases v <;> first
    | rfl
    | (cases u <;> first | exact hc.elim | (cases hu; done) | (exact Bool.noConfusion hc))
theorem sa_self {Z:Nat → Prop} {a:Option Addr} {l c:Nat} (h:∀ x,a = some x → Z x.block ∨ (l = 0 ∧ c = 0)):SA (fun b c=>b = c ∧ Z b) l c a a:=by
  cases a with
  | none=>trivial
  | some x =>
    rcases h x rfl with h | h
    · exact .inl ⟨⟨rfl,h⟩,rfl,rfl⟩
    · exact .inr h
theorem choose2 {α:Type} {R:Nat → Nat → α → Prop} (h:∀ i j,∃ v,R i j v):∃ V:Nat → Nat → α,∀ i j,R i j (V i j) :=
  ⟨fun i j=>(h i j).choose,fun i j=>(h i j).choose_spec⟩
set_option maxRecDepth 10000 in
theorem devices_good (m:Z.Mach) (r:Z.Scr) (w:World) (hm:m.At w) (hr:r.At w w.heap.size) (hG:Tryz.prog.globals.size ≤ w.heap.size)
    (ha:∀ x,m.ao = some x → CB w x.block ∨ (m.n = 0 ∧ m.cap = 0)) (hb:∀ x,m.ro = some x → CB w x.block ∨ (m.r = 0 ∧ m.rcap = 0)) (hc:∀ x,r.sao = some x → CB w x.block ∨ (r.L = 0 ∧ r.scap = 0))
    (hd:∀ i,i < r.L → ∀ x,(r.S i).dao = some x → CB w x.block ∨ ((r.S i).dn = 0 ∧ (r.S i).dcap = 0)) :
    ∃ N last o w' t',runNT Tryz.prog (N + 1) (solo (G (Frame.enter Tryz.prog 3 #[m.val,.slice r.sao r.L r.scap] .normal) []) w) #[] = (.ended o w',t') ∧ runN Tryz.prog N (solo (G (Frame.enter Tryz.prog 3 #[m.val,.slice r.sao r.L r.scap] .normal) []) w) = .next last ∧
      step Tryz.prog last = .ended o w' ∧ Conc.Good Tryz.prog (fun v u=>v = .bool true ∧ Below w.heap.size w u) last o w' t':=by
  obtain ⟨wL,hWR,hs,hcell⟩:=frozen_world ((patch shutL Tryz.prog)).globals.size (CB w) w hG fun b h=>h
  have same:∀ {a v},w.cell? a = some v → staysV (CB w) v → wL.cell? a = some v:=fun h hv=>by
    obtain ⟨v',h1,_,h3⟩:=hcell _ _ h
    rw [h1,h3 hv]
  have isInt:∀ k n,staysV (CB w) (.int k n):=fun _ _=>.inl trivial
  have isBool:∀ b,staysV (CB w) (.bool b):=fun _=>.inl trivial
  obtain ⟨V,hV⟩:=choose2 (R:=fun i j v=>i < r.L → j < 13 → wL.cell? ⟨r.sb,r.so + i * 13 + j,none⟩ = some v ∧ ∀ u,(Z.stepC (r.S i))[j]? = some u → (v = u ∨ VR (fun b c=>b = c ∧ CB w b) v u) ∧ (staysV (CB w) u → v = u)) (fun i j=>by
    by_cases hi:i < r.L ∧ j < 13
    · have h1:=hr.cells i hi.1 j hi.2
      cases hu:(Z.stepC (r.S i))[j]? with
      | none =>
        rw [Array.getElem?_eq_none_iff] at hu
        exact absurd hi.2 (by simpa [Z.stepC] using hu)
      | some u =>
        rw [hu] at h1
        obtain ⟨v',q1,q2,q3⟩:=hcell _ _ h1
        exact ⟨v',fun _ _=>⟨q1,fun u' e=>by cases e; exact ⟨q2,q3⟩⟩⟩
    · exact ⟨undef,fun h1 h2=>absurd ⟨h1,h2⟩ hi⟩)
  have one:∀ i j u,i < r.L → j < 13 → (Z.stepC (r.S i))[j]? = some u → u.oneCell' = true → (V i j).oneCell' = true:=fun i j u hi hj hu h1=>by
    rcases ((hV i j hi hj).2 u hu).1 with e | e
    · rw [e]; exact h1
    · exact e.one h1
  have st:∀ i j u,i < r.L → j < 13 → (Z.stepC (r.S i))[j]? = some u → staysV (CB w) u → V i j = u:=fun i j u hi hj hu h1=>((hV i j hi hj).2 u hu).2 h1
  have hsl:∀ i,i < r.L → staysV (CB w) (.slice (r.S i).dao (r.S i).dn (r.S i).dcap):=fun i hi=>by
    cases e:(r.S i).dao with
    | none=>exact .inl trivial
    | some x =>
      rcases hd i hi x e with h | ⟨h1,h2⟩
      · exact .inl h
      · rw [h1,h2]; exact .inr ⟨_,rfl⟩
  have hmL:∀ T,m.At (taped wL T):=fun T=>⟨hm.ncap,hm.nmax,hm.addr,fun i hi=>⟨same (hm.cpus i hi).1 (isInt _ _),same (hm.cpus i hi).2.1 (isInt _ _),same (hm.cpus i hi).2.2 (isInt _ _)⟩,hm.rc,hm.rmax,hm.raddr,fun i hi=>same (hm.ints i hi) (isInt _ _)⟩
  have hrL:∀ T,Z.Scr.At { r with S:=fun i=>{ r.S i with v3:=V i 3,v10:=V i 10,v11:=V i 11,v12:=V i 12 } } (taped wL T) (taped wL T).heap.size:=fun T=>by
    refine ⟨hr.cap,hr.few,hr.ha,fun i hi j hj=>?_,fun i hi=>?_,fun h=>?_⟩
    · refine (hV i j hi hj).1.trans ?_
      have key:∀ u,(Z.stepC (r.S i))[j]? = some u → staysV (CB w) u → some (V i j) = some u:=fun u hu h1=>by rw [st i j u hi hj hu h1]
      obtain rfl | rfl | rfl | rfl | rfl | rfl | rfl | rfl | rfl | rfl | rfl | rfl | rfl:j = 0 ∨ j = 1 ∨ j = 2 ∨ j = 3 ∨ j = 4 ∨ j = 5 ∨ j = 6 ∨ j = 7 ∨ j = 8 ∨ j = 9 ∨ j = 10 ∨ j = 11 ∨ j = 12:=by omega
      · exact key _ rfl (isInt _ _)
      · exact key _ rfl (isInt _ _)
      · exact key _ rfl (isInt _ _)
      · rfl
      · exact key _ rfl (isInt _ _)
      · exact key _ rfl (isInt _ _)
      · exact key _ rfl (isInt _ _)
      · exact key _ rfl (isInt _ _)
      · exact key _ rfl (hsl i hi)
      · exact key _ rfl (isBool _)
      · rfl
      · rfl
      · rfl
    · have h:=hr.steps i hi
      obtain ⟨o1,o2,o3,o4⟩:=h.one
      refine ⟨⟨one i 3 _ hi (by omega) rfl o1,one i 10 _ hi (by omega) rfl o2,one i 11 _ hi (by omega) rfl o3,one i 12 _ hi (by omega) rfl o4⟩,h.cap,h.few,h.ha,fun k hk=>⟨same (h.dev k hk).1 (isInt _ _),same (h.dev k hk).2 (isBool _)⟩,fun h0=>?_⟩
      have:=h.low h0
      show (r.S i).db < wL.heap.size
      rw [hs]; exact this
    · have:=hr.low h
      show r.sb < wL.heap.size
      rw [hs]; exact this
  refine good_of_lone (vd:=Z.vdB) Z.vdB_flat Z.workerL_any Z.judgeL_any (wL:=wL) (Za:=CB w) rfl hWR (fun v hv=>?_) fun T=>?_
  · simp only [List.mem_cons,List.not_mem_nil,or_false] at hv
    rcases hv with rfl | rfl
    · refine VR.agg (AllR.same fun v hv=>?_)
      simp only [List.mem_toArray,List.mem_cons,List.not_mem_nil,or_false] at hv
      rcases hv with rfl | rfl | rfl
      · exact VR.sliceS (sa_self ha)
      · exact VR.sliceS (sa_self hb)
      · exact VR.int _ _
    · exact VR.sliceS (sa_self hc)
  · refine (Z.devicesD_any m _ (taped wL T) (hmL T) (hrL T)).mono fun e w' h=>?_
    cases e with
    | returned v=>exact h.1
    | panicked ch=>exact h
    | outgrown=>exact h
end Go.Proofs.YtojoafcnijajmaaGreatDoor
