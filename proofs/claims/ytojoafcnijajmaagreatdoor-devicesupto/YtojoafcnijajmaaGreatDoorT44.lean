/- Part 44 of the proof that Devices answers true and leaves its input as it was, for input of bulk at most the bound of its row: ZDD ZDE YE ZDF. -/
import Derived.Test.YtojoafcnijajmaaGreatDoorT8
import Derived.Test.YtojoafcnijajmaaGreatDoorT43
import Derived.Test.YtojoafcnijajmaaGreatDoorT22
import Derived.Test.YtojoafcnijajmaaGreatDoorT23
import Derived.Conc.LeavingOf
import Derived.Handed
namespace Go.Proofs.YtojoafcnijajmaaGreatDoor.Z
open Go.RowKit
attribute [local go_sem ↓] Go.wp_at_zero Go.wp_at_succ
attribute [local go_sem] After.cell After.frozen After.const
set_option maxRecDepth 100000 in
set_option maxHeartbeats 4000000 in
theorem judgeRB_any (D:BD) (B:Nat) (c:Nat → Int) (t22 t23:Value) (w:World) (hb:BerthC w B D) (hok:D.ok) :
    (rest4 ((judgeS 417 Tryz.f22).body.getD .skip)).wp (patch shutL Tryz.prog) (bodyPost (patch shutL Tryz.prog) (judgeS 417 Tryz.f22) (fun | .returned v,w'=>JudgePost (fun i=>vdB D i (c i)) c w v w' ∧ Below w.heap.size w w' | _,_=>False))
      ⟨#[ptr B,.agg (intsOf c),undef,undef,undef,undef,undef,undef,undef,undef,undef,undef,undef,undef,undef,undef,undef,undef,undef,undef,undef,undef,t22,t23,undef,undef,undef,undef],[]⟩ w:=by
  have hres:(judgeS 417 Tryz.f22).results = #[.tmp 4]:=by kernel_rfl
  generalize hQ:bodyPost (patch shutL Tryz.prog) (judgeS 417 Tryz.f22) _ = Q
  simp only [judgeS,judgeBody,rest4,Tryz.f22,Option.getD_some,Option.map_some,intsOf,opOf,callOf]
  unfold ptr
  have HH:Hid (BerthC w B D ∧ D.ok ∧ bodyPost (patch shutL Tryz.prog) (judgeS 417 Tryz.f22) (fun | .returned v,w'=>JudgePost (fun i=>vdB D i (c i)) c w v w' ∧ Below w.heap.size w w' | _,_=>False) = Q):=⟨hb,hok,hQ⟩
  clear hb hok hQ
  have hmk:=fun W:World=>make_verd W
  go_wp2_with fail
  obtain ⟨W,hW⟩ : ∃ W,W = (((((w.alloc (.cells #[.pointer (some ⟨B,0,none⟩)] 34)).alloc (.cells #[.int .i64 (c 0),.int .i64 (c 1),.int .i64 (c 2),.int .i64 (c 3)] 40)).alloc (.cells zeroRow 86)).alloc (.cells #[.slice (some ⟨w.heap.size + 1 + 1,0,none⟩) 4 4] 82)).alloc (.cells #[.int .u64 0,.int .u32 0] 118)):=⟨_,rfl⟩
  have HW:Hid (W.heap[w.heap.size]? = some (.cells #[.pointer (some ⟨B,0,none⟩)] 34 (0,0)) ∧ W.heap[w.heap.size + 1 + 1]? = some (.cells zeroRow 86 (0,0)) ∧ W.heap[w.heap.size + 1 + 1 + 1]? = some (.cells #[.slice (some ⟨w.heap.size + 1 + 1,0,none⟩) 4 4] 82 (0,0)) ∧ Below w.heap.size w W ∧ W.heap.size = w.heap.size + 5):=by
    have s1:∀ o,(w.alloc o).heap.size = w.heap.size + 1:=fun o=>by simp
    rw [hW]
    refine ⟨?_,?_,?_,?_,by simp⟩
    · rw [Below.heap_alloc _ _ _ (by simp; omega),Below.heap_alloc _ _ _ (by simp; omega),Below.heap_alloc _ _ _ (by simp; omega),Below.heap_alloc _ _ _ (by simp)]
      exact heap_alloc_new _ _
    · rw [Below.heap_alloc _ _ _ (by simp),Below.heap_alloc _ _ _ (by simp)]
      have:=heap_alloc_new ((w.alloc (.cells #[.pointer (some ⟨B,0,none⟩)] 34)).alloc (.cells #[.int .i64 (c 0),.int .i64 (c 1),.int .i64 (c 2),.int .i64 (c 3)] 40)) (.cells zeroRow 86)
      simpa using this
    · rw [Below.heap_alloc _ _ _ (by simp)]
      have:=heap_alloc_new (((w.alloc (.cells #[.pointer (some ⟨B,0,none⟩)] 34)).alloc (.cells #[.int .i64 (c 0),.int .i64 (c 1),.int .i64 (c 2),.int .i64 (c 3)] 40)).alloc (.cells zeroRow 86)) (.cells #[.slice (some ⟨w.heap.size + 1 + 1,0,none⟩) 4 4] 82)
      simpa using this
    · exact ((((((Below.refl _ _).alloc (Nat.le_refl _) _).alloc (by simp) _).alloc (by simp; omega) _).alloc (by simp; omega) _).alloc (by simp; omega) _)
  rw [← hW]
  clear hW hmk
  go_loopw [11] (fun i wr=>∃ k:Nat,k ≤ 4 ∧ i = .int .i64 k ∧ wr.rowIs (w.heap.size + 1 + 1) 86 68 (vrow D c k) ∧ (∀ b,b < W.heap.size → b ≠ w.heap.size + 1 + 1 → wr.heap[b]? = W.heap[b]?) ∧ Below w.heap.size w wr ∧ W.heap.size ≤ wr.heap.size) (fun i _=>4 - (intOf i).toNat)
  case atStart=>exact ⟨0,by omega,rfl,zeroRow_rowIs HW.out.2.1 D c,fun _ _ _=>rfl,HW.out.2.2.2.1,Nat.le_refl _⟩
  case round =>
    obtain ⟨k,hk,rfl,hrow,hkp,hb,hsz⟩:=hrel
    have HO:Hid (wr.rowIs (w.heap.size + 1 + 1) 86 68 (vrow D c k) ∧ (∀ b,b < W.heap.size → b ≠ w.heap.size + 1 + 1 → wr.heap[b]? = W.heap[b]?) ∧ Below w.heap.size w wr ∧ W.heap.size ≤ wr.heap.size):=⟨hrow,hkp,hb,hsz⟩
    clear hrow hkp hb hsz
    by_cases hlt:k < 4
    · have hix:=index_ints c k hlt
      have kn:(k:Int) < 4:=by omega
      by_cases hc:0 < c k
      · have HA:Hid (BerthC ((wr.alloc (.cells #[.int .i64 (k:Int)] 3)).alloc (.cells #[.int .i64 (c k)] 3)) B D ∧ ((wr.alloc (.cells #[.int .i64 (k:Int)] 3)).alloc (.cells #[.int .i64 (c k)] 3)).cell? ⟨w.heap.size,0,none⟩ = some (ptr B) ∧
            ((wr.alloc (.cells #[.int .i64 (k:Int)] 3)).alloc (.cells #[.int .i64 (c k)] 3)).cell? ⟨wr.heap.size,0,none⟩ = some (.int .i64 k) ∧ ((wr.alloc (.cells #[.int .i64 (k:Int)] 3)).alloc (.cells #[.int .i64 (c k)] 3)).cell? ⟨wr.heap.size + 1,0,none⟩ = some (.int .i64 (c k))):=by
          have hbw:Below wr.heap.size wr ((wr.alloc (.cells #[.int .i64 (k:Int)] 3)).alloc (.cells #[.int .i64 (c k)] 3)):=((Below.refl _ _).alloc (Nat.le_refl _) _).alloc (by simp) _
          have z5:=HW.out.2.2.2.2
          have z6:=HO.out.2.2.2
          refine ⟨BerthC.below (BerthC.below HH.out.1 HO.out.2.2.1) hbw,?_,?_,?_⟩
          · exact keeps hbw ((blk ((HO.out.2.1 w.heap.size (by omega) (by omega)).trans HW.out.1)).1 0)
          · exact (blk (heap_alloc2_old wr _ _)).1 0
          · exact (blk (heap_alloc2_new wr _ _)).1 0
        obtain ⟨vs,hvs⟩ : ∃ vs,vs = verdV (inN D k (usN D k)) (inN D k (usN D k)) (c k):=⟨_,rfl⟩
        have hvz:vs.size = 17:=by rw [hvs,verdV_size]
        have hva:vs.all (·.oneCell') = true:=by rw [hvs]; exact judge_all _ _ _
        have hvi:((patch shutL Tryz.prog).info? 86).map (·.size) = some vs.size:=by rw [hvz]; exact infoVerd
        have hcall:=fun x0 x4=>workerB_any D B w.heap.size wr.heap.size (wr.heap.size + 1) k (c k) x0 x4 _ HA.out.1 HH.out.2.1 hlt hc HA.out.2.1 HA.out.2.2.1 HA.out.2.2.2
        rw [← hvs] at hcall
        unfold ptr at hcall
        have HVS:Hid (vs = verdV (inN D k (usN D k)) (inN D k (usN D k)) (c k)):=hvs
        clear hvs HA
        have HK:Hid (∀ x0 x4,_):=hcall
        clear hcall
        go_wp2_with (first
          | (go_at_call 52; refine (HK.out _ _).mono ?_; intro e w2 he; cases e with | panicked _=>exact he.elim | outgrown=>exact he.elim | returned v=>?_; obtain ⟨hv,hb2⟩:=he; unfold WOut at hv; subst hv; have R2:=judge_kept HO.out.1 hb2; have HT:=judge_there R2 hlt hvz; clear HK)
          | refine wpList_store_mid rfl 86 _ _ rfl (w.heap.size + 1 + 1) (k * 17) vs rfl rfl HT hvi hva ?_)
        have H2:Hid (w2.rowIs (w.heap.size + 1 + 1) 86 68 (vrow D c k) ∧ Below ((wr.alloc (.cells #[.int .i64 (k:Int)] 3)).alloc (.cells #[.int .i64 (c k)] 3)).heap.size ((wr.alloc (.cells #[.int .i64 (k:Int)] 3)).alloc (.cells #[.int .i64 (c k)] 3)) w2):=⟨R2,hb2⟩
        clear R2 HT hb2
        go_roundw
        case rel =>
          have z5:=HW.out.2.2.2.2
          have z6:=HO.out.2.2.2
          have hbw:Below wr.heap.size wr ((wr.alloc (.cells #[.int .i64 (k:Int)] 3)).alloc (.cells #[.int .i64 (c k)] 3)):=((Below.refl _ _).alloc (Nat.le_refl _) _).alloc (by simp) _
          have hb3:=ext_trans hbw H2.out.2
          refine ⟨k + 1,by omega,by go_num,?_,fun b hb hne=>?_,?_,?_⟩
          · exact vrow_set H2.out.1 hc HVS.out
          · exact (jset_other hne _ _ _).trans ((hb3.block b (by omega)).trans (HO.out.2.1 b hb hne))
          · exact jset_below (by omega) _ _ _ (ext_trans HO.out.2.2.1 hb3)
          · rw [jset_size]
            have:=hb3.size
            omega
        case measure=>simp [intOf]; omega
      · have hc':c k ≤ 0:=by omega
        go_wp2_with fail
        go_roundw
        case rel =>
          have z5:=HW.out.2.2.2.2
          have z6:=HO.out.2.2.2
          have hbw:Below wr.heap.size wr ((wr.alloc (.cells #[.int .i64 (k:Int)] 3)).alloc (.cells #[.int .i64 (c k)] 3)):=((Below.refl _ _).alloc (Nat.le_refl _) _).alloc (by simp) _
          refine ⟨k + 1,by omega,by go_num,?_,fun b hb hne=>?_,ext_trans HO.out.2.2.1 hbw,?_⟩
          · exact (HO.out.1.of_block (hbw.block _ HO.out.1.lt)).congr fun j _=>(vrow_miss hc j).symm
          · exact (hbw.block b (by omega)).trans (HO.out.2.1 b hb hne)
          · have:=hbw.size
            omega
        case measure=>simp [intOf]; omega
    · have:k = 4:=by omega
      subst this
      obtain ⟨q,qf⟩:=blk ((HO.out.2.1 (w.heap.size + 1 + 1 + 1) (by have:=HW.out.2.2.2.2; omega) (by omega)).trans HW.out.2.2.1)
      go_wp2_with fail
      rw [← HH.out.2.2]
      refine bodyPost_ret (results_tmp hres _ _ _) rfl ?_
      obtain ⟨cur,r1,r2,r3⟩:=HO.out.1
      refine ⟨⟨w.heap.size + 1 + 1,cur,rfl,by omega,HO.out.2.2.1.block,HO.out.2.2.1.size,r1,r2,fun i hi hc o ho=>?_,fun i hi hc o ho=>?_⟩,HO.out.2.2.1⟩
      · have e1:(17 * i + o) / 17 = i:=by omega
        have e2:(17 * i + o) % 17 = o:=by omega
        rw [r3 _ (by omega)]
        unfold vrow
        rw [e1,e2,if_pos ⟨hi,hc⟩]
        simp [vdB,verdV,ho]
      · have e1:(17 * i + o) / 17 = i:=by omega
        rw [r3 _ (by omega)]
        unfold vrow
        rw [e1,if_neg (fun h=>hc h.2)]
theorem judgeR_any (D:BD) (B:Nat) (c:Nat → Int) (t22 t23:Value) (w:World) (hb:BerthC w B D) (hok:D.ok) :
    (rest4 ((judgeS 417 Tryz.f22).body.getD .skip)).wp (patch shutL Tryz.prog) (bodyPost (patch shutL Tryz.prog) (judgeS 417 Tryz.f22) (fun | .returned v,w'=>JudgePost (fun i=>vdB D i (c i)) c w v w' | _,_=>False))
      ⟨#[ptr B,.agg (intsOf c),undef,undef,undef,undef,undef,undef,undef,undef,undef,undef,undef,undef,undef,undef,undef,undef,undef,undef,undef,undef,t22,t23,undef,undef,undef,undef],[]⟩ w:=by
  refine Code.wp_mono ?_ (judgeRB_any D B c t22 t23 w hb hok)
  rintro e a u h
  cases e with
  | normal=>exact ⟨h.1,h.2.choose,h.2.choose_spec.1,h.2.choose_spec.2.1⟩
  | ret=>exact ⟨h.1,h.2.choose,h.2.choose_spec.1,h.2.choose_spec.2.1⟩
  | panic ch=>exact h.2.elim
  | _=>exact h
end Go.Proofs.YtojoafcnijajmaaGreatDoor.Z

namespace Go.Proofs.YtojoafcnijajmaaGreatDoor.Z
open Go.RowKit
attribute [local go_sem ↓] Go.wp_at_zero Go.wp_at_succ
attribute [local go_sem] After.cell After.frozen After.const
theorem wp_region_tape {P:Program} {id:Nat} {ops:Array Oper} {Q:Exit → Act → World → Prop} {a:Act} {w:World} (ht:∀ j q,w.tape j q = 0)
    (h:wpOps P ops Q (Region.schedule (P.follows .mixedOrders) ops 0) a w.drew):(Code.region id ops true).wp P Q a w:=fun b k cs=>by
  obtain ⟨e,a',w',q,r⟩:=wp_ops _ a _ h b k cs
  refine ⟨e,a',w',q,.of_steps (.one ?_) r⟩
  have hs:=step_region_draw (P:=P) (b:=b) (a:=a) (k:=k) (cs:=cs) (id:=id) (ops:=ops) (w:=w)
  rw [ht] at hs
  exact hs
theorem wp_coin {t:Nat} {id:Nat} (htt:t = 22 ∨ t = 23) {Q:Exit → Act → World → Prop} {a:Act} {w:World} (ht:∀ j q,w.tape j q = 0)
    (h:Q .normal ((a.put (some t) (.bool true)).put (some t) (.bool false)) w.drew):(Code.region id (CO t) true).wp (patch shutL Tryz.prog) Q a w:=by
  refine wp_region_tape ht ?_
  have hs:Region.schedule (((patch shutL Tryz.prog)).follows .mixedOrders) (CO t) 0 = [0,1]:=by
    obtain ⟨e1,e2,_,_⟩:=sched0 (((patch shutL Tryz.prog)).follows .mixedOrders)
    rcases htt with rfl | rfl
    · exact e1
    · exact e2
  rw [hs]
  have h0:(CO t)[0]? = some (opOf (some t) (.move (.const (.bool true)))):=rfl
  have h1:(CO t)[1]? = some (opOf (some t) (.move (.const (.bool false)))):=rfl
  have hw:∀ (v:Value) y,Region.wanted (opOf (some t) (.move (.const v))) y = true:=fun _ _=>rfl
  simp only [wpOps,h0,h1,hw,if_true]
  exact .inl (.inl h)
theorem judgeL_any (D:BD) (B:Nat) (c:Nat → Int) (w:World) (hb:BerthC w B D) (hok:D.ok) (ht:∀ j q,w.tape j q = 0) :
    Calls (patch shutL Tryz.prog) 22 #[ptr B,.agg (intsOf c)] w fun | .returned v,w'=>JudgePost (fun i=>vdB D i (c i)) c w v w' | _,_=>False:=by
  refine calls_of_wp pjudge judge_lone ?_
  have hp:(#[ptr B,.agg (intsOf c)]:Array Value) ++ Array.replicate ((judgeS 417 Tryz.f22).ntmps - (#[ptr B,.agg (intsOf c)]:Array Value).size) undef = #[ptr B,.agg (intsOf c),undef,undef,undef,undef,undef,undef,undef,undef,undef,undef,undef,undef,undef,undef,undef,undef,undef,undef,undef,undef,undef,undef,undef,undef,undef,undef]:=by
    rw [ntmpsJL]
    simp only [List.size_toArray,List.length_cons,List.length_nil,Nat.reduceAdd,Nat.reduceSub,Array.replicate_succ,Array.replicate_zero,List.push_toArray,List.append_toArray,List.cons_append,List.nil_append]
  rw [hp]
  have HR:=judgeR_any D B c (.bool false) (.bool false) w.drew.drew (hb.same fun _ _ h=>h) hok
  have hj:∀ v w',JudgePost (fun i=>vdB D i (c i)) c w.drew.drew v w' → JudgePost (fun i=>vdB D i (c i)) c w v w':=fun v w' h=>h
  generalize rest4 ((judgeS 417 Tryz.f22).body.getD .skip) = c4 at HR ⊢
  refine wp_seq (wp_coin (.inl rfl) ht ?_)
  simp only [Exit.then,Act.put,List.setIfInBounds_toArray,List.set_cons_succ,List.set_cons_zero]
  refine wp_seq (wp_cond_false rfl (wp_skip ?_))
  simp only [Exit.then]
  refine wp_seq (wp_coin (.inr rfl) (fun j q=>ht j q) ?_)
  simp only [Exit.then,Act.put,List.setIfInBounds_toArray,List.set_cons_succ,List.set_cons_zero]
  refine wp_seq (wp_cond_false rfl (wp_skip ?_))
  simp only [Exit.then]
  exact HR
end Go.Proofs.YtojoafcnijajmaaGreatDoor.Z

namespace Go.Proofs.YtojoafcnijajmaaGreatDoor
open Go Go.Conc Go.ConcN Go.RowKit
open Go.ConcR (Payload)
theorem fr0_start {Q:Program} (a:Goroutine) (B:Nat):Fr0 Q (fun _=>False) #[a] B #[] (fun _=>0):=by
  refine ⟨?_,by simp,fun i g hg=>?_,rfl,fun op hop=>by simp at hop,fun c hc=>hc.elim,fun i g hi hg=>?_⟩
  · exact CT.lone (fun op hop=>by simp at hop) (fun op hop=>by simp at hop)
  · simp [Trace.g?] at hg
  · have:=(Array.getElem?_eq_some_iff.1 hg).1
    simp at this
    omega
def AA (ch:List PanicEntry) (w:World):Prop :=
  (∃ B D Zl,ch = raised 34 (ptr B) ∧ BerthC w B D ∧ D.ok ∧ Closed w Zl ∧ Zl B) ∨ ∃ b c,ch = raised 40 (ptr b) ∧ w.heap[b]? = some (.cells (intsOf c) 40)
theorem AA_ptr:∀ ch w,AA ch w → ∃ e ∈ ch,¬ noPtr e.v:=by
  rintro ch w (⟨B,D,Z,rfl,_⟩ | ⟨b,c,rfl,_⟩)
  · exact ⟨_,List.mem_cons_self,fun h=>h⟩
  · exact ⟨_,List.mem_cons_self,fun h=>h⟩
theorem cells4 {v:Value} {c:Nat → Int} (h:v.cells = intsOf c):v = .agg (intsOf c):=by
  cases v with
  | agg xs =>
    have:xs = intsOf c:=h
    rw [this]
  | _=>exact absurd (congrArg Array.size h) (by simp [Value.cells,intsOf])
theorem alarms_tell:∀ f x w,f ∈ cfgA.sp → Calls (patch shutL Tryz.prog) f x w fun e w'=>∃ ch,e = .panicked ch ∧ (AA ch w' → JJ f x w):=by
  intro f x w hf
  have hf':f = 417 ∨ f = 418:=by
    have:f ∈ [417,418]:=hf
    simpa using this
  rcases hf' with rfl | rfl
  · refine (alarm_any shutL x w).mono ?_
    rintro e w' ⟨rfl,rfl⟩
    refine ⟨_,rfl,?_⟩
    rintro (⟨B,D,Z,h1,h2⟩ | ⟨b,c,h1,_⟩)
    · refine ⟨fun _=>⟨B,D,Z,?_,h2⟩,fun h=>absurd h (by decide)⟩
      simpa [raised] using h1
    · simp [raised] at h1
  · refine (alarmBox_any shutL x w).mono ?_
    rintro e w' ⟨rfl,rfl⟩
    refine ⟨_,rfl,?_⟩
    rintro (⟨B,D,Z,h1,h2⟩ | ⟨b,c,h1,h2⟩)
    · simp [raised] at h1
    · refine ⟨fun h=>absurd h (by decide),fun _=>⟨c,cells4 ?_⟩⟩
      have hb:b = w.heap.size:=by
        simp only [raised,ptr,List.cons.injEq,PanicEntry.mk.injEq,Value.iface.injEq,Value.pointer.injEq,Option.some.injEq,Addr.mk.injEq,and_true,true_and] at h1
        exact h1.symm
      rw [hb,alloc_new] at h2
      simp only [Option.some.injEq,Obj.cells.injEq] at h2
      exact h2.1
theorem simple_VR {Z:Nat → Prop} {v:Value} (h:simpleV Z v):VR (fun b c=>b = c ∧ Z b) v v:=by
  cases v with
  | int k n=>exact VR.int _ _
  | bool b=>exact VR.bool _
  | string b=>exact VR.string _
  | pointer o=>cases o with
    | none=>exact VR.ptr trivial
    | some a=>exact VR.ptr ⟨⟨rfl,h⟩,rfl,rfl⟩
  | slice o l c=>cases o with
    | none=>exact VR.slice trivial
    | some a=>exact VR.slice ⟨⟨rfl,h⟩,rfl,rfl⟩
  | _=>exact h.elim
theorem pdev:(patch shutL Tryz.prog).funcs[3]? = some Tryz.f3:=pf Tryz.func3 (by rfl)
theorem dev_body:∃ c,Func.body Tryz.f3 = some c ∧ plainCode cfgD (patch shutL Tryz.prog) 3 c = true ∧ sgC cfgD c = c ∧ (∃ k,Func.results Tryz.f3 = #[.tmp k]):=⟨_,rfl,by kernel_rfl,by kernel_rfl,_,rfl⟩
theorem dev_ntmps:Func.ntmps Tryz.f3 < 1000:=of_decide_eq_true (by kernel_rfl)
def IvD (w:World) (Za:Nat → Prop) (p:Nat → Nat → Prop) (u:World):Prop :=
  (u.tape = w.tape ∧ u.os = w.os ∧ u.output = w.output ∧ w.heap.size ≤ u.heap.size) ∧ (∀ b c,p b c → c < w.heap.size → Za c) ∧ ∀ c,c < w.heap.size → u.heap[c]? = w.heap[c]?
theorem ivD_at {w:World} {Za:Nat → Prop}:∀ p u d,IvD w Za p u → IvD w Za p (u.at d):=fun _ _ _ h=>h
theorem ivD_step {w:World} {Za:Nat → Prop}:∀ p q u u',IvD w Za p u → Guar Za p q u u' → IvD w Za q u':=by
  intro p q u u' ⟨⟨h1,h2,h3,h4⟩,h6,h7⟩ g
  refine ⟨⟨g.tape.trans h1,g.os.trans h2,g.output.trans h3,Nat.le_trans h4 g.size⟩,fun b c hq hc=>?_,fun c hc=>?_⟩
  · by_cases hp:p b c
    · exact h6 b c hp hc
    · have:=g.fresh b c hq hp; omega
  · exact (g.keep c (by omega) fun b hb=>h6 b c hb hc).trans (h7 c hc)
theorem shut_stuck {C0:Cfg} {R:Value → World → Prop} {J:FuncId → Array Value → World → Prop} {g:Nat} {f:Func} {x:Array Value} {fs:List Frame} {w:World} (h:(patch shutL Tryz.prog).funcs[g]? = some (shut f)):¬ TreeJ (patch shutL Tryz.prog) C0 R J (Frame.enter (patch shutL Tryz.prog) g x .normal) fs w:=by
  intro ht
  rw [enter_at x h (c:=.exit 0) rfl] at ht
  have hs:∃ o w' es,stepG (patch shutL Tryz.prog) true (gor ((base g).at ⟨x ++ Array.replicate ((shut f).ntmps - x.size) undef,[]⟩ [.code (.exit 0)]) (fs ++ [stop (patch shutL Tryz.prog)])) (taped w w.tape) = .ended o w' es:=⟨_,_,_,by simp only [stepG,stepG.exec,Frame.at,exitTo]; rfl⟩
  obtain ⟨o,w',es,hs⟩:=hs
  rcases ht.step with h1 | ⟨_,h1⟩
  · exact absurd h1.1 (by simp [Frame.at])
  · rcases h1 w.tape with ⟨a2,as2,w2,es2,e1,_⟩ | ⟨f2,x2,as2,w2,es2,_,e1,_⟩
    · rw [hs] at e1; cases e1
    · rw [hs] at e1; cases e1
end Go.Proofs.YtojoafcnijajmaaGreatDoor

namespace Go.Proofs.YtojoafcnijajmaaGreatDoor.Z
open Go.RowKit
attribute [local go_sem ↓] Go.wp_at_zero Go.wp_at_succ
attribute [local go_sem] After.cell After.frozen After.const
def isTwo (l:List Nat):Bool:=l == [0,1] || l == [1,0]
def allTwo (md:Region.Mode) (ops:Array Oper):Nat → Array Bool → List Nat → Bool
  | 0,_,acc=>isTwo acc.reverse
  | n + 1,listed,acc=>if (Region.ready md ops listed).isEmpty then isTwo acc.reverse else (Region.ready md ops listed).all fun i=>allTwo md ops n (listed.setIfInBounds i true) (i :: acc)
theorem allTwo_ok {md:Region.Mode} {ops:Array Oper}:∀ (n t:Nat) (listed:Array Bool) (acc:List Nat),allTwo md ops n listed acc = true → isTwo (Region.linearise.go md ops n t listed acc) = true
  | 0,_,_,_,h=>h
  | n + 1,t,listed,acc,h=>by
    simp only [Region.linearise.go]
    change isTwo (match (Region.ready md ops listed)[t % (Region.ready md ops listed).length]? with
      | some i=>Region.linearise.go md ops n (t / (Region.ready md ops listed).length) (listed.setIfInBounds i true) (i :: acc)
      | none=>acc.reverse) = true
    unfold allTwo at h
    cases hi:(Region.ready md ops listed)[t % (Region.ready md ops listed).length]? with
    | none =>
      have hnil:Region.ready md ops listed = []:=by
        cases hr:Region.ready md ops listed with
        | nil=>rfl
        | cons x xs =>
          rw [hr] at hi
          have hlt:t % (x :: xs).length < (x :: xs).length:=Nat.mod_lt _ (by simp)
          rw [List.getElem?_eq_none_iff] at hi
          omega
      rw [hnil] at h
      simpa using h
    | some i =>
      have hm:=List.mem_of_getElem? hi
      have hne:(Region.ready md ops listed).isEmpty = false:=by
        cases hr:Region.ready md ops listed with
        | nil=>rw [hr] at hm; cases hm
        | cons x xs=>rfl
      rw [hne] at h
      simp only [Bool.false_eq_true,if_false,List.all_eq_true] at h
      exact allTwo_ok n _ _ _ (h i hm)
theorem ends2 (md:Region.Mode) (t:Nat) (ht:t = 22 ∨ t = 23):allTwo md (CO t) 2 (Array.replicate 2 false) [] = true:=by
  rcases ht with rfl | rfl <;> cases md <;> kernel_rfl
theorem sched_two (m:Bool) (t n:Nat) (ht:t = 22 ∨ t = 23):isTwo (Region.schedule m (CO t) n) = true:=by
  have hz:(CO t).size = 2:=rfl
  have key:∀ md n,isTwo (Region.linearise md (CO t) n) = true:=fun md n=>by
    unfold Region.linearise
    rw [hz]
    exact allTwo_ok _ _ _ _ (ends2 md t ht)
  unfold Region.schedule
  split
  · exact key _ _
  · split <;> exact key _ _
theorem enters {P:Program} {f:FuncId} {fn:Func} {c:Code} (hf:P.funcs[f]? = some fn) (hname:(fn.name == "runtime.NumGoroutine") = false) (hb:fn.body = some c) (args:Array Value) (w:World):Sem.run P (callFunc f args) w = .ok (.enter f args) w:=by
  have h1:fn.name ≠ "runtime.NumGoroutine" := by simpa using hname
  simp [callFunc,hf,h1,hb]
theorem wp_toss {t:Nat} {id:Nat} (htt:t = 22 ∨ t = 23) {Q:Exit → Act → World → Prop} {a:Act} {w:World}
    (h:∀ b,Q .normal ((a.put (some t) (.bool (!b))).put (some t) (.bool b)) w.drew):(Code.region id (CO t) true).wp (patch shutL Tryz.prog) Q a w:=by
  refine wp_region_draw fun n=>?_
  have hs:Region.schedule (((patch shutL Tryz.prog)).follows .mixedOrders) (CO t) n = [0,1] ∨ Region.schedule (((patch shutL Tryz.prog)).follows .mixedOrders) (CO t) n = [1,0]:=by
    have:=sched_two (((patch shutL Tryz.prog)).follows .mixedOrders) t n htt
    unfold isTwo at this
    simpa using this
  have h0:(CO t)[0]? = some (opOf (some t) (.move (.const (.bool true)))):=rfl
  have h1:(CO t)[1]? = some (opOf (some t) (.move (.const (.bool false)))):=rfl
  have hw:∀ (v:Value) y,Region.wanted (opOf (some t) (.move (.const v))) y = true:=fun _ _=>rfl
  rcases hs with hs | hs
  · rw [hs]
    simp only [wpOps,h0,h1,hw,if_true]
    exact .inl (.inl (h false))
  · rw [hs]
    simp only [wpOps,h0,h1,hw,if_true]
    exact .inl (.inl (h true))
set_option maxRecDepth 100000 in
theorem judgeD_any (D:BD) (B:Nat) (c:Nat → Int) (Zl:Nat → Prop) (w:World) (hb:BerthC w B D) (hok:D.ok) (hcl:Closed w Zl) (hZ:Zl B) :
    Calls (patch shutL Tryz.prog) 22 #[ptr B,.agg (intsOf c)] w (RJ (fun v w'=>JudgePost (fun i=>vdB D i (c i)) c w v w' ∧ Below w.heap.size w w') AA):=by
  refine calls_of_wp pjudge judge_lone ?_
  have hp:(#[ptr B,.agg (intsOf c)]:Array Value) ++ Array.replicate ((judgeS 417 Tryz.f22).ntmps - (#[ptr B,.agg (intsOf c)]:Array Value).size) undef = #[ptr B,.agg (intsOf c),undef,undef,undef,undef,undef,undef,undef,undef,undef,undef,undef,undef,undef,undef,undef,undef,undef,undef,undef,undef,undef,undef,undef,undef,undef,undef]:=by
    rw [ntmpsJL]
    simp only [List.size_toArray,List.length_cons,List.length_nil,Nat.reduceAdd,Nat.reduceSub,Array.replicate_succ,Array.replicate_zero,List.push_toArray,List.append_toArray,List.cons_append,List.nil_append]
  rw [hp]
  have HR:(rest4 ((judgeS 417 Tryz.f22).body.getD .skip)).wp (patch shutL Tryz.prog) (bodyPost (patch shutL Tryz.prog) (judgeS 417 Tryz.f22) (RJ (fun v w'=>JudgePost (fun i=>vdB D i (c i)) c w v w' ∧ Below w.heap.size w w') AA)) ⟨#[ptr B,.agg (intsOf c),undef,undef,undef,undef,undef,undef,undef,undef,undef,undef,undef,undef,undef,undef,undef,undef,undef,undef,undef,undef,.bool false,.bool false,undef,undef,undef,undef],[]⟩ w.drew.drew:=by
    refine Code.wp_mono ?_ (judgeRB_any D B c (.bool false) (.bool false) w.drew.drew (hb.same fun _ _ h=>h) hok)
    rintro e a u h
    cases e with
    | normal=>exact ⟨h.1,h.2.choose,h.2.choose_spec.1,h.2.choose_spec.2.1,(Below.refl _ _).drew.drew.trans h.2.choose_spec.2.2⟩
    | ret=>exact ⟨h.1,h.2.choose,h.2.choose_spec.1,h.2.choose_spec.2.1,(Below.refl _ _).drew.drew.trans h.2.choose_spec.2.2⟩
    | panic ch=>exact h.2.elim
    | _=>exact h
  have HA2:Hid (∀ u:World,Calls (patch shutL Tryz.prog) 418 #[.agg (intsOf c)] u fun e w'=>∃ ch,e = .panicked ch ∧ AA ch w'):=fun u=>by
    refine (alarmBox_any shutL _ _).mono ?_
    rintro e w' ⟨rfl,rfl⟩
    exact ⟨_,rfl,.inr ⟨u.heap.size,c,rfl,heap_alloc_new _ _⟩⟩
  have HA:∀ u:World,u.heap = w.heap → AA (raised 34 (ptr B)) u:=fun u hu=>.inl ⟨B,D,Zl,rfl,berthC_heap hu hb,hok,closed_heap hu hcl,hZ⟩
  have HA1:Hid (∀ u:World,u.heap = w.heap → Calls (patch shutL Tryz.prog) 417 #[ptr B] u fun e w'=>∃ ch,e = .panicked ch ∧ AA ch w'):=fun u hu=>by
    refine (alarm_any shutL _ _).mono ?_
    rintro e w' ⟨rfl,rfl⟩
    exact ⟨_,rfl,HA _ hu⟩
  clear HA
  have hcf1:∀ x u,Sem.run (patch shutL Tryz.prog) (callFunc 417 x) u = .ok (.enter 417 x) u:=fun x u=>enters (pal shutL) rfl rfl x u
  have hcf2:∀ x u,Sem.run (patch shutL Tryz.prog) (callFunc 418 x) u = .ok (.enter 418 x) u:=fun x u=>enters (pal2 shutL) rfl rfl x u
  generalize rest4 ((judgeS 417 Tryz.f22).body.getD .skip) = c4 at HR ⊢
  refine wp_seq (wp_toss (.inl rfl) fun b1=>?_)
  simp only [Exit.then,Act.put,List.setIfInBounds_toArray,List.set_cons_succ,List.set_cons_zero]
  cases b1
  · refine wp_seq (wp_cond_false rfl (wp_skip ?_))
    simp only [Exit.then]
    refine wp_seq (wp_toss (.inr rfl) fun b2=>?_)
    simp only [Exit.then,Act.put,List.setIfInBounds_toArray,List.set_cons_succ,List.set_cons_zero]
    cases b2
    · refine wp_seq (wp_cond_false rfl (wp_skip ?_))
      simp only [Exit.then]
      exact HR
    · refine wp_seq (wp_cond_true rfl ?_)
      simp only [opOf,callOf]
      go_wp2_with (go_at_call 418; refine (HA2.out _).mono ?_; rintro e w2 ⟨ch,rfl,hch⟩)
      exact ⟨rfl,hch⟩
  · refine wp_seq (wp_cond_true rfl ?_)
    simp only [opOf,callOf]
    go_wp2_with (go_at_call 417; refine (HA1.out w.drew rfl).mono ?_; rintro e w2 ⟨ch,rfl,hch⟩)
    exact ⟨rfl,hch⟩
end Go.Proofs.YtojoafcnijajmaaGreatDoor.Z
