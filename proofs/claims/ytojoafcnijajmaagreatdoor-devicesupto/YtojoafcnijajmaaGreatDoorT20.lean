/- Part 20 of the proof that Devices answers true and leaves its input as it was, for input of bulk at most the bound of its row: XV XW Y5 Y6. -/
import Derived.Test.YtojoafcnijajmaaGreatDoorT19
set_option linter.unusedSectionVars false
set_option linter.unusedSimpArgs false
namespace Go.Proofs.YtojoafcnijajmaaGreatDoor
open Go Go.Conc Go.ConcN Go.RowKit Go.Conc.Lib
open Go.ConcR (KK wgBlock WgAt stA smA rd wr mk Payload DC0)
theorem und_verdicts:∃ d,Tryz.prog.underlying 82 = some d ∧ d.isRow = false:=⟨_,Tryz.underlying82,by kernel_rfl⟩
section
variable [Payload]
theorem worker_at6 {K':Nat → Prop} {p:Nat → Nat → Prop} {a b:Frame} {w u:World} {M:Nat → Prop} {V VV Wg r:Nat} {vals:Array Value} (hety:Payload.ety = 86) (hVW:V ≠ Wg) (hr:r < 4) (hsz:vals.size = 17) (hfl:∀ v ∈ vals.toList,flatC v)
    (ht:Tree (patch shutL Tryz.prog) (WOut vals r) a [] w) (hl:Live (cfgW Tryz.f52 (ptr Wg) (ptr VV) (sl4 V)) (patch shutL Tryz.prog) p a [] b []) (am:a.mode = .run) (ar:a.roundOf = none) (ad:a.defers = []) (ak:a.kind = .normal) (af:a.fn = 52)
    (bd:b.defers = [dcall 53 #[ptr Wg]]) (bk:b.kind = .deferred) (bm:b.mode = .run) (br:b.roundOf = none) (bf:b.fn = 52) (bsz:b.tmps.size = 26)
    (atd:a.todo = [.inRegion (H3 Tryz.f52) [6,7]]) (btd:b.todo = a.todo.map (sgI (cfgW Tryz.f52 (ptr Wg) (ptr VV) (sl4 V)))) (b19:b.tmps.getD 19 undef = sl4 V) :
    Owned Tryz.prog false K' (AtPut Tryz.prog link.tWg Wg V 68 (17 * r) vals.toList) (gor b [botOf Tryz.prog.funcs.size]) u M:=by
  obtain ⟨e24,e20⟩:=leaf6 ht am ar ad (by rw [ak]; decide) af atd
  have t24:=(hl.fr.tmps.get 24).resolve_left fun h=>absurd h.2 (show ¬ pvW 24 = true by decide)
  rw [e24] at t24
  obtain ⟨ys,y1,y2⟩:=t24.agg_inv
  rw [flats_eq y2 hfl] at y1
  have t20:=(hl.fr.tmps.get 20).resolve_left fun h=>absurd h.2 (show ¬ pvW 20 = true by decide)
  rw [e20] at t20
  have y3:=t20.int_inv
  have btd':b.todo = [.inRegion ((H3 Tryz.f52).map sgW) [6,7]]:=by rw [btd,atd]; rfl
  rw [gor_at bm br btd' bd]
  obtain ⟨o6,f1,f2⟩:=op6
  obtain ⟨o7,g1,g2⟩:=op7
  have hi:=fun u=>indexAt_row V r hr u
  simp only [Sem.runT_eq,Prod.mk.injEq] at hi
  refine Owned.pure (.pointer (some ⟨V,17 * r,none⟩)) (o:=sgW o6) (by rw [Array.getElem?_map,f1]; rfl) (wanted_free ((sgW_fields o6).2.2.trans f2.2.2) _) (by rw [bk]; decide) (fun u₁=>?_) (fun u₁=>?_) ?_
  · rw [sg6 f2]
    unfold execOp
    simp only [Act.eval,b19,y3]
    simp [(hi u₁).1]
  · rw [sg6 f2]
    unfold execOp
    simp only [Act.eval,b19,y3]
    simp [(hi u₁).1,(hi u₁).2]
  · have hput:(Act.mk b.tmps [dcall 53 #[ptr Wg]]).put (sgW o6).dst (.pointer (some ⟨V,17 * r,none⟩)) = ⟨b.tmps.setIfInBounds 25 (.pointer (some ⟨V,17 * r,none⟩)),[dcall 53 #[ptr Wg]]⟩:=by
      rw [(sgW_fields o6).1,f2.2.1]; rfl
    rw [hput]
    refine Owned.stop fun u₁ _=>worker_put hety hVW hr hsz hfl bf bk (o:=sgW o7) (by rw [Array.getElem?_map,g1]; rfl) (by rw [sg7 g2]) ((sgW_fields o7).1.trans g2.2.1) ((sgW_fields o7).2.2.trans g2.2.2) ?_ ?_ u₁ M
    · exact getD_set_self (by rw [bsz]; decide)
    · rw [getD_set_ne (by decide)]; exact y1
theorem worker_at0 {K' Kw:Nat → Prop} {S:Goroutine → World → (Nat → Prop) → Prop} {p p₀:Nat → Nat → Prop} {M₀:Nat → Prop} {a b:Frame} {w u:World} {M:Nat → Prop} {V VV Wg:Nat} {R:Value → World → Prop} {rest pre:List Nat} (hKK:∀ c,Kw c → K' c) (hKV:K' VV)
    (hn:∀ T,∃ a' as' w' es,stepG (patch shutL Tryz.prog) true (gor a ([] ++ [stop (patch shutL Tryz.prog)])) (taped w T) = .go (gor a' (as' ++ [stop (patch shutL Tryz.prog)])) w' es ∧ (a'.mode = .run ∨ a'.mode = .returning) ∧ Tree (patch shutL Tryz.prog) R a' as' w' ∧
        ∀ (p:Nat → Nat → Prop) (b:Frame) (bs:List Frame) (u:World) (M:Nat → Prop),Live (cfgW Tryz.f52 (ptr Wg) (ptr VV) (sl4 V)) (patch shutL Tryz.prog) p a' as' b bs → WR (patch shutL Tryz.prog).globals.size Kw p w' u → (∀ b c,p b c → ¬ Kw c → M c) → Ext p₀ p → (∀ x,M₀ x → M x) → IvW VV V u M → Owned Tryz.prog false K' S (gor b (bs ++ [botOf Tryz.prog.funcs.size])) u M)
    (hl:Live (cfgW Tryz.f52 (ptr Wg) (ptr VV) (sl4 V)) (patch shutL Tryz.prog) p a [] b []) (hw:WR (patch shutL Tryz.prog).globals.size Kw p w u) (hM:∀ b c,p b c → ¬ Kw c → M c) (hE:Ext p₀ p) (hM0:∀ x,M₀ x → M x) (hI:IvW VV V u M)
    (am:a.mode = .run) (ar:a.roundOf = none) (ad:a.defers = []) (ak:a.kind = .normal) (af:a.fn = 52)
    (bd:b.defers = [dcall 53 #[ptr Wg]]) (bk:b.kind = .deferred) (bm:b.mode = .run) (br:b.roundOf = none) (bsz:b.tmps.size = 26) (b4:b.tmps.getD 4 undef = ptr VV) (b0:b.tmps.getD 0 undef = ptr Wg)
    (atd:a.todo = [.inRegion (H3 Tryz.f52) (0 :: rest)]) (btd:b.todo = a.todo.map (sgI (cfgW Tryz.f52 (ptr Wg) (ptr VV) (sl4 V)))) (hlast:Last (pre ++ 0 :: rest)) (h6:6 ∈ rest) :
    Owned Tryz.prog false K' S (gor b [botOf Tryz.prog.funcs.size]) u M:=by
  obtain ⟨o0,f1,f2⟩:=op0
  obtain ⟨a',as',w',es,e1,_,_,hc⟩:=hn w.tape
  have hs:∃ es,stepG (patch shutL Tryz.prog) true (gor a ([] ++ [stop (patch shutL Tryz.prog)])) (taped w w.tape) = .go (gor (a.at ((Act.mk a.tmps []).put (some 19) (.int .i64 (160160160160000 + 0))) [.inRegion (H3 Tryz.f52) rest]) ([] ++ [stop (patch shutL Tryz.prog)])) (taped w w.tape) es:=by
    rw [gor_at am ar atd ad,stepG_value f1 (wanted_free f2.2.2 _) (by rw [ak]; decide) (run_flag f2 _ _),f2.2.1]
    exact ⟨_,rfl⟩
  obtain ⟨es',hs⟩:=hs
  rw [hs] at e1
  simp only [GStep.go.injEq,Goroutine.mk.injEq] at e1
  obtain ⟨⟨rfl,e4,_⟩,rfl,_⟩:=e1
  have e5:=List.append_cancel_right e4
  subst e5
  have btd':b.todo = [.inRegion ((H3 Tryz.f52).map sgW) (0 :: rest)]:=by rw [btd,atd]; rfl
  obtain ⟨d,hd1,hd2⟩:=und_verdicts
  rw [gor_at bm br btd' bd]
  refine Owned.op (o:=sgW o0) (by rw [Array.getElem?_map,f1]; rfl) (wanted_free ((sgW_fields o0).2.2.trans f2.2.2) _) (by rw [bk]; decide) fun u₁ h₁=>?_
  have hI1:=ivW_rely hKV u u₁ M hI h₁
  obtain ⟨l1,l2⟩:=seg_loadVar (Q:=Tryz.prog) ⟨VV,0,none⟩ 82 u₁ (sl4 V) d hd1 hd2 hI1.2.2
  have hb4:b.tmps.getD 4 undef = .pointer (some ⟨VV,0,none⟩):=b4
  refine ⟨sl4 V,u₁,?_,⟨rfl,rfl,rfl,Nat.le_refl _,fun _ _ _=>rfl,?_⟩,?_⟩
  · rw [sg0 f2]
    unfold execOp
    simp only [Act.eval,hb4,Instr.loadAt,Instr.sureAddr]
    simp [l1]
  · rw [sg0 f2]
    unfold execOp
    simp only [Act.eval,hb4,Instr.loadAt,Instr.sureAddr]
    simp only [Sem.events_bind,Sem.run_bind]
    intro e he
    have:e = ⟨.cell ⟨VV,0,none⟩,false,false⟩:=by simpa [l1,l2] using he
    subst this
    exact .inl ⟨VV,.inr ⟨_,rfl,rfl⟩,rfl,.inr ⟨hKV,rfl⟩⟩
  · rw [Grow.self]
    have hput:(Act.mk b.tmps [dcall 53 #[ptr Wg]]).put (sgW o0).dst (sl4 V) = (Act.mk b.tmps [dcall 53 #[ptr Wg]]).put (some 19) (sl4 V):=by
      rw [(sgW_fields o0).1,f2.2.1]
    rw [hput]
    refine hc p _ [] u₁ M ⟨?_,.inl rfl,trivial,?_⟩ (hw.rely hM (h₁.monoK hKK)) hM hE hM0 hI1
    · refine FR.fill hl.fr am af rfl (show (19:Nat) ≠ 25 by decide) atd bd ?_
      refine ⟨⟨by simpa using bsz,?_,?_⟩,.inr (.inr (.inr (.inr (.inr (.inr (.inr ⟨rest,pre ++ [0],rfl,by simpa using hlast,h6,fun _=>getD_set_self (by rw [bsz]; decide)⟩))))))⟩
      · rw [getD_set_ne (by decide)]; exact b0
      · rw [getD_set_ne (by decide)]; exact b4
    · refine ⟨fun h=>absurd rfl h,fun _=>⟨rfl,bk,fun _=>af⟩⟩
def cfgT:Cfg:={ fns:=52 :: fnsW,sp:=[],mark:=fun _=>false,sg:=id,root:=1000000,rt:=0,atRoot:=false,dd:=[],kd:=.normal,pv:=fun _=>false,okF:=fun _ _=>True }
theorem cfgT_ok:CfgOk cfgT:=⟨fun _ _=>rfl,fun _=>rfl,fun _=>rfl,fun _=>rfl,fun _ h=>Bool.noConfusion h,fun _ _ _ _ _=>trivial,fun _ _ _ _ _ _ _ _ _=>trivial⟩
theorem pbT:∀ g ∈ 52 :: fnsW,PB cfgT (patch shutL Tryz.prog) (patch shutL Tryz.prog) g :=
  all_cons ⟨_,_,pworker,by kernel_rfl,worker_lone,pworker,by kernel_rfl⟩ <|
  all_cons ⟨_,_,pf Tryz.func55 (by rfl),by kernel_rfl,rfl,pf Tryz.func55 (by rfl),by kernel_rfl⟩ <|
  all_cons ⟨_,_,pf Tryz.func126 (by rfl),by kernel_rfl,rfl,pf Tryz.func126 (by rfl),by kernel_rfl⟩ <|
  all_cons ⟨_,_,pf Tryz.func190 (by rfl),by kernel_rfl,rfl,pf Tryz.func190 (by rfl),by kernel_rfl⟩ <|
  all_cons ⟨_,_,pf Tryz.func225 (by rfl),by kernel_rfl,rfl,pf Tryz.func225 (by rfl),by kernel_rfl⟩ <|
  all_cons ⟨_,_,pf Tryz.func54 (by rfl),by kernel_rfl,rfl,pf Tryz.func54 (by rfl),by kernel_rfl⟩ <|
  all_cons ⟨_,_,pf Tryz.func125 (by rfl),by kernel_rfl,rfl,pf Tryz.func125 (by rfl),by kernel_rfl⟩ <|
  all_cons ⟨_,_,pf Tryz.func56 (by rfl),by kernel_rfl,rfl,pf Tryz.func56 (by rfl),by kernel_rfl⟩ <|
  all_cons ⟨_,_,pf Tryz.func128 (by rfl),by kernel_rfl,rfl,pf Tryz.func128 (by rfl),by kernel_rfl⟩ <|
  all_cons ⟨_,_,pf Tryz.func129 (by rfl),by kernel_rfl,rfl,pf Tryz.func129 (by rfl),by kernel_rfl⟩ <|
  all_cons ⟨_,_,pf Tryz.func193 (by rfl),by kernel_rfl,rfl,pf Tryz.func193 (by rfl),by kernel_rfl⟩ <|
  all_cons ⟨_,_,pf Tryz.func194 (by rfl),by kernel_rfl,rfl,pf Tryz.func194 (by rfl),by kernel_rfl⟩ <|
  all_cons ⟨_,_,pf Tryz.func192 (by rfl),by kernel_rfl,rfl,pf Tryz.func192 (by rfl),by kernel_rfl⟩ <|
  all_cons ⟨_,_,pf Tryz.func226 (by rfl),by kernel_rfl,rfl,pf Tryz.func226 (by rfl),by kernel_rfl⟩ <|
  all_cons ⟨_,_,pf Tryz.func127 (by rfl),by kernel_rfl,rfl,pf Tryz.func127 (by rfl),by kernel_rfl⟩ <|
  all_cons ⟨_,_,pf Tryz.func191 (by rfl),by kernel_rfl,rfl,pf Tryz.func191 (by rfl),by kernel_rfl⟩ <|
  all_cons ⟨_,_,pf Tryz.func57 (by rfl),by kernel_rfl,rfl,pf Tryz.func57 (by rfl),by kernel_rfl⟩ <|
  all_cons ⟨_,_,pf Tryz.func130 (by rfl),by kernel_rfl,rfl,pf Tryz.func130 (by rfl),by kernel_rfl⟩ <|
  all_cons ⟨_,_,pf Tryz.func131 (by rfl),by kernel_rfl,rfl,pf Tryz.func131 (by rfl),by kernel_rfl⟩ <|
  all_cons ⟨_,_,pf Tryz.func195 (by rfl),by kernel_rfl,rfl,pf Tryz.func195 (by rfl),by kernel_rfl⟩ <|
  all_cons ⟨_,_,pf Tryz.func227 (by rfl),by kernel_rfl,rfl,pf Tryz.func227 (by rfl),by kernel_rfl⟩ <|
  all_cons ⟨_,_,pf Tryz.func251 (by rfl),by kernel_rfl,rfl,pf Tryz.func251 (by rfl),by kernel_rfl⟩ <|
  all_cons ⟨_,_,pf Tryz.func252 (by rfl),by kernel_rfl,rfl,pf Tryz.func252 (by rfl),by kernel_rfl⟩ <|
  all_cons ⟨_,_,pf Tryz.func132 (by rfl),by kernel_rfl,rfl,pf Tryz.func132 (by rfl),by kernel_rfl⟩ <|
  all_cons ⟨_,_,pf Tryz.func196 (by rfl),by kernel_rfl,rfl,pf Tryz.func196 (by rfl),by kernel_rfl⟩ <|
  all_nil
theorem plainT:PlainBodies cfgT (patch shutL Tryz.prog) (patch shutL Tryz.prog) :=
  PlainBodies.of cfgT_ok (fun g hg=>of_decide_eq_true (show decide (g ∈ 52 :: fnsW) = true by
    simp only [valList,List.mem_cons,List.not_mem_nil,or_false] at hg
    rcases hg with rfl | rfl <;> kernel_rfl)) (52 :: fnsW) (fun g=>⟨.inl,fun h=>h.elim id fun h=>by cases h⟩) (fun g hg=>by cases hg) (fun g hg e=>by
    subst e
    exact absurd hg (of_decide_eq_true (show decide (¬ 1000000 ∈ 52 :: fnsW) = true by kernel_rfl))) pbT (fun g hg=>by cases hg)
end
end Go.Proofs.YtojoafcnijajmaaGreatDoor

namespace Go.Proofs.YtojoafcnijajmaaGreatDoor
open Go Go.Conc Go.ConcN Go.RowKit Go.Conc.Lib
open Go.ConcR (KK wgBlock WgAt stA smA rd wr mk Payload DC0)
theorem opD:∃ o,(O0 Tryz.f52)[0]? = some o ∧ o.op = .defer { callee:=.value (.func 53),args:=#[.tmp 0],argTypes:=#[118] } ∧ o.dst = none ∧ o.guard = none:=by
  have h:((O0 Tryz.f52)[0]?).map (fun o=>(o.op,o.dst,o.guard)) = some (.defer { callee:=.value (.func 53),args:=#[.tmp 0],argTypes:=#[118] },none,none):=by kernel_rfl
  obtain ⟨o,h1,h2⟩:=Option.map_eq_some_iff.1 h
  simp only [Prod.mk.injEq] at h2
  exact ⟨o,h1,h2⟩
theorem size0:(O0 Tryz.f52).size = 1:=by kernel_rfl
theorem ntmpsW:Func.ntmps Tryz.f52 = 26:=by kernel_rfl
theorem nameW:(Func.name Tryz.f52 == "runtime.NumGoroutine") = false:=by kernel_rfl
def callW (Wg bb rB nB VV:Nat):Deferred:={ target:=.fn (.func 52) #[ptr Wg,ptr bb,ptr rB,ptr nB,ptr VV],args:=#[] }
def tmpsW (x0 bb rB nB x4:Value):Array Value:=#[x0,bb,rB,nB,x4,undef,undef,undef,undef,undef,undef,undef,undef,undef,undef,undef,undef,undef,undef,undef,undef,undef,undef,undef,undef,undef]
theorem tmpsW_eq (a b c d e:Value):#[a,b,c,d,e] ++ Array.replicate 21 undef = tmpsW a b c d e:=by kernel_rfl
set_option maxHeartbeats 2000000 in
theorem born_step (Wg bb rB nB VV:Nat) (w:World):stepG Tryz.prog false (born Tryz.prog (callW Wg bb rB nB VV)) w =
    .go (G ((baseD 52).at ⟨tmpsW (ptr Wg) (ptr bb) (ptr rB) (ptr nB) (ptr VV),[]⟩ [.code (.seq (.region 0 (O0 Tryz.f52) false) (.seq (R1 Tryz.f52) (.seq (R2 Tryz.f52) (RQ Tryz.f52))))]) [botOf Tryz.prog.funcs.size]) w #[]:=by
  have hn:¬ Func.name Tryz.f52 = "runtime.NumGoroutine" := by simpa using nameW
  have hb:¬ Func.body Tryz.f52 = none:=by rw [worker_body]; simp
  have e:=enter_atD (P:=Tryz.prog) (f:=52) #[ptr Wg,ptr bb,ptr rB,ptr nB,ptr VV] fn_worker worker_body
  rw [ntmpsW,show 26 - (#[ptr Wg,ptr bb,ptr rB,ptr nB,ptr VV]:Array Value).size = 21 from rfl,tmpsW_eq] at e
  simp only [born,callW,stepG,unwind,callDeferred,invoke,callFunc]
  simp only [Array.append_empty,Sem.runT_eq,Sem.run_bind,run_program,Result.andThen_ok,fn_worker,hn,hb,nameW]
  simp [hn,hb,GStep.after,e,G]
  exact ⟨rfl,seen_none _ _⟩
theorem sgO1:(O1 Tryz.f52).map sgW = O1 Tryz.f52:=by kernel_rfl
theorem sgO2:(O2 Tryz.f52).map sgW = O2 Tryz.f52:=by kernel_rfl
theorem sgH3:(H3 Tryz.f52).map sgW = O3 Tryz.f52:=by kernel_rfl
theorem sg_body (y0 y4 sl:Value):[Item.code (.seq (R1 Tryz.f52) (.seq (R2 Tryz.f52) (R3 Tryz.f52)))].map (sgI (cfgW Tryz.f52 y0 y4 sl)) = [Item.code (.seq (R1 Tryz.f52) (.seq (R2 Tryz.f52) (RQ Tryz.f52)))]:=by
  show [Item.code (.seq (.region 1 ((O1 Tryz.f52).map sgW) true) (.seq (.region 2 ((O2 Tryz.f52).map sgW) true) (.region 3 ((H3 Tryz.f52).map sgW) true)))] = _
  rw [sgO1,sgO2,sgH3]
theorem plainLone (y0 y4 sl:Value):plainCode (cfgW Tryz.f52 y0 y4 sl) (patch shutL Tryz.prog) 52 (.seq (R1 Tryz.f52) (.seq (R2 Tryz.f52) (R3 Tryz.f52))) = true:=by kernel_rfl
section
variable [Payload]
set_option maxHeartbeats 2000000 in
theorem worker_owned (hz:ZeroOk (patch shutL Tryz.prog)) {K' Kw M:Nat → Prop} {p:Nat → Nat → Prop} {wL u:World} {V VV Wg bb rB nB r:Nat} {vals:Array Value} (hety:Payload.ety = 86) (hVW:V ≠ Wg) (hr:r < 4) (hsz:vals.size = 17) (hfl:∀ v ∈ vals.toList,flatC v)
    (hKK:∀ c,Kw c → K' c) (hKV:K' VV) (hI:IvW VV V u M) (hw:WR (patch shutL Tryz.prog).globals.size Kw p wL u) (hM:∀ b c,p b c → ¬ Kw c → M c) (h1:p bb bb) (h2:p rB rB) (h3:p nB nB)
    (hc:∀ T,Calls (patch shutL Tryz.prog) 52 #[undef,ptr bb,ptr rB,ptr nB,undef] (taped wL T) fun | .returned v,w'=>WOut vals r v w' | _,_=>False) :
    Owned Tryz.prog false K' (AtPut Tryz.prog link.tWg Wg V 68 (17 * r) vals.toList) (born Tryz.prog (callW Wg bb rB nB VV)) u M:=by
  have tw:Twin (patch shutL Tryz.prog) Tryz.prog:=patch_twin shutL Tryz.prog
  have tw':Twin (patch shutL Tryz.prog) (patch shutL Tryz.prog):=patch_twin' shutL Tryz.prog
  have hp:∀ c,p c c → VR p (ptr c) (ptr c):=fun c hc=>VR.ptr ⟨hc,rfl,rfl⟩
  have hargs:AllR (VR p) #[undef,ptr bb,ptr rB,ptr nB,undef] #[undef,ptr bb,ptr rB,ptr nB,undef]:=AllR.same fun v hv=>by
    simp only [List.mem_toArray,List.mem_cons,List.not_mem_nil,or_false] at hv
    rcases hv with rfl | rfl | rfl | rfl | rfl
    · exact VR.undef
    · exact hp _ h1
    · exact hp _ h2
    · exact hp _ h3
    · exact VR.undef
  have hcomp:Comp cfgT (patch shutL Tryz.prog) Kw ⟨Frame.enter (patch shutL Tryz.prog) 52 #[undef,ptr bb,ptr rB,ptr nB,undef] .normal,[],wL⟩ :=
    ⟨p,_,[],u,⟨FR.enter plainT (by exact List.mem_cons_self) (by exact List.not_mem_nil) hargs,.inl rfl,trivial,⟨fun h=>absurd rfl h,fun _=>⟨rfl,rfl,fun h=>by cases h⟩⟩⟩,hw⟩
  have tree:=tree_of_calls hz plainT tw' rfl (fun _=>rfl) hcomp hc
  obtain ⟨o,e1,e2,e3,e4⟩:=opD
  refine Owned.ctl rfl (fun u₁=>born_step Wg bb rB nB VV u₁) ?_
  refine Owned.ctl rfl (fun u₁=>stepG_seq) ?_
  refine Owned.ctl rfl (fun u₁=>stepG_region) ?_
  rw [size0]
  refine Owned.ctl rfl (fun u₁=>stepG_defer e1 (wanted_free e4 _) (by decide) e2) ?_
  rw [e3]
  refine Owned.ctl rfl (fun u₁=>stepG_region_end) ?_
  have hm:(#[Operand.tmp 0]).map (Act.mk (tmpsW (ptr Wg) (ptr bb) (ptr rB) (ptr nB) (ptr VV)) []).eval = #[ptr Wg]:=by simp [Act.eval,tmpsW]
  have hg:G ((baseD 52).at (Act.put ⟨tmpsW (ptr Wg) (ptr bb) (ptr rB) (ptr nB) (ptr VV),[dcall 53 #[ptr Wg]]⟩ none undef) [.code (.seq (R1 Tryz.f52) (.seq (R2 Tryz.f52) (RQ Tryz.f52)))]) [botOf Tryz.prog.funcs.size] =
      gor { fn:=52,tmps:=tmpsW (ptr Wg) (ptr bb) (ptr rB) (ptr nB) (ptr VV),todo:=[.code (.seq (R1 Tryz.f52) (.seq (R2 Tryz.f52) (RQ Tryz.f52)))],defers:=[dcall 53 #[ptr Wg]],mode:=.run,kind:=.deferred } ([] ++ [botOf Tryz.prog.funcs.size]):=rfl
  rw [hm,hg]
  have hent:Frame.enter (patch shutL Tryz.prog) 52 #[undef,ptr bb,ptr rB,ptr nB,undef] .normal = { fn:=52,tmps:=tmpsW undef (ptr bb) (ptr rB) (ptr nB) undef,todo:=[.code (.seq (R1 Tryz.f52) (.seq (R2 Tryz.f52) (R3 Tryz.f52)))],defers:=[],mode:=.run,kind:=.normal }:=by
    have en:(workerS Tryz.f52).ntmps = 26:=by kernel_rfl
    have et:(workerS Tryz.f52).body = some (.seq (R1 Tryz.f52) (.seq (R2 Tryz.f52) (R3 Tryz.f52))):=worker_lone
    unfold Frame.enter
    rw [pworker]
    simp only [Option.map_some,Option.getD_some,Option.bind_some,et,en]
    rw [show 26 - (#[undef,ptr bb,ptr rB,ptr nB,undef]:Array Value).size = 21 from rfl,tmpsW_eq]
  rw [hent] at tree
  refine owned_of_tree (C:=cfgW Tryz.f52 (ptr Wg) (ptr VV) (sl4 V)) (cs:=[botOf Tryz.prog.funcs.size]) (p₀:=p) (M₀:=M) (Iv:=IvW VV V) hKK hz (plainW _ _ _) tw rfl (fun u u₁ M=>ivW_rely hKV u u₁ M) (fun u u' M es=>ivW_does u u' M es) ?_ ?_ tree p _ [] u M ?_ hw hM (Ext.refl _) (fun _ h=>h) hI
  ·
    intro p a b w u M hl hw hM hE hM0 hI hlf
    exfalso
    obtain ⟨l1,_,⟨l3,l4⟩,fn,T,v,l5,l6,l7⟩:=hlf
    have hfn:a.fn = 52:=(hl.deep.2 rfl).2.2 rfl
    rw [hfn,pworker] at l5
    cases l5
    rw [results_tmp3 (t:=24) (u:=20) (v:=25) (by kernel_rfl)] at l6
    cases l6
    have h25:=hl.fr.rt hfn
    have h25':a.tmps.getD 25 undef = undef:=h25
    unfold WOut at l7
    simp only [Value.tuple.injEq] at l7
    have l8:=congrArg Array.toList l7
    simp only [List.cons.injEq,and_true] at l8
    rw [h25'] at l8
    cases l8.2.2
  · intro p a b fs gs w u M hm hk ht hn hl hw hM hE hM0 hI
    obtain ⟨rfl,rfl,af,ar,ad,ak,bd,bk,bm,br,bf,b4,bsz,rest,pre,hcase,btd⟩:=marked_worker hm hk hl
    have b0:b.tmps.getD 0 undef = ptr Wg:=(hl.fr.shape af).1.2.1
    rcases hcase with ⟨atd,hlast,h6⟩ | ⟨atd,rfl,b19⟩
    · exact worker_at0 hKK hKV hn hl hw hM hE hM0 hI hm ar ad ak af bd bk bm br bsz b4 b0 atd btd hlast h6
    · exact worker_at6 hety hVW hr hsz hfl ht hl hm ar ad ak af bd bk bm br bf bsz atd btd b19
  · refine ⟨⟨⟨_,pworker⟩,⟨fun i=>?_,rfl⟩,plainTodo.of ?_ (fun _ hy=>by cases hy),rfl,rfl,rfl,?_,fun _=>rfl,fun _=>⟨⟨rfl,rfl,rfl⟩,.inl rfl⟩,fun e=>by cases e⟩,.inl rfl,trivial,⟨fun h=>absurd rfl h,fun _=>⟨rfl,rfl,fun _=>rfl⟩⟩⟩
    · show _ ∨ VR p ((tmpsW undef (ptr bb) (ptr rB) (ptr nB) undef).getD i undef) ((tmpsW (ptr Wg) (ptr bb) (ptr rB) (ptr nB) (ptr VV)).getD i undef)
      by_cases i0:i = 0
      · exact .inl ⟨rfl,by rw [i0]; rfl⟩
      by_cases i4:i = 4
      · exact .inl ⟨rfl,by rw [i4]; rfl⟩
      refine .inr ?_
      by_cases i1:i = 1
      · rw [i1]; exact hp _ h1
      by_cases i2:i = 2
      · rw [i2]; exact hp _ h2
      by_cases i3:i = 3
      · rw [i3]; exact hp _ h3
      have key:∀ (a e:Value),(tmpsW a (ptr bb) (ptr rB) (ptr nB) e).getD i undef = undef:=fun a e=>by
        rw [← tmpsW_eq,Array.getD_eq_getD_getElem?]
        by_cases hi:i < 26
        · rw [Array.getElem?_append_right (by simp; omega),Array.getElem?_replicate]
          simp
          split <;> rfl
        · rw [Array.getElem?_eq_none (by simp; omega)]
          rfl
      rw [key,key]
      exact VR.undef
    · show plainCode (cfgW Tryz.f52 (ptr Wg) (ptr VV) (sl4 V)) (patch shutL Tryz.prog) 52 _ = true
      exact plainLone _ _ _
    · simp only [sg_body]
end
end Go.Proofs.YtojoafcnijajmaaGreatDoor

namespace Go.Proofs.YtojoafcnijajmaaGreatDoor
open Go Go.Conc Go.ConcN Go.RowKit Go.Conc.Lib
open Go.ConcR (KK wgBlock WgAt stA smA rd wr mk Payload DC0)
theorem run_enter {P:Program} {n:Nat} {f:Func} (h:P.funcs[n]? = some f) (hn:(f.name == "runtime.NumGoroutine") = false) (hb:f.body.isNone = false) (args:Array Value) (w:World):(callFunc n args).runT P w #[] = (.ok (.enter n args) w,#[]):=by
  rw [Sem.runT_eq]
  refine Prod.ext ?_ ?_
  · simp only [callFunc,Sem.run_bind,run_program,Result.andThen_ok,h,hn,hb,Bool.false_eq_true,if_false]
    simp
  · simp only [callFunc,Sem.events_bind,run_program,Result.evThen_ok,h,hn,hb,Bool.false_eq_true,if_false]
    simp
section
variable {K M:Nat → Prop} {S:Goroutine → World → (Nat → Prop) → Prop} {u:World} {b:Frame} {f:Nat → Value} {k:List Item} {cs:List Frame} {ops:Array Oper} {i:Nat} {rest:List Nat}
theorem j_enter {fn:Func} {g:Nat} {args:Array Operand} {ats:Array TypeId} {d:Nat} {c:Code} (hop:opIs ops i (.call { callee:=.value (.func g),args:=args,argTypes:=ats }) (some d)) (hk:b.kind ≠ .early) (hf:Tryz.prog.funcs[g]? = some fn) (hn:(fn.name == "runtime.NumGoroutine") = false) (hb:fn.body = some c)
    (hc:Owned Tryz.prog true K S (G ((base g).at ⟨args.map (Act.mk (JT f) []).eval ++ Array.replicate (fn.ntmps - (args.map (Act.mk (JT f) []).eval).size) undef,[]⟩ [.code c]) (b.at ⟨JT f,[]⟩ (.inRegion ops (i :: rest) :: k) :: cs)) u M) :
    Owned Tryz.prog true K S (G (b.at ⟨JT f,[]⟩ (.inRegion ops (i :: rest) :: k)) cs) u M:=by
  obtain ⟨o,h1,h2,h3,h4⟩:=hop
  have hr:∀ u₁,(execOp (Act.mk (JT f) []).eval o).runT Tryz.prog u₁ #[] = (.ok (.enter g (args.map (Act.mk (JT f) []).eval)) u₁,#[]):=fun u₁=>by
    have e:execOp (Act.mk (JT f) []).eval o = callFunc g (#[] ++ args.map (Act.mk (JT f) []).eval ++ #[]):=by
      unfold execOp
      rw [h2]
      rfl
    rw [e,Array.empty_append,Array.append_empty]
    exact run_enter hf hn (by rw [hb]; rfl) _ _
  refine Owned.step rfl fun u₁ h₁=>?_
  have e1:=hr u₁
  rw [Sem.runT_eq,Prod.mk.injEq] at e1
  refine ⟨_,u₁,_,stepG_enter (f:=g) (args:=args.map (Act.mk (JT f) []).eval) h1 (wanted_free h4 _) hk e1.1,⟨rfl,rfl,rfl,Nat.le_refl _,fun _ _ _=>rfl,fun e he=>?_⟩,?_⟩
  · have:=seen_mem e he
    rw [e1.2] at this
    simp at this
  · rw [Grow.self,enter_at _ hf hb]
    exact hc.rely h₁
theorem j_cond {x:Operand} {p q:Code} {t:Bool} (hx:(Act.mk (JT f) []).eval x = .bool t) (hc:Owned Tryz.prog true K S (G (b.at ⟨JT f,[]⟩ (.code (if t then p else q) :: k)) cs) u M):Owned Tryz.prog true K S (G (b.at ⟨JT f,[]⟩ (.code (.cond x p q) :: k)) cs) u M:=Owned.ctl rfl (fun _=>stepG_cond hx) hc
theorem j_exit {a:Act} {id:Nat} {k':List Item} (h:exitTo id k = some k') (hc:Owned Tryz.prog true K S (G (b.at a k') cs) u M):Owned Tryz.prog true K S (G (b.at a (.code (.exit id) :: k)) cs) u M:=Owned.ctl rfl (fun _=>stepG_exit h) hc
theorem j_skip {a:Act} (hc:Owned Tryz.prog true K S (G (b.at a k) cs) u M):Owned Tryz.prog true K S (G (b.at a (.code .skip :: k)) cs) u M:=Owned.ctl rfl (fun _=>stepG_skip) hc
theorem j_block {a:Act} {id:Nat} {c:Code} (hc:Owned Tryz.prog true K S (G (b.at a (.code c :: .inBlock id :: k)) cs) u M):Owned Tryz.prog true K S (G (b.at a (.code (.block id c) :: k)) cs) u M:=Owned.ctl rfl (fun _=>stepG_block) hc
theorem j_inBlock {a:Act} {id:Nat} (hc:Owned Tryz.prog true K S (G (b.at a k) cs) u M):Owned Tryz.prog true K S (G (b.at a (.inBlock id :: k)) cs) u M:=Owned.ctl rfl (fun _=>stepG_inBlock) hc
theorem j_loop {a:Act} {c:Code} (hc:Owned Tryz.prog true K S (G (b.at a (.code c :: .inLoop c :: k)) cs) u M):Owned Tryz.prog true K S (G (b.at a (.code (.loop c) :: k)) cs) u M:=Owned.ctl rfl (fun _=>stepG_loop) hc
theorem j_inLoop {a:Act} {c:Code} (hc:Owned Tryz.prog true K S (G (b.at a (.code c :: .inLoop c :: k)) cs) u M):Owned Tryz.prog true K S (G (b.at a (.inLoop c :: k)) cs) u M:=Owned.ctl rfl (fun _=>stepG_inLoop) hc
end
section
variable [Payload]
theorem sr_eq {Q:Program} {ty:TypeId} {Wg V nV:Nat} {K:Nat → Prop} {An:Goroutine → World → Prop} {nW:Nat} {off:Nat → Nat} {vals:Nat → List Value} (r:Nat):Sr Q ty Wg V nV K An nW off vals r = Owned Q true K (SrS Q ty Wg V nV K An nW off vals r):=by
  cases r <;> rfl
end
section
def headJ (f:Func):List Item:=[.code (loopJ f),.inLoop (loopJ f),.inBlock 0,.code (.seq (RJg f 10) (.seq (RJg f 11) .ret))]
def backJ (f:Func):List Item:=[.code (RJg f 9),.inLoop (loopJ f),.inBlock 0,.code (.seq (RJg f 10) (.seq (RJg f 11) .ret))]
theorem events_sub {M K:Nat → Prop} {c:Nat} (hm:M c) {es:Array Event} (h:∀ e ∈ es,∃ x,e = ⟨.cell ⟨c,x,none⟩,false,false⟩):∀ e ∈ es,EvM K M e:=fun e he=>by
  obtain ⟨x,rfl⟩:=h e he
  exact .inl ⟨c,.inr ⟨_,rfl,rfl⟩,rfl,.inl hm⟩
structure HJ (c:Nat → Int) (bb VV Wg i:Nat) (f:Nat → Value):Prop where
  f2:f 2 = ptr bb
  f5:f 5 = ptr VV
  f6:f 6 = ptr Wg
  fa:f 10 = .agg (intsOf c)
  fb:f 11 = .int .i64 i
theorem HJ.up {c:Nat → Int} {bb VV Wg i:Nat} {f:Nat → Value} (h:HJ c bb VV Wg i f) {d:Nat} (v:Value) (hd:d ≠ 2 ∧ d ≠ 5 ∧ d ≠ 6 ∧ d ≠ 10 ∧ d ≠ 11):HJ c bb VV Wg i (up f d v) :=
  ⟨by rw [up_ne _ _ (Ne.symm hd.1)]; exact h.f2,by rw [up_ne _ _ (Ne.symm hd.2.1)]; exact h.f5,by rw [up_ne _ _ (Ne.symm hd.2.2.1)]; exact h.f6,by rw [up_ne _ _ (Ne.symm hd.2.2.2.1)]; exact h.fa,by rw [up_ne _ _ (Ne.symm hd.2.2.2.2)]; exact h.fb⟩
theorem to_next {S:Goroutine → World → (Nat → Prop) → Prop} {K M:Nat → Prop} {u:World} {cs:List Frame} {c:Nat → Int} {bb VV Wg i:Nat} {f:Nat → Value} (hi:i < 4) (h:HJ c bb VV Wg i f)
    (hc:∀ f,HJ c bb VV Wg (i + 1) f → Owned Tryz.prog true K S (G ((base 22).at ⟨JT f,[]⟩ (headJ Tryz.f22)) cs) u M):Owned Tryz.prog true K S (G ((base 22).at ⟨JT f,[]⟩ (backJ Tryz.f22)) cs) u M:=by
  have hk:(base 22).kind ≠ .early:=by decide
  refine j_region (rangeJ 9 2 rfl) ?_
  refine j_look j90 hk (Holds.nil (K:=K) (M:=M)) (v:=.int .i64 ((i + 1:Nat):Int)) (fun o u₁ ho _=>⟨#[],?_,fun e he=>by simp at he⟩) ?_
  · rw [exec_binOp ho,ev_tmp _ _ (by decide),ev_const,h.fb]
    exact runT_v (runT_add _ i hi _ _)
  refine j_move (.inl j91) hk (ev_tmp _ _ (by decide)) ?_
  refine j_end (j_inLoop (hc _ ?_))
  refine ⟨?_,?_,?_,?_,?_⟩
  · rw [up_ne _ _ (by decide),up_ne _ _ (by decide)]; exact h.f2
  · rw [up_ne _ _ (by decide),up_ne _ _ (by decide)]; exact h.f5
  · rw [up_ne _ _ (by decide),up_ne _ _ (by decide)]; exact h.f6
  · rw [up_ne _ _ (by decide),up_ne _ _ (by decide)]; exact h.fa
  · rw [up_self,up_self]
end
end Go.Proofs.YtojoafcnijajmaaGreatDoor

namespace Go.Proofs.YtojoafcnijajmaaGreatDoor
open Go Go.Conc Go.ConcN Go.RowKit Go.Conc.Lib
open Go.ConcR (KK wgBlock WgAt stA smA rd wr mk Payload DC0)
theorem und_int:∃ d,Tryz.prog.underlying 3 = some d ∧ d.isRow = false:=⟨_,Tryz.underlying3,rfl⟩
theorem Rely.none_trans {K M:Nat → Prop} {u v w:World} (h:Rely K (fun _=>False) u v) (k:Rely K M v w):Rely K (fun _=>False) u w:=h.trans (k.mono fun _ h=>h.elim)
section
theorem round_body {S:Goroutine → World → (Nat → Prop) → Prop} {K M:Nat → Prop} {u:World} {cs:List Frame} {c:Nat → Int} {bb VV Wg i:Nat} {f:Nat → Value} (hi:i < 4) (h:HJ c bb VV Wg i f) (hKM:∀ d,K d → ¬ M d) (hKs:∀ d,K d → d < u.heap.size)
    (hskip:c i ≤ 0 → ∀ f u' M',HJ c bb VV Wg i f → Rely K (fun _=>False) u u' → (∀ d,M' d → M d ∨ u.heap.size ≤ d) → Owned Tryz.prog true K S (G ((base 22).at ⟨JT f,[]⟩ (backJ Tryz.f22)) cs) u' M')
    (hgo:0 < c i → ∀ f rB nB u' M',HJ c bb VV Wg i f → f 7 = ptr rB → f 8 = ptr nB → Holds K [(rB,.cells #[.int .i64 i] 3),(nB,.cells #[.int .i64 (c i)] 3)] u' M' → M' rB → M' nB → rB < nB → Rely K (fun _=>False) u u' → (∀ d,M' d → M d ∨ u.heap.size ≤ d) →
      Owned Tryz.prog true K S (G ((base 22).at ⟨JT f,[]⟩ (.code (.seq (RJg Tryz.f22 7) (RJg Tryz.f22 8)) :: .inBlock 1 :: backJ Tryz.f22)) cs) u' M') :
    Owned Tryz.prog true K S (G ((base 22).at ⟨JT f,[]⟩ (headJ Tryz.f22)) cs) u M:=by
  have hk:(base 22).kind ≠ .early:=by decide
  refine j_seq (j_region (rangeJ 4 1 rfl) ?_)
  refine j_look j40 hk (Holds.nil (K:=K) (M:=M)) (v:=.bool (decide (i < 4))) (fun o u₁ ho _=>⟨#[],?_,fun e he=>by simp at he⟩) ?_
  · rw [exec_binOp ho,ev_tmp _ _ (by decide),ev_const,h.fb]
    exact runT_v (runT_lss _ i (by omega) _ _)
  replace h:=h.up (d:=12) (.bool (decide (i < 4))) (by decide)
  have e12:(Act.mk (JT (up f 12 (.bool (decide (i < 4))))) []).eval (.tmp 12) = .bool true:=by rw [ev_tmp _ _ (by decide),up_self,decide_eq_true hi]
  generalize up f 12 (.bool (decide (i < 4))) = f at h e12 ⊢
  refine j_end (j_seq (j_cond e12 ?_))
  simp only [if_true]
  refine j_skip (j_seq (j_block (j_seq (j_region (rangeJ 5 6 rfl) ?_))))
  refine j_move (.inl j50) hk ((ev_tmp _ _ (by decide)).trans h.fb) ?_
  have g13:up f 13 (.int .i64 i) 13 = .int .i64 i:=up_self _ _ _
  replace h:=h.up (d:=13) (.int .i64 i) (by decide)
  generalize up f 13 (.int .i64 i) = f at h g13 ⊢
  refine j_look j51 hk (Holds.nil (K:=K) (M:=M)) (v:=.int .i64 (c i)) (fun o u₁ ho _=>⟨#[],?_,fun e he=>by simp at he⟩) ?_
  · rw [exec_index ho,ev_tmp _ _ (by decide),ev_tmp _ _ (by decide),h.fb,h.fa]
    exact runT_v (runT_index _ i hi c)
  have g14:up f 14 (.int .i64 (c i)) 14 = .int .i64 (c i):=up_self _ _ _
  replace g13:up f 14 (.int .i64 (c i)) 13 = .int .i64 i:=(up_ne _ _ (by decide)).trans g13
  replace h:=h.up (d:=14) (.int .i64 (c i)) (by decide)
  generalize up f 14 (.int .i64 (c i)) = f at h g13 g14 ⊢
  refine j_make hKM j52 hk Holds.nil ptr (.cells #[.int .i64 0] 3) (fun o u₁ ho=>by rw [exec_alloc ho]; exact runT_v (runT_allocInt _)) fun rB u1 M1 a1 a2 a3 a4 a5 a6 a7 a8=>?_
  have g7:up f 7 (ptr rB) 7 = ptr rB:=up_self _ _ _
  replace g13:up f 7 (ptr rB) 13 = .int .i64 i:=(up_ne _ _ (by decide)).trans g13
  replace g14:up f 7 (ptr rB) 14 = .int .i64 (c i):=(up_ne _ _ (by decide)).trans g14
  replace h:=h.up (d:=7) (ptr rB) (by decide)
  generalize up f 7 (ptr rB) = f at h g7 g13 g14 ⊢
  have hKM1:∀ d,K d → ¬ M1 d:=fun d hd hm=>(a5 d hm).elim (hKM d hd) fun x=>by have:=hKs d hd; omega
  refine j_make hKM1 j53 hk a2 ptr (.cells #[.int .i64 0] 3) (fun o u₁ ho=>by rw [exec_alloc ho]; exact runT_v (runT_allocInt _)) fun nB u2 M2 b1 b2 b3 b4 b5 b6 b7 b8=>?_
  have g8:up f 8 (ptr nB) 8 = ptr nB:=up_self _ _ _
  replace g7:up f 8 (ptr nB) 7 = ptr rB:=(up_ne _ _ (by decide)).trans g7
  replace g13:up f 8 (ptr nB) 13 = .int .i64 i:=(up_ne _ _ (by decide)).trans g13
  replace g14:up f 8 (ptr nB) 14 = .int .i64 (c i):=(up_ne _ _ (by decide)).trans g14
  replace h:=h.up (d:=8) (ptr nB) (by decide)
  generalize up f 8 (ptr nB) = f at h g7 g8 g13 g14 ⊢
  have hKM2:∀ d,K d → ¬ M2 d:=fun d hd hm=>(b5 d hm).elim (hKM1 d hd) fun x=>by have:=hKs d hd; omega
  have hrn:rB ≠ nB:=by omega
  refine j_write (new:=#[.int .i64 i]) hKM2 j54 hk b2 (b4 _ a3) (List.mem_cons_of_mem _ List.mem_cons_self) (fun o u₁ ho hh=>?_) fun u3 c1 c2 c3=>?_
  · rw [exec_store ho,ev_tmp _ _ (by decide),ev_tmp _ _ (by decide),g7,g13]
    obtain ⟨es,e1,e2⟩:=runT_store1 (ty:=3) (by kernel_rfl) hh (v:=.int .i64 i) rfl rfl
    exact ⟨es,runT_u e1,e2⟩
  have c1':Holds K [(nB,.cells #[.int .i64 0] 3),(rB,.cells #[.int .i64 i] 3)] u3 M2:=c1.sub fun x hx=>by
    simp only [List.mem_cons,List.mem_filter,List.not_mem_nil,or_false] at hx ⊢
    rcases hx with rfl | rfl
    · exact .inr ⟨.inl rfl,by simpa using Ne.symm hrn⟩
    · exact .inl rfl
  refine j_write (new:=#[.int .i64 (c i)]) hKM2 j55 hk c1' b3 List.mem_cons_self (fun o u₁ ho hh=>?_) fun u4 d1 d2 d3=>?_
  · rw [exec_store ho,ev_tmp _ _ (by decide),ev_tmp _ _ (by decide),g8,g14]
    obtain ⟨es,e1,e2⟩:=runT_store1 (ty:=3) (by kernel_rfl) hh (v:=.int .i64 (c i)) rfl rfl
    exact ⟨es,runT_u e1,e2⟩
  have d1':Holds K [(rB,.cells #[.int .i64 i] 3),(nB,.cells #[.int .i64 (c i)] 3)] u4 M2:=d1.sub fun x hx=>by
    simp only [List.mem_cons,List.mem_filter,List.not_mem_nil,or_false] at hx ⊢
    rcases hx with rfl | rfl
    · exact .inr ⟨.inr rfl,by simpa using hrn⟩
    · exact .inl rfl
  have hR:Rely K (fun _=>False) u u4:=a8.trans (b8.trans (c3.trans d3))
  have hM2:∀ d,M2 d → M d ∨ u.heap.size ≤ d:=fun d hm=>(b5 d hm).elim (fun x=>(a5 d x).imp id And.left) fun x=>.inr (by omega)
  refine j_end (j_seq (j_seq (j_region (rangeJ 6 2 rfl) ?_)))
  refine j_look j60 hk d1' (v:=.int .i64 (c i)) (fun o u₁ ho hl=>?_) ?_
  · rw [exec_load ho,ev_tmp _ _ (by decide),g8]
    obtain ⟨d,hd1,hd2⟩:=und_int
    obtain ⟨es,e1,e2⟩:=runT_load1 hd1 hd2 (hl _ (List.mem_cons_of_mem _ List.mem_cons_self)).2.2
    exact ⟨es,runT_v e1,events_sub b3 e2⟩
  have g15:up f 15 (.int .i64 (c i)) 15 = .int .i64 (c i):=up_self _ _ _
  replace g7:up f 15 (.int .i64 (c i)) 7 = ptr rB:=(up_ne _ _ (by decide)).trans g7
  replace g8:up f 15 (.int .i64 (c i)) 8 = ptr nB:=(up_ne _ _ (by decide)).trans g8
  replace h:=h.up (d:=15) (.int .i64 (c i)) (by decide)
  generalize up f 15 (.int .i64 (c i)) = f at h g7 g8 g15 ⊢
  refine j_look j61 hk (Holds.nil (K:=K) (M:=M2)) (v:=.bool (decide (c i ≤ 0))) (fun o u₁ ho _=>⟨#[],?_,fun e he=>by simp at he⟩) ?_
  · rw [exec_binOp ho,ev_tmp _ _ (by decide),ev_const,g15]
    exact runT_v (runT_leq _ _ _ _)
  have e16:(Act.mk (JT (up f 16 (.bool (decide (c i ≤ 0))))) []).eval (.tmp 16) = .bool (decide (c i ≤ 0)):=by rw [ev_tmp _ _ (by decide),up_self]
  replace g7:up f 16 (.bool (decide (c i ≤ 0))) 7 = ptr rB:=(up_ne _ _ (by decide)).trans g7
  replace g8:up f 16 (.bool (decide (c i ≤ 0))) 8 = ptr nB:=(up_ne _ _ (by decide)).trans g8
  replace h:=h.up (d:=16) (.bool (decide (c i ≤ 0))) (by decide)
  generalize up f 16 (.bool (decide (c i ≤ 0))) = f at h g7 g8 e16 ⊢
  refine j_end (j_cond e16 ?_)
  by_cases hc:c i ≤ 0
  · simp only [decide_eq_true hc,if_true]
    exact j_exit rfl (hskip hc f u4 M2 h hR hM2)
  · simp only [decide_eq_false hc,Bool.false_eq_true,if_false]
    exact j_skip (hgo (by omega) f rB nB u4 M2 h g7 g8 d1' (b4 _ a3) b3 (by omega) hR hM2)
end
end Go.Proofs.YtojoafcnijajmaaGreatDoor
