/- Part 21 of the proof that Devices answers true and leaves its input as it was, for input of bulk at most the bound of its row: Y7 Y8 Y9. -/
import Derived.Test.YtojoafcnijajmaaGreatDoorT20
set_option linter.unusedVariables false
namespace Go.Proofs.YtojoafcnijajmaaGreatDoor
open Go Go.Conc Go.ConcN Go.RowKit Go.Conc.Lib
open Go.ConcR (KK wgBlock WgAt stA smA rd wr mk Payload DC0)
section
variable {ty:TypeId} {Wg:Nat} {Q:Program} {St:Goroutine → World → Prop} {m:Nat}
theorem goes_main {g g':Goroutine} (hs:g.status = .running) (h:∀ w,stepG Q true g w = .go g' w #[]) (k:∀ w,WgLive ty Wg w → Goes Q true (RL ty Wg) DC0 St m g' w):∀ w,WgLive ty Wg w → Goes Q true (RL ty Wg) DC0 St (m + 1) g w :=
  fun w _=>Goes.step hs fun w₁ h₁=>by rw [h w₁]; exact ⟨⟨rfl,rfl⟩,k w₁ h₁⟩
end
theorem listed_none {P:Program} {fn:FuncId} {a:Act} {o:Oper} {w:World} (h:(execOp a.eval o).events P w #[] = #[]):listed P fn a o w = #[]:=by
  unfold listed
  rw [h,seen_none]
theorem to_go {Wg bb VV rB nB:Nat} {f:Nat → Value} {cs:List Frame} {k:List Item} (f2:f 2 = ptr bb) (f5:f 5 = ptr VV) (f6:f 6 = ptr Wg) (f7:f 7 = ptr rB) (f8:f 8 = ptr nB) :
    ∀ w,WgLive link.tWg Wg w → Goes Tryz.prog true (RL link.tWg Wg) DC0 (TGo Tryz.prog (G ((base 22).at ⟨JT (up f 18 (.func (.func 52) #[] #[ptr Wg,ptr bb,ptr rB,ptr nB,ptr VV])),[]⟩ (.inRegion (AJ Tryz.f22 8) [] :: k)) cs) (born Tryz.prog (callW Wg bb rB nB VV))) 3
      (G ((base 22).at ⟨JT f,[]⟩ (.inRegion (AJ Tryz.f22 7) [] :: .code (RJg Tryz.f22 8) :: k)) cs) w:=by
  refine goes_main rfl (fun w=>stepG_region_end) ?_
  refine goes_main rfl (fun w=>stepG_region) ?_
  rw [rangeJ 8 2 rfl,show List.range 2 = [0,1] from rfl]
  obtain ⟨o,h1,h2,h3,h4⟩:=j80
  have hr:∀ w,(execOp (Act.mk (JT f) []).eval o).runT Tryz.prog w #[] = (.ok (.value (.func (.func 52) #[] #[ptr Wg,ptr bb,ptr rB,ptr nB,ptr VV])) w,#[]):=fun w=>by
    have e:execOp (Act.mk (JT f) []).eval o = (do Pure.pure (Next.value (← Instr.makeFunc (.func 52) ((#[]:Array Operand).map (Act.mk (JT f) []).eval) ((#[.tmp 6,.tmp 2,.tmp 7,.tmp 8,.tmp 5]:Array Operand).map (Act.mk (JT f) []).eval)))):=by
      unfold execOp
      rw [h2]
    have e2:(#[.tmp 6,.tmp 2,.tmp 7,.tmp 8,.tmp 5]:Array Operand).map (Act.mk (JT f) []).eval = #[(Act.mk (JT f) []).eval (.tmp 6),(Act.mk (JT f) []).eval (.tmp 2),(Act.mk (JT f) []).eval (.tmp 7),(Act.mk (JT f) []).eval (.tmp 8),(Act.mk (JT f) []).eval (.tmp 5)]:=by simp
    rw [e2,show ((#[]:Array Operand).map (Act.mk (JT f) []).eval) = #[] from by simp] at e
    rw [e,ev_tmp _ _ (by decide),ev_tmp _ _ (by decide),ev_tmp _ _ (by decide),ev_tmp _ _ (by decide),ev_tmp _ _ (by decide),f2,f5,f6,f7,f8]
    exact runT_v rfl
  have hr':=fun w=>(hr w)
  simp only [Sem.runT_eq,Prod.mk.injEq] at hr'
  refine goes_main rfl (fun w=>by rw [stepG_value h1 (wanted_free h4 _) (by decide) (hr' w).1,listed_none (hr' w).2,h3,put_JT]) ?_
  intro w _
  refine Goes.stop fun w₁ _=>⟨rfl,?_⟩
  obtain ⟨o,g1,g2,g3,g4⟩:=j81
  have hs:(execOp (Act.mk (JT (up f 18 (.func (.func 52) #[] #[ptr Wg,ptr bb,ptr rB,ptr nB,ptr VV]))) []).eval o).runT Tryz.prog w₁ #[] = (.ok (.spawn (callW Wg bb rB nB VV)) w₁,#[]):=by
    have e:execOp (Act.mk (JT (up f 18 (.func (.func 52) #[] #[ptr Wg,ptr bb,ptr rB,ptr nB,ptr VV]))) []).eval o = (do Pure.pure (Next.spawn (← resolve (Act.mk (JT (up f 18 (.func (.func 52) #[] #[ptr Wg,ptr bb,ptr rB,ptr nB,ptr VV]))) []).eval { callee:=.value (.tmp 18),args:=#[],argTypes:=#[] } o.type))):=by
      unfold execOp
      rw [g2]
    rw [e]
    unfold resolve
    simp only [ev_tmp _ _ (show 18 < 22 by decide),up_self,List.map_toArray,List.map_nil]
    rfl
  rw [Sem.runT_eq,Prod.mk.injEq] at hs
  rw [stepG_spawn g1 (wanted_free g4 _) (by decide) hs.1 rfl,listed_none hs.2,g3]
  rfl
section
variable [Payload]
theorem rounds {K:Nat → Prop} {u₀:World} {c:Nat → Int} {vd:Nat → Array Value} {bb V VV Wg nW:Nat} {off:Nat → Nat} {vals:Nat → List Value} {cs:List Frame} {cnt:Nat → Nat} (hWg:WgLive link.tWg Wg u₀)
    (c4:cnt 4 = 0) (cS:∀ i,i < 4 → cnt i = cnt (i + 1) + if 0 < c i then 1 else 0) (hoff:∀ i,i < 4 → 0 < c i → off (nW - (cnt (i + 1) + 1)) = 17 * i ∧ vals (nW - (cnt (i + 1) + 1)) = (vd i).toList) (hKs:∀ d,K d → d < u₀.heap.size)
    (HW:∀ (r rB nB:Nat) (u₁:World) (M₀:Nat → Prop),r < 4 → 0 < c r → M₀ rB → M₀ nB → rB < nB → Holds K [(rB,.cells #[.int .i64 r] 3),(nB,.cells #[.int .i64 (c r)] 3)] u₁ M₀ → Rely K (fun _=>False) u₀ u₁ → (∀ d,M₀ d → u₀.heap.size ≤ d) →
      Owned Tryz.prog false K (AtPut Tryz.prog link.tWg Wg V 68 (17 * r) (vd r).toList) (born Tryz.prog (callW Wg bb rB nB VV)) u₁ M₀) :
    ∀ n i,i + n = 4 → ∀ f u M,HJ c bb VV Wg i f → Rely K (fun _=>False) u₀ u → (∀ d,M d → u₀.heap.size ≤ d) → Sr Tryz.prog link.tWg Wg V 68 K (AnJ Tryz.f22 link Wg VV cs) nW off vals (cnt i) (G ((base 22).at ⟨JT f,[]⟩ (headJ Tryz.f22)) cs) u M:=by
  intro n
  have hk:(base 22).kind ≠ .early:=by decide
  induction n with
  | zero =>
    intro i hi f u M h hR hM
    obtain rfl:i = 4:=by omega
    rw [c4,sr_eq]
    refine j_seq (j_region (rangeJ 4 1 rfl) ?_)
    refine j_look j40 hk (Holds.nil (K:=K) (M:=M)) (v:=.bool (decide ((4:Nat) < 4))) (fun o u₁ ho _=>⟨#[],?_,fun e he=>by simp at he⟩) ?_
    · rw [exec_binOp ho,ev_tmp _ _ (by decide),ev_const,h.fb]
      exact runT_v (runT_lss _ 4 (by omega) _ _)
    replace h:=h.up (d:=12) (.bool (decide ((4:Nat) < 4))) (by decide)
    have e12:(Act.mk (JT (up f 12 (.bool (decide ((4:Nat) < 4))))) []).eval (.tmp 12) = .bool false:=by rw [ev_tmp _ _ (by decide),up_self]; rfl
    generalize up f 12 (.bool (decide ((4:Nat) < 4))) = f at h e12 ⊢
    refine j_end (j_seq (j_cond e12 ?_))
    simp only [Bool.false_eq_true,if_false]
    refine j_exit rfl (j_seq (j_region (rangeJ 10 1 rfl) ?_))
    refine j_enter (fn:=waitFn link) (c:=Go.ConcR.Gen.body_wait link) jA0 hk wgLib.f_wait (Go.ConcR.Gen.nm_wait link) rfl ?_
    refine Owned.stop fun u₁ _=>?_
    have he:(#[Operand.tmp 6]).map (Act.mk (JT f) []).eval = #[.pointer (some ⟨Wg,0,none⟩)]:=by
      rw [show (#[Operand.tmp 6]).map (Act.mk (JT f) []).eval = #[(Act.mk (JT f) []).eval (.tmp 6)] from by simp,ev_tmp _ _ (by decide),h.f6]
      rfl
    rw [he]
    exact start_wait h.f5 hWg u₁
  | succ n ih =>
    intro i hi f u M h hR hM
    have hi4:i < 4:=by omega
    have hKM:∀ d,K d → ¬ M d:=fun d hd hm=>by have:=hKs d hd; have:=hM d hm; omega
    rw [sr_eq]
    refine round_body hi4 h hKM (fun d hd=>Nat.lt_of_lt_of_le (hKs d hd) hR.size) ?_ ?_
    · intro hc f u' M' h' r' hM'
      refine to_next hi4 h' fun f h2=>?_
      have hM2:∀ d,M' d → u₀.heap.size ≤ d:=fun d hd=>(hM' d hd).elim (hM d) fun x=>Nat.le_trans hR.size x
      have:=ih (i + 1) (by omega) f u' M' h2 (hR.trans r') hM2
      rw [sr_eq] at this
      rw [cS i hi4,if_neg (by omega)]
      exact this
    · intro hc f rB nB u' M' h' f7 f8 hL m1 m2 hlt r' hM'
      have hM2:∀ d,M' d → u₀.heap.size ≤ d:=fun d hd=>(hM' d hd).elim (hM d) fun x=>Nat.le_trans hR.size x
      have hR2:=hR.trans r'
      have hcnt:cnt i = cnt (i + 1) + 1:=by rw [cS i hi4,if_pos hc]
      rw [hcnt]
      obtain ⟨ho1,ho2⟩:=hoff i hi4 hc
      refine j_seq (j_region (rangeJ 7 1 rfl) ?_)
      refine j_enter (fn:=addFn link) (c:=Go.ConcR.Gen.body_add link) j70 hk wgLib.f_add (Go.ConcR.Gen.nm_add link) rfl ?_
      refine Owned.stop fun u₁ r₁=>?_
      have he:(#[Operand.tmp 6,Operand.const (.int .i64 1)]).map (Act.mk (JT f) []).eval = #[.pointer (some ⟨Wg,0,none⟩),.int .i64 1]:=by
        rw [show (#[Operand.tmp 6,Operand.const (.int .i64 1)]).map (Act.mk (JT f) []).eval = #[(Act.mk (JT f) []).eval (.tmp 6),.int .i64 1] from by simp [Act.eval],ev_tmp _ _ (by decide),h'.f6]
        rfl
      rw [he]
      have hput:∃ o,(AJ Tryz.f22 7)[0]? = some o ∧ o.dst = some 17:=by
        obtain ⟨o,h1,_,h3,_⟩:=j70
        exact ⟨o,h1,h3⟩
      obtain ⟨o,o1,o2⟩:=hput
      refine ⟨G ((base 22).at ⟨JT (up (up f 17 (.tuple #[])) 18 (.func (.func 52) #[] #[ptr Wg,ptr bb,ptr rB,ptr nB,ptr VV])),[]⟩ (.inRegion (AJ Tryz.f22 8) [] :: .inBlock 1 :: backJ Tryz.f22)) cs,born Tryz.prog (callW Wg bb rB nB VV),rfl,⟨40,goes_any u₁ (addWalk (b₀:=base 22) (a₀:=⟨JT f,[]⟩) (ops₀:=AJ Tryz.f22 7) (i₀:=0) (rest₀:=[]) (k₀:=.code (RJg Tryz.f22 8) :: .inBlock 1 :: backJ Tryz.f22) (cs:=cs) (mT:=3) (child:=born Tryz.prog (callW Wg bb rB nB VV)) wgLib ?_ u₀ hWg)⟩,?_⟩
      · intro w hw
        rw [o1,Option.bind_some,o2,put_JT]
        refine to_go ?_ ?_ ?_ ?_ ?_ w hw
        · rw [up_ne _ _ (by decide)]; exact h'.f2
        · rw [up_ne _ _ (by decide)]; exact h'.f5
        · rw [up_ne _ _ (by decide)]; exact h'.f6
        · rw [up_ne _ _ (by decide)]; exact f7
        · rw [up_ne _ _ (by decide)]; exact f8
      · intro u₂ r₂
        have hR3:Rely K (fun _=>False) u₀ u₂:=(hR2.none_trans r₁).none_trans r₂
        refine ⟨?_,?_⟩
        · rw [ho1,ho2]
          exact HW i rB nB u₂ M' hi4 hc m1 m2 hlt ((hL.rely r₁).rely r₂) hR3 hM2
        · rw [sr_eq]
          refine j_end (j_inBlock ?_)
          refine to_next hi4 ((h'.up (d:=17) _ (by decide)).up (d:=18) _ (by decide)) fun f h3=>?_
          have:=ih (i + 1) (by omega) f u₂ (fun _=>False) h3 hR3 (fun _ h=>h.elim)
          rw [sr_eq] at this
          exact this
end
end Go.Proofs.YtojoafcnijajmaaGreatDoor

namespace Go.Proofs.YtojoafcnijajmaaGreatDoor
open Go Go.Conc Go.ConcN Go.RowKit Go.Conc.Lib
open Go.ConcR (KK wgBlock WgAt stA smA rd wr mk Payload DC0)
def cntJ (c:Nat → Int) (i:Nat):Nat:=((List.range 4).filter fun j=>decide (i ≤ j) && decide (0 < c j)).length
def posJ (c:Nat → Int):List Nat:=(List.range 4).filter fun j=>decide (0 < c j)
def offJ (c:Nat → Int) (k:Nat):Nat:=17 * (posJ c)[k]?.getD 0
def valsJ (c:Nat → Int) (vd:Nat → Array Value) (k:Nat):List Value:=(vd ((posJ c)[k]?.getD 0)).toList
def zeroJ (x:Nat):Value:=zeroRow.getD x undef
theorem four {P:Nat → Prop} (h0:P 0) (h1:P 1) (h2:P 2) (h3:P 3):∀ i,i < 4 → P i:=fun i hi=>by
  obtain rfl | rfl | rfl | rfl:i = 0 ∨ i = 1 ∨ i = 2 ∨ i = 3:=by omega
  · exact h0
  · exact h1
  · exact h2
  · exact h3
theorem range4:List.range 4 = [0,1,2,3]:=rfl
theorem cntJ_4 (c:Nat → Int):cntJ c 4 = 0:=by simp [cntJ,range4]
theorem cntJ_S (c:Nat → Int):∀ i,i < 4 → cntJ c i = cntJ c (i + 1) + if 0 < c i then 1 else 0:=by
  refine four ?_ ?_ ?_ ?_ <;> (simp only [cntJ,range4]; by_cases h0:0 < c 0 <;> by_cases h1:0 < c 1 <;> by_cases h2:0 < c 2 <;> by_cases h3:0 < c 3 <;> simp [h0,h1,h2,h3])
theorem offJ_at (c:Nat → Int) (vd:Nat → Array Value):∀ i,i < 4 → 0 < c i → offJ c (cntJ c 0 - (cntJ c (i + 1) + 1)) = 17 * i ∧ valsJ c vd (cntJ c 0 - (cntJ c (i + 1) + 1)) = (vd i).toList:=by
  refine four ?_ ?_ ?_ ?_ <;> (intro hi; simp only [offJ,valsJ,posJ,cntJ,range4]; by_cases h0:0 < c 0 <;> by_cases h1:0 < c 1 <;> by_cases h2:0 < c 2 <;> by_cases h3:0 < c 3 <;> simp_all)
theorem posJ_get (c:Nat → Int):∀ k,k < cntJ c 0 → ∃ i,i < 4 ∧ 0 < c i ∧ (posJ c)[k]? = some i:=by
  intro k hk
  have e:cntJ c 0 = (posJ c).length:=by unfold cntJ posJ; congr 1
  have hk':k < (posJ c).length:=by omega
  refine ⟨(posJ c)[k],?_,?_,by simp [hk']⟩
  · have:=List.getElem_mem hk'
    simpa using (List.mem_filter.1 this).1
  · have:=List.getElem_mem hk'
    simpa using (List.mem_filter.1 this).2
theorem posJ_inj (c:Nat → Int) {k k':Nat} (hk:k < cntJ c 0) (hk':k' < cntJ c 0) (h:(posJ c)[k]? = (posJ c)[k']?):k = k':=by
  have e:cntJ c 0 = (posJ c).length:=by unfold cntJ posJ; congr 1
  have hn:(posJ c).Nodup:=List.Pairwise.filter _ List.nodup_range
  exact (List.getElem?_inj (by omega) hn).1 h
theorem cntJ_le (c:Nat → Int):cntJ c 0 ≤ 4:=Nat.le_trans (List.length_filter_le _ _) (by simp)
theorem geoJ (c:Nat → Int) (vd:Nat → Array Value) (hvd:∀ i,i < 4 → 0 < c i → (vd i).size = 17):GeoP 68 (cntJ c 0) (offJ c) (valsJ c vd):=by
  have key:∀ k,k < cntJ c 0 → ∃ i,i < 4 ∧ (posJ c)[k]? = some i ∧ offJ c k = 17 * i ∧ (valsJ c vd k).length = 17:=fun k hk=>by
    obtain ⟨i,h1,h2,h3⟩:=posJ_get c k hk
    refine ⟨i,h1,h3,?_,?_⟩
    · simp [offJ,h3]
    · simp [valsJ,h3,hvd i h1 h2]
  refine ⟨cntJ_le c,fun k hk=>?_,fun k hk=>?_,fun k k' x hk hk' a1 a2 a3 a4=>?_⟩
  · obtain ⟨i,_,_,_,h⟩:=key k hk; omega
  · obtain ⟨i,h1,_,h3,h⟩:=key k hk; omega
  · obtain ⟨i,_,h2,h3,h4⟩:=key k hk
    obtain ⟨i',_,g2,g3,g4⟩:=key k' hk'
    have:i = i':=by omega
    subst this
    exact posJ_inj c hk hk' (h2.trans g2.symm)
end Go.Proofs.YtojoafcnijajmaaGreatDoor

namespace Go.Proofs.YtojoafcnijajmaaGreatDoor
open Go Go.Conc Go.ConcN Go.RowKit Go.Conc.Lib
open Go.ConcR (KK wgBlock WgAt stA smA rd wr mk Payload DC0)
theorem goes_calm {Q:Program} {ty:TypeId} {Wg:Nat} {St:Goroutine → World → Prop}:∀ (n:Nat) (g:Goroutine) (w:World),WgLive ty Wg w → Goes Q true (RL ty Wg) DC0 St n g w → Goes Q true (fun w w₁=>∃ d,w₁ = w.at d) DC0 St n g w
  | 0,g,w,hl,h=>fun w₁ ⟨d,e⟩=>h w₁ (by subst e; exact hl)
  | n + 1,g,w,hl,h=>by
    rcases h with h | ⟨hr,h⟩
    · exact .inl fun w₁ ⟨d,e⟩=>h w₁ (by subst e; exact hl)
    · refine .inr ⟨hr,fun w₁ ⟨d,e⟩=>?_⟩
      have hl1:WgLive ty Wg w₁:=by subst e; exact hl
      have:=h w₁ hl1
      revert this
      cases stepG Q true g w₁ <;> simp only [GStep.goes,imp_self]
      rintro ⟨⟨rfl,rfl⟩,x⟩
      exact ⟨⟨rfl,rfl⟩,goes_calm n _ _ hl1 x⟩
def inJ (vb:Value) (c:Nat → Int) (j:Nat):Value:=if j = 0 then vb else if j = 1 then .agg (intsOf c) else undef
theorem tmpsJ (vb:Value) (c:Nat → Int):#[vb,.agg (intsOf c)] ++ Array.replicate 20 undef = JT (inJ vb c):=by kernel_rfl
theorem enterJ (vb:Value) (c:Nat → Int):Frame.enter Tryz.prog 22 #[vb,.agg (intsOf c)] .normal = (base 22).at ⟨JT (inJ vb c),[]⟩ [.code (.seq (RJg Tryz.f22 0) (.seq (RJg Tryz.f22 1) (.seq (RJg Tryz.f22 2) (.seq (.seq (RJg Tryz.f22 3) (.block 0 (.loop (loopJ Tryz.f22)))) (.seq (RJg Tryz.f22 10) (.seq (RJg Tryz.f22 11) .ret))))))]:=by
  rw [enter_at _ fn_judge judge_code,ntmpsJ,show 22 - (#[vb,Value.agg (intsOf c)]:Array Value).size = 20 from rfl,tmpsJ]
theorem tail_back {V VV:Nat} {b:Frame} {bs:List Frame} {t:Nat → Value} (h5:t 5 = ptr VV) {u:World} (hVV:u.heap[VV]? = some (.cells #[sl4 V] 82)) :
    Owned Tryz.prog true (fun x=>x = VV) (fun g _ _=>g = gor (b.finish (sl4 V)) bs) (G (waitFr Tryz.f22 t []) (b :: bs)) u (fun _=>False):=by
  have hk:(base 22).kind ≠ .early:=by decide
  have hL:Holds (fun x=>x = VV) [(VV,.cells #[sl4 V] 82)] u (fun _=>False):=fun x hx=>by
    simp only [List.mem_cons,List.not_mem_nil,or_false] at hx
    subst hx
    exact ⟨.inr rfl,(Array.getElem?_eq_some_iff.1 hVV).1,hVV⟩
  refine j_end (j_seq (j_region (rangeJ 11 2 rfl) ?_))
  refine j_look jB0 hk hL (v:=sl4 V) (fun o u₁ ho hl=>?_) ?_
  · rw [exec_load ho,ev_tmp _ _ (by decide),h5]
    obtain ⟨d,hd1,hd2⟩:=und_verdicts
    obtain ⟨es,e1,e2⟩:=runT_load1 hd1 hd2 (hl _ List.mem_cons_self).2.2
    refine ⟨es,runT_v e1,fun e he=>?_⟩
    obtain ⟨x,rfl⟩:=e2 e he
    exact .inl ⟨VV,.inr ⟨_,rfl,rfl⟩,rfl,.inr ⟨rfl,rfl⟩⟩
  refine j_move (.inr jB1) hk ((ev_tmp _ _ (by decide)).trans (up_self _ _ _)) ?_
  refine j_end (Owned.ctl rfl (fun _=>stepG_ret') ?_)
  have e1:Func.results Tryz.f22 = #[.tmp 4]:=by kernel_rfl
  refine Owned.ctl (g':=G (b.finish (sl4 V)) bs) rfl (fun u₁=>?_) (Owned.stop fun _ _=>rfl)
  refine stepG_leave (fn:=Tryz.f22) rfl rfl fn_judge ?_ ?_
  · rw [results_tmp e1]
    show Result.ok ((JT _).getD 4 undef) u₁ = _
    rw [JT_get _ (by decide),up_self]
  · exact events_results_tmp e1 _ _
section
variable [Payload]
theorem judge_company (hety:Payload.ety = 86) {S:Nat → Prop} {gs:Array Goroutine} {u:World} {sl:Option (Nat × Nat)} {t:Trace} {q:Nat → Nat} {b:Frame} {bs:List Frame} {B':Nat} {c:Nat → Int} {vd:Nat → Array Value}
    (hF:Fr0 Tryz.prog S gs u.heap.size t q) (h0:gs[0]? = some (gor (Frame.enter Tryz.prog 22 #[ptr B',.agg (intsOf c)] .normal) (b :: bs))) (hvd:∀ i,i < 4 → 0 < c i → (vd i).size = 17)
    (HW:∀ (bb V VV Wg:Nat) (u₀:World),(∀ d,d < u.heap.size → u₀.heap[d]? = u.heap[d]?) → u.heap.size ≤ bb → bb < V → V < VV → VV < Wg → Wg < u₀.heap.size → u₀.heap[bb]? = some (.cells #[ptr B'] 34) → u₀.heap[VV]? = some (.cells #[sl4 V] 82) → u₀.tape = u.tape →
      ∀ (r rB nB:Nat) (u₁:World) (M₀:Nat → Prop),r < 4 → 0 < c r → M₀ rB → M₀ nB → rB < nB → Holds (fun x=>x < u₀.heap.size ∧ x ≠ V ∧ x ≠ Wg ∧ ¬ S x) [(rB,.cells #[.int .i64 r] 3),(nB,.cells #[.int .i64 (c r)] 3)] u₁ M₀ →
        Rely (fun x=>x < u₀.heap.size ∧ x ≠ V ∧ x ≠ Wg ∧ ¬ S x) (fun _=>False) u₀ u₁ → (∀ d,M₀ d → u₀.heap.size ≤ d) →
        Owned Tryz.prog false (fun x=>x < u₀.heap.size ∧ x ≠ V ∧ x ≠ Wg ∧ ¬ S x) (AtPut Tryz.prog link.tWg Wg V 68 (17 * r) (vd r).toList) (born Tryz.prog (callW Wg bb rB nB VV)) u₁ M₀) :
    ∃ (N:Nat) (gs':Array Goroutine) (u':World) (sl':Option (Nat × Nat)) (t':Trace) (q':Nat → Nat) (V Wg:Nat) (cs:Array Value),runNT Tryz.prog N (crowd gs u sl) t = (.next (crowd gs' u' sl'),t') ∧ gs'[0]? = some (gor (b.finish (sl4 V)) bs) ∧ Fr0 Tryz.prog (fun x=>S x ∨ x = Wg) gs' u'.heap.size t' q' ∧
      u'.tape = u.tape ∧ u'.os = u.os ∧ u'.output = u.output ∧ u.heap.size ≤ u'.heap.size ∧ (∀ d,d < u.heap.size → u'.heap[d]? = u.heap[d]?) ∧ u.heap.size ≤ V ∧ V ≠ Wg ∧ u.heap.size ≤ Wg ∧ u'.heap[V]? = some (.cells cs 86) ∧ cs.size = 68 ∧
      (∀ i,i < 4 → 0 < c i → ∀ o,o < 17 → cs[17 * i + o]? = (vd i)[o]?) ∧ ∀ i,i < 4 → ¬ 0 < c i → ∀ o,o < 17 → cs[17 * i + o]? = some (zeroJ (17 * i + o)):=by
  have hk:(base 22).kind ≠ .early:=by decide
  have hpro:=judge_pro (K:=fun _=>False) (M:=fun _=>False) (u:=u) (cs:=b :: bs) (f:=inJ (ptr B') c) (vb:=ptr B') (c:=c) (fun _ h=>h) rfl rfl rfl
  rw [enterJ] at h0
  obtain ⟨N1,gs1,g1,u1,sl1,t1,q1,M1,r1,r2,⟨f,bb,wb,V,VV,hP⟩,r4,r5⟩:=drive0 hpro gs sl t q hF h0 (fun _ h=>h.elim (fun h=>h.elim) fun h=>h.elim)
  obtain ⟨rfl,f2,f3,f5,hH,hm,ha1,ha2,ha3,ha4,ha5⟩:=hP
  have hold1:∀ d,d < u.heap.size → u1.heap[d]? = u.heap[d]?:=fun d hd=>r5.keep d hd (fun h=>h)
  obtain ⟨o,o1,o2,o3,o4⟩:=j20
  have hal:=fun w=>runT_v (runT_allocWg w)
  obtain ⟨N2,gs2,g2,u2,sl2,t2,q2,B2,s1,s2,s3,⟨rfl,d2,rfl,rfl⟩,s5⟩:=own0 (sl:=sl1) (Stop:=fun g' u' B'=>B' = u1.heap.size ∧ ∃ d,g' = G ((base 22).at ⟨JT (up f 6 (ptr u1.heap.size)),[]⟩ (.inRegion (AJ Tryz.f22 2) [] :: restJ Tryz.f22)) (b :: bs) ∧ u' = (u1.at d).alloc (wgBlock 118 0 0)) r4 r2 rfl fun d=>by
    have e':(execOp (Act.mk (JT f) []).eval o).runT Tryz.prog (u1.at d) #[] = (.ok (.value (ptr u1.heap.size)) ((u1.at d).alloc (wgBlock 118 0 0)),#[]):=by rw [exec_alloc o2]; exact hal (u1.at d)
    rw [Sem.runT_eq,Prod.mk.injEq] at e'
    refine ⟨_,_,_,u1.heap.size,stepG_value o1 (wanted_free o4 _) hk e'.1,Nat.le_refl _,fun ev he=>?_,rfl,d,?_,rfl⟩
    · rw [listed_none e'.2] at he
      simp at he
    · rw [o3,put_JT]
  obtain ⟨Wg,hWg⟩ : ∃ Wg,Wg = u1.heap.size:=⟨_,rfl⟩
  obtain ⟨u2,hu2⟩ : ∃ u2,u2 = (u1.at d2).alloc (wgBlock 118 0 0):=⟨_,rfl⟩
  rw [← hWg] at s3 s5 ha5
  rw [← hu2] at s1
  have sz2:u2.heap.size = Wg + 1:=by rw [hu2,alloc_size,hWg]; rfl
  have hold2:∀ d,d < Wg → u2.heap[d]? = u1.heap[d]?:=fun d hd=>by rw [hu2,alloc_old _ _ (by rw [hWg] at hd; exact hd)]; rfl
  have hnew2:u2.heap[Wg]? = some (wgBlock 118 0 0):=by rw [hu2,hWg]; exact alloc_new _ _
  have hS:∀ d,S d → d < u.heap.size:=hF.sh
  have hb2:=fun x hx=>(hold2 _ (by have:=(hH x hx).2.1; omega)).trans (hH x hx).2.2
  have b1:u2.heap[bb]? = some (.cells #[ptr B'] 34):=hb2 (bb,_) List.mem_cons_self
  have b2:u2.heap[wb]? = some (.cells (intsOf c) 40):=hb2 (wb,_) (List.mem_cons_of_mem _ List.mem_cons_self)
  have b3:u2.heap[V]? = some (.cells zeroRow 86):=hb2 (V,_) (List.mem_cons_of_mem _ (List.mem_cons_of_mem _ List.mem_cons_self))
  have b4:u2.heap[VV]? = some (.cells #[sl4 V] 82):=hb2 (VV,_) (List.mem_cons_of_mem _ (List.mem_cons_of_mem _ (List.mem_cons_of_mem _ List.mem_cons_self)))
  have htape:u2.tape = u.tape:=by rw [hu2]; exact r5.tape
  obtain ⟨K,hK⟩ : ∃ K:Nat → Prop,K = fun x=>x < u2.heap.size ∧ x ≠ V ∧ x ≠ Wg ∧ ¬ S x:=⟨_,rfl⟩
  have hKs:∀ d,K d → d < u2.heap.size:=fun d hd=>by rw [hK] at hd; exact hd.1
  have hlive:WgLive link.tWg Wg u2:=⟨0,0,hnew2⟩
  have hwork:=HW bb V VV Wg u2 (fun d hd=>(hold2 d (by omega)).trans (hold1 d hd)) ha1 (by omega) ha4 ha5 (by omega) b1 b4 htape
  rw [← hK] at hwork
  have hSr:Sr Tryz.prog link.tWg Wg V 68 K (AnJ Tryz.f22 link Wg VV (b :: bs)) (cntJ c 0) (offJ c) (valsJ c vd) (cntJ c 0) (G ((base 22).at ⟨JT (up f 6 (ptr Wg)),[]⟩ (.inRegion (AJ Tryz.f22 2) [] :: restJ Tryz.f22)) (b :: bs)) u2 (fun _=>False):=by
    rw [sr_eq]
    refine j_end (j_seq (j_seq (j_region (rangeJ 3 2 rfl) ?_)))
    have hL:Holds K [(wb,.cells (intsOf c) 40)] u2 (fun _=>False):=fun x hx=>by
      simp only [List.mem_cons,List.not_mem_nil,or_false] at hx
      subst hx
      refine ⟨.inr ?_,by simp only; omega,b2⟩
      rw [hK]
      exact ⟨by omega,by omega,by omega,fun h=>by have:=hS _ h; omega⟩
    refine j_look j30 hk hL (v:=.agg (intsOf c)) (fun o u₁ ho hl=>?_) ?_
    · rw [exec_load ho,ev_tmp _ _ (by decide),up_ne _ _ (by decide),f3]
      obtain ⟨es,e1,e2⟩:=runT_load4 (hl _ List.mem_cons_self).2.2
      refine ⟨es,runT_v e1,fun e he=>?_⟩
      obtain ⟨x,rfl⟩:=e2 e he
      exact .inl ⟨wb,.inr ⟨_,rfl,rfl⟩,rfl,.inr ⟨(hL _ List.mem_cons_self).1.resolve_left (fun h=>h),rfl⟩⟩
    refine j_move (.inl j31) hk (ev_const _ _ _) ?_
    refine j_end (j_block (j_loop ?_))
    have:=rounds (vd:=vd) (bb:=bb) (V:=V) (VV:=VV) (cs:=b :: bs) (cnt:=cntJ c) (nW:=cntJ c 0) (off:=offJ c) (vals:=valsJ c vd) hlive (cntJ_4 c) (cntJ_S c) (offJ_at c vd) hKs hwork 4 0 rfl (up (up (up f 6 (ptr Wg)) 10 (.agg (intsOf c))) 11 (.int .i64 0)) u2 (fun _=>False)
      ⟨by rw [up_ne _ _ (by decide),up_ne _ _ (by decide),up_ne _ _ (by decide)]; exact f2,by rw [up_ne _ _ (by decide),up_ne _ _ (by decide),up_ne _ _ (by decide)]; exact f5,by rw [up_ne _ _ (by decide),up_ne _ _ (by decide),up_self],by rw [up_ne _ _ (by decide),up_self],by rw [up_self]; rfl⟩ (Rely.refl _ _ _) (fun _ h=>h.elim)
    rw [sr_eq] at this
    exact this
  obtain ⟨N3,m3,t3,p1,gs3,u3,sl3,q3,cs3,rfl,⟨g₀,p2,tt,h5,hback⟩,hlive3,p4,p5,p6,p7,p8,p9,p10,p11,p12,p13⟩:=phaseP (B:=Wg) (K:=K) (zero:=zeroJ) (gE:=EndJ Tryz.f22 Tryz.prog link.tWg Wg VV (b :: bs)) (geoJ c vd hvd) (fun g w h=>anJ_running g w h) (fun g w hl h=>anJ_round g w hl h) s5 s3 hSr (Nat.le_refl _) (by omega) (by omega) (by omega) (fun h=>by have:=hS _ h; omega)
    (fun x hx=>by rw [hK] at hx; exact hx) hnew2 (by rw [hety]; exact b3) (by kernel_rfl) (fun x hx=>by unfold zeroJ; rw [Array.getD_eq_getD_getElem?]; simp [show x < zeroRow.size from hx])
  obtain ⟨m,hgo⟩:=hback u3 hlive3
  obtain ⟨N4,gs4,g4,d4,sl4',t4,q4,w1,w2,rfl,w4⟩:=goes0 (fun w d=>⟨d,rfl⟩) m g₀ u3 gs3 sl3 t3 q3 (goes_calm m g₀ u3 hlive3 hgo) p4 p2
  have hVV3:u3.heap[VV]? = some (.cells #[sl4 V] 82):=(p9 VV (by omega) (by omega) (by omega)).trans b4
  obtain ⟨N5,gs5,g5,u5,sl5,t5,q5,M5,x1,x2,rfl,x4,x5⟩:=drive0 (tail_back (b:=b) (bs:=bs) h5 (u:=u3.at d4) hVV3) gs4 sl4' t4 q4 w4 w2 (fun x hx=>hx.elim (fun h=>h.elim) fun h=>by
    have hx':x = VV:=h
    subst hx'
    exact ⟨by show x < u3.heap.size; omega,fun hs=>hs.elim (fun h=>by have:=hS _ h; omega) fun h=>by omega⟩)
  have hold5:∀ d,d < u3.heap.size → u5.heap[d]? = u3.heap[d]?:=fun d hd=>x5.keep d hd (fun h=>h)
  have z5:u3.heap.size ≤ u5.heap.size:=x5.size
  refine ⟨N1 + (N2 + (N3 + (N4 + N5))),gs5,u5,sl5,t5,q5,V,Wg,cs3,?_,x2,x4,?_,?_,?_,by have:=r5.size; omega,fun d hd=>?_,by omega,by omega,by omega,?_,p11,?_,?_⟩
  · rw [runNT_add,r1]
    simp only
    rw [runNT_add,s1]
    simp only
    rw [runNT_add,p1]
    simp only
    rw [runNT_add,w1]
    simp only
    exact x1
  · rw [x5.tape]; exact (show (u3.at d4).tape = u3.tape from rfl).trans (p5.trans htape)
  · rw [x5.os]; exact (show (u3.at d4).os = u3.os from rfl).trans (p6.trans (by rw [hu2]; exact r5.os))
  · rw [x5.output]; exact (show (u3.at d4).output = u3.output from rfl).trans (p7.trans (by rw [hu2]; exact r5.output))
  · rw [hold5 d (by omega),p9 d (by omega) (by omega) (by omega),hold2 d (by omega),hold1 d hd]
  · rw [hold5 V (by omega),p10,hety]
  · intro i hi hc o ho
    obtain ⟨k,hk,hko,hkv⟩ : ∃ k,k < cntJ c 0 ∧ offJ c k = 17 * i ∧ valsJ c vd k = (vd i).toList:=by
      have:=cntJ_S c i hi
      rw [if_pos hc] at this
      have hle:cntJ c (i + 1) + 1 ≤ cntJ c 0:=by
        have h0:=cntJ_S c 0 (by omega)
        have h1:=cntJ_S c 1 (by omega)
        have h2:=cntJ_S c 2 (by omega)
        have h3:=cntJ_S c 3 (by omega)
        obtain rfl | rfl | rfl | rfl:i = 0 ∨ i = 1 ∨ i = 2 ∨ i = 3:=by omega
        all_goals (simp only [Nat.reduceAdd] at *; omega)
      exact ⟨_,by omega,offJ_at c vd i hi hc⟩
    have:=p12 k hk o (by rw [hkv,Array.length_toList,hvd i hi hc]; exact ho)
    rw [hko,hkv] at this
    rw [this]
    simp
  · intro i hi hc o ho
    refine p13 (17 * i + o) (by omega) fun k hk hh=>?_
    obtain ⟨i',g1,g2,g3⟩:=posJ_get c k hk
    have e1:offJ c k = 17 * i':=by simp [offJ,g3]
    have e2:(valsJ c vd k).length = 17:=by simp [valsJ,g3,hvd i' g1 g2]
    rw [e1,e2] at hh
    have:i = i':=by omega
    exact hc (this ▸ g2)
end
end Go.Proofs.YtojoafcnijajmaaGreatDoor
