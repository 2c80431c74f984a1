/- Part 22 of the proof that Devices answers true and leaves its input as it was, for input of bulk at most the bound of its row: YA YB. -/
import Derived.Test.YtojoafcnijajmaaGreatDoorT18
import Derived.Test.YtojoafcnijajmaaGreatDoorT8
import Derived.Test.YtojoafcnijajmaaGreatDoorT21
namespace Go.Proofs.YtojoafcnijajmaaGreatDoor
open Go Go.Conc Go.ConcN Go.RowKit
def JJ (f:FuncId) (x:Array Value) (w:World):Prop :=
  (f = 417 → ∃ B D Zl,arg0 x = ptr B ∧ BerthC w B D ∧ D.ok ∧ Closed w Zl ∧ Zl B) ∧ (f = 418 → ∃ c:Nat → Int,arg0 x = .agg (intsOf c))
theorem berthC_heap {w u:World} (h:u.heap = w.heap) {B:Nat} {D:BD} (hb:BerthC w B D):BerthC u B D:=hb.same fun a v hv=>by
  unfold World.cell? at hv ⊢
  rw [h]; exact hv
theorem closed_heap {w u:World} (h:u.heap = w.heap) {Z:Nat → Prop} (hc:Closed w Z):Closed u Z:=fun b hb=>by rw [h]; exact hc b hb
theorem JJ_heap {f:FuncId} {x:Array Value} {w u:World} (h:u.heap = w.heap) (hj:JJ f x w):JJ f x u :=
  ⟨fun e=>let ⟨B,D,Z,a,b,c,d,z⟩:=hj.1 e; ⟨B,D,Z,a,berthC_heap h b,c,closed_heap h d,z⟩,hj.2⟩
theorem JJ_tape:∀ f x w T,JJ f x (taped w T) → JJ f x w:=fun _ _ w T h=>JJ_heap (w:=taped w T) (u:=w) rfl h
theorem arg0_pad (x:Array Value) (n:Nat):(x ++ Array.replicate n undef).getD 0 undef = arg0 x:=by
  unfold arg0
  rw [Array.getD_eq_getD_getElem?,Array.getD_eq_getD_getElem?]
  by_cases h:0 < x.size
  · rw [Array.getElem?_append_left h]
  · have:x = #[]:=Array.eq_empty_of_size_eq_zero (by omega)
    subst this
    cases n <;> simp
theorem enter_arg0 {P:Program} {f f':FuncId} {x x':Array Value} (h:Frame.enter P f' x' .normal = Frame.enter P f x .normal):f' = f ∧ arg0 x' = arg0 x:=by
  have h1:=congrArg Frame.fn h
  have h2:=congrArg Frame.tmps h
  have h1':f' = f:=h1
  subst h1'
  refine ⟨rfl,?_⟩
  have h3:x' ++ Array.replicate (((P.funcs[f']?).map (·.ntmps)).getD 0 - x'.size) undef = x ++ Array.replicate (((P.funcs[f']?).map (·.ntmps)).getD 0 - x.size) undef:=h2
  rw [← arg0_pad x',← arg0_pad x,h3]
def CO (t:Nat):Array Oper:=#[opOf (some t) (.move (.const (.bool true))),opOf (some t) (.move (.const (.bool false)))]
def rest4:Code → Code
  | .seq _ (.seq _ (.seq _ (.seq _ r)))=>r
  | c=>c
theorem judge_lone:(judgeS 417 Tryz.f22).body = some (.seq (.region 90 (CO 22) true) (.seq (.cond (.tmp 22) (.region 91 #[opOf none (callOf 417 #[.tmp 0])] false) .skip) (.seq (.region 92 (CO 23) true) (.seq (.cond (.tmp 23) (.region 93 #[opOf none (callOf 418 #[.tmp 1])] false) .skip) (rest4 ((judgeS 417 Tryz.f22).body.getD .skip)))))):=by kernel_rfl
theorem pjudge:(patch shutL Tryz.prog).funcs[22]? = some (judgeS 417 Tryz.f22):=by
  have h:=patch_func shutL Tryz.prog fn_judge
  rw [funcs_size] at h
  rw [h]
  rfl
theorem sched0 (m:Bool):Region.schedule m (CO 22) 0 = [0,1] ∧ Region.schedule m (CO 23) 0 = [0,1] ∧ Region.schedule m (CO 22) 1 = [1,0] ∧ Region.schedule m (CO 23) 1 = [1,0]:=by
  cases m
  · exact ⟨by kernel_rfl,by kernel_rfl,by kernel_rfl,by kernel_rfl⟩
  · exact ⟨by kernel_rfl,by kernel_rfl,by kernel_rfl,by kernel_rfl⟩
theorem stepG_draw {P:Program} {main:Bool} {b:Frame} {a:Act} {k:List Item} {cs:List Frame} {id:Nat} {ops:Array Oper} (w:World) :
    stepG P main (G (b.at a (.code (.region id ops true) :: k)) cs) w = .go (G (b.at a (.inRegion ops (Region.schedule (P.follows .mixedOrders) ops (w.tape w.drawn (.order b.fn id))) :: k)) cs) w.drew #[]:=by
  have h1:(Question.order b.fn id).forced = false:=rfl
  have h2:∀ n,(Question.order b.fn id).cut n = n:=fun _=>rfl
  simp [G,stepG,stepG.exec,Frame.at,h1,h2]
section
variable {C0:Cfg} {R:Value → World → Prop} {fs:List Frame}
theorem tj {a a':Act} {k k':List Item} {w w':World} (T:Nat → Question → Nat) (h:TreeJ (patch shutL Tryz.prog) C0 R JJ ((base 22).at a k) fs w) (h22:22 ∉ C0.sp)
    (hs:∃ es,stepG (patch shutL Tryz.prog) true (G ((base 22).at a k) (fs ++ [stop (patch shutL Tryz.prog)])) (taped w T) = .go (G ((base 22).at a' k') (fs ++ [stop (patch shutL Tryz.prog)])) w' es):TreeJ (patch shutL Tryz.prog) C0 R JJ ((base 22).at a' k') fs w' :=
  let ⟨_,hs⟩:=hs
  treeJ_go T h rfl (fun f x hf e=>h22 (by have:=congrArg Frame.fn e; rw [show (Frame.enter (patch shutL Tryz.prog) f x .normal).fn = f from rfl] at this; rw [show 22 = f from this]; exact hf)) hs
theorem toss (h22:22 ∉ C0.sp) {X:Array Value} {id t n:Nat} {k:List Item} {w:World} (ht:t = 22 ∨ t = 23) (hn:n = 0 ∨ n = 1) (hX:X.size = 28)
    (h:TreeJ (patch shutL Tryz.prog) C0 R JJ ((base 22).at ⟨X,[]⟩ (.code (.region id (CO t) true) :: k)) fs w) :
    ∃ (w':World) (X':Array Value),w'.heap = w.heap ∧ X'.size = 28 ∧ X'.getD t undef = .bool (n == 1) ∧ (∀ j,j ≠ t → X'.getD j undef = X.getD j undef) ∧ TreeJ (patch shutL Tryz.prog) C0 R JJ ((base 22).at ⟨X',[]⟩ k) fs w':=by
  have hsch:∀ m,Region.schedule m (CO t) n = if n = 0 then [0,1] else [1,0]:=fun m=>by
    obtain ⟨a,b,c,d⟩:=sched0 m
    rcases ht with rfl | rfl <;> rcases hn with rfl | rfl
    · simpa using a
    · simpa using c
    · simpa using b
    · simpa using d
  have h1:=tj (fun _ _=>n) h h22 (k':=.inRegion (CO t) (if n = 0 then [0,1] else [1,0]) :: k) (w':=(taped w fun _ _=>n).drew) (a':=⟨X,[]⟩) ⟨#[],by rw [stepG_draw,← hsch]; rfl⟩
  have mv:∀ (i:Nat) (v:Value) (l:List Nat) (X:Array Value) (w:World),(i = 0 ∧ v = .bool true ∨ i = 1 ∧ v = .bool false) → TreeJ (patch shutL Tryz.prog) C0 R JJ ((base 22).at ⟨X,[]⟩ (.inRegion (CO t) (i :: l) :: k)) fs w →
      TreeJ (patch shutL Tryz.prog) C0 R JJ ((base 22).at ⟨X.setIfInBounds t v,[]⟩ (.inRegion (CO t) l :: k)) fs (taped w w.tape):=fun i v l X w hi hh=>by
    refine tj w.tape hh h22 ?_
    obtain ⟨o,o1,o2,o3⟩ : ∃ o,(CO t)[i]? = some o ∧ o.op = .move (.const v) ∧ o.dst = some t ∧ o.guard = none:=by
      rcases hi with ⟨rfl,rfl⟩ | ⟨rfl,rfl⟩ <;> exact ⟨_,rfl,rfl,rfl,rfl⟩
    rw [stepG_value o1 (wanted_free o3.2 _) (by decide) (v:=v) (w':=taped w w.tape) (by rw [exec_move (.inl o2)]; rfl),o3.1]
    exact ⟨_,rfl⟩
  have fin:∀ (X:Array Value) (w:World),TreeJ (patch shutL Tryz.prog) C0 R JJ ((base 22).at ⟨X,[]⟩ (.inRegion (CO t) [] :: k)) fs w → TreeJ (patch shutL Tryz.prog) C0 R JJ ((base 22).at ⟨X,[]⟩ k) fs (taped w w.tape):=fun X w hh =>
    tj w.tape hh h22 ⟨_,stepG_region_end⟩
  have htl:t < 28:=by omega
  rcases hn with rfl | rfl
  · simp only [if_true] at h1
    have h4:=fin _ _ (mv 1 _ _ _ _ (.inr ⟨rfl,rfl⟩) (mv 0 _ _ _ _ (.inl ⟨rfl,rfl⟩) h1))
    refine ⟨_,_,?_,by simpa using hX,getD_set_self (by simp [hX]; omega),fun j hj=>?_,h4⟩
    · rfl
    · rw [getD_set_ne (Ne.symm hj),getD_set_ne (Ne.symm hj)]
  · simp only [Nat.one_ne_zero,if_false] at h1
    have h4:=fin _ _ (mv 0 _ _ _ _ (.inl ⟨rfl,rfl⟩) (mv 1 _ _ _ _ (.inr ⟨rfl,rfl⟩) h1))
    refine ⟨_,_,?_,by simpa using hX,getD_set_self (by simp [hX]; omega),fun j hj=>?_,h4⟩
    · rfl
    · rw [getD_set_ne (Ne.symm hj),getD_set_ne (Ne.symm hj)]
theorem ring (h22:22 ∉ C0.sp) {X:Array Value} {id al t s:Nat} {c:Code} {fn:Func} {w:World} (hc:X.getD t undef = .bool true) (hf:(patch shutL Tryz.prog).funcs[al]? = some fn) (hname:(fn.name == "runtime.NumGoroutine") = false) (hb:fn.body.isNone = false) (hr:∀ x w,Raises (patch shutL Tryz.prog) al x w)
    (h:TreeJ (patch shutL Tryz.prog) C0 R JJ ((base 22).at ⟨X,[]⟩ [.code (.cond (.tmp t) (.region id #[opOf none (callOf al #[.tmp s])] false) .skip),.code c]) fs w):JJ al #[X.getD s undef] w:=by
  have h1:=tj w.tape h h22 (k':=[.code (.region id #[opOf none (callOf al #[.tmp s])] false),.code c]) (w':=taped w w.tape) (a':=⟨X,[]⟩) ⟨_,stepG_cond (show (Act.mk X []).eval (.tmp t) = .bool true from hc)⟩
  have h2:=tj w.tape h1 h22 (k':=[.inRegion #[opOf none (callOf al #[.tmp s])] [0],.code c]) (w':=taped w w.tape) (a':=⟨X,[]⟩) ⟨_,stepG_region⟩
  have e:(execOp (Act.mk X []).eval (opOf none (callOf al #[.tmp s]))).runT (patch shutL Tryz.prog) (taped w w.tape) #[] = (.ok (.enter al #[X.getD s undef]) (taped w w.tape),#[]):=by
    have e1:execOp (Act.mk X []).eval (opOf none (callOf al #[.tmp s])) = callFunc al (#[] ++ (#[.tmp s]:Array Operand).map (Act.mk X []).eval ++ #[]):=rfl
    rw [e1,Array.empty_append,Array.append_empty,show (#[.tmp s]:Array Operand).map (Act.mk X []).eval = #[X.getD s undef] from by simp [Act.eval]]
    exact run_enter hf hname hb _ _
  rw [Sem.runT_eq,Prod.mk.injEq] at e
  have h3:=treeJ_alarm (f:=al) (x:=#[X.getD s undef]) (as':=(base 22).at ⟨X,[]⟩ [.inRegion #[opOf none (callOf al #[.tmp s])] [0],.code c] :: fs) (w':=taped w w.tape) w.tape h2 rfl (fun fs w=>(hr _ w).no_tree fs) (fun f' x' he hj=>?_) (stepG_enter (o:=opOf none (callOf al #[.tmp s])) rfl (wanted_free rfl _) (by decide) e.1)
  · exact JJ_heap (w:=taped w w.tape) rfl h3
  · obtain ⟨rfl,ha⟩:=enter_arg0 he
    refine ⟨fun e=>?_,fun e=>?_⟩
    · obtain ⟨B,D,Z,a,b⟩:=hj.1 e
      exact ⟨B,D,Z,ha ▸ a,b⟩
    · obtain ⟨c,a⟩:=hj.2 e
      exact ⟨c,ha ▸ a⟩
theorem skip_on (h22:22 ∉ C0.sp) {X:Array Value} {t:Nat} {p x y:Code} {w:World} (hc:X.getD t undef = .bool false) (h:TreeJ (patch shutL Tryz.prog) C0 R JJ ((base 22).at ⟨X,[]⟩ [.code (.cond (.tmp t) p .skip),.code (.seq x y)]) fs w) :
    ∃ w',w'.heap = w.heap ∧ TreeJ (patch shutL Tryz.prog) C0 R JJ ((base 22).at ⟨X,[]⟩ [.code x,.code y]) fs w':=by
  have h1:=tj w.tape h h22 (k':=[.code .skip,.code (.seq x y)]) (w':=taped w w.tape) (a':=⟨X,[]⟩) ⟨_,stepG_cond (show (Act.mk X []).eval (.tmp t) = .bool false from hc)⟩
  have h2:=tj w.tape h1 h22 (k':=[.code (.seq x y)]) (w':=taped w w.tape) (a':=⟨X,[]⟩) ⟨_,stepG_skip⟩
  have h3:=tj w.tape h2 h22 (k':=[.code x,.code y]) (w':=taped w w.tape) (a':=⟨X,[]⟩) ⟨_,stepG_seq⟩
  exact ⟨_,rfl,h3⟩
theorem ntmpsJL:(judgeS 417 Tryz.f22).ntmps = 28:=rfl
theorem judge_lone':∃ r,(judgeS 417 Tryz.f22).body = some (.seq (.region 90 (CO 22) true) (.seq (.cond (.tmp 22) (.region 91 #[opOf none (callOf 417 #[.tmp 0])] false) .skip) (.seq (.region 92 (CO 23) true) (.seq (.cond (.tmp 23) (.region 93 #[opOf none (callOf 418 #[.tmp 1])] false) .skip) r)))):=⟨_,judge_lone⟩
theorem padJ (x0 x1:Value):(#[x0,x1] ++ Array.replicate 26 undef).size = 28 ∧ (#[x0,x1] ++ Array.replicate 26 undef).getD 0 undef = x0 ∧ (#[x0,x1] ++ Array.replicate 26 undef).getD 1 undef = x1:=by
  refine ⟨by simp,?_,?_⟩
  · rw [Array.getD_eq_getD_getElem?,Array.getElem?_append_left (by simp)]; rfl
  · rw [Array.getD_eq_getD_getElem?,Array.getElem?_append_left (by simp)]; rfl
theorem learn (h22:22 ∉ C0.sp) {x0 x1:Value} {w:World} (h:TreeJ (patch shutL Tryz.prog) C0 R JJ (Frame.enter (patch shutL Tryz.prog) 22 #[x0,x1] .normal) fs w):JJ 417 #[x0] w ∧ JJ 418 #[x1] w:=by
  obtain ⟨r,hb⟩:=judge_lone'
  rw [enter_at _ pjudge hb,ntmpsJL,show 28 - (#[x0,x1]:Array Value).size = 26 from rfl] at h
  obtain ⟨hs,g0,g1⟩:=padJ x0 x1
  generalize #[x0,x1] ++ Array.replicate 26 undef = X at h hs g0 g1
  have h1:=tj w.tape h h22 (k':=[.code (.region 90 (CO 22) true),.code (.seq (.cond (.tmp 22) (.region 91 #[opOf none (callOf 417 #[.tmp 0])] false) .skip) (.seq (.region 92 (CO 23) true) (.seq (.cond (.tmp 23) (.region 93 #[opOf none (callOf 418 #[.tmp 1])] false) .skip) r)))]) (w':=taped w w.tape) (a':=⟨X,[]⟩) ⟨_,stepG_seq⟩
  refine ⟨?_,?_⟩
  · obtain ⟨w2,X2,e1,e2,e3,e4,h2⟩:=toss h22 (.inl rfl) (.inr rfl) hs h1
    have h3:=tj w2.tape h2 h22 (k':=[.code (.cond (.tmp 22) (.region 91 #[opOf none (callOf 417 #[.tmp 0])] false) .skip),.code (.seq (.region 92 (CO 23) true) (.seq (.cond (.tmp 23) (.region 93 #[opOf none (callOf 418 #[.tmp 1])] false) .skip) r))]) (w':=taped w2 w2.tape) (a':=⟨X2,[]⟩) ⟨_,stepG_seq⟩
    have:=ring h22 e3 (pal shutL) (by kernel_rfl) rfl raises_alarm h3
    rw [e4 0 (by decide),g0] at this
    exact JJ_heap (w:=w2) e1.symm this
  · obtain ⟨w2,X2,e1,e2,e3,e4,h2⟩:=toss h22 (.inl rfl) (.inl rfl) hs h1
    have h3:=tj w2.tape h2 h22 (k':=[.code (.cond (.tmp 22) (.region 91 #[opOf none (callOf 417 #[.tmp 0])] false) .skip),.code (.seq (.region 92 (CO 23) true) (.seq (.cond (.tmp 23) (.region 93 #[opOf none (callOf 418 #[.tmp 1])] false) .skip) r))]) (w':=taped w2 w2.tape) (a':=⟨X2,[]⟩) ⟨_,stepG_seq⟩
    obtain ⟨w3,f1,h4⟩:=skip_on h22 e3 h3
    obtain ⟨w5,X5,i1,i2,i3,i4,h5⟩:=toss h22 (.inr rfl) (.inr rfl) e2 h4
    have h6:=tj w5.tape h5 h22 (k':=[.code (.cond (.tmp 23) (.region 93 #[opOf none (callOf 418 #[.tmp 1])] false) .skip),.code r]) (w':=taped w5 w5.tape) (a':=⟨X5,[]⟩) ⟨_,stepG_seq⟩
    have:=ring h22 i3 (pal2 shutL) (by kernel_rfl) rfl raises_alarm2 h6
    rw [i4 1 (by decide),e4 1 (by decide),g1] at this
    exact JJ_heap (w:=w5) (i1.trans (f1.trans e1)).symm this
end
end Go.Proofs.YtojoafcnijajmaaGreatDoor

namespace Go.Proofs.YtojoafcnijajmaaGreatDoor
open Go Go.Conc Go.ConcN Go.RowKit Go.Conc.Lib
open Go.ConcR (KK wgBlock WgAt stA smA rd wr mk Payload DC0)
theorem zeroJ_flat:∀ x,x < 68 → flatC (zeroJ x):=by
  have key:∀ v ∈ zeroRow.toList,flatC v:=by
    intro v hv
    simp only [zeroRow,zeroV,List.append_assoc,List.mem_append,List.mem_cons,List.mem_replicate] at hv
    have f0:flatC (.int .i64 0):=.inl ⟨_,_,rfl⟩
    have f1:flatC (.bool false):=.inr ⟨_,rfl⟩
    rcases hv with (rfl | ⟨_,rfl⟩) | (rfl | ⟨_,rfl⟩) | (rfl | ⟨_,rfl⟩) | (rfl | ⟨_,rfl⟩) <;> assumption
  intro x hx
  have hs:zeroRow.size = 68:=by kernel_rfl
  refine key _ ?_
  unfold zeroJ
  rw [Array.getD_eq_getD_getElem?]
  have:x < zeroRow.size:=by omega
  simp [this]
theorem flat_VR {p:Nat → Nat → Prop} {v:Value} (h:flatC v):VR p v v:=by
  rcases h with ⟨k,n,rfl⟩ | ⟨b,rfl⟩
  · exact VR.int _ _
  · exact VR.bool _
def JudgePost (vd:Nat → Array Value) (c:Nat → Int) (w:World) (v:Value) (w':World):Prop :=
  ∃ Vl row,v = sl4 Vl ∧ w.heap.size ≤ Vl ∧ (∀ d,d < w.heap.size → w'.heap[d]? = w.heap[d]?) ∧ w.heap.size ≤ w'.heap.size ∧ w'.heap[Vl]? = some (.cells row 86) ∧ row.size = 68 ∧
    (∀ i,i < 4 → 0 < c i → ∀ o,o < 17 → row[17 * i + o]? = (vd i)[o]?) ∧ ∀ i,i < 4 → ¬ 0 < c i → ∀ o,o < 17 → row[17 * i + o]? = some (zeroJ (17 * i + o))
theorem rows_same {vd:Nat → Array Value} {c:Nat → Int} (hvd:∀ i,i < 4 → 0 < c i → (vd i).size = 17 ∧ ∀ v ∈ (vd i).toList,flatC v) {row cs:Array Value} (h1:row.size = 68) (h2:cs.size = 68)
    (a1:∀ i,i < 4 → 0 < c i → ∀ o,o < 17 → row[17 * i + o]? = (vd i)[o]?) (a2:∀ i,i < 4 → ¬ 0 < c i → ∀ o,o < 17 → row[17 * i + o]? = some (zeroJ (17 * i + o)))
    (b1:∀ i,i < 4 → 0 < c i → ∀ o,o < 17 → cs[17 * i + o]? = (vd i)[o]?) (b2:∀ i,i < 4 → ¬ 0 < c i → ∀ o,o < 17 → cs[17 * i + o]? = some (zeroJ (17 * i + o))) (p:Nat → Nat → Prop):AllR (VR p) row cs:=by
  refine ⟨h1.trans h2.symm,fun x v u hv hu=>?_⟩
  have hx:x < 68:=by have:=(Array.getElem?_eq_some_iff.1 hv).1; omega
  obtain ⟨i,o,hi,ho,rfl⟩ : ∃ i o,i < 4 ∧ o < 17 ∧ x = 17 * i + o:=⟨x / 17,x % 17,by omega,by omega,by omega⟩
  by_cases hc:0 < c i
  · rw [a1 i hi hc o ho] at hv
    rw [b1 i hi hc o ho] at hu
    rw [hv] at hu
    cases hu
    obtain ⟨s1,s2⟩:=hvd i hi hc
    exact flat_VR (s2 v (by rw [← Array.mem_def]; exact Array.mem_of_getElem? hv))
  · rw [a2 i hi hc o ho] at hv
    rw [b2 i hi hc o ho] at hu
    cases hv
    cases hu
    exact flat_VR (zeroJ_flat _ (by omega))
theorem WR.keep {G:Nat} {K:Nat → Prop} {p:Nat → Nat → Prop} {w u u₁:World} (h:WR G K p w u) (hk:∀ b c,p b c → u₁.heap[c]? = u.heap[c]?) (hs:u.heap.size ≤ u₁.heap.size):WR G K p w u₁:=by
  refine ⟨h.fit,fun b c hbc=>?_,h.kin,h.low,⟨h.big.1,Nat.le_trans h.big.2 hs⟩⟩
  obtain ⟨xs,ys,e,f,g,h1,h2,h3⟩ | ⟨a,a',l,h1,h2,h3⟩:=h.rows b c hbc
  · exact .inl ⟨xs,ys,e,f,g,h1,(hk b c hbc).trans h2,h3⟩
  · exact .inr ⟨a,a',l,h1,(hk b c hbc).trans h2,h3⟩
section
variable [Payload]
theorem edge {K0:Nat → Prop} {Iv:(Nat → Nat → Prop) → World → Prop} (hI2:∀ p q u u',Iv p u → Guar K0 p q u u' → Iv q u') (hety:Payload.ety = 86) (hz:ZeroOk (patch shutL Tryz.prog)) {C C0:Cfg} {R:Value → World → Prop} {vd:BD → Nat → Int → Array Value} (hC:CfgOk C) (h22:22 ∉ C0.sp) (hsp:∀ f,f ∈ C0.sp → f = 417 ∨ f = 418) (hal:∀ f,f ∈ C0.sp → f ∉ C.fns ∧ f ≠ C.root) (hat:C.atRoot = true)
    (hvd:∀ D i n,i < 4 → 0 < n → (vd D i n).size = 17 ∧ ∀ v ∈ (vd D i n).toList,flatC v)
    (HWC:∀ (D:BD) (B bb rB nB r:Nat) (n:Int) (w:World),BerthC w B D → D.ok → r < 4 → 0 < n → w.cell? ⟨bb,0,none⟩ = some (ptr B) → w.cell? ⟨rB,0,none⟩ = some (.int .i64 r) → w.cell? ⟨nB,0,none⟩ = some (.int .i64 n) →
      Calls (patch shutL Tryz.prog) 52 #[undef,ptr bb,ptr rB,ptr nB,undef] w fun | .returned v,w'=>WOut (vd D r n) r v w' | _,_=>False)
    (HJC:∀ (D:BD) (B:Nat) (c:Nat → Int) (w:World),BerthC w B D → D.ok → (∀ j q,w.tape j q = 0) → Calls (patch shutL Tryz.prog) 22 #[ptr B,.agg (intsOf c)] w fun | .returned v,w'=>JudgePost (fun i=>vd D i (c i)) c w v w' | _,_=>False)
    {x y:Array Value} {a:Frame} {fs:List Frame} {b:Frame} {bs:List Frame} {w u:World} {gs:Array Goroutine} {sl:Option (Nat × Nat)} {t:Trace} {q:Nat → Nat} {S:Nat → Prop} {p:Nat → Nat → Prop}
    (ht:TreeJ (patch shutL Tryz.prog) C0 R JJ (Frame.enter (patch shutL Tryz.prog) 22 x .normal) (a :: fs) w) (hxy:AllR (VR p) x y) (hx:x.size = 2) (hcr:CR C (patch shutL Tryz.prog) p (a :: fs) (b :: bs)) (hw:WR (patch shutL Tryz.prog).globals.size K0 p w u) (hF:Fr0 Tryz.prog S gs u.heap.size t q)
    (h0:gs[0]? = some (gor (Frame.enter Tryz.prog 22 y .normal) (b :: bs))) (hS:∀ b c,p b c → ¬ S c) (hIv:Iv p u) :
    ∃ N m' t' n s',runNT Tryz.prog N (crowd gs u sl) t = (.next m',t') ∧ Down (patch shutL Tryz.prog) C0 n ⟨Frame.enter (patch shutL Tryz.prog) 22 x .normal,a :: fs,w⟩ s' ∧ Runs C (patch shutL Tryz.prog) Tryz.prog K0 Iv s' m' t':=by
  obtain ⟨x0,x1,rfl⟩:=array2 hx
  obtain ⟨j1,j2⟩:=learn h22 ht
  obtain ⟨B,D,Zl,e0,hb,hok,hcl,hZB⟩:=j1.1 rfl
  obtain ⟨c,e1⟩:=j2.2 rfl
  have e0':x0 = ptr B:=e0
  have e1':x1 = .agg (intsOf c):=e1
  subst e0' e1'
  obtain ⟨y0,y1,rfl⟩:=array2 (hxy.1.symm.trans hx)
  obtain ⟨B',rfl,hB⟩ : ∃ B',y0 = ptr B' ∧ p B B':=by
    obtain ⟨o,h1,h2⟩:=(hxy.2 0 (ptr B) y0 rfl rfl).ptr_inv
    obtain ⟨a',rfl,h3⟩:=h2.some_inv
    obtain ⟨b',o',s'⟩:=a'
    obtain ⟨k1,k2,k3⟩:=h3
    simp only at k1 k2 k3
    subst k2 k3
    exact ⟨b',h1,k1⟩
  obtain rfl:y1 = .agg (intsOf c):=by
    obtain ⟨ys,h1,h2⟩:=(hxy.2 1 (.agg (intsOf c)) y1 rfl rfl).agg_inv
    rw [h1,flats_eq h2 fun v hv=>?_]
    simp only [intsOf,List.mem_cons,List.not_mem_nil,or_false] at hv
    rcases hv with rfl | rfl | rfl | rfl <;> exact .inl ⟨_,_,rfl⟩
  obtain ⟨N,gs',u',sl',t',q',V,Wg,cs,r1,r2,r3,r4,r5,r6,r7,r8,r9,r10,r11,r12,r13,r14,r15⟩:=judge_company (sl:=sl) (vd:=fun i=>vd D i (c i)) hety hF h0 (fun i hi hc=>(hvd D i (c i) hi hc).1) (by
    intro bb V VV Wg u₀ k1 k2 k3 k4 k5 k6 k7 k8 k9 r rB nB u₁ M₀ hr hc m1 m2 hlt hH hR hM
    have hplow:∀ b c,p b c → c < u.heap.size:=fun b c h=>(hw.lt h).2
    have hKimg:∀ b c,p b c → c < u₀.heap.size ∧ c ≠ V ∧ c ≠ Wg ∧ ¬ S c:=fun b c h=>by have:=hplow b c h; exact ⟨by omega,by omega,by omega,hS b c h⟩
    have hsz:u₀.heap.size ≤ u₁.heap.size:=hR.size
    have hw1:WR (patch shutL Tryz.prog).globals.size K0 p w u₁:=hw.keep (fun b d hbd=>(hR.keep d (.inr (hKimg b d hbd)) (hKimg b d hbd).1).trans (k1 d (hplow b d hbd))) (by omega)
    have hb1:BerthC u₁ B' D:=hb.carry hw1 hB
    have kbb:u₁.heap[bb]? = some (.cells #[ptr B'] 34):=(hR.keep bb (.inr ⟨by omega,by omega,by omega,fun h=>by have:=hF.sh _ h; omega⟩) (by omega)).trans k7
    have kVV:u₁.heap[VV]? = some (.cells #[sl4 V] 82):=(hR.keep VV (.inr ⟨by omega,by omega,by omega,fun h=>by have:=hF.sh _ h; omega⟩) (by omega)).trans k8
    have hrB:=(hH _ List.mem_cons_self).2.2
    have hnB:=(hH _ (List.mem_cons_of_mem _ List.mem_cons_self)).2.2
    have hrlow:=hM rB m1
    have hnlow:=hM nB m2
    obtain ⟨wL,hwL,hcell⟩:=worker_copy hw1 hcl hB hZB kbb hrB hnB (fun b h=>by have:=hplow b _ h; omega) (fun b h=>by have:=hplow b _ h; omega) (by omega) (by omega)
    obtain ⟨s1,s2⟩:=hvd D r (c r) hr hc
    refine worker_owned hz hety (by omega) hr s1 s2 ?_ ⟨by omega,by omega,by omega,fun h=>by have:=hF.sh _ h; omega⟩ ⟨?_,fun h=>?_,?_⟩ hwL ?_ ⟨rfl,.inl (.inr rfl)⟩ ⟨rfl,.inr (.inl rfl)⟩ ⟨rfl,.inr (.inr rfl)⟩ fun T=>?_
    · rintro d (⟨b,hb,_⟩ | rfl)
      · exact hKimg b d hb
      · exact ⟨by omega,by omega,by omega,fun h=>by have:=hF.sh _ h; omega⟩
    · omega
    · have:=hM VV h; omega
    · simp [World.cell?,kVV]
    · rintro b d ⟨rfl,hd⟩ hn
      rcases hd with hd | rfl | rfl
      · exact absurd hd hn
      · exact m1
      · exact m2
    · refine HWC D B' bb rB nB r (c r) (taped wL T) ?_ hok hr hc (hcell _ _ (by simp [World.cell?,kbb])) (hcell _ _ (by simp [World.cell?,hrB])) (hcell _ _ (by simp [World.cell?,hnB]))
      exact berthC_heap (w:=wL) (u:=taped wL T) rfl (hb1.same hcell))
  have hal1:∀ f x fs w,f ∈ C0.sp → ¬ TreeJ (patch shutL Tryz.prog) C0 R JJ (Frame.enter (patch shutL Tryz.prog) f x .normal) fs w:=fun f x fs w hf=>by
    rcases hsp f hf with rfl | rfl
    · exact (raises_alarm x w).no_tree fs
    · exact (raises_alarm2 x w).no_tree fs
  have hal2:∀ f x fs cs w n fr w',f ∈ C0.sp → (∀ y ∈ fs,y.mode = .run ∧ y.defers = [] ∧ ∃ fn,(patch shutL Tryz.prog).funcs[y.fn]? = some fn) → runN (patch shutL Tryz.prog) n (lone (Frame.enter (patch shutL Tryz.prog) f x .normal) (fs ++ [stop (patch shutL Tryz.prog)]) w) = .next (lone fr cs w') → fr.mode ≠ .returning:=fun f x fs cs w n fr w' hf hok hn=>by
    rcases hsp f hf with rfl | rfl
    · exact (raises_alarm x w).lost fs hok hn
    · exact (raises_alarm2 x w).lost fs hok hn
  have hfin:∀ v f x,f ∈ C0.sp → a.finish v ≠ Frame.enter (patch shutL Tryz.prog) f x .normal:=fun v f x hf e=>by
    have h1:=congrArg Frame.fn e
    rw [(finish_fn a v).1] at h1
    have h1':a.fn = f:=h1
    obtain ⟨n1,n2⟩:=hal f hf
    obtain ⟨_,_,_,hbe⟩:=hcr.1
    by_cases hfs:fs = []
    · exact n2 (h1'.symm.trans ((hbe.2 hfs).2.2 hat))
    · exact n1 (h1' ▸ (hbe.1 hfs).2.2.1)
  obtain ⟨n,v,w',⟨Vl,row,rfl,g1,g2,g3,g4,g5,g6,g7⟩,hd⟩:=down_calls (C0:=C0) hal1 hal2 (T:=fun _ _=>0) ht rfl hfin (HJC D B c (taped w fun _ _=>0) (berthC_heap (w:=w) (u:=taped w fun _ _=>0) rfl hb) hok (fun _ _=>rfl))
  obtain ⟨⟨hfr,hrun,hhead,hbe⟩,hcs⟩:=hcr
  have hp:Ext p (fun b c=>p b c ∨ (b = Vl ∧ c = V)):=fun b c h=>.inl h
  have pl:∀ b c,p b c → b < w.heap.size ∧ c < u.heap.size:=fun b c h=>hw.lt h
  refine ⟨N,_,t',n,_,r1,hd,fun b c=>p b c ∨ (b = Vl ∧ c = V),b.finish (sl4 V),bs,gs',u',sl',q',fun x=>S x ∨ x = Wg,rfl,r2,⟨?_,.inl ((finish_mode _ _).trans hrun),hcs.ext hp,hbe.finish _ _⟩,?_,r3,?_,hI2 p _ u u' hIv ⟨r4,r5,r6,r7,fun c hc _=>r8 c hc,fun b c h hn=>?_,hp⟩⟩
  · exact (hfr.ext hp).finish hC (VR.slice ⟨.inr ⟨rfl,rfl⟩,rfl,rfl⟩) hhead
  · have g1':w.heap.size ≤ Vl:=g1
    have g3':w.heap.size ≤ w'.heap.size:=g3
    have hVl:Vl < w'.heap.size:=(Array.getElem?_eq_some_iff.1 g4).1
    refine ⟨?_,?_,fun c h=>.inl (hw.kin c h),?_,⟨Nat.le_trans hw.big.1 g3',Nat.le_trans hw.big.2 r7⟩⟩
    · rintro b1 c1 b2 c2 (h1 | ⟨rfl,rfl⟩) (h2 | ⟨rfl,rfl⟩)
      · exact hw.fit _ _ _ _ h1 h2
      · have:=pl _ _ h1; omega
      · have:=pl _ _ h2; omega
      · simp
    · rintro b1 c1 (h1 | ⟨rfl,rfl⟩)
      · obtain ⟨l1,l2⟩:=pl _ _ h1
        obtain ⟨xs,ys,e,f,g,m1,m2,m3,m4,m5⟩ | ⟨a1,a2,l,m1,m2,m3,m4⟩:=hw.rows b1 c1 h1
        · exact .inl ⟨xs,ys,e,f,g,(g2 b1 l1).trans m1,(r8 c1 l2).trans m2,m3.mono fun _ _=>VR.ext hp,m4,m5⟩
        · exact .inr ⟨a1,a2,l,(g2 b1 l1).trans m1,(r8 c1 l2).trans m2,m3.mono hp,m4⟩
      · exact .inl ⟨row,cs,86,(0,0),(0,0),g4,r12,rows_same (fun i hi hc=>hvd D i (c i) hi hc) g5 r13 g6 g7 r14 r15 _,fun h=>by have:=(pl _ _ (hw.kin _ h)).2; omega,fun _=>⟨rfl,rfl⟩⟩
    · rintro b1 c1 (h1 | ⟨rfl,rfl⟩) hne
      · exact hw.low _ _ h1 hne
      · exact ⟨Nat.le_trans hw.big.1 g1',Nat.le_trans hw.big.2 r9⟩
  · rintro b1 c1 (h1 | ⟨rfl,rfl⟩) hs
    · rcases hs with hs | rfl
      · exact hS _ _ h1 hs
      · have:=(pl _ _ h1).2; omega
    · rcases hs with hs | hs
      · have:=hF.sh _ hs; omega
      · exact r10 hs
  · rcases h with h | ⟨_,rfl⟩
    · exact absurd h hn
    · exact r9
end
end Go.Proofs.YtojoafcnijajmaaGreatDoor
