/- Part 50 of the proof that Devices answers true and leaves its input as it was, for input of bulk at most the bound of its row: G2 G3. -/
import Derived.Test.YtojoafcnijajmaaGreatDoorT49
import Derived.LaidMore
import Derived.LaidHandle
import Derived.OpenShut
import Derived.Conc.LeavingOf
import Derived.JoinedCond
import Derived.Conc.Holds
namespace Go.Proofs.YtojoafcnijajmaaGreatDoor
open Go.ChangeShapes Go.WideShapes Go.ChangeAt Go.RowKit Go.Conc Go.ConcN Go.Deep Go.Joins
theorem laidOutD:laidOutB Tryz.prog = true:=by kernel_rfl
section
variable {H:Type} {enc:TypeId × Value → H} {W:World}
set_option maxRecDepth 100000 in
theorem scr_of_trod {base:Nat} {v1:Value} {d1:DataW H} {p1:List MemPlace} (hv:Value.okWide Tryz.prog W .any base 26 v1)
    (h:DataW.Trod enc Tryz.prog W 0 (fun _=>true) true 26 v1 d1 p1) (hk:Rows.uptoBulk d1 ≤ 1048576) :
    ∃ r:Z.Scr,v1 = .slice r.sao r.L r.scap ∧ r.At W W.heap.size ∧ (∀ x,r.sao = some x → CB W x.block ∨ (r.L = 0 ∧ r.scap = 0)) ∧ (∀ i,i < r.L → ∀ x,(r.S i).dao = some x → CB W x.block ∨ ((r.S i).dn = 0 ∧ (r.S i).dcap = 0)):=by
  obtain ⟨fuel,h⟩:=h
  have hcell:v1.cells.toList = [v1]:=by
    unfold Value.okWide at hv
    rw [Tryz.underlying26] at hv
    simp only [Cell.okWide,Tryz.underlying26] at hv
    cases v1 <;> first | rfl | (simp [Cell.ok,Tryz.underlying26] at hv)
  rw [hcell] at h
  rcases open_slice Tryz.underlying26 h with ⟨hcs,hx⟩ | ⟨a,len,cap,m,n',D,Pl,hcs,_,hl,hm,hmm,hx,hel⟩
  · simp only [List.cons.injEq,and_true] at hcs
    subst hcs
    exact ⟨⟨0,none,0,0,0,fun _=>⟨0,0,0,.nilFunc,fun _=>0,none,0,0,false,.nilFunc,.nilFunc,.nilFunc,0,0,fun _=>0,fun _=>false⟩⟩,rfl,⟨Nat.le_refl _,by simp,fun h=>absurd h (by simp),fun i hi=>absurd hi (by simp),fun i hi=>absurd hi (by simp),fun h=>absurd h (by simp)⟩,fun x hx=>(by cases hx),fun i hi=>absurd hi (by simp)⟩
  · simp only [List.cons.injEq,and_true] at hcs
    subst hcs
    simp only [if_true] at hmm
    subst hmm
    have cc:Tryz.prog.cellsOf 54 = 13:=by kernel_rfl
    rw [cc] at hel
    have hd1:d1 = .slice ((List.range len).map D) ((List.range (m - len)).map fun j=>D (len + j)):=congrArg Prod.fst hx
    have hbulk:Rows.uptoBulkAll ((List.range len).map D) ≤ 1048576:=by
      rw [hd1] at hk
      simp only [Rows.uptoBulk] at hk
      omega
    have hlen:len ≤ 1048576:=by
      have:=bulk_length ((List.range len).map D)
      simp only [List.length_map,List.length_range] at this
      omega
    haveI:Inhabited Z.SV:=⟨⟨0,0,0,.nilFunc,fun _=>0,none,0,0,false,.nilFunc,.nilFunc,.nilFunc,0,0,fun _=>0,fun _=>false⟩⟩
    obtain ⟨S,hS⟩:=choose_lt (α:=Z.SV) (p:=fun i s=>i < len → StepIn W (a.add (i * 13)) s 1048576) (n:=m) (fun i hi=>by
      obtain ⟨cs,q1,q2⟩:=hel i hi
      obtain ⟨s,hs⟩:=step_of_trod q1 q2
      refine ⟨s,fun hil=>⟨hs.cells,hs.one,hs.cap,Nat.le_trans hs.few ?_,hs.ha,hs.dev,hs.cb⟩⟩
      have h1:Rows.uptoBulk (D i) ≤ Rows.uptoBulkAll ((List.range len).map D):=bulk_part (List.mem_map.2 ⟨i,List.mem_range.2 hil,rfl⟩)
      exact Nat.le_trans h1 hbulk)
    have hS':∀ i,i < len → StepIn W (a.add (i * 13)) (S i) 1048576:=fun i hi=>hS i (by omega) hi
    obtain ⟨b,o,spot⟩:=a
    have hcb:∀ i,i < len → W.cell? ((⟨b,o,spot⟩ : Addr).add (i * 13)) = some (.int .i64 (S i).kind):=fun i hi=>by
      have:=(hS' i hi).cells 0 (by omega)
      simpa [Z.stepC,Addr.add] using this
    have hsn:0 < len → spot = none:=fun hpos=>by simpa [Addr.add] using World.cell?_spot (hcb 0 hpos)
    have hcw:CB W b:=by
      unfold Value.okWide at hv
      rw [Tryz.underlying26] at hv
      exact cb_of_okWide (a:=⟨b,o,spot⟩) Tryz.underlying26 hv
    have hlow:b < W.heap.size:=by
      obtain ⟨xs,e,g,h1⟩:=hcw
      exact (Array.getElem?_eq_some_iff.1 h1).1
    refine ⟨⟨len,some ⟨b,o,spot⟩,m,b,o,S⟩,rfl,⟨hl,by simp only; omega,fun hpos=>?_,fun i hi j hj=>?_,fun i hi=>?_,fun _=>hlow⟩,fun x hx=>?_,fun i hi=>(hS' i hi).cb⟩
    · simp only at hpos ⊢
      rw [hsn hpos]
    · have h1:=(hS' i hi).cells j hj
      have h2:=hsn (Nat.lt_of_le_of_lt (Nat.zero_le _) hi)
      subst h2
      rw [Go.WideShapes.add_plain,Go.WideShapes.add_plain] at h1
      exact h1
    · have hs:=hS' i hi
      refine ⟨hs.one,hs.cap,Nat.le_trans hs.few (by omega),hs.ha,hs.dev,fun h0=>?_⟩
      exact block_lt_of_cell (hs.dev 0 h0).1
    · cases hx
      exact .inl hcw
set_option maxRecDepth 100000 in
theorem mach_cb {base:Nat} {m:Z.Mach} (hv:Value.okWide Tryz.prog W .any base 25 m.val):(∀ x,m.ao = some x → CB W x.block) ∧ (∀ x,m.ro = some x → CB W x.block):=by
  obtain ⟨ao,b,o,n,cap,S,N,C,ro,rb,rp,r,rcap,R,p⟩:=m
  unfold Value.okWide at hv
  rw [Tryz.underlying25] at hv
  obtain ⟨cs,e,_,ts,h1,_,h2⟩:=hv
  cases e
  have e0:Tryz.prog.cellTypes Tryz.prog.depth 25 = some [22,23,3]:=by kernel_rfl
  rw [e0] at h1
  cases h1
  refine ⟨fun x hx=>?_,fun x hx=>?_⟩
  · simp only at hx
    subst hx
    obtain ⟨u,h3,h4⟩:=h2 0 _ rfl
    cases h3
    exact cb_of_okWide Tryz.underlying22 h4
  · simp only at hx
    subst hx
    obtain ⟨u,h3,h4⟩:=h2 1 _ rfl
    cases h3
    exact cb_of_okWide Tryz.underlying23 h4
end
set_option maxRecDepth 100000 in
theorem devices_contract (H:Type) (enc:TypeId × Value → H) (W:World) (base:Nat) (args:Array Value) (ds gs:List (DataW H)) (before:List MemPlace) (hG:Tryz.prog.globals.size ≤ W.heap.size)
    (hval0:∀ (j:Nat) t v,Tryz.f3.params[j]? = some t → args[j]? = some v → Value.okWide Tryz.prog W .any base t v)
    (hW:DataW.Whole enc Tryz.prog Tryz.f3.params.toList Rows.devicesSpec.vars false W args.toList ds gs before)
    (hsz:(DataW.weightsEach Tryz.prog (Tryz.f3.params.toList ++ Rows.devicesSpec.plain.varTypes Tryz.prog) (ds ++ gs)).all (· ≤ reachBytes) = true)
    (hk:Rows.uptoSmall H (ds ++ gs) = true) :
    ∃ N last o w' t',runNT Tryz.prog (N + 1) (solo (G (Frame.enter Tryz.prog 3 args .normal) []) W) #[] = (.ended o w',t') ∧ runN Tryz.prog N (solo (G (Frame.enter Tryz.prog 3 args .normal) []) W) = .next last ∧
      step Tryz.prog last = .ended o w' ∧ Conc.Good Tryz.prog (fun v W'=>Rows.devicesSpec.post enc Tryz.prog Tryz.f3 false true false false W args v W') last o w' t':=by
  have hW':=hW
  obtain ⟨p,q,hA0,hV,rfl,_,_⟩:=hW
  have hA:DataW.TrodAll enc Tryz.prog W 0 (fun _=>true) true Tryz.f3.params.toList args.toList ds p:=hA0
  have hval:=hval0
  rw [Tryz.params3] at hA hval hsz
  obtain ⟨v0,v1,d0,d1,p0,p1,rfl,rfl,rfl,h0,h1⟩:=trodAll_two hA
  obtain ⟨rfl,rfl⟩:=trodVars_none hV
  have hw0:∀ x ∈ d0.weights Tryz.prog 25,x ≤ reachBytes:=fun x hx=>of_decide_eq_true (List.all_eq_true.1 hsz x (DataW.weights_mem_each (j:=0) rfl rfl x hx))
  obtain ⟨m,rfl,hm⟩:=mach_of_trod (hval 0 25 v0 rfl rfl) h0 hw0
  have hb1:Rows.uptoBulk d1 ≤ 1048576:=by
    have h:=of_decide_eq_true hk
    simp only [List.append_nil,Rows.uptoBulkAll] at h
    omega
  obtain ⟨r,rfl,hr,hc,hd⟩:=scr_of_trod (hval 1 26 v1 rfl rfl) h1 hb1
  obtain ⟨ha,hb⟩:=mach_cb (hval 0 25 m.val rfl rfl)
  clear hA0 hval0
  simp only [List.append_nil] at hW'
  have hlt:∀ x ∈ p0 ++ p1,x.block < W.heap.size:=fun x hx=>by simpa using hW'.lt x hx
  obtain ⟨N,last,o,w',t',g1,g2,g3,g4⟩:=devices_good m r W hm hr hG (fun x hx=>.inl (ha x hx)) (fun x hx=>.inl (hb x hx)) hc hd
  refine ⟨N,last,o,w',t',g1,g2,g3,?_⟩
  obtain ⟨v,hv,⟨hv1,hb⟩,hrest⟩:=g4
  refine ⟨v,hv,?_,hrest⟩
  subst hv1
  refine ⟨_,_,_,[],p0 ++ p1,[],hW',?_,?_,rfl,hb.frame _,fun h=>by cases h⟩
  · exact trodAll_mk1 (shut_bool Tryz.underlying4 true)
  · exact trodAll_cons_mk (Below.trod laidOutD (by kernel_rfl) (of_decide_eq_true (by kernel_rfl)) h0 hb fun x hx=>hlt x (List.mem_append_left _ hx)) (trodAll_mk1 (Below.trod laidOutD (by kernel_rfl) (of_decide_eq_true (by kernel_rfl)) h1 hb fun x hx=>hlt x (List.mem_append_right _ hx)))
end Go.Proofs.YtojoafcnijajmaaGreatDoor

namespace Go.Proofs.YtojoafcnijajmaaGreatDoor
open Go Go.ChangeShapes Go.Conc
theorem holds_of_cond_leaving {p:Pinned} {s:OpenSpec} {c:OpenClaim} (f:FuncId) (fn:Func)
    (hn:c.program = p.name) (hs:c.sum = p.sum) (hsp:c.spec = s.name)
    (hstart:c.start = .entering) (hout:c.outside = []) (hin:c.inits = []) (hun:c.under = none) (hi4:c.initsInPlace = [] ∧ c.initsUnfollowed = false ∧ c.initsRecurse = false ∧ c.initsNamed = [] ∧ c.initsPassed = []) (hnb:c.noBlocks = false) (hlv:c.leaving = true) (hfo:c.followed = none) (hnar:c.narrowed = s.cond.isSome) (hstill:c.still = false)
    (hfn:p.checked.prog.funcNamed c.func = some f) (hf:p.checked.prog.funcs[f]? = some fn)
    (closed:joinedFacts p.checked.prog f fn s.bare c = true)
    (hinst:fn.isInstance p.checked.prog c.origin c.targs) (hwrap:fn.isWrapper p.checked.prog c.wrapper c.mainSum)
    (h:∀ os:Os,os.Started → ∀ (H:Type) (enc:TypeId × Value → H),(∀ a b,enc a = enc b → a = b) → ∀ F:Stop.Interp,
      ReturnsInLeavingWide c.assume p.checked os f .any (c.pre enc p.checked.prog fn s) ((s.at F).post enc p.checked.prog fn c.apart c.fresh c.handsOn c.again)):c.holds p s:=by
  simp only [joinedFacts,Bool.and_eq_true,beq_iff_eq,Array.all_eq_true_iff_forall_mem,List.all_eq_true,decide_eq_true_eq] at closed
  obtain ⟨⟨⟨⟨⟨⟨⟨⟨⟨⟨⟨⟨⟨⟨⟨⟨⟨⟨⟨⟨⟨⟨⟨⟨⟨⟨⟨⟨⟨⟨⟨k1,k2⟩,k3⟩,k4⟩,k5⟩,k6⟩,k7⟩,k8⟩,k9⟩,k10⟩,k11⟩,k12⟩,k13⟩,k14⟩,k15⟩,k16⟩,k17⟩,k17b⟩,k18⟩,k19⟩,k20⟩,k21⟩,k22⟩,k23⟩,k23b⟩,k24⟩,k24b⟩,k24c⟩,k25⟩,k26⟩,k27⟩,k28⟩:=closed
  have hq:∀ os:Os,Stop.quiet p.checked.prog os:=fun os k hk=>by rw [k9] at hk; cases hk
  refine ⟨k1,hn,hs,hsp,k2,k3,by unfold OpenClaim.startFits; rw [hstart]; exact k24,by unfold OpenClaim.startTold; rw [hstart]; exact ⟨hin,hun,hi4⟩,f,fn,hfn,hf,⟨k4,k19⟩,(fun hb=>by rw [hnb] at hb; cases hb),by unfold OpenClaim.namedList; rw [hfo]; exact k5,hinst,hwrap,
    k6.trans k7.symm,⟨k8.trans k9.symm,by unfold Program.envWorded; rw [k9]; rfl,k23b⟩,k10,k11,k12,k13,k14,⟨k15,k27,k28⟩,⟨k16,k20⟩,⟨k17,k21,k25,k26⟩,⟨k22,k24b,k24c,k17b⟩,(by rw [hout,hnar]; cases hsh:c.shortTexts with | none=>simp | some _=>rw [hsh] at k23; cases k23),fun n hn'=>varReadable_some (k18 n hn'),
    ⟨_,by unfold OpenClaim.world; rw [hout,hstart]; exact WideRow.started_initial,hq _⟩,[],by unfold OpenClaim.lists; rw [hfo],fun os st _ H enc inj=>?_⟩
  have st':os.Started:=by unfold OpenClaim.world at st; rw [hout,hstart] at st; exact st
  rw [OpenClaim.post_not_still hstill]
  unfold OpenClaim.form
  rw [hstart,k6]
  intro F
  have e1:c.okInput = Input.okWide:=by unfold OpenClaim.okInput; rw [hnb]
  have e2:c.atReturn p.checked.prog = leavingAtReturn p.checked.prog:=by unfold OpenClaim.atReturn; rw [hlv]
  have e3:c.always p.checked.prog [] = nothingAlways:=by unfold OpenClaim.always; rw [hfo]
  have e4:s.post enc p.checked.prog fn F c.outside c.apart c.fresh c.handsOn c.again = (s.at F).post enc p.checked.prog fn c.apart c.fresh c.handsOn c.again:=by rw [hout]; rfl
  rw [e1,e2,e3]
  show ReturnsInOpen _ _ _ _ _ _ _ _ (s.post enc p.checked.prog fn F c.outside c.apart c.fresh c.handsOn c.again) _ _
  rw [e4]
  exact h os st' H enc inj F k24
end Go.Proofs.YtojoafcnijajmaaGreatDoor
