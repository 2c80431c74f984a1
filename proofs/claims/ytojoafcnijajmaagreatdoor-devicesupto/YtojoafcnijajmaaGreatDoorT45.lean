/- Part 45 of the proof that Devices answers true and leaves its input as it was, for input of bulk at most the bound of its row: YF ZDG ZE1 ZE2 ZE5. -/
import Derived.Test.YtojoafcnijajmaaGreatDoorT44
import Derived.Test.YtojoafcnijajmaaGreatDoorT8
import Derived.Test.YtojoafcnijajmaaGreatDoorT37
import Derived.Test.YtojoafcnijajmaaGreatDoorT24
import Derived.Test.YtojoafcnijajmaaGreatDoorT25
namespace Go.Proofs.YtojoafcnijajmaaGreatDoor
open Go Go.Conc Go.ConcN Go.RowKit
open Go.ConcR (Payload)
theorem zeroOkPP:ZeroOk (patch shutL Tryz.prog):=trivial
theorem notPlain1 (x:Array Value):¬ plainTodo cfgD (patch shutL Tryz.prog) (Frame.enter (patch shutL Tryz.prog) 417 x .normal).fn (Frame.enter (patch shutL Tryz.prog) 417 x .normal).todo:=by
  rw [enter_at x (pal shutL) (c:=.region 0 #[opOf (some 1) (.makeInterface 34 (.tmp 0)),opOf none (.panic (.tmp 1))] false) rfl]
  intro h
  have h1:plainItem cfgD (patch shutL Tryz.prog) 417 (.code (.region 0 #[opOf (some 1) (.makeInterface 34 (.tmp 0)),opOf none (.panic (.tmp 1))] false)) = true:=h.cons.1
  have h2:plainItem cfgD (patch shutL Tryz.prog) 417 (.code (.region 0 #[opOf (some 1) (.makeInterface 34 (.tmp 0)),opOf none (.panic (.tmp 1))] false)) = false:=by kernel_rfl
  rw [h1] at h2
  cases h2
theorem notPlain2 (x:Array Value):¬ plainTodo cfgD (patch shutL Tryz.prog) (Frame.enter (patch shutL Tryz.prog) 418 x .normal).fn (Frame.enter (patch shutL Tryz.prog) 418 x .normal).todo:=by
  rw [enter_at x (pal2 shutL) (c:=.region 0 #[opOf (some 1) (.box 40 (.tmp 0)),opOf (some 2) (.makeInterface 40 (.tmp 1)),opOf none (.panic (.tmp 2))] false) rfl]
  intro h
  have h1:plainItem cfgD (patch shutL Tryz.prog) 418 (.code (.region 0 #[opOf (some 1) (.box 40 (.tmp 0)),opOf (some 2) (.makeInterface 40 (.tmp 1)),opOf none (.panic (.tmp 2))] false)) = true:=h.cons.1
  have h2:plainItem cfgD (patch shutL Tryz.prog) 418 (.code (.region 0 #[opOf (some 1) (.box 40 (.tmp 0)),opOf (some 2) (.makeInterface 40 (.tmp 1)),opOf none (.panic (.tmp 2))] false)) = false:=by kernel_rfl
  rw [h1] at h2
  cases h2
theorem shutAll:∀ g ∈ lS,∃ f',(patch shutL Tryz.prog).funcs[g]? = some (shut f') :=
  all_cons ⟨_,pS Tryz.func40 ⟨rfl,rfl,rfl⟩⟩ <| all_cons ⟨_,pS Tryz.func38 ⟨rfl,rfl,rfl⟩⟩ <| all_cons ⟨_,pS Tryz.func39 ⟨rfl,rfl,rfl⟩⟩ <| all_cons ⟨_,pS Tryz.func41 ⟨rfl,rfl,rfl⟩⟩ all_nil
set_option maxHeartbeats 2000000 in
theorem good_of_lone {vd:BD → Nat → Int → Array Value} (hvd:∀ D i n,i < 4 → 0 < n → (vd D i n).size = 17 ∧ ∀ v ∈ (vd D i n).toList,flatC v)
    (HWC:∀ (D:BD) (B bb rB nB r:Nat) (n:Int) (w:World),BerthC w B D → D.ok → r < 4 → 0 < n → w.cell? ⟨bb,0,none⟩ = some (ptr B) → w.cell? ⟨rB,0,none⟩ = some (.int .i64 r) → w.cell? ⟨nB,0,none⟩ = some (.int .i64 n) →
      Calls (patch shutL Tryz.prog) 52 #[undef,ptr bb,ptr rB,ptr nB,undef] w fun | .returned v,w'=>WOut (vd D r n) r v w' | _,_=>False)
    (HJC:∀ (D:BD) (B:Nat) (c:Nat → Int) (w:World),BerthC w B D → D.ok → (∀ j q,w.tape j q = 0) → Calls (patch shutL Tryz.prog) 22 #[ptr B,.agg (intsOf c)] w fun | .returned v,w'=>JudgePost (fun i=>vd D i (c i)) c w v w' | _,_=>False)
    {args:Array Value} {w wL:World} {Za:Nat → Prop} (hsz:args.size = 2) (hWR:WR ((patch shutL Tryz.prog)).globals.size Za (fun b c=>b = c ∧ Za b) wL w) (hargs:∀ v ∈ args.toList,VR (fun b c=>b = c ∧ Za b) v v)
    (HD:∀ T,Calls (patch shutL Tryz.prog) 3 args (taped wL T) (RJ (fun v _=>v = .bool true) AA)) :
    ∃ N last o w' t',runNT Tryz.prog (N + 1) (solo (G (Frame.enter Tryz.prog 3 args .normal) []) w) #[] = (.ended o w',t') ∧ runN Tryz.prog N (solo (G (Frame.enter Tryz.prog 3 args .normal) []) w) = .next last ∧
      step Tryz.prog last = .ended o w' ∧ Conc.Good Tryz.prog (fun v u=>v = .bool true ∧ Below w.heap.size w u) last o w' t':=by
  have tw:Twin (patch shutL Tryz.prog) Tryz.prog:=patch_twin shutL Tryz.prog
  have tw':Twin (patch shutL Tryz.prog) (patch shutL Tryz.prog):=patch_twin' shutL Tryz.prog
  have hA:AllR (VR fun b c=>b = c ∧ Za b) args args:=AllR.same fun v hv=>hargs v (by rwa [← Array.mem_def])
  have tree:TreeJ (patch shutL Tryz.prog) cfgA (fun v _=>v = .bool true) JJ (Frame.enter (patch shutL Tryz.prog) 3 args .normal) [] wL :=
    treeJ_of_calls (K:=Za) zeroOkPP plainA tw' (fun _=>rfl) JJ_tape AA_ptr alarms_tell
      ⟨_,_,[],w,⟨FR.enter plainA (by exact List.mem_append_left _ List.mem_cons_self) (of_decide_eq_true (show decide (¬ 3 ∈ [417,418]) = true by kernel_rfl)) hA,.inl rfl,trivial,⟨fun h=>absurd rfl h,fun _=>⟨rfl,rfl,fun h=>by cases h⟩⟩⟩,hWR⟩ HD
  obtain ⟨c,hb,hpl,hsg,k,hres⟩:=dev_body
  have hent:∀ {P:Program},P.funcs[3]? = some Tryz.f3 → Frame.enter P 3 args .normal = (base 3).at ⟨args ++ Array.replicate (Func.ntmps Tryz.f3 - args.size) undef,[]⟩ [.code c]:=fun h=>enter_at args h hb
  have hlive:Live cfgD (patch shutL Tryz.prog) (fun b c=>b = c ∧ Za b) (Frame.enter (patch shutL Tryz.prog) 3 args .normal) [] (Frame.enter Tryz.prog 3 args .normal) []:=by
    rw [hent pdev,hent Tryz.func3]
    refine ⟨⟨⟨_,pdev⟩,TmR.of ?_,plainTodo.of hpl (fun _ hy=>by cases hy),rfl,rfl,rfl,?_,fun _=>?_,fun _=>trivial,fun e=>by cases e⟩,.inl rfl,trivial,⟨fun h=>absurd rfl h,fun _=>⟨rfl,rfl,fun _=>rfl⟩⟩⟩
    · refine AllR.append hA (AllR.same fun v hv=>?_)
      rw [(Array.mem_replicate.1 hv).2]
      exact VR.undef
    · simp only [Frame.at,List.map_cons,List.map_nil,sgI,hsg]
    · show (args ++ Array.replicate _ undef).getD 1000000 undef = undef
      have:=dev_ntmps
      rw [Array.getD_eq_getD_getElem?,Array.getElem?_eq_none (by rw [Array.size_append,Array.size_replicate,hsz]; omega)]
      rfl
  have hIv:IvD w Za (fun b c=>b = c ∧ Za b) w:=⟨⟨rfl,rfl,rfl,Nat.le_refl _⟩,fun b c h _=>h.1 ▸ h.2,fun _ _=>rfl⟩
  letI:Payload:=⟨86⟩
  have:=driver (C:=cfgD) (C0:=cfgA) (Q:=Tryz.prog) (K:=Za) (Iv:=IvD w Za) (Post:=fun v u=>v = .bool true ∧ Below w.heap.size w u) ivD_at ivD_step zeroOkPP plainD tw (fun _=>rfl) (fun f h1 h2=>?_) (fun _ _=>rfl) (fun _ _=>rfl) (fun f x hf=>?_) rfl rfl rfl (fun _=>rfl) (by kernel_rfl) (fun fn h=>?_) (fun p v v' w' T u hR hv hw hI=>?_) (fun fn h=>?_)
    (fun f x y a fs b bs w' u gs sl t q S p hsp ht hxy hcr hw hF h0 hS hI=>?_) tree (crowd #[gor (Frame.enter Tryz.prog 3 args .normal) []] w none) #[] ⟨_,_,[],_,w,none,fun _=>0,fun _=>False,rfl,rfl,hlive,hWR,fr0_start _ _,fun _ _ _ h=>h,hIv⟩
  · exact this
  · have h:((22 :: lS).all fun g=>![417,418].contains g) = true:=by kernel_rfl
    have:=List.all_eq_true.1 h f h1
    have h2':f ∈ [417,418]:=h2
    simp [h2'] at this
  · have hf':f = 417 ∨ f = 418:=by
      have:f ∈ [417,418]:=hf
      simpa using this
    intro hp
    rcases hf' with rfl | rfl
    · exact notPlain1 x hp
    · exact notPlain2 x hp
  · have h':(patch shutL Tryz.prog).funcs[3]? = some fn:=h
    rw [pdev] at h'
    cases h'
    exact ⟨_,Tryz.func3,rfl⟩
  · obtain rfl:=hR
    obtain ⟨⟨i1,i2,i3,i4⟩,i6,i7⟩:=hI
    exact ⟨hv.bool_inv,i2,i1,i3,i4,i7⟩
  · have h':(patch shutL Tryz.prog).funcs[3]? = some fn:=h
    rw [pdev] at h'
    cases h'
    exact ⟨k,hres⟩
  · have hsp':f = 22 ∨ f ∈ lS:=List.mem_cons.1 hsp
    rcases hsp' with rfl | hf
    · exact edge (C:=cfgD) (C0:=cfgA) ivD_step rfl zeroOkPP cfgD_ok (of_decide_eq_true (show decide (¬ 22 ∈ [417,418]) = true by kernel_rfl)) (fun f hf=>by
        have:f ∈ [417,418]:=hf
        simpa using this) (fun f hf=>⟨fun hx=>by
          have h1:([417,418].all fun g=>!(lD ++ (22 :: lS)).contains g) = true:=by kernel_rfl
          have:=List.all_eq_true.1 h1 f hf
          have hx':f ∈ lD ++ (22 :: lS):=hx
          simp [hx'] at this,fun e=>by
          have h1:([417,418].all fun g=>g != 3) = true:=by kernel_rfl
          have:=List.all_eq_true.1 h1 f hf
          have e':f = 3:=e
          simp [e'] at this⟩) rfl hvd HWC HJC ht hxy.1 (hxy.2 rfl) hcr hw hF h0 hS hI
    · exfalso
      have key:∀ g ∈ lS,∃ f',(patch shutL Tryz.prog).funcs[g]? = some (shut f'):=shutAll
      obtain ⟨f',h'⟩:=key f hf
      exact shut_stuck h' ht
theorem junk_ex {p:Nat → Nat → Prop}:∀ v:Value,∃ v',VR p v' v
  | .bool b=>⟨_,VR.bool b⟩
  | .int k n=>⟨_,VR.int k n⟩
  | .string s=>⟨_,VR.string s⟩
  | .nilIface=>⟨.nilIface,1,trivial⟩
  | .agg cs=>by
    have h:∀ i:Nat,∃ v',∀ x,cs[i]? = some x → VR p v' x:=fun i=>by
      by_cases hi:i < cs.size
      · obtain ⟨v',hv⟩:=junk_ex (p:=p) cs[i]
        refine ⟨v',fun x hx=>?_⟩
        rw [Array.getElem?_eq_getElem hi] at hx
        cases hx
        exact hv
      · exact ⟨undef,fun x hx=>by rw [Array.getElem?_eq_none (by omega)] at hx; cases hx⟩
    exact ⟨.agg ((Array.range cs.size).map fun i=>(h i).choose),VR.agg ⟨by simp,fun i x y hx hy=>by
      rw [Array.getElem?_map] at hx
      cases hi:(Array.range cs.size)[i]? with
      | none=>rw [hi] at hx; cases hx
      | some k =>
        rw [hi] at hx
        simp only [Option.map_some,Option.some.injEq] at hx
        have hk:k = i:=by
          obtain ⟨h1,h2⟩:=Array.getElem?_eq_some_iff.1 hi
          simpa using h2.symm
        subst hk
        subst hx
        exact (h k).choose_spec y hy⟩⟩
  | .tuple cs=>by
    have h:∀ i:Nat,∃ v',∀ x,cs[i]? = some x → VR p v' x:=fun i=>by
      by_cases hi:i < cs.size
      · obtain ⟨v',hv⟩:=junk_ex (p:=p) cs[i]
        refine ⟨v',fun x hx=>?_⟩
        rw [Array.getElem?_eq_getElem hi] at hx
        cases hx
        exact hv
      · exact ⟨undef,fun x hx=>by rw [Array.getElem?_eq_none (by omega)] at hx; cases hx⟩
    exact ⟨.tuple ((Array.range cs.size).map fun i=>(h i).choose),VR.tuple ⟨by simp,fun i x y hx hy=>by
      rw [Array.getElem?_map] at hx
      cases hi:(Array.range cs.size)[i]? with
      | none=>rw [hi] at hx; cases hx
      | some k =>
        rw [hi] at hx
        simp only [Option.map_some,Option.some.injEq] at hx
        have hk:k = i:=by
          obtain ⟨h1,h2⟩:=Array.getElem?_eq_some_iff.1 hi
          simpa using h2.symm
        subst hk
        subst hx
        exact (h k).choose_spec y hy⟩⟩
  | .float _ _=>⟨.nilFunc,VR.junk rfl⟩
  | .complex _ _ _=>⟨.nilFunc,VR.junk rfl⟩
  | .pointer _=>⟨.nilFunc,VR.junk rfl⟩
  | .slice _ _ _=>⟨.nilFunc,VR.junk rfl⟩
  | .map _=>⟨.nilFunc,VR.junk rfl⟩
  | .chan _=>⟨.nilFunc,VR.junk rfl⟩
  | .func _ _ _=>⟨.nilFunc,VR.junk rfl⟩
  | .nilFunc=>⟨.nilFunc,VR.junk rfl⟩
  | .iface _ _=>⟨.nilFunc,VR.junk rfl⟩
def staysV (Z:Nat → Prop) (v:Value):Prop:=simpleV Z v ∨ ∃ a,v = .slice a 0 0
theorem stays_VR {Z:Nat → Prop} {v:Value} (h:staysV Z v):VR (fun b c=>b = c ∧ Z b) v v:=by
  rcases h with h | ⟨a,rfl⟩
  · exact simple_VR h
  · cases a with
    | none=>exact VR.slice trivial
    | some a=>exact VR.sliceS (.inr ⟨rfl,rfl⟩)
theorem jv_ex (Z:Nat → Prop):∃ jv:Value → Value,(∀ v,VR (fun b c=>b = c ∧ Z b) (jv v) v) ∧ ∀ v,staysV Z v → jv v = v:=by
  classical
  refine ⟨fun v=>if staysV Z v then v else (junk_ex (p:=fun b c=>b = c ∧ Z b) v).choose,fun v=>?_,fun v h=>if_pos h⟩
  show VR _ (if staysV Z v then v else _) v
  split
  · rename_i h; exact stays_VR h
  · exact (junk_ex (p:=fun b c=>b = c ∧ Z b) v).choose_spec
theorem frozen_world (G:Nat) (Z:Nat → Prop) (w:World) (hG:G ≤ w.heap.size) (hZ:∀ b,Z b → ∃ xs e g,w.heap[b]? = some (.cells xs e g)) :
    ∃ wL:World,WR G Z (fun b c=>b = c ∧ Z b) wL w ∧ wL.heap.size = w.heap.size ∧ ∀ a v,w.cell? a = some v → ∃ v',wL.cell? a = some v' ∧ (v' = v ∨ VR (fun b c=>b = c ∧ Z b) v' v) ∧ (staysV Z v → v' = v):=by
  classical
  obtain ⟨jv,jv_VR,jv_same⟩:=jv_ex Z
  obtain ⟨fr,hfr,hfn⟩ : ∃ fr:Obj → Obj,(∀ xs e g,fr (.cells xs e g) = .cells (xs.map jv) e (0,xs.size)) ∧ ∀ o,(∀ xs e g,o ≠ .cells xs e g) → fr o = o:=⟨fun o=>match o with
    | .cells xs e _=>.cells (xs.map jv) e (0,xs.size)
    | o=>o,fun _ _ _=>rfl,fun o h=>by cases o <;> first | rfl | exact absurd rfl (h _ _ _)⟩
  refine ⟨{ w with heap:=w.heap.mapIdx fun c o=>if Z c then fr o else o },⟨fun b c b' c' h h'=>?_,fun b c h=>?_,fun c h=>⟨rfl,h⟩,fun b c h hne=>absurd h.1 hne,⟨by simpa using hG,hG⟩⟩,by simp,fun a v hv=>?_⟩
  · rw [← h.1,← h'.1]
  · obtain ⟨rfl,hb⟩:=h
    obtain ⟨xs,e,g,h1⟩:=hZ b hb
    refine .inl ⟨xs.map jv,xs,e,(0,xs.size),g,?_,h1,⟨by simp,fun i x y hx hy=>?_⟩,fun _=>⟨rfl,by simp⟩,fun h=>absurd hb h⟩
    · show (w.heap.mapIdx _)[b]? = _
      rw [Array.getElem?_mapIdx,h1]
      simp [hb,hfr]
    · rw [Array.getElem?_map,hy] at hx
      cases hx
      exact jv_VR y
  · unfold World.cell? at hv ⊢
    have e:(w.heap.mapIdx fun c o=>if Z c then fr o else o)[a.block]? = (w.heap[a.block]?).map fun o=>if Z a.block then fr o else o:=Array.getElem?_mapIdx
    simp only [e]
    cases ho:w.heap[a.block]? with
    | none=>rw [ho] at hv; cases hv
    | some o =>
      rw [ho] at hv
      cases o with
      | cells xs t g =>
        simp only at hv
        by_cases hz:Z a.block
        · simp only [Option.map_some,if_pos hz,hfr]
          cases hsp:a.spot with
          | some s=>rw [hsp] at hv; cases hv
          | none =>
            rw [hsp] at hv
            simp only [Option.isSome_none,Bool.false_eq_true,if_false] at hv ⊢
            rw [Array.getElem?_map,hv,Option.map_some]
            exact ⟨_,rfl,.inr (jv_VR v),jv_same v⟩
        · simp only [Option.map_some,if_neg hz]
          exact ⟨v,hv,.inl rfl,fun _=>rfl⟩
      | _=>cases hv
end Go.Proofs.YtojoafcnijajmaaGreatDoor

namespace Go.Proofs.YtojoafcnijajmaaGreatDoor.Z
open Go.RowKit
theorem workerL_any (D:BD) (B bb rB nB r:Nat) (n:Int) (w:World) (hb:BerthC w B D) (hok:D.ok) (hr:r < 4) (hn:0 < n) (h1:w.cell? ⟨bb,0,none⟩ = some (ptr B)) (h2:w.cell? ⟨rB,0,none⟩ = some (.int .i64 r)) (h3:w.cell? ⟨nB,0,none⟩ = some (.int .i64 n)) :
    Calls (patch shutL Tryz.prog) 52 #[undef,ptr bb,ptr rB,ptr nB,undef] w fun | .returned v,w'=>WOut (vdB D r n) r v w' | _,_=>False :=
  (workerB_any D B bb rB nB r n undef undef w hb hok hr hn h1 h2 h3).mono fun e w' h=>by
    cases e with
    | returned v=>exact h.1
    | panicked _=>exact h
    | outgrown=>exact h
end Go.Proofs.YtojoafcnijajmaaGreatDoor.Z

namespace Go.Proofs.YtojoafcnijajmaaGreatDoor.Z
open Go.RowKit
attribute [local go_sem ↓] Go.wp_at_zero Go.wp_at_succ
attribute [local go_sem] After.cell After.frozen After.const
theorem kinds0 (c:Nat → Int) (W:World):Sem.run (patch shutL Tryz.prog) (Instr.index 30 (.agg #[.int .i64 (c 1),.int .i64 (c 2),.int .i64 (c 3)]) (.int .i64 0)) W = .ok (.int .i64 (c 1)) W:=by kernel_rfl
theorem kinds1 (c:Nat → Int) (W:World):Sem.run (patch shutL Tryz.prog) (Instr.index 30 (.agg #[.int .i64 (c 1),.int .i64 (c 2),.int .i64 (c 3)]) (.int .i64 1)) W = .ok (.int .i64 (c 2)) W:=by kernel_rfl
theorem kinds2 (c:Nat → Int) (W:World):Sem.run (patch shutL Tryz.prog) (Instr.index 30 (.agg #[.int .i64 (c 1),.int .i64 (c 2),.int .i64 (c 3)]) (.int .i64 2)) W = .ok (.int .i64 (c 3)) W:=by kernel_rfl
theorem info4:((patch shutL Tryz.prog).info? 40).map (·.size) = some 4:=by kernel_rfl
set_option maxRecDepth 100000 in
set_option maxHeartbeats 2000000 in
theorem wantedOf_any (c:Nat → Int) (w:World) :
    Calls (patch shutL Tryz.prog) 23 #[.agg (intsOf c)] w fun e w'=>e = .returned (.agg (intsOf c)) ∧ Below w.heap.size w w':=by
  unfold intsOf
  go_enter (pf Tryz.func23 (by rfl)),Tryz.ntmps23
  have k0:=kinds0 c
  have k1:=kinds1 c
  have k2:=kinds2 c
  go_wp2_with fail
  refine wp_loop_rounds 4 ?_
  rw [rounds_succ]
  go_wp2_with fail
  rw [rounds_succ]
  go_wp2_with fail
  rw [rounds_succ]
  go_wp2_with fail
  rw [rounds_succ]
  go_wp2_with fail
  refine bodyPost_ret_by (results_cell_row rfl _ _ (w.heap.size + 1) 40 _ (0,0) _ rfl ((Below.heap_alloc _ _ _ (by simp)).trans (heap_alloc2_new _ _ _)) ((patch_underlying shutL Tryz.prog 40).trans Tryz.underlying40) rfl info4) rfl ⟨rfl,?_⟩
  exact ((((Below.refl _ _).alloc (Nat.le_refl _) _).alloc (by simp) _).alloc (by simp; omega) _)
theorem Closed_below {w w':World} {Z:Nat → Prop} (h:Closed w Z) (hb:Below w.heap.size w w'):Closed w' Z:=fun b hz=>by
  obtain ⟨xs,e,h1,h2⟩:=h b hz
  exact ⟨xs,e,(hb.block b (Array.getElem?_eq_some_iff.1 h1).1).trans h1,h2⟩
end Go.Proofs.YtojoafcnijajmaaGreatDoor.Z

namespace Go.Proofs.YtojoafcnijajmaaGreatDoor.Z
open Go.RowKit
attribute [local go_sem ↓] Go.wp_at_zero Go.wp_at_succ
attribute [local go_sem] After.cell After.frozen After.const
def widN (D:BD) (c:Nat → Int) (i:Nat):Int:=if 0 < c i then leastW (inN D i (usN D i)) (c i) else 0
def widK (D:BD) (c:Nat → Int) (k j:Nat):Value:=if j < k then .int .i64 (widN D c j) else .int .i64 0
theorem wid_step {D:BD} {c:Nat → Int} {k:Nat} (j:Nat):widK D c (k + 1) j = if j = k then .int .i64 (widN D c k) else widK D c k j:=by
  unfold widK
  by_cases h:j = k
  · subst h; rw [if_pos (by omega),if_pos rfl]
  · rw [if_neg h]
    by_cases h1:j < k
    · rw [if_pos (by omega),if_pos h1]
    · rw [if_neg (by omega),if_neg h1]
theorem row_wid {w:World} {b:Nat} {D:BD} {c:Nat → Int} (h:w.rowIs b 40 4 (widK D c 4)):w.heap[b]? = some (.cells (intsOf (widN D c)) 40 (0,0)):=by
  obtain ⟨cur,h1,h2,h3⟩:=h
  have:cur = intsOf (widN D c):=by
    refine Array.ext (by rw [h2]; rfl) fun j j1 j2=>?_
    have:=h3 j (by omega)
    rw [Array.getElem?_eq_getElem j1] at this
    obtain rfl | rfl | rfl | rfl:j = 0 ∨ j = 1 ∨ j = 2 ∨ j = 3:=by omega
    all_goals (simpa [intsOf,widK] using this)
  rw [← this]; exact h1
theorem post_cells {D:BD} {c:Nat → Int} {w w':World} {v:Value} (h:JudgePost (fun i=>vdB D i (c i)) c w v w'):∃ Vl row,v = sl4 Vl ∧ w'.heap[Vl]? = some (.cells row 86 (0,0)) ∧ row.size = 68 ∧ (∀ i,i < 4 → row[17 * i]? = some (.int .i64 (widN D c i))) ∧ ∀ x,x < 68 → ∃ u,row[x]? = some u ∧ u.oneCell' = true:=by
  obtain ⟨Vl,row,rfl,_,_,_,h1,h2,h3,h4⟩:=h
  refine ⟨Vl,row,rfl,h1,h2,fun i hi=>?_,fun x hx=>?_⟩
  · unfold widN
    by_cases hc:0 < c i
    · rw [if_pos hc]
      have:=h3 i hi hc 0 (by omega)
      rw [Nat.add_zero] at this
      rw [this]
      simp [vdB,verdV,verdK]
    · rw [if_neg hc]
      have:=h4 i hi hc 0 (by omega)
      rw [Nat.add_zero] at this
      rw [this]
      obtain rfl | rfl | rfl | rfl:i = 0 ∨ i = 1 ∨ i = 2 ∨ i = 3:=by omega
      all_goals rfl
  · obtain ⟨i,o,hi,ho,rfl⟩ : ∃ i o,i < 4 ∧ o < 17 ∧ x = 17 * i + o:=⟨x / 17,x % 17,by omega,by omega,by omega⟩
    by_cases hc:0 < c i
    · have hf:=vdB_flat D i (c i) hi hc
      have hlt:o < (vdB D i (c i)).size:=by rw [hf.1]; exact ho
      refine ⟨_,(h3 i hi hc o ho).trans (Array.getElem?_eq_getElem hlt),flat_cell (hf.2 _ (by simp))⟩
    · refine ⟨_,h4 i hi hc o ho,?_⟩
      have key:(List.range 68).all (fun x=>(zeroJ x).oneCell') = true:=by kernel_rfl
      exact List.all_eq_true.1 key (17 * i + o) (List.mem_range.2 (by omega))
theorem st_facts (wr:World) (zs cs:Array Value) (t:TypeId) (v:Value) (hc0:cs[0]? = some v):∃ W3,(wr.alloc (.cells zs t)).setRow wr.heap.size cs = W3 ∧ W3.cell? ⟨wr.heap.size,0,none⟩ = some v ∧ Below wr.heap.size wr W3:=by
  have hg:(wr.alloc (.cells zs t)).heap[wr.heap.size]? = some (.cells zs t (0,0)):=heap_alloc_new _ _
  have h2:=setRow_heap (wr.alloc (.cells zs t)) wr.heap.size zs cs t (0,0) hg
  refine ⟨_,rfl,?_,rfl,rfl,rfl,by simp,fun k hk=>?_⟩
  · rw [cell_of_row _ _ 0 cs t (0,0) h2]; exact hc0
  · exact (setRow_other _ _ _ _ (by omega)).trans (Below.heap_alloc _ _ _ hk)
set_option maxRecDepth 100000 in
set_option maxHeartbeats 4000000 in
theorem widthB_any (D:BD) (B:Nat) (c:Nat → Int) (Zl:Nat → Prop) (w:World) (hb:BerthC w B D) (hok:D.ok) (hcl:Closed w Zl) (hZ:Zl B) :
    Calls (patch shutL Tryz.prog) 10 #[ptr B,.agg (intsOf c)] w (RJ (fun v w'=>v = .agg (intsOf (widN D c)) ∧ Below w.heap.size w w') AA):=by
  have HH:Hid (BerthC w B D ∧ D.ok ∧ Closed w Zl ∧ Zl B):=⟨hb,hok,hcl,hZ⟩
  clear hb hok hcl hZ
  have HJ:Hid (∀ u,Below w.heap.size w u → Calls (patch shutL Tryz.prog) 22 #[.pointer (some ⟨B,0,none⟩),.agg (intsOf c)] u (RJ (fun v w'=>JudgePost (fun i=>vdB D i (c i)) c u v w' ∧ Below u.heap.size u w') AA)):=fun u hu=>judgeD_any D B c Zl u (BerthC.below HH.out.1 hu) HH.out.2.1 (Closed_below HH.out.2.2.1 hu) HH.out.2.2.2
  have HWt:Hid (∀ u,Calls (patch shutL Tryz.prog) 23 #[.agg #[.int .i64 (c 0),.int .i64 (c 1),.int .i64 (c 2),.int .i64 (c 3)]] u fun e w'=>e = .returned (.agg (intsOf c)) ∧ Below u.heap.size u w'):=fun u=>wantedOf_any c u
  unfold ptr intsOf
  go_enter (pf Tryz.func10 (by rfl)),Tryz.ntmps10
  go_wp2_with (first
    | (go_at_call 23; refine (HWt.out _).mono ?_; rintro e w1 ⟨rfl,hb1⟩; have HB1:=HidI hb1; clear hb1) | fail)
  obtain ⟨W,hW⟩ : ∃ W,W = ((w.alloc (.cells #[.int .i64 (c 0),.int .i64 (c 1),.int .i64 (c 2),.int .i64 (c 3)] 32)).alloc (.cells #[.int .i64 0,.int .i64 0,.int .i64 0,.int .i64 0] 40)).alloc (.cells #[.int .i64 0,.int .i64 0,.int .i64 0,.int .i64 0] 40):=⟨_,rfl⟩
  have HW:Hid (Below w.heap.size w W ∧ W.heap[w.heap.size + 1]? = some (.cells #[.int .i64 0,.int .i64 0,.int .i64 0,.int .i64 0] 40 (0,0)) ∧ W.heap[w.heap.size + 1 + 1]? = some (.cells #[.int .i64 0,.int .i64 0,.int .i64 0,.int .i64 0] 40 (0,0)) ∧ W.heap.size = w.heap.size + 3 ∧ Below W.heap.size W w1):=by
    rw [← hW] at HB1
    refine ⟨?_,?_,?_,?_,HB1.out⟩
    · rw [hW]; exact ((((Below.refl _ _).alloc (Nat.le_refl _) _).alloc (by simp) _).alloc (by simp; omega) _)
    · rw [hW]; exact (Below.heap_alloc _ _ _ (by simp)).trans (heap_alloc2_new _ _ _)
    · rw [hW]
      have:=heap_alloc_new ((w.alloc (.cells #[.int .i64 (c 0),.int .i64 (c 1),.int .i64 (c 2),.int .i64 (c 3)] 32)).alloc (.cells #[.int .i64 0,.int .i64 0,.int .i64 0,.int .i64 0] 40)) (.cells #[.int .i64 0,.int .i64 0,.int .i64 0,.int .i64 0] 40)
      simpa using this
    · rw [hW]; simp
  clear HB1 hW
  refine (HJ.out w1 (ext_trans HW.out.1 HW.out.2.2.2.2)).mono ?_
  intro e w2 he
  cases e with
  | outgrown=>exact he.elim
  | panicked ch=>exact ⟨rfl,he⟩
  | returned v =>
    obtain ⟨hp,hb2⟩:=he
    obtain ⟨Vl,row,rfl,hr1,hr2,hr3,hr4⟩:=post_cells hp
    unfold sl4
    have H2:Hid (w2.heap[Vl]? = some (.cells row 86 (0,0)) ∧ row.size = 68 ∧ (∀ i,i < 4 → row[17 * i]? = some (.int .i64 (widN D c i))) ∧ (∀ x,x < 68 → ∃ u,row[x]? = some u ∧ u.oneCell' = true) ∧ Below w1.heap.size w1 w2 ∧ w1.heap.size ≤ Vl):=by
      refine ⟨hr1,hr2,hr3,hr4,hb2,?_⟩
      obtain ⟨_,_,hv,hle,_⟩:=hp
      simp only [sl4,Value.slice.injEq,Option.some.injEq,Addr.mk.injEq] at hv
      omega
    clear hp hb2 hr1 hr2 hr3 hr4
    go_wp2_with fail
    have hV:=HW.out.2.2.2
    have s12:=H2.out.2.2.2.2.1.size
    have sW1:=hV.2.size
    have hb12:Below w.heap.size w w2:=ext_trans (ext_trans HW.out.1 hV.2) H2.out.2.2.2.2.1
    have hA:w2.rowIs (w.heap.size + 1 + 1) 40 4 (widK D c 0):=by
      refine ⟨_,((H2.out.2.2.2.2.1.block _ (by omega)).trans (hV.2.block _ (by omega))).trans HW.out.2.2.1,rfl,fun j hj=>?_⟩
      obtain rfl | rfl | rfl | rfl:j = 0 ∨ j = 1 ∨ j = 2 ∨ j = 3:=by omega
      all_goals rfl
    have HB:Hid (Below w.heap.size w w2 ∧ w2.heap[w.heap.size + 1]? = some (.cells #[.int .i64 0,.int .i64 0,.int .i64 0,.int .i64 0] 40 (0,0)) ∧ w.heap.size + 3 ≤ w2.heap.size ∧ w.heap.size + 3 ≤ Vl ∧ Vl < w2.heap.size):=⟨hb12,((H2.out.2.2.2.2.1.block _ (by omega)).trans (hV.2.block _ (by omega))).trans HW.out.2.1,by omega,by have:=H2.out.2.2.2.2.2; omega,(Array.getElem?_eq_some_iff.1 H2.out.1).1⟩
    clear hV s12 sW1 hb12
    go_loopw [13] (fun i wr=>∃ k:Nat,k ≤ 4 ∧ i = .int .i64 k ∧ wr.rowIs (w.heap.size + 1 + 1) 40 4 (widK D c k) ∧ (∀ b,b < w2.heap.size → b ≠ w.heap.size + 1 + 1 → wr.heap[b]? = w2.heap[b]?) ∧ Below w.heap.size w wr ∧ w2.heap.size ≤ wr.heap.size) (fun i _=>4 - (intOf i).toNat)
    case atStart=>exact ⟨0,by omega,rfl,hA,fun _ _ _=>rfl,HB.out.1,Nat.le_refl _⟩
    case round =>
      obtain ⟨k,hk,rfl,hrow,hkp,hb,hsz⟩:=hrel
      have HO:Hid (wr.rowIs (w.heap.size + 1 + 1) 40 4 (widK D c k) ∧ (∀ b,b < w2.heap.size → b ≠ w.heap.size + 1 + 1 → wr.heap[b]? = w2.heap[b]?) ∧ Below w.heap.size w wr ∧ w2.heap.size ≤ wr.heap.size):=⟨hrow,hkp,hb,hsz⟩
      clear hrow hkp hb hsz hA
      by_cases hlt:k < 4
      · have kn:(k:Int) < 4:=by omega
        obtain ⟨cs,hcs⟩ : ∃ cs:List Value,cs = (row.toList.drop (k * 17)).take 17:=⟨_,rfl⟩
        have hcl:cs.length = 17:=by rw [hcs]; have:=H2.out.2.1; simp; omega
        have hcj:∀ j,j < 17 → cs[j]? = row[k * 17 + j]?:=fun j hj=>by rw [hcs,List.getElem?_take,if_pos hj,List.getElem?_drop]; simp
        have hc0:cs.toArray[0]? = some (.int .i64 (widN D c k)):=by
          have:=hcj 0 (by omega)
          rw [Nat.add_zero,Nat.mul_comm,H2.out.2.2.1 k hlt] at this
          simpa using this
        have hrg:wr.rangeAt Vl (k * 17) cs:=fun j v hv=>by
          have hj:j < 17:=by rw [← hcl]; exact (List.getElem?_eq_some_iff.1 hv).1
          rw [hcj j hj] at hv
          have hh:=(HO.out.2.1 Vl HB.out.2.2.2.2 (by have:=HB.out.2.2.2.1; omega)).trans H2.out.1
          simpa [World.cell?,hh] using hv
        have hone:cs.toArray.all (·.oneCell') = true:=by
          rw [Array.all_eq_true']
          intro v hv
          obtain ⟨j,hj⟩:=List.getElem?_of_mem (show v ∈ cs by simpa using hv)
          have hj17:j < 17:=by rw [← hcl]; exact (List.getElem?_eq_some_iff.1 hj).1
          rw [hcj j hj17] at hj
          obtain ⟨u,hu1,hu2⟩:=H2.out.2.2.2.1 (k * 17 + j) (by omega)
          rw [hj] at hu1
          cases hu1
          exact hu2
        have hiL:((patch shutL Tryz.prog).info? 86).map (·.size) = some cs.length:=by rw [hcl]; exact infoVerd
        have hiA:((patch shutL Tryz.prog).info? 86).map (·.size) = some cs.toArray.size:=by rw [List.size_toArray,hcl]; exact infoVerd
        clear hcs hcj
        go_wp2_with (first
          | refine wpList_load_mid rfl 86 _ rfl Vl (k * 17) rfl cs _ hrg ((patch_underlying shutL Tryz.prog 86).trans Tryz.underlying86) rfl hiL ?_
          | (refine wpList_store_row rfl 86 _ _ rfl wr.heap.size cs.toArray rfl rfl 86 _ (heap_alloc_new _ _) hiA (by simp [hcl]) hone ?_; obtain ⟨W3,e3,c3,b3⟩:=st_facts wr _ cs.toArray 86 _ hc0; rw [e3]; have R3:=HO.out.1.of_block (b3.block _ HO.out.1.lt); have q3:=R3.cell hlt; have f3:=R3.frozen k; have H3:Hid (W3.rowIs (w.heap.size + 1 + 1) 40 4 (widK D c k) ∧ Below wr.heap.size wr W3):=⟨R3,b3⟩; clear R3 b3 e3))
        go_roundw
        case rel =>
          have sb:=HB.out
          have so:=HO.out.2.2.2
          have hb3:=H3.out.2
          have s3:=hb3.size
          refine ⟨k + 1,by omega,by go_num,?_,fun b hb hne=>?_,?_,?_⟩
          · exact (H3.out.1.set k _).congr fun j _=>(wid_step j).symm
          · exact (Below.heap_setCell _ _ _ _ hne).trans ((hb3.block b (by omega)).trans (HO.out.2.1 b hb hne))
          · exact (ext_trans HO.out.2.2.1 hb3).setCell (by show w.heap.size ≤ w.heap.size + 1 + 1; omega) _
          · simp; omega
        case measure=>simp [intOf]; omega
      · have:k = 4:=by omega
        subst this
        obtain ⟨vs,hvs⟩ : ∃ vs,vs = intsOf (widN D c):=⟨_,rfl⟩
        have hsz:vs.size = 4:=by rw [hvs]; rfl
        have h1:vs.all (·.oneCell') = true:=by rw [hvs]; simp [intsOf,Value.oneCell']
        have hBv:wr.heap[w.heap.size + 1 + 1]? = some (.cells vs 40 (0,0)):=by rw [hvs]; exact row_wid HO.out.1
        have hR:=(HO.out.2.1 (w.heap.size + 1) (by have:=HB.out.2.2.1; omega) (by omega)).trans HB.out.2.1
        have hi:((patch shutL Tryz.prog).info? 40).map (·.size) = some vs.size:=by rw [hsz]; exact info4
        have HVS:Hid (vs = intsOf (widN D c)):=hvs
        have HI':Hid (Below w.heap.size w wr):=HO.out.2.2.1
        clear hvs HO HH HW
        go_wp2_with (first
          | refine wpList_load_row rfl 40 _ rfl (w.heap.size + 1 + 1) rfl 40 vs (0,0) _ hBv ((patch_underlying shutL Tryz.prog 40).trans Tryz.underlying40) rfl hi ?_
          | refine wpList_store_row rfl 40 _ _ rfl (w.heap.size + 1) vs rfl rfl 40 _ hR hi (by rw [hsz]; rfl) h1 ?_)
        (try simp only [Exit.inBlock,Exit.then])
        refine bodyPost_ret_by (results_cell_row rfl _ _ (w.heap.size + 1) 40 vs (0,0) _ rfl (setRow_heap _ _ _ _ _ _ hR) ((patch_underlying shutL Tryz.prog 40).trans Tryz.underlying40) rfl hi) rfl ?_
        refine ⟨by rw [HVS.out]; rfl,?_⟩
        exact ⟨HI'.out.os,HI'.out.tape,HI'.out.output,by simpa using HI'.out.size,fun k hk=>(setRow_other _ _ _ _ (by omega)).trans (HI'.out.block k hk)⟩
end Go.Proofs.YtojoafcnijajmaaGreatDoor.Z

namespace Go.Proofs.YtojoafcnijajmaaGreatDoor.Z
open Go.RowKit
attribute [local go_sem ↓] Go.wp_at_zero Go.wp_at_succ
attribute [local go_sem] After.cell After.frozen After.const
def ordI (W M:Nat):List Value:=(ordTo W M).map fun m:Nat=>Value.int .i64 (m:Int)
set_option maxRecDepth 100000 in
set_option maxHeartbeats 4000000 in
theorem ordered_any (w:World):Calls (patch shutL Tryz.prog) 74 #[] w fun e w'=>∃ v,e = .returned v ∧ w'.ownsRow w.heap.size 3 1 v (ordTo 5 1).length (ordI 5 1) ∧ Below w.heap.size w w':=by
  obtain ⟨i0,hi,hz0,hz1,hz2⟩:=info_parts Tryz.infoInt
  have hu:=((patch_underlying shutL Tryz.prog 23).trans Tryz.underlying23)
  go_enter (pf Tryz.func74 (by rfl)),Tryz.ntmps74
  go_wp2_with fail
  go_loopw [1,2] (fun v i wr=>∃ W:Nat,1 ≤ W ∧ W ≤ 5 ∧ i = .int .i64 W ∧ wr.ownsRow w.heap.size 3 1 v (ordTo W 1).length (ordI W 1) ∧ Below w.heap.size w wr) (fun _ i _=>5 - (intOf i).toNat)
  case atStart=>exact ⟨1,by omega,by omega,rfl,World.ownsRow_nil _ _ _ _,Below.refl _ _⟩
  case round =>
    obtain ⟨W,hW1,hW5,rfl,hown,hb⟩:=hrel
    have HR:Hid (wr.ownsRow w.heap.size 3 1 u1 (ordTo W 1).length (ordI W 1) ∧ Below w.heap.size w wr):=⟨hown,hb⟩
    clear hown hb
    by_cases hlt:W ≤ 4
    · have hlt':decide ((W:Int) ≤ 4) = true:=decide_eq_true (by omega)
      go_wp2_with fail
      go_loopw [1,3] (fun v i wi=>∃ M:Nat,1 ≤ M ∧ M ≤ 16 ∧ i = .int .i64 M ∧ wi.ownsRow w.heap.size 3 1 v (ordTo W M).length (ordI W M) ∧ Below w.heap.size w wi) (fun _ i _=>16 - (intOf i).toNat)
      case atStart=>exact ⟨1,by omega,by omega,rfl,HR.out.1,HR.out.2⟩
      case round =>
        obtain ⟨M,hM1,hM16,rfl,hown,hb⟩:=hrel
        have HI:Hid (wr.ownsRow w.heap.size 3 1 u1 (ordTo W M).length (ordI W M) ∧ Below w.heap.size w wr):=⟨hown,hb⟩
        have hz:w.heap.size ≤ wr.heap.size:=hb.size
        clear hown hb
        by_cases hM:M ≤ 15
        · have hlen:=ordTo_le (W:=W) (M:=M) (by omega)
          by_cases hp:pop M = W
          · go_wp2_with (first
              | (go_at_call 77; refine (widthR_any M (by omega) _).mono ?_; rintro e w1 ⟨he,hw⟩; rw [hp] at he; obtain rfl:=he; obtain rfl:=hw.symm)
              | (at_builtin; refine wpList_append_own _ rfl _ _ _ rfl w.heap.size 3 i0 _ 1 8 hu hi hz0 hz1 hz2 rfl (by omega) _ (ordTo W M).length (ordI W M) rfl (HI.out.1.alloc _) ⟨wr.heap.size,0,none⟩ 1 1 [.int .i64 M] rfl rfl (cell_one_new _ _ _) (by intro u hu; simp at hu; subst hu; rfl) (by unfold maxLen; omega) (by omega) (by simp; omega) ?_; intro v' w1 hown hgrow _))
            have HO:Hid (w1.ownsRow w.heap.size 3 1 v' (ordTo W (M + 1)).length (ordI W (M + 1)) ∧ Below w.heap.size w w1):=by
              refine ⟨?_,(HI.out.2.alloc (by omega) _).grown hgrow (by simp; omega) (fun q hq=>(HI.out.1.lt q hq).1)⟩
              unfold ordI; rw [ordTo_hit hp (by omega)]
              simpa [ordI] using hown
            clear hown hgrow
            go_wp2_with fail
            go_roundw
            case rel=>exact ⟨M + 1,by omega,by omega,by go_num,HO.out.1,HO.out.2⟩
            case measure=>simp [intOf]; omega
          · have hp':¬ (pop M:Int) = W:=fun h=>hp (by exact_mod_cast h)
            go_wp2_with (go_at_call 77; refine (widthR_any M (by omega) _).mono ?_; rintro e w1 ⟨he,hw⟩; obtain rfl:=he; obtain rfl:=hw.symm)
            go_roundw
            case rel=>exact ⟨M + 1,by omega,by omega,by go_num,by unfold ordI; rw [ordTo_miss hp]; exact HI.out.1,HI.out.2⟩
            case measure=>simp [intOf]; omega
        · have:M = 16:=by omega
          subst this
          go_wp2_with fail
          go_roundw
          case rel=>exact ⟨W + 1,by omega,by omega,by go_num,by unfold ordI; rw [ordTo_next]; exact HI.out.1,HI.out.2⟩
          case measure=>simp [intOf]; omega
    · have:W = 5:=by omega
      subst this
      go_wp2_with fail
      go_ret
      exact ⟨_,rfl,HR.out.1,HR.out.2⟩
end Go.Proofs.YtojoafcnijajmaaGreatDoor.Z
