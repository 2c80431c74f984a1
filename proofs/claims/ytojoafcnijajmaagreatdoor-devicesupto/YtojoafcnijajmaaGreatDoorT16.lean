/- Part 16 of the proof that Devices answers true and leaves its input as it was, for input of bulk at most the bound of its row: XF XR XS XK. -/
import Derived.Test.YtojoafcnijajmaaGreatDoorChecked
import Derived.Test.YtojoafcnijajmaaGreatDoorT15
import Derived.Test.YtojoafcnijajmaaGreatDoorT14
import Derived.Test.YtojoafcnijajmaaGreatDoorT8
namespace Go.Proofs.YtojoafcnijajmaaGreatDoor
abbrev link:Go.Conc.Lib.WgLink:={ add:=51,done:=53,wait:=58,relMerge:=112,disable:=113,enable:=114,inBubble:=115,associate:=116,fatal:=117,uOr:=118,uAdd:=119,raceRead:=120,uLoad:=121,uStore:=122,disassociate:=123,semrelease:=124,acquire:=133,isAssociated:=134,uCas:=135,raceWrite:=136,semacquire:=137,orU64:=186,addU64:=187,loadU64:=188,storeU64:=189,casU64:=197,tWgP:=173,tUP:=175,tAssoc:=176,tWg:=118,tAU:=115,tU64:=113,tUint:=180,tU32:=116,tPU32:=181,tPAU:=246,tPU64:=248,tNoCopy:=110,tANoCopy:=111,tAlign64:=112 }
theorem wgLib:Go.Conc.Lib.WgLib Tryz.prog link :=
  ⟨Tryz.func51,Tryz.func53,Tryz.func58,Tryz.func112,Tryz.func113,Tryz.func114,Tryz.func115,Tryz.func116,Tryz.func117,Tryz.func118,Tryz.func119,Tryz.func120,Tryz.func121,Tryz.func122,Tryz.func123,Tryz.func124,Tryz.func133,Tryz.func134,Tryz.func135,Tryz.func136,Tryz.func137,Tryz.func186,Tryz.func187,Tryz.func188,Tryz.func189,Tryz.func197,Tryz.underlying173,Tryz.runUnderlying173,Tryz.sizeOf173,Tryz.isAgg173,Tryz.zeroValue173,Tryz.underlying175,Tryz.runUnderlying175,Tryz.sizeOf175,Tryz.isAgg175,Tryz.zeroValue175,Tryz.underlying176,Tryz.runUnderlying176,Tryz.sizeOf176,Tryz.isAgg176,Tryz.zeroValue176,Tryz.underlying118,Tryz.runUnderlying118,Tryz.sizeOf118,Tryz.isAgg118,Tryz.zeroValue118,Tryz.underlying115,Tryz.runUnderlying115,Tryz.sizeOf115,Tryz.isAgg115,Tryz.zeroValue115,Tryz.underlying113,Tryz.runUnderlying113,Tryz.sizeOf113,Tryz.isAgg113,Tryz.zeroValue113,Tryz.underlying180,Tryz.runUnderlying180,Tryz.sizeOf180,Tryz.isAgg180,Tryz.zeroValue180,Tryz.underlying116,Tryz.runUnderlying116,Tryz.sizeOf116,Tryz.isAgg116,Tryz.zeroValue116,Tryz.underlying181,Tryz.runUnderlying181,Tryz.sizeOf181,Tryz.isAgg181,Tryz.zeroValue181,Tryz.underlying246,Tryz.runUnderlying246,Tryz.sizeOf246,Tryz.isAgg246,Tryz.zeroValue246,Tryz.underlying248,Tryz.runUnderlying248,Tryz.sizeOf248,Tryz.isAgg248,Tryz.zeroValue248,Tryz.underlying0,Tryz.runUnderlying0,Tryz.sizeOf0,Tryz.isAgg0,Tryz.zeroValue0,Tryz.underlying3,Tryz.runUnderlying3,Tryz.sizeOf3,Tryz.isAgg3,Tryz.zeroValue3,Tryz.underlying4,Tryz.runUnderlying4,Tryz.sizeOf4,Tryz.isAgg4,Tryz.zeroValue4,Tryz.underlying9,Tryz.runUnderlying9,Tryz.sizeOf9,Tryz.isAgg9,Tryz.zeroValue9,Tryz.underlying20,Tryz.runUnderlying20,Tryz.sizeOf20,Tryz.isAgg20,Tryz.zeroValue20,Tryz.underlying21,Tryz.runUnderlying21,Tryz.sizeOf21,Tryz.isAgg21,Tryz.zeroValue21,(by kernel_rfl),(by kernel_rfl)⟩
end Go.Proofs.YtojoafcnijajmaaGreatDoor

namespace Go.Proofs.YtojoafcnijajmaaGreatDoor
open Go Go.Conc Go.ConcN Go.RowKit Go.Conc.Lib
open Go.ConcR (KK wgBlock WgAt stA smA rd wr mk Payload DC0)
def flatC (v:Value):Prop:=(∃ k n,v = .int k n) ∨ ∃ b,v = .bool b
theorem flat_eq {p:Nat → Nat → Prop} {v u:Value} (h:VR p v u) (hv:flatC v):u = v:=by
  rcases hv with ⟨k,n,rfl⟩ | ⟨b,rfl⟩
  · exact h.int_inv
  · exact h.bool_inv
theorem flats_eq {p:Nat → Nat → Prop} {xs ys:Array Value} (h:AllR (VR p) xs ys) (hv:∀ v ∈ xs.toList,flatC v):ys = xs:=by
  refine Array.ext h.1.symm fun i h1 h2=>?_
  exact flat_eq (h.2 i xs[i] ys[i] (Array.getElem?_eq_getElem h2) (Array.getElem?_eq_getElem h1)) (hv _ (by simp))
theorem flat_cell {v:Value} (h:flatC v):v.oneCell' = true:=by
  rcases h with ⟨k,n,rfl⟩ | ⟨b,rfl⟩ <;> rfl
theorem at_self {a:Frame} (hm:a.mode = .run) (hr:a.roundOf = none):a.at ⟨a.tmps,a.defers⟩ a.todo = a:=by
  obtain ⟨fn,tmps,todo,defers,mode,kind,ro⟩:=a
  simp only at hm hr
  subst hm hr
  rfl
theorem gor_at {a:Frame} {cs:List Frame} {todo:List Item} {ds:List Deferred} (hm:a.mode = .run) (hr:a.roundOf = none) (ht:a.todo = todo) (hd:a.defers = ds):gor a cs = G (a.at ⟨a.tmps,ds⟩ todo) cs:=by
  subst ht hd
  rw [at_self hm hr]
  rfl
theorem pworker:(patch shutL Tryz.prog).funcs[52]? = some (workerS Tryz.f52):=by
  have:=patch_func shutL Tryz.prog Tryz.func52
  rw [this]
  rfl
theorem last67 {pre rest:List Nat} (h:Last (pre ++ 6 :: rest)):rest = [7]:=by
  obtain ⟨p,e,h0,h6,h7⟩:=h
  rcases List.append_eq_append_iff.1 e with ⟨a,e1,e2⟩ | ⟨a,e1,e2⟩
  · cases a with
    | nil=>simpa using e2
    | cons y a =>
      simp only [List.cons_append,List.cons.injEq] at e2
      obtain ⟨rfl,_⟩:=e2
      exact absurd (by rw [e1]; simp) h6
  · cases a with
    | nil=>simpa using e2.symm
    | cons y a =>
      simp only [List.cons_append,List.cons.injEq] at e2
      obtain ⟨rfl,e2⟩:=e2
      cases a with
      | nil=>simp at e2
      | cons z a=>simp at e2
theorem last7 {pre rest:List Nat} (h:Last (pre ++ 7 :: rest)):6 ∉ (7 :: rest):=by
  obtain ⟨p,e,h0,h6,h7⟩:=h
  rcases List.append_eq_append_iff.1 e with ⟨a,e1,e2⟩ | ⟨a,e1,e2⟩
  · cases a with
    | nil=>simp at e2
    | cons y a =>
      simp only [List.cons_append,List.cons.injEq] at e2
      obtain ⟨rfl,_⟩:=e2
      exact absurd (by rw [e1]; simp) h7
  · cases a with
    | nil=>simp at e2
    | cons y a =>
      simp only [List.cons_append,List.cons.injEq] at e2
      obtain ⟨rfl,e2⟩:=e2
      cases a with
      | nil =>
        simp only [List.nil_append,List.cons.injEq] at e2
        obtain ⟨-,rfl⟩:=e2
        simp
      | cons z a=>simp at e2
def flagOp (n:Int) (d:Option Nat) (o:Oper):Prop:=o.op = flag n ∧ o.dst = d ∧ o.guard = none
theorem opH {i:Nat} {n:Int} {d:Option Nat} (h:(((H3 Tryz.f52)[i]?).map fun o=>(isFlag n o.op,o.dst == d,o.guard.isNone)) = some (true,true,true)):∃ o,(H3 Tryz.f52)[i]? = some o ∧ flagOp n d o:=by
  obtain ⟨o,h1,h2⟩:=Option.map_eq_some_iff.1 h
  simp only [Prod.mk.injEq,beq_iff_eq,Option.isNone_iff_eq_none] at h2
  refine ⟨o,h1,?_,h2.2.1,h2.2.2⟩
  have h3:=h2.1
  unfold isFlag at h3
  split at h3
  · rename_i m hm
    rw [hm]
    simp only [beq_iff_eq] at h3
    rw [h3]
    rfl
  · cases h3
theorem op0:∃ o,(H3 Tryz.f52)[0]? = some o ∧ flagOp 0 (some 19) o:=opH (by kernel_rfl)
theorem op6:∃ o,(H3 Tryz.f52)[6]? = some o ∧ flagOp 6 (some 25) o:=opH (by kernel_rfl)
theorem op7:∃ o,(H3 Tryz.f52)[7]? = some o ∧ flagOp 7 none o:=opH (by kernel_rfl)
theorem opsOther:((List.range 8).all fun i=>i == 0 || i == 6 || i == 7 || ((H3 Tryz.f52)[i]?.map markW) == some false) = true:=by kernel_rfl
theorem noMark (O:Array Oper) (h:O.all (fun o=>!markW o) = true) {i:Nat} {o:Oper} (ho:O[i]? = some o):markW o = false:=by
  have:=Array.all_eq_true'.1 h o (Array.mem_of_getElem? ho)
  simpa using this
theorem noMark1:(O1 Tryz.f52).all (fun o=>!markW o) = true:=by kernel_rfl
theorem noMark2:(O2 Tryz.f52).all (fun o=>!markW o) = true:=by kernel_rfl
theorem wanted_free {o:Oper} (h:o.guard = none) (y:Nat → Option Bool):Region.wanted o y = true:=by simp [Region.wanted,h]
theorem run_flag {P:Program} {o:Oper} {n:Int} {d:Option Nat} (h:flagOp n d o) (a:Act) (w:World):(execOp a.eval o).run P w = .ok (.value (.int .i64 (160160160160000 + n))) w:=by
  unfold execOp
  simp [h.1,flag,Act.eval]
def WOut (vals:Array Value) (r:Int) (v:Value) (_:World):Prop:=v = .tuple #[.agg vals,.int .i64 r,.int .i64 160160160160006]
theorem tree_go {P:Program} {R:Value → World → Prop} {a a':Frame} {fs fs':List Frame} {w w':World} {es:Array Event} (h:Tree P R a fs w) (hm:a.mode = .run) (hs:stepG P true (gor a (fs ++ [stop P])) (taped w w.tape) = .go (gor a' (fs' ++ [stop P])) w' es):Tree P R a' fs' w':=by
  rcases h.step with h1 | ⟨_,h1⟩
  · rw [h1.1] at hm; cases hm
  · obtain ⟨a2,fs2,w2,es2,e1,_,e3⟩:=h1 w.tape
    rw [hs] at e1
    simp only [GStep.go.injEq,Goroutine.mk.injEq] at e1
    obtain ⟨⟨rfl,e4,_⟩,rfl,_⟩:=e1
    rw [List.append_cancel_right e4]
    exact e3
theorem tree_flag {P:Program} {R:Value → World → Prop} {a:Frame} {w:World} {ops:Array Oper} {i:Nat} {rest:List Nat} {k:List Item} {o:Oper} {n:Int} {d:Option Nat} (h:Tree P R a [] w) (hm:a.mode = .run) (hr:a.roundOf = none) (hd:a.defers = []) (hk:a.kind ≠ .early)
    (ht:a.todo = .inRegion ops (i :: rest) :: k) (ho:ops[i]? = some o) (hf:flagOp n d o):Tree P R (a.at ((Act.mk a.tmps []).put d (.int .i64 (160160160160000 + n))) (.inRegion ops rest :: k)) [] w:=by
  have hs:∃ es,stepG P true (gor a ([] ++ [stop P])) (taped w w.tape) = .go (gor (a.at ((Act.mk a.tmps []).put d (.int .i64 (160160160160000 + n))) (.inRegion ops rest :: k)) ([] ++ [stop P])) (taped w w.tape) es:=by
    rw [gor_at hm hr ht hd,stepG_value ho (wanted_free hf.2.2 _) hk (run_flag hf _ _),hf.2.1]
    exact ⟨_,rfl⟩
  obtain ⟨es,hs⟩:=hs
  exact tree_go h hm hs
theorem tree_end {R:Value → World → Prop} {a:Frame} {w:World} {ops:Array Oper} (h:Tree (patch shutL Tryz.prog) R a [] w) (hm:a.mode = .run) (hr:a.roundOf = none) (hd:a.defers = []) (hf:a.fn = 52) (ht:a.todo = [.inRegion ops []]) :
    ∃ w',R (.tuple #[a.tmps.getD 24 undef,a.tmps.getD 20 undef,a.tmps.getD 25 undef]) w':=by
  have h1:Tree (patch shutL Tryz.prog) R (a.at ⟨a.tmps,[]⟩ []) [] w:=tree_go (w':=taped w w.tape) h hm (by rw [gor_at hm hr ht hd,stepG_region_end]; rfl)
  have h2:Tree (patch shutL Tryz.prog) R { a.at ⟨a.tmps,[]⟩ [] with mode:=.returning } [] w:=tree_go (w':=taped w w.tape) h1 rfl (by
    show stepG (patch shutL Tryz.prog) true (G (a.at ⟨a.tmps,[]⟩ []) ([] ++ [stop (patch shutL Tryz.prog)])) _ = _
    rw [stepG_end]; rfl)
  rcases h2.step with ⟨_,_,_,fn,T,v,e1,e2,e3⟩ | ⟨h3,_⟩
  · have e1':(patch shutL Tryz.prog).funcs[a.fn]? = some fn:=e1
    rw [hf,pworker] at e1'
    cases e1'
    rw [results_tmp3 (t:=24) (u:=20) (v:=25) (by kernel_rfl)] at e2
    cases e2
    exact ⟨_,e3⟩
  · exact absurd ⟨rfl,rfl⟩ h3
theorem leaf6 {vals:Array Value} {r:Int} {a:Frame} {w:World} (h:Tree (patch shutL Tryz.prog) (WOut vals r) a [] w) (hm:a.mode = .run) (hr:a.roundOf = none) (hd:a.defers = []) (hk:a.kind ≠ .early) (hf:a.fn = 52) (ht:a.todo = [.inRegion (H3 Tryz.f52) [6,7]]) :
    a.tmps.getD 24 undef = .agg vals ∧ a.tmps.getD 20 undef = .int .i64 r:=by
  obtain ⟨o,e1,e2⟩:=op6
  obtain ⟨o',f1,f2⟩:=op7
  have h1:=tree_flag h hm hr hd hk ht e1 e2
  have h2:=tree_flag h1 rfl rfl rfl hk rfl f1 f2
  obtain ⟨w',h3⟩:=tree_end h2 rfl rfl rfl hf rfl
  unfold WOut at h3
  simp only [Value.tuple.injEq] at h3
  have h3':=congrArg Array.toList h3
  simp only [List.cons.injEq,and_true,Act.put,Frame.at] at h3'
  obtain ⟨e3,e4,_⟩:=h3'
  rw [getD_set_ne (by decide)] at e3 e4
  exact ⟨e3,e4⟩
end Go.Proofs.YtojoafcnijajmaaGreatDoor

namespace Go.Proofs.YtojoafcnijajmaaGreatDoor
open Go Go.Conc Go.ConcN Go.RowKit Go.Conc.Lib
open Go.ConcR (KK wgBlock WgAt stA smA rd wr mk Payload DC0)
def sl4 (V:Nat):Value:=.slice (some ⟨V,0,none⟩) 4 4
def ptr (b:Nat):Value:=.pointer (some ⟨b,0,none⟩)
def IvW (VV V:Nat) (u:World) (M:Nat → Prop):Prop:=VV < u.heap.size ∧ ¬ M VV ∧ u.cell? ⟨VV,0,none⟩ = some (sl4 V)
theorem ivW_rely {K:Nat → Prop} {VV V:Nat} (hK:K VV) (u u₁:World) (M:Nat → Prop) (h:IvW VV V u M) (r:Rely K M u u₁):IvW VV V u₁ M :=
  ⟨Nat.lt_of_lt_of_le h.1 r.size,h.2.1,by rw [← h.2.2]; exact cell_of_block (r.keep VV (.inr hK) h.1) 0⟩
theorem ivW_does {K:Nat → Prop} {VV V:Nat} (u u':World) (M:Nat → Prop) (es:Array Event) (h:IvW VV V u M) (d:Does K M u u' es):IvW VV V u' (Grow M u u') :=
  ⟨Nat.lt_of_lt_of_le h.1 d.size,fun hg=>hg.elim h.2.1 fun x=>by have:=h.1; omega,by rw [← h.2.2]; exact cell_of_block (d.keep VV h.1 h.2.1) 0⟩
section
variable {C:Cfg} {p:Nat → Nat → Prop}
theorem FR.fill {P:Program} {a b:Frame} {ops:Array Oper} {i d:Nat} {rest:List Nat} {k:List Item} {v u:Value} {ds:List Deferred} (h:FR C P p a b) (hm:a.mode = .run) (hf:a.fn = C.root) (hd:C.pv d = true) (hdr:d ≠ C.rt) (ht:a.todo = .inRegion ops (i :: rest) :: k) (hds:b.defers = ds)
    (hs:C.okF (.inRegion ops rest :: k) (b.tmps.setIfInBounds d u)) :
    FR C P p (a.at ((Act.mk a.tmps []).put (some d) v) (.inRegion ops rest :: k)) (b.at ((Act.mk b.tmps ds).put (some d) u) ((.inRegion ops rest :: k).map (sgI C))):=by
  obtain ⟨fn,tmps,todo,defers,mode,kind,ro⟩:=a
  obtain ⟨fn',tmps',todo',defers',mode',kind',ro'⟩:=b
  obtain ⟨h1,h2,h3,h4,h5,h6,h7,h8,h9,h10⟩:=h
  simp only at hm hf ht h1 h2 h3 h4 h5 h6 h8 h9 h10 hds hs
  simp only [Frame.mk.injEq] at h7
  obtain ⟨rfl,-,rfl,-,rfl,-,rfl⟩:=h7
  subst hm ht h4 h5 h6 hds
  obtain ⟨hx,hk⟩:=h3.cons
  refine ⟨h1,⟨fun j=>?_,by simpa [Frame.at,Act.put] using h2.size⟩,plainTodo.of hx hk,rfl,rfl,rfl,rfl,fun e=>?_,fun _=>hs,h10⟩
  · simp only [Frame.at,Act.put]
    by_cases hj:d = j
    · subst hj; exact .inl ⟨hf,hd⟩
    · rw [getD_set_ne hj,getD_set_ne hj]; exact h2.get j
  · simp only [Frame.at,Act.put]
    rw [getD_set_ne hdr]
    exact h8 e
end
theorem fn_worker:Tryz.prog.funcs[52]? = some Tryz.f52:=Tryz.func52
def botOf (n:Nat):Frame:={ (default:Frame) with fn:=n,defers:=[],mode:=.panicking [goexitEntry] }
theorem quitsTail {b:Frame} (hf:b.fn = 52) (hk:b.kind = .deferred) (T:Array Value):QuitsD Tryz.prog 2 0 (G { b.at ⟨T,[]⟩ [] with mode:=.returning } [botOf Tryz.prog.funcs.size]):=by
  refine QuitsD.ctl (g':=G (botOf Tryz.prog.funcs.size) []) rfl (fun w=>?_) ?_
  · have e1:Func.results Tryz.f52 = #[]:=by kernel_rfl
    have hr:(results Tryz.f52 T).runT Tryz.prog w #[] = (.ok (.tuple #[]) w,#[]):=by rw [Sem.runT_eq,results_none e1,events_results_none e1]
    simp only [G,stepG,unwind,Frame.at,hf,fn_worker,hr,doReturn,hk,botOf,goexitEntry,GStep.after]
    simp [seen]
  refine QuitsD.ctl (g':={ G (botOf Tryz.prog.funcs.size) [] with status:=.finished }) rfl (fun w=>?_) ⟨rfl,rfl⟩
  simp [G,stepG,unwind,botOf,goexitEntry,Frame.catches]
  rfl
theorem marks_in {i:Nat} {o:Oper} (ho:(H3 Tryz.f52)[i]? = some o) (hm:markW o = true):i = 0 ∨ i = 6 ∨ i = 7:=by
  have hi:i < 8:=by rw [← size3]; exact (Array.getElem?_eq_some_iff.1 ho).1
  have:=List.all_eq_true.1 opsOther i (List.mem_range.2 hi)
  rw [ho] at this
  simp only [Option.map_some,hm,Bool.or_eq_true,beq_iff_eq] at this
  rcases this with ((h | h) | h) | h
  · exact .inl h
  · exact .inr (.inl h)
  · exact .inr (.inr h)
  · cases h
theorem sg0 {o:Oper} (h:flagOp 0 (some 19) o):sgW o = { o with op:=.load 82 (.tmp 4) }:=by
  have e:markW o = true:=by simp [markW,h.2.2,h.1,isFlag,flag]
  unfold sgW
  rw [if_pos e,h.1]
  rfl
theorem sg6 {o:Oper} (h:flagOp 6 (some 25) o):sgW o = { o with op:=.indexAddr 82 (.tmp 19) (.tmp 20) }:=by
  have e:markW o = true:=by simp [markW,h.2.2,h.1,isFlag,flag]
  unfold sgW
  rw [if_pos e,h.1]
  rfl
theorem sg7 {o:Oper} (h:flagOp 7 none o):sgW o = { o with op:=.store 86 (.tmp 25) (.tmp 24) }:=by
  have e:markW o = true:=by simp [markW,h.2.2,h.1,isFlag,flag]
  unfold sgW
  rw [if_pos e,h.1]
  rfl
theorem marked_worker {y0 y4 sl:Value} {p:Nat → Nat → Prop} {a b:Frame} {as₀ bs₀:List Frame} (hm:a.mode = .run) (hk:Marked (cfgW Tryz.f52 y0 y4 sl) a) (hl:Live (cfgW Tryz.f52 y0 y4 sl) (patch shutL Tryz.prog) p a as₀ b bs₀) :
    as₀ = [] ∧ bs₀ = [] ∧ a.fn = 52 ∧ a.roundOf = none ∧ a.defers = [] ∧ a.kind = .normal ∧ b.defers = [dcall 53 #[y0]] ∧ b.kind = .deferred ∧ b.mode = .run ∧ b.roundOf = none ∧ b.fn = 52 ∧
      b.tmps.getD 4 undef = y4 ∧ b.tmps.size = 26 ∧
      ∃ rest pre,((a.todo = [.inRegion (H3 Tryz.f52) (0 :: rest)] ∧ Last (pre ++ 0 :: rest) ∧ 6 ∈ rest) ∨ (a.todo = [.inRegion (H3 Tryz.f52) (6 :: rest)] ∧ rest = [7] ∧ b.tmps.getD 19 undef = sl)) ∧ b.todo = a.todo.map (sgI (cfgW Tryz.f52 y0 y4 sl)):=by
  obtain ⟨ops,i,rest,k,o,htd,ho,hwt,hmk⟩:=hk
  have hpl:=hl.fr.plain
  rw [htd] at hpl
  have hall:ops.all (okOp (cfgW Tryz.f52 y0 y4 sl) (patch shutL Tryz.prog) a.fn) = true:=hpl.cons.1
  have hop:=okOp.parts (Array.all_eq_true'.1 hall o (Array.mem_of_getElem? ho))
  have hfn:a.fn = 52:=hop.2.1 hmk
  have has:as₀ = []:=by
    apply Classical.byContradiction
    intro hne
    have:=(hl.deep.1 hne).2.2.1
    rw [hfn] at this
    exact absurd this (of_decide_eq_true (show decide (¬ 52 ∈ fnsW) = true by kernel_rfl))
  subst has
  have hbs:bs₀ = []:=by
    cases bs₀ with
    | nil=>rfl
    | cons x xs=>exact hl.cs.elim
  subst hbs
  obtain ⟨hd,hkd,_⟩:=hl.deep.2 rfl
  have hsame:=hl.fr.same
  have hbt:b.todo = a.todo.map (sgI (cfgW Tryz.f52 y0 y4 sl)):=hl.fr.todo
  have hsh:okW Tryz.f52 y0 y4 sl a.todo b.tmps:=hl.fr.shape hfn
  refine ⟨rfl,rfl,hfn,hl.fr.ra,hl.fr.da,hl.fr.ka,hd,hkd,hl.fr.mode.trans hm,by rw [hsame]; exact hl.fr.ra,hl.fr.fn.trans hfn,hsh.1.2.2,hsh.1.1,?_⟩
  rw [htd] at hsh
  obtain ⟨_,h | h | ⟨l,h⟩ | h | h | ⟨l,h⟩ | h | ⟨l,pre,h,h1,h2,h3⟩⟩:=hsh
  · cases h
  · cases h
  · simp only [List.cons.injEq,Item.inRegion.injEq] at h
    obtain ⟨⟨rfl,rfl⟩,rfl⟩:=h
    have hmk':markW o = true:=hmk
    rw [noMark _ noMark1 ho] at hmk'
    cases hmk'
  · cases h
  · cases h
  · simp only [List.cons.injEq,Item.inRegion.injEq] at h
    obtain ⟨⟨rfl,rfl⟩,rfl⟩:=h
    have hmk':markW o = true:=hmk
    rw [noMark _ noMark2 ho] at hmk'
    cases hmk'
  · cases h
  · simp only [List.cons.injEq,Item.inRegion.injEq] at h
    obtain ⟨⟨rfl,rfl⟩,rfl⟩:=h
    rcases marks_in ho hmk with rfl | rfl | rfl
    · exact ⟨rest,pre,.inl ⟨htd,h1,(List.mem_cons.1 h2).resolve_left (by decide)⟩,hbt⟩
    · have hr:=last67 h1
      subst hr
      exact ⟨[7],pre,.inr ⟨htd,rfl,h3 (by decide)⟩,hbt⟩
    · exact absurd h2 (last7 h1)
end Go.Proofs.YtojoafcnijajmaaGreatDoor

namespace Go.Proofs.YtojoafcnijajmaaGreatDoor
open Go.RowKit
theorem funcs_size:Tryz.prog.funcs.size = 417:=by kernel_rfl
theorem pal (L:List Nat):(patch L Tryz.prog).funcs[417]? = some (alarm 34 "alarm"):=by have h:=patch_alarm L Tryz.prog; rw [funcs_size] at h; exact h
theorem pal2 (L:List Nat):(patch L Tryz.prog).funcs[418]? = some (alarmBox 40 "alarm2"):=by have h:=patch_alarm2 L Tryz.prog; rw [funcs_size] at h; exact h
theorem run_panic (P:Program) (t:TypeId) (v:Value) (w:World):Sem.run P (Instr.panic (.iface t v)) w = .halt (.panic (.iface t v)) w:=by simp [Instr.panic,goPanic]
def arg0 (x:Array Value):Value:=x.getD 0 undef
def raised (t:TypeId) (v:Value):List PanicEntry:=[{ v:=.iface t v,recovered:=false }]
theorem alarm_any (L:List Nat) (x:Array Value) (w:World):Calls (patch L Tryz.prog) 417 x w fun e w'=>e = .panicked (raised 34 (arg0 x)) ∧ w' = w:=by
  have hp:=run_panic (patch L Tryz.prog)
  obtain ⟨l⟩:=x
  rcases l with _ | ⟨v,_ | ⟨u,l⟩⟩
  · refine calls_of_wp (pal L) rfl ?_
    simp only [alarm,opOf]
    go_wp2_with fail
    all_goals exact ⟨rfl,rfl,rfl⟩
  · refine calls_of_wp (pal L) rfl ?_
    simp only [alarm,opOf]
    go_wp2_with fail
    all_goals exact ⟨rfl,rfl,rfl⟩
  · refine calls_of_wp (pal L) rfl ?_
    simp only [alarm,opOf]
    have e:2 - (Array.mk (v :: u :: l)).size = 0:=by simp
    rw [e]
    simp only [Array.replicate_zero,Array.append_empty]
    go_wp2_with fail
    all_goals exact ⟨rfl,rfl,rfl⟩
theorem run_box (P:Program) (t:TypeId) (v:Value) (w:World):Sem.run P (Instr.box t v) w = .ok (.pointer (some ⟨w.heap.size,0,none⟩)) (w.alloc (.cells v.cells t)):=by
  simp [Instr.box,newVar,newRow,newObj,Sem.run]
theorem alarmBox_any (L:List Nat) (x:Array Value) (w:World):Calls (patch L Tryz.prog) 418 x w fun e w'=>e = .panicked (raised 40 (.pointer (some ⟨w.heap.size,0,none⟩))) ∧ w' = w.alloc (.cells (arg0 x).cells 40):=by
  have hp:=run_panic (patch L Tryz.prog)
  obtain ⟨l⟩:=x
  rcases l with _ | ⟨v,_ | ⟨u,_ | ⟨t,l⟩⟩⟩
  · refine calls_of_wp (pal2 L) rfl ?_
    simp only [alarmBox,opOf]
    go_wp2_with fail
    all_goals exact ⟨rfl,rfl,rfl⟩
  · refine calls_of_wp (pal2 L) rfl ?_
    simp only [alarmBox,opOf]
    go_wp2_with fail
    all_goals first | exact ⟨rfl,rfl,rfl⟩ | (refine ⟨rfl,rfl,?_⟩; cases v <;> first | rfl | (exfalso; simp_all))
  · refine calls_of_wp (pal2 L) rfl ?_
    simp only [alarmBox,opOf]
    go_wp2_with fail
    all_goals first | exact ⟨rfl,rfl,rfl⟩ | (refine ⟨rfl,rfl,?_⟩; cases v <;> first | rfl | (exfalso; simp_all))
  · refine calls_of_wp (pal2 L) rfl ?_
    simp only [alarmBox,opOf]
    have e:3 - (Array.mk (v :: u :: t :: l)).size = 0:=by simp
    rw [e]
    simp only [Array.replicate_zero,Array.append_empty]
    go_wp2_with fail
    all_goals first | exact ⟨rfl,rfl,rfl⟩ | (refine ⟨rfl,rfl,?_⟩; cases v <;> first | rfl | (exfalso; simp_all))
end Go.Proofs.YtojoafcnijajmaaGreatDoor
