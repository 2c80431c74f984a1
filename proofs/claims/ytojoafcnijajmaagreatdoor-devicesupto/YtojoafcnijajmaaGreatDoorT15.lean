/- Part 15 of the proof that Devices answers true and leaves its input as it was, for input of bulk at most the bound of its row: XP XC XD XE. -/
import Derived.Test.YtojoafcnijajmaaGreatDoorT14
import Derived.Laws.CopyRow
import Derived.Deep.MidRow
import Derived.Conc.AppendEvents3
import Derived.Conc.WgGenN3
import Derived.Conc.WgGenWait
namespace Go.Proofs.YtojoafcnijajmaaGreatDoor
open Go Go.Conc
section
variable {Q:Program}
theorem seg_storeCells (V o:Nat) (t:TypeId):∀ (vs:List Value) (i:Nat) (cur:Array Value) (w:World) (es:Array Event),w.heap[V]? = some (.cells cur t (0,0)) → o + i + vs.length ≤ cur.size → (∀ v ∈ vs,v.oneCell' = true) →
    ∀ ev ∈ (storeCells ⟨V,o,none⟩ vs i).events Q w es,ev ∈ es ∨ ∃ x,o + i ≤ x ∧ x < o + i + vs.length ∧ ev = ⟨.cell ⟨V,x,none⟩,true,false⟩
  | [],i,cur,w,es,_,_,_=>fun ev h=>.inl (by simpa [storeCells] using h)
  | v :: rest,i,cur,w,es,hg,hl,h1=>fun ev h=>by
    have hi:o + i < cur.size:=by simp at hl; omega
    have hadd:(⟨V,o,none⟩ : Addr).add i = ⟨V,o + i,none⟩:=by unfold Addr.add; split <;> simp_all
    have hcell:w.cell? ⟨V,o + i,none⟩ = some cur[o + i]:=by simp [World.cell?,hg,hi]
    have hfro:w.frozen? ⟨V,o + i,none⟩ = false:=by simp [World.frozen?,hg]
    have hst:(store ((⟨V,o,none⟩ : Addr).add i) v).run Q w = .ok () (w.setRow V (cur.setIfInBounds (o + i) v)):=by
      rw [hadd,run_store Q w _ v _ (h1 v (by simp)),hcell]
      simp [hfro,setCell_eq_setRow w V (o + i) cur t (0,0) v hg]
    have hev:(store ((⟨V,o,none⟩ : Addr).add i) v).events Q w es = es.push ⟨.cell ⟨V,o + i,none⟩,true,false⟩:=by
      rw [hadd,events_store Q w es _ v _ (h1 v (by simp)),hcell]
      simp only [hfro,Bool.false_eq_true,if_false]
      rfl
    simp only [storeCells,Sem.events_bind,hst,Result.evThen_ok,hev] at h
    rcases seg_storeCells V o t rest (i + 1) (cur.setIfInBounds (o + i) v) (w.setRow V (cur.setIfInBounds (o + i) v)) _ (setRow_heap w V cur _ t _ hg) (by simp at hl ⊢; omega) (fun x hx=>h1 x (by simp [hx])) ev h with h | ⟨x,x1,x2,rfl⟩
    · rcases Array.mem_push.1 h with h | rfl
      · exact .inl h
      · exact .inr ⟨o + i,Nat.le_refl _,by simp,rfl⟩
    · exact .inr ⟨x,by omega,by simp; omega,rfl⟩
theorem seg_storeVar (V o:Nat) (t ty:TypeId) (cells cur:Array Value) (w:World) (hg:w.heap[V]? = some (.cells cur t (0,0))) (hl:o + cells.size ≤ cur.size) (hi:(Q.info? ty).map (·.size) = some cells.size) (h1:∀ v ∈ cells.toList,v.oneCell' = true) :
    ∃ u',(storeVar ty ⟨V,o,none⟩ (.agg cells)).run Q w = .ok () u' ∧ u' = w.setRow V (cur.toList.take o ++ cells.toList ++ cur.toList.drop (o + cells.size)).toArray ∧
      ∀ ev ∈ (storeVar ty ⟨V,o,none⟩ (.agg cells)).events Q w #[],∃ x,o ≤ x ∧ x < o + cells.size ∧ ev = ⟨.cell ⟨V,x,none⟩,true,false⟩:=by
  cases hq:Q.info? ty with
  | none=>simp [hq] at hi
  | some i =>
    have hs:cells.size = i.size:=by simp [hq] at hi; omega
    have hr:=run_storeCells_at (P:=Q) V o t cells.toList 0 cur w hg (by simpa using hl) h1
    have he:=seg_storeCells (Q:=Q) V o t cells.toList 0 cur w #[] hg (by simpa using hl) h1
    simp only [Nat.add_zero,Array.length_toList] at hr he
    refine ⟨_,?_,rfl,fun ev hev=>?_⟩
    · simp [storeVar,sizeOf,typeInfo,hq,Value.cells,hs,hr]
    · have:(storeVar ty ⟨V,o,none⟩ (.agg cells)).events Q w #[] = (storeCells ⟨V,o,none⟩ cells.toList 0).events Q w #[]:=by
        simp [storeVar,sizeOf,typeInfo,hq,Value.cells,hs]
      rw [this] at hev
      exact (he ev hev).resolve_left (by simp)
theorem seg_loadVar (a:Addr) (ty:TypeId) (w:World) (v:Value) (d:TypeDesc) (hu:Q.underlying ty = some d) (hd:d.isRow = false) (hc:w.cell? a = some v) :
    (loadVar ty a).run Q w = .ok v w ∧ (loadVar ty a).events Q w #[] = #[⟨.cell a,false,false⟩]:=by
  have hag:(isAgg ty).run Q w = .ok false w:=by
    simp only [isAgg,underlying,Sem.run_bind,run_program,Result.andThen_ok,hu]
    cases d <;> first | rfl | (simp [TypeDesc.isRow] at hd)
  refine ⟨?_,?_⟩
  · simp only [loadVar,Sem.run_bind,hag,Result.andThen_ok,Bool.false_eq_true,if_false]
    simp [hc]
  · simp only [loadVar,Sem.events_bind,hag,Result.evThen_ok,events_isAgg,Bool.false_eq_true,if_false,events_load,hc]
    rfl
end
end Go.Proofs.YtojoafcnijajmaaGreatDoor

namespace Go.Proofs.YtojoafcnijajmaaGreatDoor
open Go Go.Conc Go.ConcN Go.RowKit Go.Conc.Lib Go.ConcR.Gen Go.ConcN.Gen
open Go.ConcR (KK wgBlock WgAt stA smA rd wr mk Payload DC0)
theorem rl_keep {ty:TypeId} {Wg:Nat} {w w₁:World} (_:WgLive ty Wg w) (r:RL ty Wg w w₁):WgLive ty Wg w₁:=r
section
variable {L:WgLink} {P:Program} {Wg:Nat} {b₀:Frame} {a₀:Act} {ops₀:Array Oper} {i₀:Nat} {rest₀:List Nat} {k₀:List Item} {cs:List Frame} {mT:Nat} {g' child:Goroutine}
set_option maxRecDepth 100000 in
set_option maxHeartbeats 8000000 in
theorem addWalk (H:WgLib P L)
    (hT:∀ w,WgLive L.tWg Wg w → Goes P true (RL L.tWg Wg) DC0 (TGo P g' child) mT (G (b₀.at (a₀.put ((ops₀[i₀]?).bind (·.dst)) (.tuple #[])) (.inRegion ops₀ rest₀ :: k₀)) cs) w) (w:World) (hF:WgLive L.tWg Wg w) :
    Goes P true (RL L.tWg Wg) DC0 (TKdS P L.tWg Wg g' child) 40 (G ((base L.add).at ⟨#[.pointer (some ⟨Wg,0,none⟩),.int .i64 1] ++ Array.replicate 115 undef,[]⟩ [.code (body_add L)]) (b₀.at a₀ (.inRegion ops₀ (i₀ :: rest₀) :: k₀) :: cs)) w:=by
  lib_facts
  walk_nrmf addFn
  simp only [body_add,addFn,Option.getD_some]
  u_c stepG_seq rl_keep hF
  u_cond true rl_keep hF
  iterate 2 (u_c stepG_seq rl_keep hF)
  u_reg rl_keep hF
  iterate 2 (u_op rl_keep hF)
  u_c stepG_region_end rl_keep hF
  u_cond false rl_keep hF
  u_c stepG_skip rl_keep hF
  u_c stepG_seq rl_keep hF
  u_reg rl_keep hF
  refine Goes.stop (fun w₁ hF=>?_)
  refine ⟨rfl,_,stepG_mark0 .disable (by simp) rfl rfl (by k_ne) rfl H.f_disable (x_disable_n L) (x_disable_b L) (x_disable_x L) (x_disable_f L),100,?_⟩
  walk_nrm
  u_c stepG_region_end rl_keep hF
  u_reg rl_keep hF
  u_defer rl_keep hF
  u_c stepG_region_end rl_keep hF
  u_c stepG_seq rl_keep hF
  u_reg rl_keep hF
  u_op rl_keep hF
  u_c stepG_region_end rl_keep hF
  iterate 2 (u_c stepG_seq rl_keep hF)
  u_reg rl_keep hF
  u_bub rl_keep hF
  u_c stepG_region_end rl_keep hF
  u_cond false rl_keep hF
  u_c stepG_skip rl_keep hF
  u_c stepG_seq rl_keep hF
  u_reg rl_keep hF
  iterate 6 (u_op rl_keep hF)
  u_call H.f_uAdd (nm_uAdd L) uAddFn rl_keep hF
  u_c stepG_seq rl_keep hF
  u_reg rl_keep hF
  u_op rl_keep hF
  u_c stepG_region_end rl_keep hF
  u_c stepG_seq rl_keep hF
  u_reg rl_keep hF
  iterate 4 (u_op rl_keep hF)
  refine Goes.stop (fun w₂ hF=>?_)
  refine ⟨rfl,fun v hv hw=>?_⟩
  obtain rfl | rfl | rfl | rfl:v = 0 ∨ v = 1 ∨ v = 2 ∨ v = 3:=by omega
  all_goals clear hv
  · replace hw:WgAt L.tWg Wg w₂ 0 0:=by simpa [KK] using hw
    have z:(((0:Nat):Int) + 1) * KK = 4294967296:=by decide
    rw [z]
    have e0:IntKind.u64.wrap (0 + 4294967296) = 4294967296:=by decide
    refine ⟨_,(stepG_add_atomic rfl rfl (by k_ne) rfl H.f_addU64 (x_addU64_n L) (x_addU64_b L) (x_addU64_x L) .u64 (x_addU64_f L) rfl rfl hw.cellSt (hw.thaw 0)).trans (by rw [e0]; rfl),160,?_⟩
    have hF:WgLive L.tWg Wg (w₂.setCell (stA Wg) (.int .u64 4294967296)):=⟨_,_,hw.setSt _⟩
    clear hw z e0
    walk_nrm
    u_op rl_keep hF
    u_c stepG_region_end rl_keep hF
    u_c stepG_ret' rl_keep hF
    u_leave1 H.f_uAdd rl_keep hF
    u_op rl_keep hF
    u_c stepG_region_end rl_keep hF
    iterate 2 (u_c stepG_seq rl_keep hF)
    u_reg rl_keep hF
    iterate 4 (u_op rl_keep hF)
    iterate 2 (u_skip rl_keep hF)
    u_op rl_keep hF
    u_c stepG_region_end rl_keep hF
    u_cond false rl_keep hF
    u_c stepG_skip rl_keep hF
    u_c stepG_seq rl_keep hF
    u_reg rl_keep hF
    iterate 4 (u_op rl_keep hF)
    u_c stepG_region_end rl_keep hF
    u_c stepG_seq rl_keep hF
    u_reg rl_keep hF
    iterate 4 (u_op rl_keep hF)
    u_c stepG_region_end rl_keep hF
    iterate 2 (u_c stepG_seq rl_keep hF)
    u_reg rl_keep hF
    iterate 10 (u_op rl_keep hF)
    u_c stepG_region_end rl_keep hF
    u_cond true rl_keep hF
    u_reg rl_keep hF
    iterate 3 (u_op rl_keep hF)
    u_conv H.underlying_tPU32 H.room_tU32 (WgLive.cell1 hF).choose_spec rl_keep hF
    refine Goes.stop (fun w₃ hF=>.inl ⟨rfl,_,stepG_markAt .read (by simp) rfl rfl (by k_ne) rfl H.f_raceRead (x_raceRead_n L) (x_raceRead_b L) (x_raceRead_x L) (x_raceRead_f L) (ad:=⟨Wg,1,none⟩) (by simp [Act.eval]),100,?_⟩)
    walk_nrm
    u_c stepG_region_end rl_keep hF
    iterate 2 (u_c stepG_seq rl_keep hF)
    u_reg rl_keep hF
    iterate 2 (u_op rl_keep hF)
    u_c stepG_region_end rl_keep hF
    u_cond false rl_keep hF
    u_c stepG_skip rl_keep hF
    iterate 2 (u_c stepG_seq rl_keep hF)
    u_reg rl_keep hF
    iterate 3 (u_op rl_keep hF)
    iterate 2 (u_skip rl_keep hF)
    iterate 2 (u_op rl_keep hF)
    iterate 4 (u_skip rl_keep hF)
    u_op rl_keep hF
    u_c stepG_region_end rl_keep hF
    u_cond false rl_keep hF
    u_c stepG_skip rl_keep hF
    iterate 2 (u_c stepG_seq rl_keep hF)
    u_reg rl_keep hF
    iterate 3 (u_op rl_keep hF)
    iterate 2 (u_skip rl_keep hF)
    u_op rl_keep hF
    u_c stepG_region_end rl_keep hF
    u_cond true rl_keep hF
    u_c stepG_ret' rl_keep hF
    refine Goes.stop (fun w₄ hF=>?_)
    refine ⟨rfl,_,stepG_unwind_entry (v:=.tuple #[]) (evs:=#[mk .enable]) rfl H.f_enable (x_enable_n L) (x_enable_b L) (x_enable_x L) (x_enable_f L) (by simp [Extern.Race.none_]) (by simp [mk]) (by simp [mk]),mT + 1,?_⟩
    u_leave0 H.f_add rl_keep hF
    exact hT _ hF
  · replace hw:WgAt L.tWg Wg w₂ 4294967296 0:=by simpa [KK] using hw
    have z:(((1:Nat):Int) + 1) * KK = 8589934592:=by decide
    rw [z]
    have e0:IntKind.u64.wrap (4294967296 + 4294967296) = 8589934592:=by decide
    have b1:bits .and .u64 8589934592 2147483648 = 0:=by decide
    have b2:bits .and .u64 8589934592 2147483647 = 0:=by decide
    refine ⟨_,(stepG_add_atomic rfl rfl (by k_ne) rfl H.f_addU64 (x_addU64_n L) (x_addU64_b L) (x_addU64_x L) .u64 (x_addU64_f L) rfl rfl hw.cellSt (hw.thaw 0)).trans (by rw [e0]; rfl),160,?_⟩
    have hF:WgLive L.tWg Wg (w₂.setCell (stA Wg) (.int .u64 8589934592)):=⟨_,_,hw.setSt _⟩
    clear hw z e0
    walk_nrm
    u_op rl_keep hF
    u_c stepG_region_end rl_keep hF
    u_c stepG_ret' rl_keep hF
    u_leave1 H.f_uAdd rl_keep hF
    u_op rl_keep hF
    u_c stepG_region_end rl_keep hF
    iterate 2 (u_c stepG_seq rl_keep hF)
    u_reg rl_keep hF
    iterate 4 (u_op rl_keep hF)
    iterate 2 (u_skip rl_keep hF)
    u_op rl_keep hF
    u_c stepG_region_end rl_keep hF
    u_cond false rl_keep hF
    u_c stepG_skip rl_keep hF
    u_c stepG_seq rl_keep hF
    u_reg rl_keep hF
    iterate 4 (u_op rl_keep hF)
    u_c stepG_region_end rl_keep hF
    u_c stepG_seq rl_keep hF
    u_reg rl_keep hF
    iterate 4 (u_op rl_keep hF)
    u_c stepG_region_end rl_keep hF
    iterate 2 (u_c stepG_seq rl_keep hF)
    u_reg rl_keep hF
    iterate 10 (u_op rl_keep hF)
    u_c stepG_region_end rl_keep hF
    u_cond false rl_keep hF
    u_c stepG_skip rl_keep hF
    iterate 2 (u_c stepG_seq rl_keep hF)
    u_reg rl_keep hF
    iterate 2 (u_op rl_keep hF)
    u_c stepG_region_end rl_keep hF
    u_cond false rl_keep hF
    u_c stepG_skip rl_keep hF
    iterate 2 (u_c stepG_seq rl_keep hF)
    u_reg rl_keep hF
    iterate 3 (u_op rl_keep hF)
    iterate 2 (u_skip rl_keep hF)
    iterate 2 (u_op rl_keep hF)
    iterate 4 (u_skip rl_keep hF)
    u_op rl_keep hF
    u_c stepG_region_end rl_keep hF
    u_cond false rl_keep hF
    u_c stepG_skip rl_keep hF
    iterate 2 (u_c stepG_seq rl_keep hF)
    u_reg rl_keep hF
    iterate 3 (u_op rl_keep hF)
    iterate 2 (u_skip rl_keep hF)
    u_op rl_keep hF
    u_c stepG_region_end rl_keep hF
    u_cond true rl_keep hF
    u_c stepG_ret' rl_keep hF
    refine Goes.stop (fun w₄ hF=>?_)
    refine .inr ⟨rfl,_,stepG_unwind_entry (v:=.tuple #[]) (evs:=#[mk .enable]) rfl H.f_enable (x_enable_n L) (x_enable_b L) (x_enable_x L) (x_enable_f L) (by simp [Extern.Race.none_]) (by simp [mk]) (by simp [mk]),mT + 1,?_⟩
    u_leave0 H.f_add rl_keep hF
    exact hT _ hF
  · replace hw:WgAt L.tWg Wg w₂ 8589934592 0:=by simpa [KK] using hw
    have z:(((2:Nat):Int) + 1) * KK = 12884901888:=by decide
    rw [z]
    have e0:IntKind.u64.wrap (8589934592 + 4294967296) = 12884901888:=by decide
    have b1:bits .and .u64 12884901888 2147483648 = 0:=by decide
    have b2:bits .and .u64 12884901888 2147483647 = 0:=by decide
    refine ⟨_,(stepG_add_atomic rfl rfl (by k_ne) rfl H.f_addU64 (x_addU64_n L) (x_addU64_b L) (x_addU64_x L) .u64 (x_addU64_f L) rfl rfl hw.cellSt (hw.thaw 0)).trans (by rw [e0]; rfl),160,?_⟩
    have hF:WgLive L.tWg Wg (w₂.setCell (stA Wg) (.int .u64 12884901888)):=⟨_,_,hw.setSt _⟩
    clear hw z e0
    walk_nrm
    u_op rl_keep hF
    u_c stepG_region_end rl_keep hF
    u_c stepG_ret' rl_keep hF
    u_leave1 H.f_uAdd rl_keep hF
    u_op rl_keep hF
    u_c stepG_region_end rl_keep hF
    iterate 2 (u_c stepG_seq rl_keep hF)
    u_reg rl_keep hF
    iterate 4 (u_op rl_keep hF)
    iterate 2 (u_skip rl_keep hF)
    u_op rl_keep hF
    u_c stepG_region_end rl_keep hF
    u_cond false rl_keep hF
    u_c stepG_skip rl_keep hF
    u_c stepG_seq rl_keep hF
    u_reg rl_keep hF
    iterate 4 (u_op rl_keep hF)
    u_c stepG_region_end rl_keep hF
    u_c stepG_seq rl_keep hF
    u_reg rl_keep hF
    iterate 4 (u_op rl_keep hF)
    u_c stepG_region_end rl_keep hF
    iterate 2 (u_c stepG_seq rl_keep hF)
    u_reg rl_keep hF
    iterate 10 (u_op rl_keep hF)
    u_c stepG_region_end rl_keep hF
    u_cond false rl_keep hF
    u_c stepG_skip rl_keep hF
    iterate 2 (u_c stepG_seq rl_keep hF)
    u_reg rl_keep hF
    iterate 2 (u_op rl_keep hF)
    u_c stepG_region_end rl_keep hF
    u_cond false rl_keep hF
    u_c stepG_skip rl_keep hF
    iterate 2 (u_c stepG_seq rl_keep hF)
    u_reg rl_keep hF
    iterate 3 (u_op rl_keep hF)
    iterate 2 (u_skip rl_keep hF)
    iterate 2 (u_op rl_keep hF)
    iterate 4 (u_skip rl_keep hF)
    u_op rl_keep hF
    u_c stepG_region_end rl_keep hF
    u_cond false rl_keep hF
    u_c stepG_skip rl_keep hF
    iterate 2 (u_c stepG_seq rl_keep hF)
    u_reg rl_keep hF
    iterate 3 (u_op rl_keep hF)
    iterate 2 (u_skip rl_keep hF)
    u_op rl_keep hF
    u_c stepG_region_end rl_keep hF
    u_cond true rl_keep hF
    u_c stepG_ret' rl_keep hF
    refine Goes.stop (fun w₄ hF=>?_)
    refine .inr ⟨rfl,_,stepG_unwind_entry (v:=.tuple #[]) (evs:=#[mk .enable]) rfl H.f_enable (x_enable_n L) (x_enable_b L) (x_enable_x L) (x_enable_f L) (by simp [Extern.Race.none_]) (by simp [mk]) (by simp [mk]),mT + 1,?_⟩
    u_leave0 H.f_add rl_keep hF
    exact hT _ hF
  · replace hw:WgAt L.tWg Wg w₂ 12884901888 0:=by simpa [KK] using hw
    have z:(((3:Nat):Int) + 1) * KK = 17179869184:=by decide
    rw [z]
    have e0:IntKind.u64.wrap (12884901888 + 4294967296) = 17179869184:=by decide
    have b1:bits .and .u64 17179869184 2147483648 = 0:=by decide
    have b2:bits .and .u64 17179869184 2147483647 = 0:=by decide
    refine ⟨_,(stepG_add_atomic rfl rfl (by k_ne) rfl H.f_addU64 (x_addU64_n L) (x_addU64_b L) (x_addU64_x L) .u64 (x_addU64_f L) rfl rfl hw.cellSt (hw.thaw 0)).trans (by rw [e0]; rfl),160,?_⟩
    have hF:WgLive L.tWg Wg (w₂.setCell (stA Wg) (.int .u64 17179869184)):=⟨_,_,hw.setSt _⟩
    clear hw z e0
    walk_nrm
    u_op rl_keep hF
    u_c stepG_region_end rl_keep hF
    u_c stepG_ret' rl_keep hF
    u_leave1 H.f_uAdd rl_keep hF
    u_op rl_keep hF
    u_c stepG_region_end rl_keep hF
    iterate 2 (u_c stepG_seq rl_keep hF)
    u_reg rl_keep hF
    iterate 4 (u_op rl_keep hF)
    iterate 2 (u_skip rl_keep hF)
    u_op rl_keep hF
    u_c stepG_region_end rl_keep hF
    u_cond false rl_keep hF
    u_c stepG_skip rl_keep hF
    u_c stepG_seq rl_keep hF
    u_reg rl_keep hF
    iterate 4 (u_op rl_keep hF)
    u_c stepG_region_end rl_keep hF
    u_c stepG_seq rl_keep hF
    u_reg rl_keep hF
    iterate 4 (u_op rl_keep hF)
    u_c stepG_region_end rl_keep hF
    iterate 2 (u_c stepG_seq rl_keep hF)
    u_reg rl_keep hF
    iterate 10 (u_op rl_keep hF)
    u_c stepG_region_end rl_keep hF
    u_cond false rl_keep hF
    u_c stepG_skip rl_keep hF
    iterate 2 (u_c stepG_seq rl_keep hF)
    u_reg rl_keep hF
    iterate 2 (u_op rl_keep hF)
    u_c stepG_region_end rl_keep hF
    u_cond false rl_keep hF
    u_c stepG_skip rl_keep hF
    iterate 2 (u_c stepG_seq rl_keep hF)
    u_reg rl_keep hF
    iterate 3 (u_op rl_keep hF)
    iterate 2 (u_skip rl_keep hF)
    iterate 2 (u_op rl_keep hF)
    iterate 4 (u_skip rl_keep hF)
    u_op rl_keep hF
    u_c stepG_region_end rl_keep hF
    u_cond false rl_keep hF
    u_c stepG_skip rl_keep hF
    iterate 2 (u_c stepG_seq rl_keep hF)
    u_reg rl_keep hF
    iterate 3 (u_op rl_keep hF)
    iterate 2 (u_skip rl_keep hF)
    u_op rl_keep hF
    u_c stepG_region_end rl_keep hF
    u_cond true rl_keep hF
    u_c stepG_ret' rl_keep hF
    refine Goes.stop (fun w₄ hF=>?_)
    refine .inr ⟨rfl,_,stepG_unwind_entry (v:=.tuple #[]) (evs:=#[mk .enable]) rfl H.f_enable (x_enable_n L) (x_enable_b L) (x_enable_x L) (x_enable_f L) (by simp [Extern.Race.none_]) (by simp [mk]) (by simp [mk]),mT + 1,?_⟩
    u_leave0 H.f_add rl_keep hF
    exact hT _ hF
end
end Go.Proofs.YtojoafcnijajmaaGreatDoor

namespace Go.Proofs.YtojoafcnijajmaaGreatDoor
open Go Go.Conc Go.ConcN Go.RowKit Go.Conc.Lib Go.ConcR.Gen Go.ConcN.Gen
open Go.ConcR (KK wgBlock WgAt stA smA rd wr mk Payload DC0)
def Head (L:WgLink) (Wg:Nat) (c:Frame) (cs:List Frame) (g:Goroutine) (_:World):Prop :=
  ∃ T:Array Value,g = G ((base L.wait).at ⟨T,[]⟩ [.code (L7 L),.inLoop (L7 L),.inBlock 0]) (c :: cs) ∧ T.size = 84 ∧ T[0]? = some (.pointer (some ⟨Wg,0,none⟩))
def Back (P:Program) (ty:TypeId) (Wg:Nat) (gR g:Goroutine):Prop:=∀ w,WgLive ty Wg w → ∃ m,Goes P true (RL ty Wg) DC0 (fun g' _=>g' = gR) m g w
section
variable {L:WgLink} {P:Program} {Wg:Nat} {b₀:Frame} {a₀:Act} {ops₀:Array Oper} {i₀:Nat} {rest₀:List Nat} {k₀:List Item} {cs:List Frame}
set_option maxRecDepth 100000 in
set_option maxHeartbeats 8000000 in
theorem waitStart (H:WgLib P L) (w:World) (hF:WgLive L.tWg Wg w) :
    Goes P true (RL L.tWg Wg) DC0 (TKd P L.tWg Wg (Head L Wg (b₀.at a₀ (.inRegion ops₀ (i₀ :: rest₀) :: k₀)) cs)) 10 (G ((base L.wait).at ⟨#[.pointer (some ⟨Wg,0,none⟩)] ++ Array.replicate 83 undef,[]⟩ [.code (body_wait L)]) (b₀.at a₀ (.inRegion ops₀ (i₀ :: rest₀) :: k₀) :: cs)) w:=by
  lib_facts
  walk_nrmf waitFn
  simp only [body_wait,waitFn,Option.getD_some]
  u_c stepG_seq rl_keep hF
  u_cond true rl_keep hF
  u_reg rl_keep hF
  refine Goes.stop (fun w₁ hF=>?_)
  refine ⟨rfl,_,stepG_mark0 .disable (by simp) rfl rfl (by k_ne) rfl H.f_disable (x_disable_n L) (x_disable_b L) (x_disable_x L) (x_disable_f L),10,?_⟩
  walk_nrm
  u_c stepG_region_end rl_keep hF
  u_c stepG_block rl_keep hF
  u_c stepG_loop rl_keep hF
  exact Goes.stop (fun w₂ h₂=>⟨_,rfl,by simp,by simp⟩)
set_option maxRecDepth 100000 in
set_option maxHeartbeats 16000000 in
theorem waitRound (H:WgLib P L) (g:Goroutine) (w:World) (hF:WgLive L.tWg Wg w) (h:Head L Wg (b₀.at a₀ (.inRegion ops₀ (i₀ :: rest₀) :: k₀)) cs g w) :
    ∃ m,Goes P true (RL L.tWg Wg) DC0 (TW1 P L.tWg Wg (Back P L.tWg Wg (G (b₀.at (a₀.put ((ops₀[i₀]?).bind (·.dst)) (.tuple #[])) (.inRegion ops₀ rest₀ :: k₀)) cs)) (Head L Wg (b₀.at a₀ (.inRegion ops₀ (i₀ :: rest₀) :: k₀)) cs)) m g w:=by
  lib_facts
  obtain ⟨T,rfl,hT84,t0⟩:=h
  obtain ⟨v0,v1,v2,v3,v4,v5,v6,v7,v8,v9,v10,v11,v12,v13,v14,v15,v16,v17,v18,v19,v20,v21,v22,v23,v24,v25,v26,v27,v28,v29,v30,v31,v32,v33,v34,v35,v36,v37,v38,v39,v40,v41,v42,v43,v44,v45,v46,v47,v48,v49,v50,v51,v52,v53,v54,v55,v56,v57,v58,v59,v60,v61,v62,v63,v64,v65,v66,v67,v68,v69,v70,v71,v72,v73,v74,v75,v76,v77,v78,v79,v80,v81,v82,v83,rfl⟩:=array84 T hT84
  simp only [List.getElem?_toArray,List.getElem?_cons_zero,Option.some.injEq] at t0
  subst t0
  refine ⟨60,?_⟩
  simp only [L7,body_wait,waitFn,Option.getD_some]
  u_c stepG_block rl_keep hF
  u_c stepG_seq rl_keep hF
  u_reg rl_keep hF
  iterate 3 (u_op rl_keep hF)
  u_call H.f_uLoad (nm_uLoad L) uLoadFn rl_keep hF
  u_c stepG_seq rl_keep hF
  u_reg rl_keep hF
  u_op rl_keep hF
  u_c stepG_region_end rl_keep hF
  u_c stepG_seq rl_keep hF
  u_reg rl_keep hF
  iterate 3 (u_op rl_keep hF)
  refine Goes.stop (fun w₁ hF=>?_)
  refine ⟨rfl,fun v hv hw=>?_⟩
  rcases Nat.eq_zero_or_pos v with rfl | hvp
  · replace hw:WgAt L.tWg Wg w₁ 0 0:=by simpa using hw
    refine ⟨_,stepG_load_atomic (v:=0) rfl rfl (by k_ne) rfl H.f_loadU64 (x_loadU64_n L) (x_loadU64_b L) (x_loadU64_x L) .u64 (x_loadU64_f L) rfl hw.cellSt,fun _=>⟨100,?_⟩,fun h=>absurd rfl h⟩
    clear hw
    walk_nrm
    u_op rl_keep hF
    u_c stepG_region_end rl_keep hF
    u_c stepG_ret' rl_keep hF
    u_leave1 H.f_uLoad rl_keep hF
    u_op rl_keep hF
    u_c stepG_region_end rl_keep hF
    u_c stepG_seq rl_keep hF
    u_reg rl_keep hF
    iterate 4 (u_op rl_keep hF)
    u_c stepG_region_end rl_keep hF
    u_c stepG_seq rl_keep hF
    u_reg rl_keep hF
    iterate 4 (u_op rl_keep hF)
    u_c stepG_region_end rl_keep hF
    iterate 2 (u_c stepG_seq rl_keep hF)
    u_reg rl_keep hF
    iterate 2 (u_op rl_keep hF)
    u_c stepG_region_end rl_keep hF
    u_cond true rl_keep hF
    u_c stepG_seq rl_keep hF
    u_cond true rl_keep hF
    u_c stepG_seq rl_keep hF
    u_reg rl_keep hF
    refine Goes.stop (fun w₅ hF=>?_)
    refine ⟨rfl,_,stepG_mark0 .enable (by simp) rfl rfl (by k_ne) rfl H.f_enable (x_enable_n L) (x_enable_b L) (x_enable_x L) (x_enable_f L),30,?_⟩
    walk_nrm
    u_c stepG_region_end rl_keep hF
    u_reg rl_keep hF
    u_op rl_keep hF
    u_conv H.underlying_tWgP H.room_tWg (WgLive.cell0 hF).choose_spec rl_keep hF
    refine Goes.stop (fun w₆ hF=>?_)
    refine ⟨rfl,_,?_,stepG_markAt .acquire (by simp) rfl rfl (by k_ne) rfl H.f_acquire (x_acquire_n L) (x_acquire_b L) (x_acquire_x L) (x_acquire_f L) (by simp [Act.eval,stA])⟩
    intro w₇ hF
    refine ⟨60,?_⟩
    walk_nrm
    u_c stepG_region_end rl_keep hF
    iterate 2 (u_c stepG_seq rl_keep hF)
    u_reg rl_keep hF
    iterate 8 (u_op rl_keep hF)
    iterate 2 (u_skip rl_keep hF)
    u_op rl_keep hF
    u_c stepG_region_end rl_keep hF
    u_cond false rl_keep hF
    u_c stepG_skip rl_keep hF
    u_c stepG_ret' rl_keep hF
    u_leave0 H.f_wait rl_keep hF
    exact Goes.stop (fun _ _=>rfl)
  · obtain ⟨S,hS⟩ : ∃ S:Int,(v:Int) * KK = S:=⟨_,rfl⟩
    have a1:S / 4294967296 = (v:Int):=by rw [← hS]; simp only [KK]; omega
    have b1:bits .and .u64 S 2147483648 = 0:=by rw [← hS]; have:=st_flag v 0 (by omega) (by omega); simpa [KK] using this
    have b2:bits .and .u64 S 2147483647 = 0:=by rw [← hS]; have:=st_waiters v 0 (by omega) (by omega); simpa [KK] using this
    have c1:IntKind.i32.wrap (v:Int) = (v:Int):=by rw [IntKind.wrap_i32]; omega
    have w1:IntKind.u64.wrap (S + 1) = S + 1:=by rw [IntKind.wrap_u64,← hS]; simp only [KK]; omega
    have q3:decide ((v:Int) < 0) = false:=decide_eq_false (by omega)
    have q4:decide (0 < (v:Int)) = true:=decide_eq_true (by omega)
    have q5:((v:Int) == 0) = false:=by simp; omega
    have q6:decide ((v:Int) = 0) = false:=decide_eq_false (by omega)
    rw [hS] at hw
    refine ⟨_,stepG_load_atomic (v:=S) rfl rfl (by k_ne) rfl H.f_loadU64 (x_loadU64_n L) (x_loadU64_b L) (x_loadU64_x L) .u64 (x_loadU64_f L) rfl hw.cellSt,fun h0=>absurd h0 (by omega),fun _=>⟨100,?_⟩⟩
    clear hw
    walk_nrm
    u_op rl_keep hF
    u_c stepG_region_end rl_keep hF
    u_c stepG_ret' rl_keep hF
    u_leave1 H.f_uLoad rl_keep hF
    u_op rl_keep hF
    u_c stepG_region_end rl_keep hF
    u_c stepG_seq rl_keep hF
    u_reg rl_keep hF
    iterate 4 (u_op rl_keep hF)
    u_c stepG_region_end rl_keep hF
    u_c stepG_seq rl_keep hF
    u_reg rl_keep hF
    iterate 4 (u_op rl_keep hF)
    u_c stepG_region_end rl_keep hF
    iterate 2 (u_c stepG_seq rl_keep hF)
    u_reg rl_keep hF
    iterate 2 (u_op rl_keep hF)
    u_c stepG_region_end rl_keep hF
    u_cnd false rl_keep hF
    u_c stepG_skip rl_keep hF
    u_c stepG_seq rl_keep hF
    u_reg rl_keep hF
    iterate 6 (u_op rl_keep hF)
    u_call H.f_uCas (nm_uCas L) uCasFn rl_keep hF
    u_c stepG_seq rl_keep hF
    u_reg rl_keep hF
    u_op rl_keep hF
    u_c stepG_region_end rl_keep hF
    u_c stepG_seq rl_keep hF
    u_reg rl_keep hF
    iterate 5 (u_op rl_keep hF)
    refine Goes.stop (fun w₂ hF=>?_)
    refine ⟨rfl,fun v' hv' hw=>⟨fun e=>?_,fun e=>?_⟩⟩
    · subst e
      rw [hS] at hw ⊢
      refine ⟨_,(stepG_cas_hit (v:=S) (n:=S + 1) rfl rfl (by k_ne) rfl H.f_casU64 (x_casU64_n L) (x_casU64_b L) (x_casU64_x L) .u64 (x_casU64_f L) rfl rfl rfl hw.cellSt (hw.thaw 0)).trans (by rfl),100,?_⟩
      have hF:WgLive L.tWg Wg (w₂.setCell (stA Wg) (.int .u64 (S + 1))):=⟨_,_,hw.setSt _⟩
      clear hw
      walk_nrm
      u_op rl_keep hF
      u_c stepG_region_end rl_keep hF
      u_c stepG_ret' rl_keep hF
      u_leave1 H.f_uCas rl_keep hF
      u_c stepG_region_end rl_keep hF
      u_cond true rl_keep hF
      iterate 2 (u_c stepG_seq rl_keep hF)
      u_reg rl_keep hF
      iterate 4 (u_op rl_keep hF)
      u_c stepG_region_end rl_keep hF
      u_cond true rl_keep hF
      u_reg rl_keep hF
      iterate 3 (u_op rl_keep hF)
      u_conv H.underlying_tPU32 H.room_tU32 (WgLive.cell1 hF).choose_spec rl_keep hF
      refine Goes.stop (fun w₃ hF=>?_)
      refine ⟨rfl,_,stepG_markAt .write (by simp) rfl rfl (by k_ne) rfl H.f_raceWrite (x_raceWrite_n L) (x_raceWrite_b L) (x_raceWrite_x L) (x_raceWrite_f L) (ad:=⟨Wg,1,none⟩) (by simp [Act.eval]),?_⟩
      walk_nrm
      u_c stepG_region_end rl_keep hF
      u_c stepG_seq rl_keep hF
      u_reg rl_keep hF
      u_op rl_keep hF
      u_c stepG_region_end rl_keep hF
      iterate 2 (u_c stepG_seq rl_keep hF)
      u_reg rl_keep hF
      iterate 4 (u_op rl_keep hF)
      u_skip rl_keep hF
      u_op rl_keep hF
      u_c stepG_region_end rl_keep hF
      u_cond false rl_keep hF
      u_c stepG_skip rl_keep hF
      u_c stepG_seq rl_keep hF
      u_reg rl_keep hF
      iterate 4 (u_op rl_keep hF)
      refine Goes.stop (fun w₃ hF=>?_)
      refine ⟨rfl,rfl,fun ⟨st,hw⟩=>stepG_semacquire_wait rfl rfl rfl H.f_semacquire (x_semacquire_n L) (x_semacquire_b L) (x_semacquire_x L) (x_semacquire_f L) (by simp [Act.eval,smA]) hw.cellSm,fun hf=>?_⟩
      refine ⟨_,(stepG_semacquire (n:=1) rfl rfl (by k_ne) rfl H.f_semacquire (x_semacquire_n L) (x_semacquire_b L) (x_semacquire_x L) (x_semacquire_f L) (by simp [Act.eval,smA]) hf.cellSm (by k_ne) (hf.thaw 1)).trans (by rfl),60,?_⟩
      have hF:WgLive L.tWg Wg (w₃.setCell (smA Wg) (.int .u32 0)):=⟨_,_,hf.setSm 0⟩
      clear hf
      walk_nrm
      u_c stepG_region_end rl_keep hF
      u_c stepG_seq rl_keep hF
      u_reg rl_keep hF
      iterate 3 (u_op rl_keep hF)
      u_call H.f_uLoad (nm_uLoad L) uLoadFn rl_keep hF
      u_c stepG_seq rl_keep hF
      u_reg rl_keep hF
      u_op rl_keep hF
      u_c stepG_region_end rl_keep hF
      u_c stepG_seq rl_keep hF
      u_reg rl_keep hF
      iterate 3 (u_op rl_keep hF)
      refine Goes.stop (fun w₄ hF=>?_)
      refine ⟨rfl,fun hw=>⟨_,stepG_load_atomic (v:=0) rfl rfl (by k_ne) rfl H.f_loadU64 (x_loadU64_n L) (x_loadU64_b L) (x_loadU64_x L) .u64 (x_loadU64_f L) rfl hw.cellSt,60,?_⟩⟩
      clear hw
      walk_nrm
      u_op rl_keep hF
      u_c stepG_region_end rl_keep hF
      u_c stepG_ret' rl_keep hF
      u_leave1 H.f_uLoad rl_keep hF
      iterate 2 (u_op rl_keep hF)
      u_c stepG_region_end rl_keep hF
      u_c stepG_seq rl_keep hF
      u_cond true rl_keep hF
      u_c stepG_seq rl_keep hF
      u_reg rl_keep hF
      refine Goes.stop (fun w₅ hF=>?_)
      refine ⟨rfl,_,stepG_mark0 .enable (by simp) rfl rfl (by k_ne) rfl H.f_enable (x_enable_n L) (x_enable_b L) (x_enable_x L) (x_enable_f L),30,?_⟩
      walk_nrm
      u_c stepG_region_end rl_keep hF
      u_reg rl_keep hF
      u_op rl_keep hF
      u_conv H.underlying_tWgP H.room_tWg (WgLive.cell0 hF).choose_spec rl_keep hF
      refine Goes.stop (fun w₆ hF=>?_)
      refine ⟨rfl,_,?_,stepG_markAt .acquire (by simp) rfl rfl (by k_ne) rfl H.f_acquire (x_acquire_n L) (x_acquire_b L) (x_acquire_x L) (x_acquire_f L) (by simp [Act.eval,stA])⟩
      intro w₇ hF
      refine ⟨60,?_⟩
      walk_nrm
      u_c stepG_region_end rl_keep hF
      iterate 2 (u_c stepG_seq rl_keep hF)
      u_reg rl_keep hF
      u_op rl_keep hF
      u_c stepG_region_end rl_keep hF
      u_cond false rl_keep hF
      u_c stepG_skip rl_keep hF
      u_c stepG_ret' rl_keep hF
      u_leave0 H.f_wait rl_keep hF
      exact Goes.stop (fun _ _=>rfl)
    · refine ⟨_,stepG_cas_miss (v:=(v':Int) * KK) (old:=S) (n:=S + 1) rfl rfl (by k_ne) rfl H.f_casU64 (x_casU64_n L) (x_casU64_b L) (x_casU64_x L) .u64 (x_casU64_f L) rfl rfl rfl hw.cellSt (hw.thaw 0) (by rw [← hS]; simp only [KK]; omega),60,?_⟩
      clear hw
      walk_nrm
      u_op rl_keep hF
      u_c stepG_region_end rl_keep hF
      u_c stepG_ret' rl_keep hF
      u_leave1 H.f_uCas rl_keep hF
      u_c stepG_region_end rl_keep hF
      u_cond false rl_keep hF
      u_c stepG_skip rl_keep hF
      u_c stepG_inBlock rl_keep hF
      u_c stepG_inLoop rl_keep hF
      exact Goes.stop (fun w₃ h₃=>⟨_,rfl,by simp,by simp⟩)
end
end Go.Proofs.YtojoafcnijajmaaGreatDoor

namespace Go.Proofs.YtojoafcnijajmaaGreatDoor
open Go Go.Conc Go.ConcN Go.RowKit Go.Conc.Lib Go.ConcR.Gen Go.ConcN.Gen
open Go.ConcR (KK wgBlock WgAt stA smA rd wr mk Payload DC0)
section
variable {L:WgLink} {P:Program} {Wg:Nat} {c:Frame} {cs:List Frame}
set_option maxRecDepth 100000 in
set_option maxHeartbeats 8000000 in
theorem doneTo (H:WgLib P L):∃ gX gY gZ:Goroutine,
    (∀ w,WgLive L.tWg Wg w → Goes P false (RL L.tWg Wg) DC0 (fun g _=>g = gX) 60 (G ((baseD L.done).at ⟨#[.pointer (some ⟨Wg,0,none⟩),undef,undef,undef],[]⟩ [.code (body_done L)]) (c :: cs)) w) ∧
    (∀ w,gX.status = .running ∧ stepG P false gX w = .go gY w #[mk (.releaseMerge (stA Wg))]) ∧ (∀ w,WgLive L.tWg Wg w → Goes P false (RL L.tWg Wg) DC0 (fun g _=>g = gZ) 60 gY w) ∧ ∀ w,∃ g',stepG P false gZ w = .go g' w #[mk .disable]:=by
  lib_facts
  apply Exists.intro
  apply Exists.intro
  apply Exists.intro
  refine ⟨fun w hF=>?_,fun w=>?_,fun w hF=>?_,fun w=>?_⟩
  · simp only [body_done,doneFn,Option.getD_some]
    u_reg rl_keep hF
    u_op rl_keep hF
    u_call H.f_add (nm_add L) addFn rl_keep hF
    u_c stepG_seq rl_keep hF
    u_cond true rl_keep hF
    iterate 2 (u_c stepG_seq rl_keep hF)
    u_reg rl_keep hF
    iterate 2 (u_op rl_keep hF)
    u_c stepG_region_end rl_keep hF
    u_cond true rl_keep hF
    u_reg rl_keep hF
    u_op rl_keep hF
    u_conv H.underlying_tWgP H.room_tWg (WgLive.cell0 hF).choose_spec rl_keep hF
    exact Goes.stop (fun _ _=>rfl)
  · exact ⟨rfl,stepG_markAt .releaseMerge (by simp) rfl rfl (by k_ne) rfl H.f_relMerge (x_relMerge_n L) (x_relMerge_b L) (x_relMerge_x L) (x_relMerge_f L) (by simp [Act.eval,stA])⟩
  · walk_nrm
    u_c stepG_region_end rl_keep hF
    u_c stepG_seq rl_keep hF
    u_reg rl_keep hF
    exact Goes.stop (fun _ _=>rfl)
  · exact ⟨_,stepG_mark0 .disable (by simp) rfl rfl (by k_ne) rfl H.f_disable (x_disable_n L) (x_disable_b L) (x_disable_x L) (x_disable_f L)⟩
end
section
variable {P:Program} {main:Bool} {R:World → World → Prop} {D:World → World → Array Event → Prop} {Stop:Goroutine → World → Prop}
theorem stops {Stop':Goroutine → World → Prop} (hs:∀ g w w₁,R w w₁ → Stop g w₁ → Stop' g w₁):∀ (n:Nat) (g:Goroutine) (w:World),Goes P main R D Stop n g w → Goes P main R D Stop' n g w
  | 0,_,_,h=>fun w₁ r=>hs _ _ _ r (h w₁ r)
  | n + 1,_,_,h=>by
    rcases h with h | ⟨hr,h⟩
    · exact .inl fun w₁ r=>hs _ _ _ r (h w₁ r)
    · refine .inr ⟨hr,fun w₁ r=>?_⟩
      obtain ⟨g',w',es,e,hd,hg⟩:=goes_elim (h w₁ r)
      rw [e]
      exact ⟨hd,stops hs n g' w' hg⟩
theorem along {ty:TypeId} {Wg:Nat} {gX:Goroutine} {w:World} (hl:WgLive ty Wg w) (hR:R w w) (hS:∀ g,Stop g w → ∃ g' w' es,stepG P main g w = .go g' w' es ∧ es ≠ #[]) :
    ∀ (n m:Nat) (g:Goroutine),Goes P main (RL ty Wg) DC0 (fun g _=>g = gX) n g w → Goes P main R D Stop m g w → ∃ m',Goes P main R D Stop m' gX w:=by
  intro n
  induction n with
  | zero=>intro m g h k; exact ⟨m,by rw [← h w hl]; exact k⟩
  | succ n ih =>
    intro m g h k
    rcases Goes.cases h with h | ⟨n',hn,h⟩
    · exact ⟨m,by rw [← h w hl]; exact k⟩
    · obtain rfl:n = n':=by omega
      obtain ⟨g',w',es,e1,⟨ew,ee⟩,h2⟩:=h w hl
      rw [ew] at e1 h2
      rcases Goes.cases k with k5 | ⟨m',rfl,k5⟩
      · obtain ⟨_,_,_,e2,e3⟩:=hS g (k5 w hR)
        rw [e1] at e2
        cases e2
        exact absurd ee e3
      · obtain ⟨_,_,_,e2,_,k2⟩:=k5 w hR
        rw [e1] at e2
        cases e2
        exact ih m' g' h2 k2
end
section
variable [Payload] {L:WgLink} {P:Program} {Wg V nV off:Nat} {vs:List Value} {c:Frame} {cs:List Frame}
theorem workerDone (H:WgLib P L) (hcm:c.mode = .returning) {qt:Nat} (hT:QuitsD P qt 0 (G c cs)) (w:World) (hF:WgLive L.tWg Wg w) :
    Goes P false (RL L.tWg Wg) DC0 (TR0 P L.tWg Wg V nV off vs) 60 (G ((baseD L.done).at ⟨#[.pointer (some ⟨Wg,0,none⟩),undef,undef,undef],[]⟩ [.code (body_done L)]) (c :: cs)) w:=by
  obtain ⟨gX,gY,gZ,hX,hY,hZ,hD⟩:=doneTo (Wg:=Wg) (c:=c) (cs:=cs) H
  have hrw:∀ w,RW L.tWg Wg V nV 0 off w w:=fun w=>⟨fun _ _ _ _=>rfl,id,id,rfl⟩
  refine stops (Stop:=fun g _=>g = gX) ?_ _ _ _ (hX w hF)
  · rintro g _ w₁ hF rfl
    replace hF:WgLive L.tWg Wg w₁:=hF
    refine ⟨(hY w₁).1,fun hh=>⟨gY,(hY w₁).2,?_⟩⟩
    have hk:=doneN H (Own:=fun _ _=>False) (Rd:=fun _ _=>False) (C:=V) (n:=nV) (Low:=0) (k:=off + 1) (val:=vs.headD undef) hcm hT w₁ ⟨hF,hh⟩
    have hS:∀ g,AtR0 P L.tWg Wg V nV 0 (off + 1) (vs.headD undef) g w₁ → ∃ g' w' es,stepG P false g w₁ = .go g' w' es ∧ es ≠ #[]:=fun g h=>⟨_,_,_,h.2.2.choose_spec.1,by simp⟩
    obtain ⟨m',h1⟩:=along hF (hrw w₁) hS _ _ _ (hX w₁ hF) hk
    rcases Goes.cases h1 with h5 | ⟨m₂,rfl,h5⟩
    · obtain ⟨_,_,g',e,hm⟩:=h5 w₁ (hrw w₁)
      rw [(hY w₁).2] at e
      cases e
      exact hm
    · exfalso
      obtain ⟨_,_,_,e2,_,k2⟩:=h5 w₁ (hrw w₁)
      rw [(hY w₁).2] at e2
      cases e2
      obtain ⟨m₃,h3⟩:=along hF (hrw w₁) hS _ _ _ (hZ w₁ hF) k2
      obtain ⟨g',e⟩:=hD w₁
      rcases Goes.cases h3 with h6 | ⟨m₄,rfl,h6⟩
      · obtain ⟨_,_,g',e',hm⟩:=h6 w₁ (hrw w₁)
        rw [e] at e'
        simp [mk] at e'
      · obtain ⟨_,_,_,e2,d2,_⟩:=h6 w₁ (hrw w₁)
        rw [e] at e2
        cases e2
        exact (d2.2 (mk .disable) (by simp)).2.1 rfl
end
end Go.Proofs.YtojoafcnijajmaaGreatDoor
