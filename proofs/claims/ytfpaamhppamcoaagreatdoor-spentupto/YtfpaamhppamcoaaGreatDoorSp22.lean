/- Part 22 of the proof. -/
import Derived.Test.YtfpaamhppamcoaaGreatDoorSp21
import Derived.Laws.CopyRow
import Derived.Deep.MidRow
import Derived.Conc.AppendEvents3
import Derived.Conc.WgGenN3
import Derived.Conc.WgGenWait
set_option linter.all false
set_option maxRecDepth 100000
set_option maxHeartbeats 60000000
namespace Go.Proofs.YtfpaamhppamcoaaGreatDoor
open Go.Proofs.Tryz
section
open Go Go.Conc
theorem cfgW_ok (b y4 sl:Value):j6 (ou f69 b y4 sl) where
 idle o h:=by
  have a:gI o=false:=h;show sgW o=o
  unfold sgW;rw[a];rfl
 dst o:=(eY o).1
 after o:=(eY o).2.1
 guard o:=(eY o).2.2
 free o h:=by
  have a:gI o=true:=h;simp only[gI,ZQ,Option.isNone_iff_eq_none]at a;exact a.1
 clos x e y h c:=okW_clos h c
 pop ops i rest k y d hm h hy:=okW_pop hm h hy
theorem pbW (a y4 sl):∀g∈fnsW,PB (ou f69 a y4 sl) (patch ae prog) prog g:=
 all_cons ⟨_,_,pf func80 (by rfl),by kernel_rfl,rfl,func80,by kernel_rfl⟩<|
 all_cons ⟨_,_,pf func134 (by rfl),by kernel_rfl,rfl,func134,by kernel_rfl⟩<|
 all_cons ⟨_,_,pf func83 (by rfl),by kernel_rfl,rfl,func83,by kernel_rfl⟩<|
 all_cons ⟨_,_,pf func135 (by rfl),by kernel_rfl,rfl,func135,by kernel_rfl⟩<|
 all_cons ⟨_,_,pf func136 (by rfl),by kernel_rfl,rfl,func136,by kernel_rfl⟩<|
 all_cons ⟨_,_,pf func169 (by rfl),by kernel_rfl,rfl,func169,by kernel_rfl⟩<|
 all_cons ⟨_,_,pf func170 (by rfl),by kernel_rfl,rfl,func170,by kernel_rfl⟩<|
 all_cons ⟨_,_,pf func81 (by rfl),by kernel_rfl,rfl,func81,by kernel_rfl⟩<|
 all_cons ⟨_,_,pf func131 (by rfl),by kernel_rfl,rfl,func131,by kernel_rfl⟩<|
 all_cons ⟨_,_,pf func132 (by rfl),by kernel_rfl,rfl,func132,by kernel_rfl⟩<|
 all_cons ⟨_,_,pf func72 (by rfl),by kernel_rfl,rfl,func72,by kernel_rfl⟩<|
 all_cons ⟨_,_,pf func117 (by rfl),by kernel_rfl,rfl,func117,by kernel_rfl⟩<|
 all_cons ⟨_,_,pf func129 (by rfl),by kernel_rfl,rfl,func129,by kernel_rfl⟩<|
 all_cons ⟨_,_,pf func166 (by rfl),by kernel_rfl,rfl,func166,by kernel_rfl⟩<|
 all_cons ⟨_,_,pf func71 (by rfl),by kernel_rfl,rfl,func71,by kernel_rfl⟩<|
 all_cons ⟨_,_,pf func116 (by rfl),by kernel_rfl,rfl,func116,by kernel_rfl⟩<|
 all_cons ⟨_,_,pf func48 (by rfl),by kernel_rfl,rfl,func48,by kernel_rfl⟩<|
 all_cons ⟨_,_,pf func77 (by rfl),by kernel_rfl,rfl,func77,by kernel_rfl⟩<|
 all_cons ⟨_,_,pf func78 (by rfl),by kernel_rfl,rfl,func78,by kernel_rfl⟩<|
 all_cons ⟨_,_,pf func128 (by rfl),by kernel_rfl,rfl,func128,by kernel_rfl⟩<|
 all_cons ⟨_,_,pf func130 (by rfl),by kernel_rfl,rfl,func130,by kernel_rfl⟩<|
 all_cons ⟨_,_,pf func127 (by rfl),by kernel_rfl,rfl,func127,by kernel_rfl⟩<|
 all_cons ⟨_,_,pf func157 (by rfl),by kernel_rfl,rfl,func157,by kernel_rfl⟩<|
 all_cons ⟨_,_,pf func76 (by rfl),by kernel_rfl,rfl,func76,by kernel_rfl⟩<|
 all_cons ⟨_,_,pf func126 (by rfl),by kernel_rfl,rfl,func126,by kernel_rfl⟩<|
 all_cons ⟨_,_,pf func73 (by rfl),by kernel_rfl,rfl,func73,by kernel_rfl⟩<|
 all_cons ⟨_,_,pf func118 (by rfl),by kernel_rfl,rfl,func118,by kernel_rfl⟩<|
 all_cons ⟨_,_,pf func119 (by rfl),by kernel_rfl,rfl,func119,by kernel_rfl⟩<|
 all_cons ⟨_,_,pf func163 (by rfl),by kernel_rfl,rfl,func163,by kernel_rfl⟩<|
 all_cons ⟨_,_,pf func192 (by rfl),by kernel_rfl,rfl,func192,by kernel_rfl⟩<|
 all_cons ⟨_,_,pf func214 (by rfl),by kernel_rfl,rfl,func214,by kernel_rfl⟩<|
 all_cons ⟨_,_,pf func215 (by rfl),by kernel_rfl,rfl,func215,by kernel_rfl⟩<|
 all_cons ⟨_,_,pf func120 (by rfl),by kernel_rfl,rfl,func120,by kernel_rfl⟩<|
 all_cons ⟨_,_,pf func164 (by rfl),by kernel_rfl,rfl,func164,by kernel_rfl⟩<|
 all_nil
theorem plainW (b y4 sl):aH (ou f69 b y4 sl) (patch ae prog) prog:=
 aH.of (cfgW_ok b y4 sl) extCmp fU.nil dw.nil (λg a=>by
  have h:(dS.all λg=>fnsW.contains g)=true:=by kernel_rfl
  have:=ZU.1 h g a;exact List.mem_of_elem_eq_true this) fnsW (λg=>⟨.inl,λh=>h.elim id λh=>by cases h⟩) (λg a=>by cases a) (λg a e=>by
  subst e;exact absurd a (of_decide_eq_true (show decide (¬69∈fnsW)=true by kernel_rfl))) (pbW b y4 sl) (λg a=>by cases a)
section
variable {Q:Program}
theorem jE (V o)(t):∀(vs:List Value) (i:Nat) (cur:Array Value) (w:World) (es:Array Event),w.heap[V]? =some (.cells cur t (0,0))->o+i+vs.length<=cur.size->(∀v∈vs,v.oneCell'=true)->
 ∀c∈(storeCells ⟨V,o,none⟩ vs i).events Q w es,c∈es\/∃x,o+i<=x/\x<o+i+vs.length/\c=⟨.cell ⟨V,x,none⟩,true,false⟩
 |[],i,cur,w,es,_,_,_=>λc h=>.inl (by simpa[storeCells] using h)
 |v::rest,i,cur,w,es,d,hl,g=>λc h=>by
  have j:o+i<cur.size:=by simp at hl;omega
  have b:(⟨V,o,none⟩:Addr).add i=⟨V,o+i,none⟩:=by unfold Addr.add;split<;>simp_all
  have hcell:w.cell? ⟨V,o+i,none⟩=some cur[o+i]:=by simp[World.cell?,d,j]
  have a:w.frozen? ⟨V,o+i,none⟩=false:=by simp[World.frozen?,d]
  have e:(store ((⟨V,o,none⟩:Addr).add i) v).run Q w=.ok () (w.setRow V (cur.setIfInBounds (o+i) v)):=by
   rw[b,run_store Q w _ v _ (g v (by simp)),hcell];simp[a,setCell_eq_setRow w V (o+i) cur t (0,0) v d]
  have f:(store ((⟨V,o,none⟩:Addr).add i) v).events Q w es=es.push ⟨.cell ⟨V,o+i,none⟩,true,false⟩:=by
   rw[b,events_store Q w es _ v _ (g v (by simp)),hcell];simp only[a,Z0,if_false];rfl
  simp only[storeCells,Sem.events_bind,e,Result.evThen_ok,f]at h;rcases jE V o t rest (i+1) (cur.setIfInBounds (o+i) v) (w.setRow V (cur.setIfInBounds (o+i) v)) _ (setRow_heap w V cur _ t _ d) (by simp at hl⊢;omega) (λx hx=>g x (by simp[hx])) c h with h|⟨x,x1,x2,rfl⟩
  .rcases Array.mem_push.1 h with h|rfl
   .exact .inl h
   .exact .inr ⟨o+i,ZL _,by simp,rfl⟩
  .exact .inr ⟨x,by omega,by simp;omega,rfl⟩
theorem seg_storeVar (V o)(t ty)(cells cur)(w)(f:w.heap[V]? =some (.cells cur t (0,0)))(hl:o+cells.size<=cur.size)(e:(Q.info? ty).map (·.size)=some cells.size)(g:∀v∈cells.toList,v.oneCell'=true):
 ∃u',(storeVar ty ⟨V,o,none⟩ (.agg cells)).run Q w=.ok () u'/\u'=w.setRow V (cur.toList.take o++cells.toList++cur.toList.drop (o+cells.size)).toArray/\
  ∀c∈(storeVar ty ⟨V,o,none⟩ (.agg cells)).events Q w #[],∃x,o<=x/\x<o+cells.size/\c=⟨.cell ⟨V,x,none⟩,true,false⟩:=by
 cases b:Q.info? ty with
 |none=>simp[b]at e
 |some i=>
  have hs:cells.size=i.size:=by simp[b]at e;omega
  have d:=run_storeCells_at (P:=Q) V o t cells.toList 0 cur w f (by simpa using hl) g;have he:=jE (Q:=Q) V o t cells.toList 0 cur w #[] f (by simpa using hl) g;simp only[Nat.add_zero,Array.length_toList]at d he;refine⟨_,?_,rfl,λc a=>?_⟩
  .simp[storeVar,sizeOf,typeInfo,b,Value.cells,hs,d]
  .have:(storeVar ty ⟨V,o,none⟩ (.agg cells)).events Q w #[]=(storeCells ⟨V,o,none⟩ cells.toList 0).events Q w #[]:=by
        simp[storeVar,sizeOf,typeInfo,b,Value.cells,hs]
   rw[this]at a;exact(he c a).resolve_left (by simp)
theorem seg_loadVar (a)(ty)(w)(v)(d)(hu:Q.underlying ty=some d)(hd:d.isRow=false)(hc:w.cell? a=some v):
 (loadVar ty a).run Q w=.ok v w/\(loadVar ty a).events Q w #[]= #[⟨.cell a,false,false⟩]:=by
 have b:(isAgg ty).run Q w=.ok false w:=by
  simp only[isAgg,underlying,Sem.run_bind,run_program,Result.andThen_ok,hu];cases d<;>first|rfl|(simp[TypeDesc.isRow]at hd)
 refine⟨?_,?_⟩
 .simp only[loadVar,Sem.run_bind,b,Result.andThen_ok,Z0,if_false]
  simp[hc]
 .simp only[loadVar,Sem.events_bind,b,Result.evThen_ok,events_isAgg,Z0,if_false,events_load,hc]
  rfl
end
end
section
open Go Go.Conc Go.ConcN Go.RowKit Go.Conc.Lib Go.ConcR.Gen Go.ConcN.Gen
open Go.ConcR (KK wgBlock WgAt stA smA rd wr mk Payload DC0)
theorem aa {ty}{Wg}{w a}(_:WgLive ty Wg w)(r:RL ty Wg w a):WgLive ty Wg a:=r
section
variable {L:WgLink}{P:Program}{Wg:Nat}{b₀:Frame}{a₀:Act}{ops₀:Array Oper}{i₀:Nat}{rest₀:List Nat}{k₀:List Item}{cs:List Frame}{mT:Nat}{g' child:Goroutine}
theorem addWalk (H:WgLib P L)
 (d:∀w,WgLive L.tWg Wg w->Goes P true (RL L.tWg Wg) DC0 (TGo P g' child) mT (G (b₀.at (a₀.put ((ops₀[i₀]?).bind (·.dst)) (.tuple #[])) (.inRegion ops₀ rest₀::k₀)) cs) w)(w)(hF:WgLive L.tWg Wg w):
 Goes P true (RL L.tWg Wg) DC0 (TKdS P L.tWg Wg g' child) 40 (G ((base L.add).at ⟨#[.pointer (some ⟨Wg,0,none⟩),.int .i64 1]++Array.replicate 115 undef,[]⟩ [.code (body_add L)]) (b₀.at a₀ (.inRegion ops₀ (i₀::rest₀)::k₀)::cs)) w:=by
 lib_facts
 walk_nrmf addFn
 simp only[body_add,addFn,Option.getD_some]
 u_c stepG_seq aa hF
 u_cond true aa hF
 iterate 2 (u_c stepG_seq aa hF)
 u_reg aa hF
 iterate 2 (u_op aa hF)
 u_c stepG_region_end aa hF
 u_cond false aa hF
 u_c stepG_skip aa hF
 u_c stepG_seq aa hF
 u_reg aa hF
 refine Goes.stop (λf hF=>?_);refine⟨rfl,_,stepG_mark0 .disable (by simp) rfl rfl (by k_ne) rfl H.f_disable (x_disable_n L) (x_disable_b L) (x_disable_x L) (x_disable_f L),100,?_⟩
 walk_nrm
 u_c stepG_region_end aa hF
 u_reg aa hF
 u_defer aa hF
 u_c stepG_region_end aa hF
 u_c stepG_seq aa hF
 u_reg aa hF
 u_op aa hF
 u_c stepG_region_end aa hF
 iterate 2 (u_c stepG_seq aa hF)
 u_reg aa hF
 u_bub aa hF
 u_c stepG_region_end aa hF
 u_cond false aa hF
 u_c stepG_skip aa hF
 u_c stepG_seq aa hF
 u_reg aa hF
 iterate 6 (u_op aa hF)
 u_call H.f_uAdd (nm_uAdd L) uAddFn aa hF
 u_c stepG_seq aa hF
 u_reg aa hF
 u_op aa hF
 u_c stepG_region_end aa hF
 u_c stepG_seq aa hF
 u_reg aa hF
 iterate 4 (u_op aa hF)
 refine Goes.stop (λa hF=>?_);refine⟨rfl,λv g hw=>?_⟩;obtain rfl|rfl|rfl|rfl:v=0\/v=1\/v=2\/v=3:=by omega
 all_goals clear g
 .replace hw:WgAt L.tWg Wg a 0 0:=by simpa[KK] using hw
  have z:(((0:Nat):Int)+1)*KK=4294967296:=by decide
  rw[z];have c:IntKind.u64.wrap (0+4294967296)=4294967296:=by decide
  refine⟨_,(stepG_add_atomic rfl rfl (by k_ne) rfl H.f_addU64 (x_addU64_n L) (x_addU64_b L) (x_addU64_x L) .u64 (x_addU64_f L) rfl rfl hw.cellSt (hw.thaw 0)).trans (by rw[c];rfl),160,?_⟩;have hF:WgLive L.tWg Wg (a.setCell (stA Wg) (.int .u64 4294967296)):=⟨_,_,hw.setSt _⟩;clear hw z c
  walk_nrm
  u_op aa hF
  u_c stepG_region_end aa hF
  u_c stepG_ret' aa hF
  u_leave1 H.f_uAdd aa hF
  u_op aa hF
  u_c stepG_region_end aa hF
  iterate 2 (u_c stepG_seq aa hF)
  u_reg aa hF
  iterate 4 (u_op aa hF)
  iterate 2 (u_skip aa hF)
  u_op aa hF
  u_c stepG_region_end aa hF
  u_cond false aa hF
  u_c stepG_skip aa hF
  u_c stepG_seq aa hF
  u_reg aa hF
  iterate 4 (u_op aa hF)
  u_c stepG_region_end aa hF
  u_c stepG_seq aa hF
  u_reg aa hF
  iterate 4 (u_op aa hF)
  u_c stepG_region_end aa hF
  iterate 2 (u_c stepG_seq aa hF)
  u_reg aa hF
  iterate 10 (u_op aa hF)
  u_c stepG_region_end aa hF
  u_cond true aa hF
  u_reg aa hF
  iterate 3 (u_op aa hF)
  u_conv H.underlying_tPU32 H.room_tU32 (WgLive.cell1 hF).choose_spec aa hF
  refine Goes.stop (λe hF=>.inl ⟨rfl,_,stepG_markAt .read (by simp) rfl rfl (by k_ne) rfl H.f_raceRead (x_raceRead_n L) (x_raceRead_b L) (x_raceRead_x L) (x_raceRead_f L) (ad:=⟨Wg,1,none⟩) (by simp[Act.eval]),100,?_⟩)
  walk_nrm
  u_c stepG_region_end aa hF
  iterate 2 (u_c stepG_seq aa hF)
  u_reg aa hF
  iterate 2 (u_op aa hF)
  u_c stepG_region_end aa hF
  u_cond false aa hF
  u_c stepG_skip aa hF
  iterate 2 (u_c stepG_seq aa hF)
  u_reg aa hF
  iterate 3 (u_op aa hF)
  iterate 2 (u_skip aa hF)
  iterate 2 (u_op aa hF)
  iterate 4 (u_skip aa hF)
  u_op aa hF
  u_c stepG_region_end aa hF
  u_cond false aa hF
  u_c stepG_skip aa hF
  iterate 2 (u_c stepG_seq aa hF)
  u_reg aa hF
  iterate 3 (u_op aa hF)
  iterate 2 (u_skip aa hF)
  u_op aa hF
  u_c stepG_region_end aa hF
  u_cond true aa hF
  u_c stepG_ret' aa hF
  refine Goes.stop (λb hF=>?_);refine⟨rfl,_,stepG_unwind_entry (v:=.tuple #[]) (evs:= #[mk .enable]) rfl H.f_enable (x_enable_n L) (x_enable_b L) (x_enable_x L) (x_enable_f L) (by simp[Extern.Race.none_]) (by simp[mk]) (by simp[mk]),mT+1,?_⟩
  u_leave0 H.f_add aa hF
  exact d _ hF
 .replace hw:WgAt L.tWg Wg a 4294967296 0:=by simpa[KK] using hw
  have z:(((1:Nat):Int)+1)*KK=8589934592:=by decide
  rw[z];have c:IntKind.u64.wrap (4294967296+4294967296)=8589934592:=by decide
  have b1:bits .and .u64 8589934592 2147483648=0:=by decide
  have b2:bits .and .u64 8589934592 2147483647=0:=by decide
  refine⟨_,(stepG_add_atomic rfl rfl (by k_ne) rfl H.f_addU64 (x_addU64_n L) (x_addU64_b L) (x_addU64_x L) .u64 (x_addU64_f L) rfl rfl hw.cellSt (hw.thaw 0)).trans (by rw[c];rfl),160,?_⟩;have hF:WgLive L.tWg Wg (a.setCell (stA Wg) (.int .u64 8589934592)):=⟨_,_,hw.setSt _⟩;clear hw z c
  walk_nrm
  u_op aa hF
  u_c stepG_region_end aa hF
  u_c stepG_ret' aa hF
  u_leave1 H.f_uAdd aa hF
  u_op aa hF
  u_c stepG_region_end aa hF
  iterate 2 (u_c stepG_seq aa hF)
  u_reg aa hF
  iterate 4 (u_op aa hF)
  iterate 2 (u_skip aa hF)
  u_op aa hF
  u_c stepG_region_end aa hF
  u_cond false aa hF
  u_c stepG_skip aa hF
  u_c stepG_seq aa hF
  u_reg aa hF
  iterate 4 (u_op aa hF)
  u_c stepG_region_end aa hF
  u_c stepG_seq aa hF
  u_reg aa hF
  iterate 4 (u_op aa hF)
  u_c stepG_region_end aa hF
  iterate 2 (u_c stepG_seq aa hF)
  u_reg aa hF
  iterate 10 (u_op aa hF)
  u_c stepG_region_end aa hF
  u_cond false aa hF
  u_c stepG_skip aa hF
  iterate 2 (u_c stepG_seq aa hF)
  u_reg aa hF
  iterate 2 (u_op aa hF)
  u_c stepG_region_end aa hF
  u_cond false aa hF
  u_c stepG_skip aa hF
  iterate 2 (u_c stepG_seq aa hF)
  u_reg aa hF
  iterate 3 (u_op aa hF)
  iterate 2 (u_skip aa hF)
  iterate 2 (u_op aa hF)
  iterate 4 (u_skip aa hF)
  u_op aa hF
  u_c stepG_region_end aa hF
  u_cond false aa hF
  u_c stepG_skip aa hF
  iterate 2 (u_c stepG_seq aa hF)
  u_reg aa hF
  iterate 3 (u_op aa hF)
  iterate 2 (u_skip aa hF)
  u_op aa hF
  u_c stepG_region_end aa hF
  u_cond true aa hF
  u_c stepG_ret' aa hF
  refine Goes.stop (λb hF=>?_);refine .inr ⟨rfl,_,stepG_unwind_entry (v:=.tuple #[]) (evs:= #[mk .enable]) rfl H.f_enable (x_enable_n L) (x_enable_b L) (x_enable_x L) (x_enable_f L) (by simp[Extern.Race.none_]) (by simp[mk]) (by simp[mk]),mT+1,?_⟩
  u_leave0 H.f_add aa hF
  exact d _ hF
 .replace hw:WgAt L.tWg Wg a 8589934592 0:=by simpa[KK] using hw
  have z:(((2:Nat):Int)+1)*KK=12884901888:=by decide
  rw[z];have c:IntKind.u64.wrap (8589934592+4294967296)=12884901888:=by decide
  have b1:bits .and .u64 12884901888 2147483648=0:=by decide
  have b2:bits .and .u64 12884901888 2147483647=0:=by decide
  refine⟨_,(stepG_add_atomic rfl rfl (by k_ne) rfl H.f_addU64 (x_addU64_n L) (x_addU64_b L) (x_addU64_x L) .u64 (x_addU64_f L) rfl rfl hw.cellSt (hw.thaw 0)).trans (by rw[c];rfl),160,?_⟩;have hF:WgLive L.tWg Wg (a.setCell (stA Wg) (.int .u64 12884901888)):=⟨_,_,hw.setSt _⟩;clear hw z c
  walk_nrm
  u_op aa hF
  u_c stepG_region_end aa hF
  u_c stepG_ret' aa hF
  u_leave1 H.f_uAdd aa hF
  u_op aa hF
  u_c stepG_region_end aa hF
  iterate 2 (u_c stepG_seq aa hF)
  u_reg aa hF
  iterate 4 (u_op aa hF)
  iterate 2 (u_skip aa hF)
  u_op aa hF
  u_c stepG_region_end aa hF
  u_cond false aa hF
  u_c stepG_skip aa hF
  u_c stepG_seq aa hF
  u_reg aa hF
  iterate 4 (u_op aa hF)
  u_c stepG_region_end aa hF
  u_c stepG_seq aa hF
  u_reg aa hF
  iterate 4 (u_op aa hF)
  u_c stepG_region_end aa hF
  iterate 2 (u_c stepG_seq aa hF)
  u_reg aa hF
  iterate 10 (u_op aa hF)
  u_c stepG_region_end aa hF
  u_cond false aa hF
  u_c stepG_skip aa hF
  iterate 2 (u_c stepG_seq aa hF)
  u_reg aa hF
  iterate 2 (u_op aa hF)
  u_c stepG_region_end aa hF
  u_cond false aa hF
  u_c stepG_skip aa hF
  iterate 2 (u_c stepG_seq aa hF)
  u_reg aa hF
  iterate 3 (u_op aa hF)
  iterate 2 (u_skip aa hF)
  iterate 2 (u_op aa hF)
  iterate 4 (u_skip aa hF)
  u_op aa hF
  u_c stepG_region_end aa hF
  u_cond false aa hF
  u_c stepG_skip aa hF
  iterate 2 (u_c stepG_seq aa hF)
  u_reg aa hF
  iterate 3 (u_op aa hF)
  iterate 2 (u_skip aa hF)
  u_op aa hF
  u_c stepG_region_end aa hF
  u_cond true aa hF
  u_c stepG_ret' aa hF
  refine Goes.stop (λb hF=>?_);refine .inr ⟨rfl,_,stepG_unwind_entry (v:=.tuple #[]) (evs:= #[mk .enable]) rfl H.f_enable (x_enable_n L) (x_enable_b L) (x_enable_x L) (x_enable_f L) (by simp[Extern.Race.none_]) (by simp[mk]) (by simp[mk]),mT+1,?_⟩
  u_leave0 H.f_add aa hF
  exact d _ hF
 .replace hw:WgAt L.tWg Wg a 12884901888 0:=by simpa[KK] using hw
  have z:(((3:Nat):Int)+1)*KK=17179869184:=by decide
  rw[z];have c:IntKind.u64.wrap (12884901888+4294967296)=17179869184:=by decide
  have b1:bits .and .u64 17179869184 2147483648=0:=by decide
  have b2:bits .and .u64 17179869184 2147483647=0:=by decide
  refine⟨_,(stepG_add_atomic rfl rfl (by k_ne) rfl H.f_addU64 (x_addU64_n L) (x_addU64_b L) (x_addU64_x L) .u64 (x_addU64_f L) rfl rfl hw.cellSt (hw.thaw 0)).trans (by rw[c];rfl),160,?_⟩;have hF:WgLive L.tWg Wg (a.setCell (stA Wg) (.int .u64 17179869184)):=⟨_,_,hw.setSt _⟩;clear hw z c
  walk_nrm
  u_op aa hF
  u_c stepG_region_end aa hF
  u_c stepG_ret' aa hF
  u_leave1 H.f_uAdd aa hF
  u_op aa hF
  u_c stepG_region_end aa hF
  iterate 2 (u_c stepG_seq aa hF)
  u_reg aa hF
  iterate 4 (u_op aa hF)
  iterate 2 (u_skip aa hF)
  u_op aa hF
  u_c stepG_region_end aa hF
  u_cond false aa hF
  u_c stepG_skip aa hF
  u_c stepG_seq aa hF
  u_reg aa hF
  iterate 4 (u_op aa hF)
  u_c stepG_region_end aa hF
  u_c stepG_seq aa hF
  u_reg aa hF
  iterate 4 (u_op aa hF)
  u_c stepG_region_end aa hF
  iterate 2 (u_c stepG_seq aa hF)
  u_reg aa hF
  iterate 10 (u_op aa hF)
  u_c stepG_region_end aa hF
  u_cond false aa hF
  u_c stepG_skip aa hF
  iterate 2 (u_c stepG_seq aa hF)
  u_reg aa hF
  iterate 2 (u_op aa hF)
  u_c stepG_region_end aa hF
  u_cond false aa hF
  u_c stepG_skip aa hF
  iterate 2 (u_c stepG_seq aa hF)
  u_reg aa hF
  iterate 3 (u_op aa hF)
  iterate 2 (u_skip aa hF)
  iterate 2 (u_op aa hF)
  iterate 4 (u_skip aa hF)
  u_op aa hF
  u_c stepG_region_end aa hF
  u_cond false aa hF
  u_c stepG_skip aa hF
  iterate 2 (u_c stepG_seq aa hF)
  u_reg aa hF
  iterate 3 (u_op aa hF)
  iterate 2 (u_skip aa hF)
  u_op aa hF
  u_c stepG_region_end aa hF
  u_cond true aa hF
  u_c stepG_ret' aa hF
  refine Goes.stop (λb hF=>?_);refine .inr ⟨rfl,_,stepG_unwind_entry (v:=.tuple #[]) (evs:= #[mk .enable]) rfl H.f_enable (x_enable_n L) (x_enable_b L) (x_enable_x L) (x_enable_f L) (by simp[Extern.Race.none_]) (by simp[mk]) (by simp[mk]),mT+1,?_⟩
  u_leave0 H.f_add aa hF
  exact d _ hF
end
def Head (L:WgLink)(Wg:Nat)(c:Frame)(cs:List Frame)(g:Goroutine)(_:World):Prop:=
 ∃T:Array Value,g=G ((base L.wait).at ⟨T,[]⟩ [.code (L7 L),.inLoop (L7 L),.inBlock 0]) (c::cs)/\T.size=84/\T[0]? =some (.pointer (some ⟨Wg,0,none⟩))
def Back (P:Program)(ty:TypeId)(Wg:Nat)(a g:Goroutine):Prop:=∀w,WgLive ty Wg w->∃m,Goes P true (RL ty Wg) DC0 (λg' _=>g'=a) m g w
section
variable {L:WgLink}{P:Program}{Wg:Nat}{b₀:Frame}{a₀:Act}{ops₀:Array Oper}{i₀:Nat}{rest₀:List Nat}{k₀:List Item}{cs:List Frame}
theorem waitStart (H:WgLib P L)(w)(hF:WgLive L.tWg Wg w):
 Goes P true (RL L.tWg Wg) DC0 (TKd P L.tWg Wg (Head L Wg (b₀.at a₀ (.inRegion ops₀ (i₀::rest₀)::k₀)) cs)) 10 (G ((base L.wait).at ⟨#[.pointer (some ⟨Wg,0,none⟩)]++Array.replicate 83 undef,[]⟩ [.code (body_wait L)]) (b₀.at a₀ (.inRegion ops₀ (i₀::rest₀)::k₀)::cs)) w:=by
 lib_facts
 walk_nrmf waitFn
 simp only[body_wait,waitFn,Option.getD_some]
 u_c stepG_seq aa hF
 u_cond true aa hF
 u_reg aa hF
 refine Goes.stop (λb hF=>?_);refine⟨rfl,_,stepG_mark0 .disable (by simp) rfl rfl (by k_ne) rfl H.f_disable (x_disable_n L) (x_disable_b L) (x_disable_x L) (x_disable_f L),10,?_⟩
 walk_nrm
 u_c stepG_region_end aa hF
 u_c stepG_block aa hF
 u_c stepG_loop aa hF
 exact Goes.stop (λa c=>⟨_,rfl,by simp,by simp⟩)
theorem waitRound (H:WgLib P L)(g)(w)(hF:WgLive L.tWg Wg w)(h:Head L Wg (b₀.at a₀ (.inRegion ops₀ (i₀::rest₀)::k₀)) cs g w):
 ∃m,Goes P true (RL L.tWg Wg) DC0 (TW1 P L.tWg Wg (Back P L.tWg Wg (G (b₀.at (a₀.put ((ops₀[i₀]?).bind (·.dst)) (.tuple #[])) (.inRegion ops₀ rest₀::k₀)) cs)) (Head L Wg (b₀.at a₀ (.inRegion ops₀ (i₀::rest₀)::k₀)) cs)) m g w:=by
 lib_facts
 obtain⟨T,rfl,k,t0⟩:=h;obtain⟨v0,v1,v2,v3,v4,v5,v6,v7,v8,v9,v10,v11,v12,η,ζ,ε,δ,γ,β,α,v20,v21,v22,Z,v24,v25,Y,v27,v28,X,v30,v31,W,v33,V,v35,v36,v37,v38,U,v40,R,v42,Q,v44,O,v46,N,v48,v49,M,v51,K,v53,J,I,F,E,D,v59,C,B,A,v63,z,v65,y,x,v68,v69,v70,u,v72,v73,t,v75,v76,s,r,q,v80,p,v82,v83,rfl⟩:=array84 T k;simp only[List.getElem?_toArray,List.getElem?_cons_zero,Option.some.injEq]at t0;subst t0;refine⟨60,?_⟩;simp only[L7,body_wait,waitFn,Option.getD_some]
 u_c stepG_block aa hF
 u_c stepG_seq aa hF
 u_reg aa hF
 iterate 3 (u_op aa hF)
 u_call H.f_uLoad (nm_uLoad L) uLoadFn aa hF
 u_c stepG_seq aa hF
 u_reg aa hF
 u_op aa hF
 u_c stepG_region_end aa hF
 u_c stepG_seq aa hF
 u_reg aa hF
 iterate 3 (u_op aa hF)
 refine Goes.stop (λj hF=>?_);refine⟨rfl,λv hv hw=>?_⟩;rcases Nat.eq_zero_or_pos v with rfl|θ
 .replace hw:WgAt L.tWg Wg j 0 0:=by simpa using hw
  refine⟨_,stepG_load_atomic (v:=0) rfl rfl (by k_ne) rfl H.f_loadU64 (x_loadU64_n L) (x_loadU64_b L) (x_loadU64_x L) .u64 (x_loadU64_f L) rfl hw.cellSt,λ_=>⟨100,?_⟩,λh=>absurd rfl h⟩;clear hw
  walk_nrm
  u_op aa hF
  u_c stepG_region_end aa hF
  u_c stepG_ret' aa hF
  u_leave1 H.f_uLoad aa hF
  u_op aa hF
  u_c stepG_region_end aa hF
  u_c stepG_seq aa hF
  u_reg aa hF
  iterate 4 (u_op aa hF)
  u_c stepG_region_end aa hF
  u_c stepG_seq aa hF
  u_reg aa hF
  iterate 4 (u_op aa hF)
  u_c stepG_region_end aa hF
  iterate 2 (u_c stepG_seq aa hF)
  u_reg aa hF
  iterate 2 (u_op aa hF)
  u_c stepG_region_end aa hF
  u_cond true aa hF
  u_c stepG_seq aa hF
  u_cond true aa hF
  u_c stepG_seq aa hF
  u_reg aa hF
  refine Goes.stop (λf hF=>?_);refine⟨rfl,_,stepG_mark0 .enable (by simp) rfl rfl (by k_ne) rfl H.f_enable (x_enable_n L) (x_enable_b L) (x_enable_x L) (x_enable_f L),30,?_⟩
  walk_nrm
  u_c stepG_region_end aa hF
  u_reg aa hF
  u_op aa hF
  u_conv H.underlying_tWgP H.room_tWg (WgLive.cell0 hF).choose_spec aa hF
  refine Goes.stop (λd hF=>?_);refine⟨rfl,_,?_,stepG_markAt .acquire (by simp) rfl rfl (by k_ne) rfl H.f_acquire (x_acquire_n L) (x_acquire_b L) (x_acquire_x L) (x_acquire_f L) (by simp[Act.eval,stA])⟩;intro c hF;refine⟨60,?_⟩
  walk_nrm
  u_c stepG_region_end aa hF
  iterate 2 (u_c stepG_seq aa hF)
  u_reg aa hF
  iterate 8 (u_op aa hF)
  iterate 2 (u_skip aa hF)
  u_op aa hF
  u_c stepG_region_end aa hF
  u_cond false aa hF
  u_c stepG_skip aa hF
  u_c stepG_ret' aa hF
  u_leave0 H.f_wait aa hF
  exact Goes.stop (λ_ _=>rfl)
 .obtain⟨S,b⟩:∃S:Int,(v:Int)*KK=S:=⟨_,rfl⟩
  have a1:S/4294967296=(v:Int):=by rw[<-b];simp only[KK];omega
  have b1:bits .and .u64 S 2147483648=0:=by rw[<-b];have:=st_flag v 0 (by omega) (by omega);simpa[KK] using this
  have b2:bits .and .u64 S 2147483647=0:=by rw[<-b];have:=st_waiters v 0 (by omega) (by omega);simpa[KK] using this
  have c1:IntKind.i32.wrap (v:Int)=(v:Int):=by rw[IntKind.wrap_i32];omega
  have w1:IntKind.u64.wrap (S+1)=S+1:=by rw[IntKind.wrap_u64,<-b];simp only[KK];omega
  have q3:decide ((v:Int)<0)=false:=decide_eq_false (by omega);have q4:decide (0< (v:Int))=true:=decide_eq_true (by omega);have q5:((v:Int)==0)=false:=by simp;omega
  have q6:decide ((v:Int)=0)=false:=decide_eq_false (by omega);rw[b]at hw;refine⟨_,stepG_load_atomic (v:=S) rfl rfl (by k_ne) rfl H.f_loadU64 (x_loadU64_n L) (x_loadU64_b L) (x_loadU64_x L) .u64 (x_loadU64_f L) rfl hw.cellSt,λh0=>absurd h0 (by omega),λ_=>⟨100,?_⟩⟩;clear hw
  walk_nrm
  u_op aa hF
  u_c stepG_region_end aa hF
  u_c stepG_ret' aa hF
  u_leave1 H.f_uLoad aa hF
  u_op aa hF
  u_c stepG_region_end aa hF
  u_c stepG_seq aa hF
  u_reg aa hF
  iterate 4 (u_op aa hF)
  u_c stepG_region_end aa hF
  u_c stepG_seq aa hF
  u_reg aa hF
  iterate 4 (u_op aa hF)
  u_c stepG_region_end aa hF
  iterate 2 (u_c stepG_seq aa hF)
  u_reg aa hF
  iterate 2 (u_op aa hF)
  u_c stepG_region_end aa hF
  u_cnd false aa hF
  u_c stepG_skip aa hF
  u_c stepG_seq aa hF
  u_reg aa hF
  iterate 6 (u_op aa hF)
  u_call H.f_uCas (nm_uCas L) uCasFn aa hF
  u_c stepG_seq aa hF
  u_reg aa hF
  u_op aa hF
  u_c stepG_region_end aa hF
  u_c stepG_seq aa hF
  u_reg aa hF
  iterate 5 (u_op aa hF)
  refine Goes.stop (λi hF=>?_);refine⟨rfl,λv' ι hw=>⟨λe=>?_,λe=>?_⟩⟩
  .subst e
   rw[b]at hw⊢;refine⟨_,(stepG_cas_hit (v:=S) (n:=S+1) rfl rfl (by k_ne) rfl H.f_casU64 (x_casU64_n L) (x_casU64_b L) (x_casU64_x L) .u64 (x_casU64_f L) rfl rfl rfl hw.cellSt (hw.thaw 0)).trans (by rfl),100,?_⟩;have hF:WgLive L.tWg Wg (i.setCell (stA Wg) (.int .u64 (S+1))):=⟨_,_,hw.setSt _⟩;clear hw
   walk_nrm
   u_op aa hF
   u_c stepG_region_end aa hF
   u_c stepG_ret' aa hF
   u_leave1 H.f_uCas aa hF
   u_c stepG_region_end aa hF
   u_cond true aa hF
   iterate 2 (u_c stepG_seq aa hF)
   u_reg aa hF
   iterate 4 (u_op aa hF)
   u_c stepG_region_end aa hF
   u_cond true aa hF
   u_reg aa hF
   iterate 3 (u_op aa hF)
   u_conv H.underlying_tPU32 H.room_tU32 (WgLive.cell1 hF).choose_spec aa hF
   refine Goes.stop (λa hF=>?_);refine⟨rfl,_,stepG_markAt .write (by simp) rfl rfl (by k_ne) rfl H.f_raceWrite (x_raceWrite_n L) (x_raceWrite_b L) (x_raceWrite_x L) (x_raceWrite_f L) (ad:=⟨Wg,1,none⟩) (by simp[Act.eval]),?_⟩
   walk_nrm
   u_c stepG_region_end aa hF
   u_c stepG_seq aa hF
   u_reg aa hF
   u_op aa hF
   u_c stepG_region_end aa hF
   iterate 2 (u_c stepG_seq aa hF)
   u_reg aa hF
   iterate 4 (u_op aa hF)
   u_skip aa hF
   u_op aa hF
   u_c stepG_region_end aa hF
   u_cond false aa hF
   u_c stepG_skip aa hF
   u_c stepG_seq aa hF
   u_reg aa hF
   iterate 4 (u_op aa hF)
   refine Goes.stop (λa hF=>?_);refine⟨rfl,rfl,fun⟨st,hw⟩=>stepG_semacquire_wait rfl rfl rfl H.f_semacquire (x_semacquire_n L) (x_semacquire_b L) (x_semacquire_x L) (x_semacquire_f L) (by simp[Act.eval,smA]) hw.cellSm,λhf=>?_⟩;refine⟨_,(stepG_semacquire (n:=1) rfl rfl (by k_ne) rfl H.f_semacquire (x_semacquire_n L) (x_semacquire_b L) (x_semacquire_x L) (x_semacquire_f L) (by simp[Act.eval,smA]) hf.cellSm (by k_ne) (hf.thaw 1)).trans (by rfl),60,?_⟩;have hF:WgLive L.tWg Wg (a.setCell (smA Wg) (.int .u32 0)):=⟨_,_,hf.setSm 0⟩;clear hf
   walk_nrm
   u_c stepG_region_end aa hF
   u_c stepG_seq aa hF
   u_reg aa hF
   iterate 3 (u_op aa hF)
   u_call H.f_uLoad (nm_uLoad L) uLoadFn aa hF
   u_c stepG_seq aa hF
   u_reg aa hF
   u_op aa hF
   u_c stepG_region_end aa hF
   u_c stepG_seq aa hF
   u_reg aa hF
   iterate 3 (u_op aa hF)
   refine Goes.stop (λl hF=>?_);refine⟨rfl,λhw=>⟨_,stepG_load_atomic (v:=0) rfl rfl (by k_ne) rfl H.f_loadU64 (x_loadU64_n L) (x_loadU64_b L) (x_loadU64_x L) .u64 (x_loadU64_f L) rfl hw.cellSt,60,?_⟩⟩;clear hw
   walk_nrm
   u_op aa hF
   u_c stepG_region_end aa hF
   u_c stepG_ret' aa hF
   u_leave1 H.f_uLoad aa hF
   iterate 2 (u_op aa hF)
   u_c stepG_region_end aa hF
   u_c stepG_seq aa hF
   u_cond true aa hF
   u_c stepG_seq aa hF
   u_reg aa hF
   refine Goes.stop (λf hF=>?_);refine⟨rfl,_,stepG_mark0 .enable (by simp) rfl rfl (by k_ne) rfl H.f_enable (x_enable_n L) (x_enable_b L) (x_enable_x L) (x_enable_f L),30,?_⟩
   walk_nrm
   u_c stepG_region_end aa hF
   u_reg aa hF
   u_op aa hF
   u_conv H.underlying_tWgP H.room_tWg (WgLive.cell0 hF).choose_spec aa hF
   refine Goes.stop (λd hF=>?_);refine⟨rfl,_,?_,stepG_markAt .acquire (by simp) rfl rfl (by k_ne) rfl H.f_acquire (x_acquire_n L) (x_acquire_b L) (x_acquire_x L) (x_acquire_f L) (by simp[Act.eval,stA])⟩;intro c hF;refine⟨60,?_⟩
   walk_nrm
   u_c stepG_region_end aa hF
   iterate 2 (u_c stepG_seq aa hF)
   u_reg aa hF
   u_op aa hF
   u_c stepG_region_end aa hF
   u_cond false aa hF
   u_c stepG_skip aa hF
   u_c stepG_ret' aa hF
   u_leave0 H.f_wait aa hF
   exact Goes.stop (λ_ _=>rfl)
  .refine⟨_,stepG_cas_miss (v:=(v':Int)*KK) (old:=S) (n:=S+1) rfl rfl (by k_ne) rfl H.f_casU64 (x_casU64_n L) (x_casU64_b L) (x_casU64_x L) .u64 (x_casU64_f L) rfl rfl rfl hw.cellSt (hw.thaw 0) (by rw[<-b];simp only[KK];omega),60,?_⟩
   clear hw
   walk_nrm
   u_op aa hF
   u_c stepG_region_end aa hF
   u_c stepG_ret' aa hF
   u_leave1 H.f_uCas aa hF
   u_c stepG_region_end aa hF
   u_cond false aa hF
   u_c stepG_skip aa hF
   u_c stepG_inBlock aa hF
   u_c stepG_inLoop aa hF
   exact Goes.stop (λa o=>⟨_,rfl,by simp,by simp⟩)
end
section
variable {L:WgLink}{P:Program}{Wg:Nat}{c:Frame}{cs:List Frame}
theorem doneTo (H:WgLib P L):∃a d b:Goroutine,
 (∀w,WgLive L.tWg Wg w->Goes P false (RL L.tWg Wg) DC0 (λg _=>g=a) 60 (G ((baseD L.done).at ⟨#[.pointer (some ⟨Wg,0,none⟩),undef,undef,undef],[]⟩ [.code (body_done L)]) (c::cs)) w)/\
 (∀w,a.status=.running/\stepG P false a w=.go d w #[mk (.releaseMerge (stA Wg))])/\(∀w,WgLive L.tWg Wg w->Goes P false (RL L.tWg Wg) DC0 (λg _=>g=b) 60 d w)/\∀w,∃g',stepG P false b w=.go g' w #[mk .disable]:=by
 lib_facts
 apply Exists.intro;apply Exists.intro;apply Exists.intro;refine⟨λw hF=>?_,λw=>?_,λw hF=>?_,λw=>?_⟩
 .simp only[body_done,doneFn,Option.getD_some]
  u_reg aa hF
  u_op aa hF
  u_call H.f_add (nm_add L) addFn aa hF
  u_c stepG_seq aa hF
  u_cond true aa hF
  iterate 2 (u_c stepG_seq aa hF)
  u_reg aa hF
  iterate 2 (u_op aa hF)
  u_c stepG_region_end aa hF
  u_cond true aa hF
  u_reg aa hF
  u_op aa hF
  u_conv H.underlying_tWgP H.room_tWg (WgLive.cell0 hF).choose_spec aa hF
  exact Goes.stop (λ_ _=>rfl)
 .exact⟨rfl,stepG_markAt .releaseMerge (by simp) rfl rfl (by k_ne) rfl H.f_relMerge (x_relMerge_n L) (x_relMerge_b L) (x_relMerge_x L) (x_relMerge_f L) (by simp[Act.eval,stA])⟩
 .walk_nrm
  u_c stepG_region_end aa hF
  u_c stepG_seq aa hF
  u_reg aa hF
  exact Goes.stop (λ_ _=>rfl)
 .exact⟨_,stepG_mark0 .disable (by simp) rfl rfl (by k_ne) rfl H.f_disable (x_disable_n L) (x_disable_b L) (x_disable_x L) (x_disable_f L)⟩
end
section
variable {P:Program}{main:Bool}{R:World->World->Prop}{D:World->World->Array Event->Prop}{Stop:Goroutine->World->Prop}
theorem stops {b}(hs:∀g w a,R w a->Stop g a->b g a):∀(n:Nat) (g:Goroutine) (w:World),Goes P main R D Stop n g w->Goes P main R D b n g w
 |0,_,_,h=>λa r=>hs _ _ _ r (h a r)
 |n+1,_,_,h=>by
  rcases h with h|⟨c,h⟩
  .exact .inl λa r=>hs _ _ _ r (h a r)
  .refine .inr ⟨c,λa r=>?_⟩
   obtain⟨g',w',es,e,hd,d⟩:=goes_elim (h a r);rw[e];exact⟨hd,stops hs n g' w' d⟩
theorem along {ty}{Wg}{e}{w}(hl:WgLive ty Wg w)(hR:R w w)(l:∀g,Stop g w->∃g' w' es,stepG P main g w=.go g' w' es/\es≠ #[]):
 ∀(n m:Nat) (g:Goroutine),Goes P main (RL ty Wg) DC0 (λg _=>g=e) n g w->Goes P main R D Stop m g w->∃m',Goes P main R D Stop m' e w:=by
 intro n
 induction n with
 |zero=>intro m g h k;exact⟨m,by rw[<-h w hl];exact k⟩
 |succ n j=>
  intro m g h k;rcases Goes.cases h with h|⟨f,r,h⟩
  .exact⟨m,by rw[<-h w hl];exact k⟩
  .obtain rfl:n=f:=by omega
   obtain⟨g',w',es,c,⟨o,p⟩,d⟩:=h w hl;rw[o]at c d;rcases Goes.cases k with b|⟨m',rfl,b⟩
   .obtain⟨_,_,_,a,q⟩:=l g (b w hR)
    rw[c]at a;cases a;exact absurd p q
   .obtain⟨_,_,_,a,_,i⟩:=b w hR
    rw[c]at a;cases a;exact j m' g' d i
end
section
variable [Payload]{L:WgLink}{P:Program}{Wg V nV off:Nat}{vs:List Value}{c:Frame}{cs:List Frame}
theorem workerDone (H:WgLib P L)(i:c.mode=.returning){s}(y:QuitsD P s 0 (G c cs))(w)(hF:WgLive L.tWg Wg w):
 Goes P false (RL L.tWg Wg) DC0 (TR0 P L.tWg Wg V nV off vs) 60 (G ((baseD L.done).at ⟨#[.pointer (some ⟨Wg,0,none⟩),undef,undef,undef],[]⟩ [.code (body_done L)]) (c::cs)) w:=by
 obtain⟨E,D,F,p,f,x,z⟩:=doneTo (Wg:=Wg) (c:=c) (cs:=cs) H;have b:∀w,RW L.tWg Wg V nV 0 off w w:=λw=>⟨λ_ _ _ _=>rfl,id,id,rfl⟩
 refine stops (Stop:=λg _=>g=E) ?_ _ _ _ (p w hF)
 .rintro g _ a hF rfl
  replace hF:WgLive L.tWg Wg a:=hF;refine⟨(f a).1,λv=>⟨D,(f a).2,?_⟩⟩;have u:=doneN H (Own:=λ_ _=>False) (Rd:=λ_ _=>False) (C:=V) (n:=nV) (Low:=0) (k:=off+1) (val:=vs.headD undef) i y a ⟨hF,v⟩;have q:∀g,AtR0 P L.tWg Wg V nV 0 (off+1) (vs.headD undef) g a->∃g' w' es,stepG P false g a=.go g' w' es/\es≠ #[]:=λg h=>⟨_,_,_,h.2.2.choose_spec.1,by simp⟩
  obtain⟨m',B⟩:=along hF (b a) q _ _ _ (p a hF) u;rcases Goes.cases B with l|⟨m₂,rfl,l⟩
  .obtain⟨_,_,g',e,hm⟩:=l a (b a)
   rw[(f a).2]at e;cases e;exact hm
  .exfalso
   obtain⟨_,_,_,d,_,t⟩:=l a (b a);rw[(f a).2]at d;cases d;obtain⟨o,A⟩:=along hF (b a) q _ _ _ (x a hF) t;obtain⟨g',e⟩:=z a;rcases Goes.cases A with j|⟨m,rfl,j⟩
   .obtain⟨_,_,g',r,hm⟩:=j a (b a)
    rw[e]at r;simp[mk]at r
   .obtain⟨_,_,_,d,d2,_⟩:=j a (b a)
    rw[e]at d;cases d;exact(d2.2 (mk .disable) (by simp)).2.1 rfl
end
end
section
abbrev link:Go.Conc.Lib.WgLink:={add:=68,done:=70,wait:=74,relMerge:=103,disable:=104,enable:=105,inBubble:=106,associate:=107,fatal:=108,uOr:=109,uAdd:=110,raceRead:=111,uLoad:=112,uStore:=113,disassociate:=114,semrelease:=115,acquire:=121,isAssociated:=122,uCas:=123,raceWrite:=124,semacquire:=125,orU64:=159,addU64:=160,loadU64:=161,storeU64:=162,casU64:=165,tWgP:=166,tUP:=168,tAssoc:=170,tWg:=130,tAU:=127,tU64:=125,tUint:=142,tU32:=128,tPU32:=174,tPAU:=225,tPU64:=227,tNoCopy:=122,tANoCopy:=123,tAlign64:=124}
theorem wgLib:Go.Conc.Lib.WgLib prog link:=
 ⟨func68,func70,func74,func103,func104,func105,func106,func107,func108,func109,func110,func111,func112,func113,func114,func115,func121,func122,func123,func124,func125,func159,func160,func161,func162,func165,underlying166,Tryz.runUnderlying166,Tryz.sizeOf166,Tryz.isAgg166,Tryz.zeroValue166,underlying168,Tryz.runUnderlying168,Tryz.sizeOf168,Tryz.isAgg168,Tryz.zeroValue168,underlying170,Tryz.runUnderlying170,Tryz.sizeOf170,Tryz.isAgg170,Tryz.zeroValue170,underlying130,Tryz.runUnderlying130,Tryz.sizeOf130,Tryz.isAgg130,Tryz.zeroValue130,underlying127,Tryz.runUnderlying127,Tryz.sizeOf127,Tryz.isAgg127,Tryz.zeroValue127,underlying125,Tryz.runUnderlying125,Tryz.sizeOf125,Tryz.isAgg125,Tryz.zeroValue125,underlying142,Tryz.runUnderlying142,Tryz.sizeOf142,Tryz.isAgg142,Tryz.zeroValue142,underlying128,Tryz.runUnderlying128,Tryz.sizeOf128,Tryz.isAgg128,Tryz.zeroValue128,underlying174,Tryz.runUnderlying174,Tryz.sizeOf174,Tryz.isAgg174,Tryz.zeroValue174,underlying225,Tryz.runUnderlying225,Tryz.sizeOf225,Tryz.isAgg225,Tryz.zeroValue225,underlying227,Tryz.runUnderlying227,Tryz.sizeOf227,Tryz.isAgg227,Tryz.zeroValue227,underlying0,Tryz.runUnderlying0,Tryz.sizeOf0,Tryz.isAgg0,Tryz.zeroValue0,underlying3,Tryz.runUnderlying3,Tryz.sizeOf3,Tryz.isAgg3,Tryz.zeroValue3,underlying4,Tryz.runUnderlying4,Tryz.sizeOf4,Tryz.isAgg4,Tryz.zeroValue4,underlying9,Tryz.runUnderlying9,Tryz.sizeOf9,Tryz.isAgg9,Tryz.zeroValue9,underlying20,Tryz.runUnderlying20,Tryz.sizeOf20,Tryz.isAgg20,Tryz.zeroValue20,underlying21,Tryz.runUnderlying21,Tryz.sizeOf21,Tryz.isAgg21,Tryz.zeroValue21,(by kernel_rfl),(by kernel_rfl)⟩
end
