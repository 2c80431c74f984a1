/- Part 23 of the proof. -/
import Derived.Test.YtfpaamhppamcoaaGreatDoorSp22
set_option linter.all false
set_option maxRecDepth 100000
set_option maxHeartbeats 60000000
namespace Go.Proofs.YtfpaamhppamcoaaGreatDoor
open Go.Proofs.Tryz
section
open Go Go.Conc Go.ConcN Go.RowKit Go.Conc.Lib
open Go.ConcR (KK wgBlock WgAt stA smA rd wr mk Payload DC0)
def jP (v:Value):Prop:=(∃k n,v=.int k n)\/∃b,v=.bool b
theorem flat_eq {st}{p:Rel st}{v u}(h:VR p v u)(a:jP v):u=v:=by
 rcases a with⟨k,n,rfl⟩|⟨b,rfl⟩
 .exact h.bT
 .exact h.j3
theorem flats_eq {st}{p:Rel st}{xs ys}(h:aF (VR p) xs ys)(a:∀v∈xs.toList,jP v):ys=xs:=by
 refine Array.ext h.1.symm λi c b=>?_
 exact flat_eq (h.2 i xs[i] ys[i] (ZM b) (ZM c)) (a _ (by simp))
theorem flat_cell {v}(h:jP v):v.oneCell'=true:=by
 rcases h with⟨k,n,rfl⟩|⟨b,rfl⟩<;>rfl
theorem at_self {a:Frame}(hm:a.mode=.run)(b:a.roundOf=none):a.at ⟨a.tmps,a.defers⟩ a.todo=a:=by
 obtain⟨fn,tmps,todo,defers,mode,kind,ro⟩:=a;simp only at hm b;subst hm b;rfl
theorem gor_at {a}{cs}{todo}{ds}(hm:a.mode=.run)(c:a.roundOf=none)(b:a.todo=todo)(hd:a.defers=ds):df a cs=G (a.at ⟨a.tmps,ds⟩ todo) cs:=by
 subst b hd;rw[at_self hm c];rfl
theorem jq:(patch ae prog).funcs[69]? =some (fD f69):=by
 have:=iO ae prog func69;rw[this];rfl
theorem last67 {pre rest}(h:Last (pre++6::rest)):rest=[7]:=by
 obtain⟨p,e,g,d,f⟩:=h;rcases List.append_eq_append_iff.1 e with⟨a,c,b⟩|⟨a,c,b⟩
 .cases a with
  |nil=>simpa using b
  |cons y a=>
   simp only[List.cons_append,List.cons.injEq]at b;obtain⟨rfl,_⟩:=b;exact absurd (by rw[c];simp) d
 .cases a with
  |nil=>simpa using b.symm
  |cons y a=>
   simp only[List.cons_append,List.cons.injEq]at b;obtain⟨rfl,b⟩:=b;cases a with
   |nil=>simp at b
   |cons z a=>simp at b
theorem last7 {pre rest}(h:Last (pre++7::rest)):6∉(7::rest):=by
 obtain⟨p,e,g,f,d⟩:=h;rcases List.append_eq_append_iff.1 e with⟨a,c,b⟩|⟨a,c,b⟩
 .cases a with
  |nil=>simp at b
  |cons y a=>
   simp only[List.cons_append,List.cons.injEq]at b;obtain⟨rfl,_⟩:=b;exact absurd (by rw[c];simp) d
 .cases a with
  |nil=>simp at b
  |cons y a=>
   simp only[List.cons_append,List.cons.injEq]at b;obtain⟨rfl,b⟩:=b;cases a with
   |nil=>
    simp only[List.nil_append,List.cons.injEq]at b;obtain⟨-,rfl⟩:=b;simp
   |cons z a=>simp at b
def mo (n:Int)(d:Option Nat)(o:Oper):Prop:=o.op=flag n/\o.dst=d/\o.guard=none
theorem opH {i:Nat}{n}{d}(h:(((H3 f69)[i]?).map λo=>(kN n o.op,o.dst==d,o.guard.isNone))=some (true,true,true)):∃o,(H3 f69)[i]? =some o/\mo n d o:=by
 obtain⟨o,c,b⟩:=Option.map_eq_some_iff.1 h;simp only[Prod.mk.injEq,beq_iff_eq,Option.isNone_iff_eq_none]at b;refine⟨o,c,?_,b.2.1,b.2.2⟩;have a:=b.1;unfold kN at a;split at a
 .rename_i m hm
  rw[hm];simp only[beq_iff_eq]at a;rw[a];rfl
 .cases a
theorem lF:∃o,(H3 f69)[0]? =some o/\mo 0 (some 19) o:=opH (by kernel_rfl)
theorem op6:∃o,(H3 f69)[6]? =some o/\mo 6 (some 25) o:=opH (by kernel_rfl)
theorem op7:∃o,(H3 f69)[7]? =some o/\mo 7 none o:=opH (by kernel_rfl)
theorem opsOther:((List.range 8).all λi=>i==0||i==6||i==7||((H3 f69)[i]?.map gI)==some false)=true:=by kernel_rfl
theorem noMark (O:Array Oper)(h:O.all (λo=> !gI o)=true){i:Nat}{o}(a:O[i]? =some o):gI o=false:=by
 have:=Array.all_eq_true'.1 h o (Array.mem_of_getElem? a);simpa using this
theorem noMark1:(O1 f69).all (λo=> !gI o)=true:=by kernel_rfl
theorem noMark2:(O2 f69).all (λo=> !gI o)=true:=by kernel_rfl
theorem bq {o}(h:o.guard=none)(y):Region.wanted o y=true:=by simp[Region.wanted,h]
theorem run_flag {P}{o}{n}{d}(h:mo n d o)(a:Act)(w):(execOp a.eval o).run P w=.ok (.value (.int .i64 (160160160160000+n))) w:=by
 unfold execOp;simp[h.1,flag,Act.eval]
def o9 (vals:Array Value)(r:Int)(v:Value)(_:World):Prop:=v=.tuple #[.agg vals,.int .i64 r,.int .i64 160160160160006]
theorem tree_go {P}{R}{a a'}{fs b}{w w'}{es}(h:Tree P R a fs w)(hm:a.mode=.run)(hs:stepG P true (df a (fs++[stop P])) (ay w w.tape)=.go (df a' (b++[stop P])) w' es):Tree P R a' b w':=by
 rcases h.step with c|⟨_,c⟩
 .rw[c.1]at hm;cases hm
 .obtain⟨a2,e,w2,f,d,_,i⟩:=c w.tape
  rw[hs]at d;simp only[GStep.go.injEq,Goroutine.mk.injEq]at d;obtain⟨⟨rfl,g,_⟩,rfl,_⟩:=d;rw[List.append_cancel_right g];exact i
theorem tree_flag {P}{R}{a}{w}{ops}{i}{rest}{k}{o}{n}{d}(h:Tree P R a [] w)(hm:a.mode=.run)(c:a.roundOf=none)(hd:a.defers=[])(f:a.kind≠.early)
 (b:a.todo=.inRegion ops (i::rest)::k)(e:ops[i]? =some o)(hf:mo n d o):Tree P R (a.at ((Act.mk a.tmps []).put d (.int .i64 (160160160160000+n))) (.inRegion ops rest::k)) [] w:=by
 have hs:∃es,stepG P true (df a ([]++[stop P])) (ay w w.tape)=.go (df (a.at ((Act.mk a.tmps []).put d (.int .i64 (160160160160000+n))) (.inRegion ops rest::k)) ([]++[stop P])) (ay w w.tape) es:=by
  rw[gor_at hm c b hd,stepG_value e (bq hf.2.2 _) f (run_flag hf _ _),hf.2.1];exact⟨_,rfl⟩
 obtain⟨es,hs⟩:=hs;exact tree_go h hm hs
theorem tree_end {R}{a}{w}{ops}(h:Tree (patch ae prog) R a [] w)(hm:a.mode=.run)(e:a.roundOf=none)(hd:a.defers=[])(hf:a.fn=69)(d:a.todo=[.inRegion ops []]):
 ∃w',R (.tuple #[a.tmps.getD 24 undef,a.tmps.getD 20 undef,a.tmps.getD 25 undef]) w':=by
 have i:Tree (patch ae prog) R (a.at ⟨a.tmps,[]⟩ []) [] w:=tree_go (w':=ay w w.tape) h hm (by rw[gor_at hm e d hd,stepG_region_end];rfl)
 have g:Tree (patch ae prog) R {a.at ⟨a.tmps,[]⟩ []with mode:=.returning} [] w:=tree_go (w':=ay w w.tape) i rfl (by
  show stepG (patch ae prog) true (G (a.at ⟨a.tmps,[]⟩ []) ([]++[stop (patch ae prog)])) _=_
  rw[stepG_end];rfl)
 rcases g.step with⟨_,_,_,fn,T,v,k,c,j⟩|⟨f,_⟩
 .have b:(patch ae prog).funcs[a.fn]? =some fn:=k
  rw[hf,jq]at b;cases b;rw[results_tmp3 (t:=24) (u:=20) (v:=25) (by kernel_rfl)]at c;cases c;exact⟨_,j⟩
 .exact absurd ⟨rfl,rfl⟩ f
theorem leaf6 {vals}{r}{a}{w}(h:Tree (patch ae prog) (o9 vals r) a [] w)(hm:a.mode=.run)(i:a.roundOf=none)(hd:a.defers=[])(d:a.kind≠.early)(hf:a.fn=69)(g:a.todo=[.inRegion (H3 f69) [6,7]]):
 a.tmps.getD 24 undef=.agg vals/\a.tmps.getD 20 undef=.int .i64 r:=by
 obtain⟨o,m,l⟩:=op6;obtain⟨n,f1,f2⟩:=op7;have k:=tree_flag h hm i hd d g m l;have j:=tree_flag k rfl rfl rfl d rfl f1 f2;obtain⟨w',c⟩:=tree_end j rfl rfl rfl hf rfl;unfold o9 at c;simp only[Value.tuple.injEq]at c;have b:=congrArg Array.toList c;simp only[List.cons.injEq,and_true,Act.put,Frame.at]at b;obtain⟨f,e,_⟩:=b;rw[getD_set_ne (by decide)]at f e;exact⟨f,e⟩
def ko (V:Nat):Value:=.slice (some ⟨V,0,none⟩) 4 4
def ptr (b:Nat):Value:=.pointer (some ⟨b,0,none⟩)
def IvW (VV V:Nat)(u:World)(M:Nat->Prop):Prop:=VV<u.heap.size/\¬M VV/\u.cell? ⟨VV,0,none⟩=some (ko V)
theorem ivW_rely {K}{VV V}(a:K VV)(u az)(M)(h:IvW VV V u M)(r:bF K M u az):IvW VV V az M:=
 ⟨ZO h.1 r.size,h.2.1,by rw[<-h.2.2];exact cell_of_block (r.keep VV (.inr a) h.1) 0⟩
theorem ivW_does {K}{VV V}(u u')(M)(es)(h:IvW VV V u M)(d:Does K M u u' es):IvW VV V u' (Grow M u u'):=
 ⟨ZO h.1 d.size,λa=>a.elim h.2.1 λx=>by have:=h.1;omega,by rw[<-h.2.2];exact cell_of_block (d.keep VV h.1 h.2.1) 0⟩
section
variable {C:iG}{st:Prop}{p:Rel st}
theorem FR.fill {P}{a b}{ops}{i d}{rest}{k}{v u}{ds}(h:FR C P p a b)(hm:a.mode=.run)(hf:a.fn=C.root)(hd:C.pv d=true)(r:d≠C.rt)(w:a.todo=.inRegion ops (i::rest)::k)(c:b.defers=ds)
 (hs:C.okF (.inRegion ops rest::k) (b.tmps.setIfInBounds d u)):
 FR C P p (a.at ((Act.mk a.tmps []).put (some d) v) (.inRegion ops rest::k)) (b.at ((Act.mk b.tmps ds).put (some d) u) ((.inRegion ops rest::k).map (sgI C))):=by
 obtain⟨fn,tmps,todo,defers,mode,kind,ro⟩:=a;obtain⟨I,m,l,g,n,o,F⟩:=b;obtain⟨E,s,D,B,A,z,y,x,H,f,t⟩:=h;simp only at hm hf w E s D B A z x H f c hs;simp only[Frame.mk.injEq]at y;obtain⟨rfl,-,rfl,-,rfl,-,rfl⟩:=y;subst hm w B A z c;obtain⟨hx,G⟩:=D.cons;refine⟨E,⟨λj=>?_,by simpa[Frame.at,Act.put] using s.size⟩,aU.of hx G,rfl,rfl,rfl,rfl,λe=>?_,λ_=>hs,f,t⟩
 .simp only[Frame.at,Act.put]
  by_cases q:d=j
  .subst q;exact .inl ⟨hf,hd⟩
  .rw[getD_set_ne q,getD_set_ne q];exact s.get j
 .simp only[Frame.at,Act.put]
  rw[getD_set_ne r];exact x e
end
theorem fn_worker:prog.funcs[69]? =some f69:=func69
def jZ (n:Nat):Frame:={(default:Frame)with fn:=n,defers:=[],mode:=.panicking [goexitEntry]}
theorem quitsTail {b:Frame}(hf:b.fn=69)(d:b.kind=.deferred)(T):QuitsD prog 2 0 (G {b.at ⟨T,[]⟩ []with mode:=.returning} [jZ prog.funcs.size]):=by
 refine QuitsD.ctl (g':=G (jZ prog.funcs.size) []) rfl (λw=>?_) ?_
 .have a:Func.results f69= #[]:=by kernel_rfl
  have c:(results f69 T).runT prog w #[]=(.ok (.tuple #[]) w,#[]):=by rw[Sem.runT_eq,results_none a,events_results_none a]
  simp only[G,stepG,unwind,Frame.at,hf,fn_worker,c,doReturn,d,jZ,goexitEntry,GStep.after];simp[seen]
 refine QuitsD.ctl (g':={G (jZ prog.funcs.size) []with status:=.finished}) rfl (λw=>?_) ⟨rfl,rfl⟩;simp[G,stepG,unwind,jZ,goexitEntry,Frame.catches];rfl
theorem marks_in {i}{o}(a:(H3 f69)[i]? =some o)(hm:gI o=true):i=0\/i=6\/i=7:=by
 have b:i<8:=by rw[<-size3];exact(ZK.1 a).1
 have:=ZU.1 opsOther i (Z9.2 b);rw[a]at this;simp only[Option.map_some,hm,Bool.or_eq_true,beq_iff_eq]at this;rcases this with((h|h)|h)|h
 .exact .inl h
 .exact .inr (.inl h)
 .exact .inr (.inr h)
 .cases h
theorem sg0 {o}(h:mo 0 (some 19) o):sgW o={o with op:=.load 87 (.tmp 4)}:=by
 have e:gI o=true:=by simp[gI,h.2.2,h.1,kN,flag]
 unfold sgW;rw[if_pos e,h.1];rfl
theorem sg6 {o}(h:mo 6 (some 25) o):sgW o={o with op:=.indexAddr 87 (.tmp 19) (.tmp 20)}:=by
 have e:gI o=true:=by simp[gI,h.2.2,h.1,kN,flag]
 unfold sgW;rw[if_pos e,h.1];rfl
theorem sg7 {o}(h:mo 7 none o):sgW o={o with op:=.store 91 (.tmp 25) (.tmp 24)}:=by
 have e:gI o=true:=by simp[gI,h.2.2,h.1,kN,flag]
 unfold sgW;rw[if_pos e,h.1];rfl
theorem marked_worker {n y4 sl}{st}{p:Rel st}{a b}{e c}(hm:a.mode=.run)(E:oH (ou f69 n y4 sl) a)(hl:Live (ou f69 n y4 sl) (patch ae prog) p a e b c):
 e=[]/\c=[]/\a.fn=69/\a.roundOf=none/\a.defers=[]/\a.kind=.normal/\b.defers=[dcall 70 #[n]]/\b.kind=.deferred/\b.mode=.run/\b.roundOf=none/\b.fn=69/\
  b.tmps.getD 4 undef=y4/\b.tmps.size=26/\
  ∃rest pre,((a.todo=[.inRegion (H3 f69) (0::rest)]/\Last (pre++0::rest)/\6∈rest)\/(a.todo=[.inRegion (H3 f69) (6::rest)]/\rest=[7]/\b.tmps.getD 19 undef=sl))/\b.todo=a.todo.map (sgI (ou f69 n y4 sl)):=by
 obtain⟨ops,i,rest,k,o,f,u,C,j⟩:=E;have r:=hl.fr.plain;rw[f]at r;have t:ops.all (kM (ou f69 n y4 sl) (patch ae prog) a.fn)=true:=r.cons.1;have v:=kM.parts (Array.all_eq_true'.1 t o (Array.mem_of_getElem? u));have m:a.fn=69:=v.2.1 j
 have has:e=[]:=by
  apply Classical.byContradiction;intro w;have:=(hl.deep.1 w).2.2.1;rw[m]at this;exact absurd this (of_decide_eq_true (show decide (¬69∈fnsW)=true by kernel_rfl))
 subst has
 have z:c=[]:=by
  cases c with
  |nil=>rfl
  |cons x xs=>exact hl.cs.elim
 subst z;obtain⟨hd,y,_⟩:=hl.deep.2 rfl;have q:=hl.fr.same;have s:b.todo=a.todo.map (sgI (ou f69 n y4 sl)):=hl.fr.todo;have g:okW f69 n y4 sl a.todo b.tmps:=hl.fr.shape m;refine⟨rfl,rfl,m,hl.fr.ra,hl.fr.da,hl.fr.ka,hd,y,hl.fr.mode.trans hm,by rw[q];exact hl.fr.ra,hl.fr.fn.trans m,g.1.2.2,g.1.1,?_⟩;rw[f]at g;obtain⟨_,h|h|⟨l,h⟩|h|h|⟨l,h⟩|h|⟨l,pre,h,A,B,F⟩⟩:=g
 .cases h
 .cases h
 .simp only[List.cons.injEq,Item.inRegion.injEq]at h
  obtain⟨⟨rfl,rfl⟩,rfl⟩:=h;have d:gI o=true:=j;rw[noMark _ noMark1 u]at d;cases d
 .cases h
 .cases h
 .simp only[List.cons.injEq,Item.inRegion.injEq]at h
  obtain⟨⟨rfl,rfl⟩,rfl⟩:=h;have d:gI o=true:=j;rw[noMark _ noMark2 u]at d;cases d
 .cases h
 .simp only[List.cons.injEq,Item.inRegion.injEq]at h
  obtain⟨⟨rfl,rfl⟩,rfl⟩:=h;rcases marks_in u j with rfl|rfl|rfl
  .exact⟨rest,pre,.inl ⟨f,A,(ZW.1 B).resolve_left (by decide)⟩,s⟩
  .have D:=last67 A
   subst D;exact⟨[7],pre,.inr ⟨f,rfl,F (by decide)⟩,s⟩
  .exact absurd B (last7 A)
end
namespace Z
open Go.RowKit
attribute [local go_sem ↓] Go.wp_at_zero Go.wp_at_succ
attribute [local go_sem] After.cell After.frozen After.const
abbrev SW (w:World)(B bb a b:Nat)(r n:Value)(w':World):Prop:=w'.cell? ⟨bb,0,none⟩=some (.pointer (some ⟨B,0,none⟩))/\w'.cell? ⟨a,0,none⟩=some r/\w'.cell? ⟨b,0,none⟩=some n/\Below w.heap.size w w'/\w.heap.size<=w'.heap.size
theorem SW_start {w}{B bb a b}{r n}(e:w.cell? ⟨bb,0,none⟩=some (.pointer (some ⟨B,0,none⟩)))(d:w.cell? ⟨a,0,none⟩=some r)(c:w.cell? ⟨b,0,none⟩=some n):SW w B bb a b r n w.drew:=⟨e,d,c,(aab _ _).drew,ZL _⟩
theorem oD {w}{o}{B bb a b}{r n}(e:w.cell? ⟨bb,0,none⟩=some (.pointer (some ⟨B,0,none⟩)))(d:w.cell? ⟨a,0,none⟩=some r)(c:w.cell? ⟨b,0,none⟩=some n)(hl:bb<w.heap.size/\a<w.heap.size/\b<w.heap.size):SW w B bb a b r n (w.alloc o).drew:=
 have hb:Below w.heap.size w (w.alloc o).drew:=((aab _ _).alloc (ZL _) _).drew
 ⟨(hb.cell hl.1).trans e,(hb.cell hl.2.1).trans d,(hb.cell hl.2.2).trans c,hb,hb.size⟩
theorem SW_step {w w1 w2}{B bb a b}{r n}(h:SW w B bb a b r n w1)(hl:bb<w.heap.size/\a<w.heap.size/\b<w.heap.size)(hb:Below w.heap.size w1 w2):SW w B bb a b r n w2:=
 ⟨(hb.cell hl.1).trans h.1,(hb.cell hl.2.1).trans h.2.1,(hb.cell hl.2.2).trans h.2.2.1,h.2.2.2.1.trans hb,(h.2.2.2.1.trans hb).size⟩
theorem SW_call {w w1 w2}{B bb a b}{r n}(h:SW w B bb a b r n w1)(hl:bb<w.heap.size/\a<w.heap.size/\b<w.heap.size)(hb:Below w1.heap.size w1 w2):SW w B bb a b r n w2:=SW_step h hl (hb.mono h.2.2.2.2)
theorem SW_alloc {w w1}{o}{B bb a b}{r n}(h:SW w B bb a b r n w1)(hl:bb<w.heap.size/\a<w.heap.size/\b<w.heap.size):SW w B bb a b r n (w1.alloc o):=SW_step h hl ((aab _ _).alloc h.2.2.2.2 _)
theorem SW_realloc {w w1:World}{o d}{B bb b c}{r n}(h:SW w B bb b c r n (w1.alloc d))(hl:bb<w.heap.size/\b<w.heap.size/\c<w.heap.size)(e:w.heap.size<=w1.heap.size):SW w B bb b c r n (w1.alloc o):=by
 refine SW_step h hl ⟨rfl,rfl,rfl,by simp,λk f=>?_⟩;have a:k<w1.heap.size:=by omega
 exact(aac w1 o k a).trans (aac w1 d k a).symm
theorem SW_size {w w1 w2}{B bb a b}{r n}(h:SW w B bb a b r n w1)(hb:Below w1.heap.size w1 w2):w.heap.size<=w2.heap.size:=ZP h.2.2.2.2 hb.size
theorem SW_store {w w1}{B bb a c b}{r n v0 v1 v2 v3}(h:SW w B bb a c r n w1)(hl:bb<w.heap.size/\a<w.heap.size/\c<w.heap.size)(hb:w.heap.size<=b):SW w B bb a c r n ((((w1.setCell ⟨b,0,none⟩ v0).setCell ⟨b,1,none⟩ v1).setCell ⟨b,2,none⟩ v2).setCell ⟨b,3,none⟩ v3):=
 SW_step h hl (((((aab _ _).setCell hb _).setCell hb _).setCell hb _).setCell hb _)
theorem oF {w w1}{B bb a b}{r n}{D}(h:SW w B bb a b r n w1)(hb:aW w B D):aW w1 B D:=aW.below hb h.2.2.2.1
theorem gV {w1 w3:World}{o}(hb:Below (w1.alloc o).heap.size (w1.alloc o) w3):w3.heap[w1.heap.size]? =some o:=(hb.block _ (by simp)).trans (aae _ _)
theorem fw {w1 w3:World}{o}(hb:Below (w1.alloc o).drew.heap.size (w1.alloc o).drew w3):w3.heap[w1.heap.size]? =some o:=(hb.block _ (by show w1.heap.size< (w1.alloc o).heap.size;simp)).trans (aae w1 o)
theorem lS {w1 w3}{o}{b:Nat}(hb:Below w1.heap.size w1 w3)(h:w1.heap[b]? =some o):w3.heap[b]? =some o:=(hb.block _ (ZK.1 h).1).trans h
theorem ku {D}(a:D.ok){r}(c:r<4):(dL D r).length<=24:=by
 unfold dL
 by_cases b:r=0
 .rw[if_pos b];exact ZP (freeN_le _ _) a.few
 .rw[if_neg b]
  have:=(a.dC (r-1) (by omega)).1;exact ZP (aai _ _) (by simp;omega)
theorem mi {D}(a:D.ok){r}(b:r<4):(gq D r).length<=24:=ZP (by unfold gq kept;exact aai _ _) (ku a b)
theorem usN_in (D)(r):∀i∈dL D r,if r=0 then i<D.n else i<D.dn (r-1):=by
 intro i a;unfold dL at a
 by_cases b:r=0
 .rw[if_pos b]at a⊢
  unfold bS at a;exact Z9.1 (List.mem_filter.1 a).1
 .rw[if_neg b]at a⊢
  exact Z9.1 (List.mem_filter.1 a).1
theorem frN_in (D)(r):∀i∈gq D r,if r=0 then i<D.n else i<D.dn (r-1):=λi a=>usN_in D r i (by unfold gq kept at a;exact(List.mem_filter.1 a).1)
theorem byNode_lit (bb r)(D)(l)(v)(w)(d:r<4)(hb:aW w bb D)(a:D.ok)(c:Ints w v l.length (λj=>((l[j]?.getD 0:Nat):Int)))(hl:l.length<=24)
 (b:∀i∈l,if r=0 then i<D.n else i<D.dn (r-1)):
 Calls (patch ae prog) 71 #[.pointer (some ⟨bb,0,none⟩),.int .i64 r,v] w λe w'=>e=.returned (.agg #[.int .i64 (dz D r l 0),.int .i64 (dz D r l 1),.int .i64 (dz D r l 2),.int .i64 (dz D r l 3)])/\Below w.heap.size w w':=byNode_any bb r D l v w d hb a c hl b
theorem iC {w:World}{a}{v}(h:w.cell? a=some v):a.block<w.heap.size:=by
 by_cases hl:a.block<w.heap.size
 .exact hl
 .have:w.heap[a.block]? =none:=Array.getElem?_eq_none_iff.2 (by omega)
  simp[World.cell?,this]at h
theorem S3_start {w:World}{a b d c}{r n}{cs ds:Array Value}(h:w.cell? ⟨a,0,none⟩=some r)(g:w.cell? ⟨b,0,none⟩=some n)(f:∀j,w.cell? ⟨d,j,none⟩=cs[j]?)(e:∀j,w.cell? ⟨c,j,none⟩=ds[j]?):w.drew.cell? ⟨a,0,none⟩=some r/\w.drew.cell? ⟨b,0,none⟩=some n/\(∀j,w.drew.cell? ⟨d,j,none⟩=cs[j]?)/\(∀j,w.drew.cell? ⟨c,j,none⟩=ds[j]?):=⟨h,g,f,e⟩
theorem set4 {w:World}{b}{t}{z0 a z2 z3}(v0 v1 v2 v3)(h:w.heap[b]? =some (.cells #[z0,a,z2,z3] t (0,0))):((((w.setCell ⟨b,0,none⟩ v0).setCell ⟨b,1,none⟩ v1).setCell ⟨b,2,none⟩ v2).setCell ⟨b,3,none⟩ v3).heap[b]? =some (.cells #[v0,v1,v2,v3] t (0,0)):=aD v3 (aD v2 (aD v1 (aD v0 h)))
theorem S3_call {w1 w2}{c d k i}{r n}{cs ds:Array Value}(h:w1.cell? ⟨c,0,none⟩=some r/\w1.cell? ⟨d,0,none⟩=some n/\(∀j,w1.cell? ⟨k,j,none⟩=cs[j]?)/\(∀j,w1.cell? ⟨i,j,none⟩=ds[j]?))(hb:Below w1.heap.size w1 w2)(a:0<cs.size)(l:0<ds.size):w2.cell? ⟨c,0,none⟩=some r/\w2.cell? ⟨d,0,none⟩=some n/\(∀j,w2.cell? ⟨k,j,none⟩=cs[j]?)/\(∀j,w2.cell? ⟨i,j,none⟩=ds[j]?):=by
 have e:∀(cs:Array Value) b,0<cs.size->(∀j,w1.cell? ⟨b,j,none⟩=cs[j]?)->∀j,w2.cell? ⟨b,j,none⟩=cs[j]?:=λcs b a f j=>by
  have g:=f 0;rw[ZM a]at g;have hl:b<w1.heap.size:=iC g;exact(hb.cell (p:=⟨b,j,none⟩) hl).trans (f j)
 exact⟨keeps hb h.1,keeps hb h.2.1,e _ _ a h.2.2.1,e _ _ l h.2.2.2⟩
theorem worker3_any (D)(B bb g h r:Nat)(n)(x0 x)(a w)(C:Below a.heap.size a w)(q:r<4)(t:w.cell? ⟨bb,0,none⟩=some (.pointer (some ⟨B,0,none⟩)))(i:w.cell? ⟨g,0,none⟩=some (.int .i64 r))(s:w.cell? ⟨h,0,none⟩=some (.int .i64 n))(c:D.ok)(o m)(t7 t8 t9 t10 t11 t12 t13 t14 t15 t16 t17 t18)(f:w.heap[o]? =some (.cells #[.int .i64 (dz D r (dL D r) 0),.int .i64 (dz D r (dL D r) 1),.int .i64 (dz D r (dL D r) 2),.int .i64 (dz D r (dL D r) 3)] 131 (0,0)))(d:w.heap[m]? =some (.cells #[.int .i64 (dz D r (gq D r) 0),.int .i64 (dz D r (gq D r) 1),.int .i64 (dz D r (gq D r) 2),.int .i64 (dz D r (gq D r) 3)] 131 (0,0))):
 (R3 f69).wp (patch ae prog) (bodyPost (patch ae prog) (fD f69) (fun|.returned v,w'=>o9 (eF (dz D r (dL D r)) (dz D r (gq D r)) n) r v w'/\Below a.heap.size a w'|_,_=>False)) ⟨#[x0,.pointer (some ⟨bb,0,none⟩),.pointer (some ⟨g,0,none⟩),.pointer (some ⟨h,0,none⟩),x,.pointer (some ⟨o,0,none⟩),.pointer (some ⟨m,0,none⟩),t7,t8,t9,t10,t11,t12,t13,t14,t15,t16,t17,t18,undef,undef,undef,undef,undef,undef,undef],[]⟩ w:=by
 have u:Hid D.ok:=c;clear c;obtain⟨z,_⟩:=blk f;obtain⟨y,_⟩:=blk d;clear f d
 have E:Hid (∀k,k<4->0<=dz D r (dL D r) k/\dz D r (dL D r) k<=24):=λk _=>by
  have t:=inN_le D r (dL D r) k;have i:=ku u.out q;omega
 have p:Hid (∀k,k<4->0<=dz D r (gq D r) k/\dz D r (gq D r) k<=24):=λk _=>by
  have t:=inN_le D r (gq D r) k;have i:=mi u.out q;omega
 generalize A:(bodyPost (patch ae prog) (fD f69) (fun|.returned v,w'=>o9 (eF (dz D r (dL D r)) (dz D r (gq D r)) n) r v w'/\Below a.heap.size a w'|_,_=>False))=Q;simp only[R3,O3,H3,hands,regOps,split4,f69,flag,Option.getD_some];have b:(fD f69).results= #[.tmp 24,.tmp 20,.tmp 25]:=by kernel_rfl
 have G:g<w.heap.size:=iC i;have F:h<w.heap.size:=iC s
 go_region_held3(λw'=>w'.cell? ⟨g,0,none⟩=some (.int .i64 r)/\w'.cell? ⟨h,0,none⟩=some (.int .i64 n)/\(∀j,w'.cell? ⟨o,j,none⟩= #[.int .i64 (dz D r (dL D r) 0),.int .i64 (dz D r (dL D r) 1),.int .i64 (dz D r (dL D r) 2),.int .i64 (dz D r (dL D r) 3)][j]?)/\(∀j,w'.cell? ⟨m,j,none⟩= #[.int .i64 (dz D r (gq D r) 0),.int .i64 (dz D r (gq D r) 1),.int .i64 (dz D r (gq D r) 2),.int .i64 (dz D r (gq D r) 3)][j]?)) (with_reducible (first|exact S3_start i s z y|exact S3_call (by assumption) (by assumption) (by simp) (by simp)))
  (first
   |(go_at_call 73;refine(judge_any (dz D r (dL D r)) (dz D r (gq D r)) n E.out p.out _).mono ?_;rintro e w2 ⟨rfl,l⟩))
 all_goals
  subst A;exact⟨rfl,_,results_tmp3 b _ _ _,rfl,ai C.drew l⟩
theorem worker2_any (D)(B bb g h r:Nat)(n)(x0 x)(c w)(G:Below c.heap.size c w)(i:r<4)(t:w.cell? ⟨bb,0,none⟩=some (.pointer (some ⟨B,0,none⟩)))(s:w.cell? ⟨g,0,none⟩=some (.int .i64 r))(q:w.cell? ⟨h,0,none⟩=some (.int .i64 n))(hb:aW w B D)(j:D.ok)(m)(t7 t8 t9 t10 t11 t12)(k:w.heap[m]? =some (.cells #[.int .i64 (dz D r (dL D r) 0),.int .i64 (dz D r (dL D r) 1),.int .i64 (dz D r (dL D r) 2),.int .i64 (dz D r (dL D r) 3)] 131 (0,0))):
 (Code.seq (R2 f69) (R3 f69)).wp (patch ae prog) (bodyPost (patch ae prog) (fD f69) (fun|.returned v,w'=>o9 (eF (dz D r (dL D r)) (dz D r (gq D r)) n) r v w'/\Below c.heap.size c w'|_,_=>False)) ⟨#[x0,.pointer (some ⟨bb,0,none⟩),.pointer (some ⟨g,0,none⟩),.pointer (some ⟨h,0,none⟩),x,.pointer (some ⟨m,0,none⟩),undef,t7,t8,t9,t10,t11,t12,undef,undef,undef,undef,undef,undef,undef,undef,undef,undef,undef,undef,undef],[]⟩ w:=by
 have b:Hid (aW w B D/\D.ok/\w.heap[m]? =some (.cells #[.int .i64 (dz D r (dL D r) 0),.int .i64 (dz D r (dL D r) 1),.int .i64 (dz D r (dL D r) 2),.int .i64 (dz D r (dL D r) 3)] 131 (0,0))):=⟨hb,j,k⟩;have l:bb<w.heap.size/\g<w.heap.size/\h<w.heap.size:=⟨iC t,iC s,iC q⟩;clear hb j k;have u:=λW y (t7 t8 t9 t10 t11 t12 t13 t14 t15 t16 t17 t18:Value) (hs:SW w B bb g h (.int .i64 r) (.int .i64 n) W) (p:W.heap[y]? =some (.cells #[.int .i64 (dz D r (gq D r) 0),.int .i64 (dz D r (gq D r) 1),.int .i64 (dz D r (gq D r) 2),.int .i64 (dz D r (gq D r) 3)] 131 (0,0)))=>worker3_any D B bb g h r n x0 x c W (ai G hs.2.2.2.1) i hs.1 hs.2.1 hs.2.2.1 b.out.2.1 m y t7 t8 t9 t10 t11 t12 t13 t14 t15 t16 t17 t18 (lS hs.2.2.2.1 b.out.2.2) p
 generalize J:(bodyPost (patch ae prog) (fD f69) (fun|.returned v,w'=>o9 (eF (dz D r (dL D r)) (dz D r (gq D r)) n) r v w'/\Below c.heap.size c w'|_,_=>False))=Q at u⊢;generalize F:R3 f69=c3 at u⊢;refine wp_seq ?_;unfold R2 O2 regOps split4;simp only[f69,Option.getD_some]
 go_region_held3(λw'=>w'.cell? ⟨bb,0,none⟩=some (.pointer (some ⟨B,0,none⟩))/\w'.cell? ⟨g,0,none⟩=some (.int .i64 r)/\w'.cell? ⟨h,0,none⟩=some (.int .i64 n)/\Below w.heap.size w w'/\w.heap.size<=w'.heap.size) (with_reducible (first|exact SW_start t s q|exact oD t s q l|exact SW_call (by assumption) l (by assumption)|exact SW_alloc (by assumption) l|exact SW_realloc (by assumption) l (by assumption)|exact SW_store (by assumption) l (by omega)))
  (first
   |(go_at_call 48;refine(lK B r D _ i (oF (by assumption) b.out.1) b.out.2.1 (ZP (ku b.out.2.1 i) (by decide))).mono ?_;rintro e w2 ⟨v,rfl,a,f⟩;have E:=SW_size (by assumption) f;have hint:=dh a;clear a;try(first|have o:=fw f|have o:=gV f);try(obtain⟨I,H⟩:=blk o))
   |(go_at_call 71;refine(byNode_lit B r D (gq D r) _ _ i (oF (by assumption) b.out.1) b.out.2.1 (by first|exact hint|exact hint.ext ((aab _ _).alloc (ZL _) _)) (mi b.out.2.1 i) (frN_in D r)).mono ?_;rintro e w3 ⟨rfl,d⟩;have C:=SW_size (by assumption) d;first|(have hp:=gV d;obtain⟨A,z⟩:=blk hp)|(have hp:=lS d o;obtain⟨A,z⟩:=blk hp)|skip))
 all_goals simp only[Exit.then]
 all_goals with_reducible refine u _ _ _ _ _ _ _ _ _ _ _ _ _ _ (by assumption) ?_
 all_goals with_reducible (first|exact aae _ _|exact set4 _ _ _ _ hp)
theorem worker1_any (D)(B bb g h r:Nat)(n)(x0 t)(b w)(E:Below b.heap.size b w)(k:r<4)(q:w.cell? ⟨bb,0,none⟩=some (.pointer (some ⟨B,0,none⟩)))(p:w.cell? ⟨g,0,none⟩=some (.int .i64 r))(o:w.cell? ⟨h,0,none⟩=some (.int .i64 n))(hb:aW w B D)(i:D.ok):
 (Code.seq (R1 f69) (Code.seq (R2 f69) (R3 f69))).wp (patch ae prog) (bodyPost (patch ae prog) (fD f69) (fun|.returned v,w'=>o9 (eF (dz D r (dL D r)) (dz D r (gq D r)) n) r v w'/\Below b.heap.size b w'|_,_=>False)) ⟨#[x0,.pointer (some ⟨bb,0,none⟩),.pointer (some ⟨g,0,none⟩),.pointer (some ⟨h,0,none⟩),t,undef,undef,undef,undef,undef,undef,undef,undef,undef,undef,undef,undef,undef,undef,undef,undef,undef,undef,undef,undef,undef],[]⟩ w:=by
 have f:Hid (aW w B D/\D.ok):=⟨hb,i⟩;have j:bb<w.heap.size/\g<w.heap.size/\h<w.heap.size:=⟨iC q,iC p,iC o⟩;clear hb i;have s:=λW u (t7 t8 t9 t10 t11 t12:Value) (hs:SW w B bb g h (.int .i64 r) (.int .i64 n) W) (m:W.heap[u]? =some (.cells #[.int .i64 (dz D r (dL D r) 0),.int .i64 (dz D r (dL D r) 1),.int .i64 (dz D r (dL D r) 2),.int .i64 (dz D r (dL D r) 3)] 131 (0,0)))=>worker2_any D B bb g h r n x0 t b W (ai E hs.2.2.2.1) k hs.1 hs.2.1 hs.2.2.1 (oF hs f.out.1) f.out.2 u t7 t8 t9 t10 t11 t12 m
 generalize H:(bodyPost (patch ae prog) (fD f69) (fun|.returned v,w'=>o9 (eF (dz D r (dL D r)) (dz D r (gq D r)) n) r v w'/\Below b.heap.size b w'|_,_=>False))=Q at s⊢;generalize C:Code.seq (R2 f69) (R3 f69)=c3 at s⊢;refine wp_seq ?_;unfold R1 O1 regOps split4;simp only[f69,Option.getD_some]
 go_region_held3(λw'=>w'.cell? ⟨bb,0,none⟩=some (.pointer (some ⟨B,0,none⟩))/\w'.cell? ⟨g,0,none⟩=some (.int .i64 r)/\w'.cell? ⟨h,0,none⟩=some (.int .i64 n)/\Below w.heap.size w w'/\w.heap.size<=w'.heap.size) (with_reducible (first|exact SW_start q p o|exact oD q p o j|exact SW_call (by assumption) j (by assumption)|exact SW_alloc (by assumption) j|exact SW_realloc (by assumption) j (by assumption)|exact SW_store (by assumption) j (by omega)))
  (first
   |(go_at_call 72;refine(usableB_any B r D _ k (oF (by assumption) f.out.1) f.out.2).mono ?_;rintro e w2 ⟨v,rfl,a,d⟩;have A:=SW_size (by assumption) d;have hint:=dh a;clear a;try(first|have l:=fw d|have l:=gV d);try(obtain⟨G,F⟩:=blk l))
   |(go_at_call 71;refine(byNode_lit B r D (dL D r) _ _ k (oF (by assumption) f.out.1) f.out.2 (by first|exact hint|exact hint.ext ((aab _ _).alloc (ZL _) _)) (ku f.out.2 k) (usN_in D r)).mono ?_;rintro e w3 ⟨rfl,c⟩;have z:=SW_size (by assumption) c;first|(have hp:=gV c;obtain⟨y,x⟩:=blk hp)|(have hp:=lS c l;obtain⟨y,x⟩:=blk hp)|skip))
 all_goals simp only[Exit.then]
 all_goals with_reducible refine s _ _ _ _ _ _ _ _ (by assumption) ?_
 all_goals with_reducible (first|exact aae _ _|exact set4 _ _ _ _ hp)
theorem workerB_any (D)(B bb a b r:Nat)(n)(x0 c)(w)(hb:aW w B D)(d:D.ok)(e:r<4)(_:0<n)(i:w.cell? ⟨bb,0,none⟩=some (ptr B))(g:w.cell? ⟨a,0,none⟩=some (.int .i64 r))(f:w.cell? ⟨b,0,none⟩=some (.int .i64 n)):
 Calls (patch ae prog) 69 #[x0,ptr bb,ptr a,ptr b,c] w fun|.returned v,w'=>o9 (eF (dz D r (dL D r)) (dz D r (gq D r)) n) r v w'/\Below w.heap.size w w'|_,_=>False:=by
 have j:(fD f69).ntmps=26:=by kernel_rfl
 have k:(#[x0,ptr bb,ptr a,ptr b,c]:Array Value)++Array.replicate ((fD f69).ntmps-(#[x0,ptr bb,ptr a,ptr b,c]:Array Value).size) undef= #[x0,.pointer (some ⟨bb,0,none⟩),.pointer (some ⟨a,0,none⟩),.pointer (some ⟨b,0,none⟩),c,undef,undef,undef,undef,undef,undef,undef,undef,undef,undef,undef,undef,undef,undef,undef,undef,undef,undef,undef,undef,undef]:=by
  rw[j];simp only[ptr,List.size_toArray,List.length_cons,List.length_nil,Nat.reduceAdd,Nat.reduceSub,Array.replicate_succ,Array.replicate_zero,List.push_toArray,List.append_toArray,List.cons_append,List.nil_append]
 refine calls_of_wp jq kr ?_;rw[k];have h:=worker1_any D B bb a b r n x0 c w w (aab _ _) e i g f hb d
 with_reducible exact h
end Z
section
open Go.RowKit
theorem jN:prog.funcs.size=340:=by kernel_rfl
theorem pal (L):(patch L prog).funcs[340]? =some (iH 31 "alarm"):=by have h:=patch_alarm L prog;rw[jN]at h;exact h
theorem pal2 (L):(patch L prog).funcs[341]? =some (gK 37 "alarm2"):=by have h:=patch_alarm2 L prog;rw[jN]at h;exact h
theorem pal3 (L):(patch L prog).funcs[342]? =some (iH 47 "alarm3"):=by have h:=patch_alarm3 L prog;rw[jN]at h;exact h
theorem run_panic (P)(t)(v)(w):Sem.run P (Instr.panic (.iface t v)) w=.halt (.panic (.iface t v)) w:=by simp[Instr.panic,goPanic]
def arg0 (x:Array Value):Value:=x.getD 0 undef
def raised (t:TypeId)(v:Value):List PanicEntry:=[{v:=.iface t v,recovered:=false}]
theorem alarm_any (L)(x)(w):Calls (patch L prog) 340 x w λe w'=>e=.panicked (raised 31 (arg0 x))/\w'=w:=by
 have hp:=run_panic (patch L prog);obtain⟨l⟩:=x;rcases l with _|⟨v,_|⟨u,l⟩⟩
 .refine calls_of_wp (pal L) rfl ?_
  simp only[iH,bg];go_wp2_with fail
  all_goals exact⟨rfl,rfl,rfl⟩
 .refine calls_of_wp (pal L) rfl ?_
  simp only[iH,bg];go_wp2_with fail
  all_goals exact⟨rfl,rfl,rfl⟩
 .refine calls_of_wp (pal L) rfl ?_
  simp only[iH,bg];have e:2-(Array.mk (v::u::l)).size=0:=by simp
  rw[e];simp only[Array.replicate_zero,Array.append_empty];go_wp2_with fail
  all_goals exact⟨rfl,rfl,rfl⟩
theorem alarm3_any (L)(x)(w):Calls (patch L prog) 342 x w λe w'=>e=.panicked (raised 47 (arg0 x))/\w'=w:=by
 have hp:=run_panic (patch L prog);obtain⟨l⟩:=x;rcases l with _|⟨v,_|⟨u,l⟩⟩
 .refine calls_of_wp (pal3 L) rfl ?_
  simp only[iH,bg];go_wp2_with fail
  all_goals exact⟨rfl,rfl,rfl⟩
 .refine calls_of_wp (pal3 L) rfl ?_
  simp only[iH,bg];go_wp2_with fail
  all_goals exact⟨rfl,rfl,rfl⟩
 .refine calls_of_wp (pal3 L) rfl ?_
  simp only[iH,bg];have e:2-(Array.mk (v::u::l)).size=0:=by simp
  rw[e];simp only[Array.replicate_zero,Array.append_empty];go_wp2_with fail
  all_goals exact⟨rfl,rfl,rfl⟩
theorem run_box (P)(t)(v)(w):Sem.run P (Instr.box t v) w=.ok (.pointer (some ⟨w.heap.size,0,none⟩)) (w.alloc (.cells v.cells t)):=by
 simp[Instr.box,newVar,newRow,newObj,Sem.run]
theorem alarmBox_any (L)(x)(w):Calls (patch L prog) 341 x w λe w'=>e=.panicked (raised 37 (.pointer (some ⟨w.heap.size,0,none⟩)))/\w'=w.alloc (.cells (arg0 x).cells 37):=by
 have hp:=run_panic (patch L prog);obtain⟨l⟩:=x;rcases l with _|⟨v,_|⟨u,_|⟨t,l⟩⟩⟩
 .refine calls_of_wp (pal2 L) rfl ?_
  simp only[gK,bg];go_wp2_with fail
  all_goals exact⟨rfl,rfl,rfl⟩
 .refine calls_of_wp (pal2 L) rfl ?_
  simp only[gK,bg];go_wp2_with fail
  all_goals first|exact⟨rfl,rfl,rfl⟩|(refine⟨rfl,rfl,?_⟩;cases v<;>first|rfl|(exfalso;simp_all))
 .refine calls_of_wp (pal2 L) rfl ?_
  simp only[gK,bg];go_wp2_with fail
  all_goals first|exact⟨rfl,rfl,rfl⟩|(refine⟨rfl,rfl,?_⟩;cases v<;>first|rfl|(exfalso;simp_all))
 .refine calls_of_wp (pal2 L) rfl ?_
  simp only[gK,bg];have e:3-(Array.mk (v::u::t::l)).size=0:=by simp
  rw[e];simp only[Array.replicate_zero,Array.append_empty];go_wp2_with fail
  all_goals first|exact⟨rfl,rfl,rfl⟩|(refine⟨rfl,rfl,?_⟩;cases v<;>first|rfl|(exfalso;simp_all))
end
