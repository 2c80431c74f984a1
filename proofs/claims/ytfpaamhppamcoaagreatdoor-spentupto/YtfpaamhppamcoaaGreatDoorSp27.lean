/- Part 27 of the proof. -/
import Derived.Test.YtfpaamhppamcoaaGreatDoorSp26
set_option linter.all false
namespace Go.Proofs.YtfpaamhppamcoaaGreatDoor
open Go.Proofs.Tryz
section
open Go Go.Conc Go.ConcN Go.RowKit Go.Conc.Lib
open Go.ConcR (KK wgBlock WgAt stA smA rd wr mk Payload DC0)
theorem run_enter {P}{n}{f}(h:P.funcs[n]? =some f)(a:(f.name== "runtime.NumGoroutine")=false)(hb:f.body.isNone=false)(args)(w):(callFunc n args).runT P w #[]=(.ok (.enter n args) w,#[]):=by
 rw[Sem.runT_eq];refine Prod.ext ?_ ?_
 .simp only[callFunc,Sem.run_bind,run_program,Result.andThen_ok,h,a,hb,Z0,if_false]
  simp
 .simp only[callFunc,Sem.events_bind,run_program,Result.evThen_ok,h,a,hb,Z0,if_false]
  simp
section
variable {K M:Nat->Prop}{S:Goroutine->World->(Nat->Prop)->Prop}{u:World}{b:Frame}{f:Nat->Value}{k:List Item}{cs:List Frame}{ops:Array Oper}{i:Nat}{rest:List Nat}
theorem j_enter {fn}{g}{args}{l}{d}{c}(h:gp ops i (.call {callee:=.value (.func g),args:=args,argTypes:=l}) (some d))(p:b.kind≠.early)(hf:prog.funcs[g]? =some fn)(n:(fn.name== "runtime.NumGoroutine")=false)(hb:fn.body=some c)
 (hc:aC prog true K S (G ((base g).at ⟨args.map (Act.mk (JT f) []).eval++Array.replicate (fn.ntmps-(args.map (Act.mk (JT f) []).eval).size) undef,[]⟩ [.code c]) (b.at ⟨JT f,[]⟩ (.inRegion ops (i::rest)::k)::cs)) u M):
 aC prog true K S (G (b.at ⟨JT f,[]⟩ (.inRegion ops (i::rest)::k)) cs) u M:=by
 obtain⟨o,s,r,t,q⟩:=h
 have m:∀az,(execOp (Act.mk (JT f) []).eval o).runT prog az #[]=(.ok (.enter g (args.map (Act.mk (JT f) []).eval)) az,#[]):=λaz=>by
  have e:execOp (Act.mk (JT f) []).eval o=callFunc g (#[]++args.map (Act.mk (JT f) []).eval++ #[]):=by
   unfold execOp;rw[r];rfl
  rw[e,Array.empty_append,Array.append_empty];exact run_enter hf n (by rw[hb];rfl) _ _
 refine aC.step rfl λaz a=>?_
 have j:=m az;rw[Sem.runT_eq,Prod.mk.injEq]at j;refine⟨_,az,_,stepG_enter (f:=g) (args:=args.map (Act.mk (JT f) []).eval) s (bq q _) p j.1,⟨rfl,rfl,rfl,ZL _,λ_ _ _=>rfl,λe he=>?_⟩,?_⟩
 .have:=jF e he
  rw[j.2]at this;simp at this
 .rw[Grow.self,enter_at _ hf hb]
  exact hc.rely a
theorem j_cond {x}{p q}{t}(hx:(Act.mk (JT f) []).eval x=.bool t)(hc:aC prog true K S (G (b.at ⟨JT f,[]⟩ (.code (if t then p else q)::k)) cs) u M):aC prog true K S (G (b.at ⟨JT f,[]⟩ (.code (.cond x p q)::k)) cs) u M:=aC.ctl rfl (λ_=>stepG_cond hx) hc
theorem j_exit {a}{id}{k'}(h:exitTo id k=some k')(hc:aC prog true K S (G (b.at a k') cs) u M):aC prog true K S (G (b.at a (.code (.exit id)::k)) cs) u M:=aC.ctl rfl (λ_=>stepG_exit h) hc
theorem j_skip {a}(hc:aC prog true K S (G (b.at a k) cs) u M):aC prog true K S (G (b.at a (.code .skip::k)) cs) u M:=aC.ctl rfl (λ_=>stepG_skip) hc
theorem j_block {a}{id}{c}(hc:aC prog true K S (G (b.at a (.code c:: .inBlock id::k)) cs) u M):aC prog true K S (G (b.at a (.code (.block id c)::k)) cs) u M:=aC.ctl rfl (λ_=>stepG_block) hc
theorem j_inBlock {a}{id}(hc:aC prog true K S (G (b.at a k) cs) u M):aC prog true K S (G (b.at a (.inBlock id::k)) cs) u M:=aC.ctl rfl (λ_=>stepG_inBlock) hc
theorem j_loop {a}{c}(hc:aC prog true K S (G (b.at a (.code c:: .inLoop c::k)) cs) u M):aC prog true K S (G (b.at a (.code (.loop c)::k)) cs) u M:=aC.ctl rfl (λ_=>stepG_loop) hc
theorem j_inLoop {a}{c}(hc:aC prog true K S (G (b.at a (.code c:: .inLoop c::k)) cs) u M):aC prog true K S (G (b.at a (.inLoop c::k)) cs) u M:=aC.ctl rfl (λ_=>stepG_inLoop) hc
end
section
variable [Payload]
theorem sr_eq {Q}{ty}{Wg V nV}{K}{An}{nW}{off}{vals}(r):Sr Q ty Wg V nV K An nW off vals r=aC Q true K (SrS Q ty Wg V nV K An nW off vals r):=by
 cases r<;>rfl
end
section
def headJ (f:Func):List Item:=[.code (loopJ f),.inLoop (loopJ f),.inBlock 0,.code (.seq (mI f 10) (.seq (mI f 11) .ret))]
def backJ (f:Func):List Item:=[.code (mI f 9),.inLoop (loopJ f),.inBlock 0,.code (.seq (mI f 10) (.seq (mI f 11) .ret))]
theorem events_sub {M K}{c}(hm:M c){es:Array Event}(h:∀e∈es,∃x,e=⟨.cell ⟨c,x,none⟩,false,false⟩):∀e∈es,EvM K M e:=λe he=>by
 obtain⟨x,rfl⟩:=h e he;exact .inl ⟨c,.inr ⟨_,rfl,rfl⟩,rfl,.inl hm⟩
structure HJ (c:Nat->Int)(bb VV Wg i:Nat)(f:Nat->Value):Prop where
 f2:f 2=ptr bb
 f5:f 5=ptr VV
 f6:f 6=ptr Wg
 fa:f 10=.agg (aQ c)
 fb:f 11=.int .i64 i
theorem HJ.up {c:Nat->Int}{bb VV Wg i:Nat}{f:Nat->Value}(h:HJ c bb VV Wg i f){d:Nat}(v:Value)(hd:d≠2/\d≠5/\d≠6/\d≠10/\d≠11):HJ c bb VV Wg i (up f d v):=
 ⟨by rw[bH _ _ (Ne.symm hd.1)];exact h.f2,by rw[bH _ _ (Ne.symm hd.2.1)];exact h.f5,by rw[bH _ _ (Ne.symm hd.2.2.1)];exact h.f6,by rw[bH _ _ (Ne.symm hd.2.2.2.1)];exact h.fa,by rw[bH _ _ (Ne.symm hd.2.2.2.2)];exact h.fb⟩
theorem to_next {S}{K M}{u}{cs}{c}{bb VV Wg i}{f}(d:i<4)(h:HJ c bb VV Wg i f)
 (hc:∀f,HJ c bb VV Wg (i+1) f->aC prog true K S (G ((base 42).at ⟨JT f,[]⟩ (headJ f42)) cs) u M):aC prog true K S (G ((base 42).at ⟨JT f,[]⟩ (backJ f42)) cs) u M:=by
 have a:(base 42).kind≠.early:=by decide
 refine fu (iN 9 2 rfl) ?_;refine nR j90 a (Holds.nil (K:=K) (M:=M)) (v:=.int .i64 ((i+1:Nat):Int)) (λo az b _=>⟨#[],?_,λe he=>by simp at he⟩) ?_
 .rw[mq b,bQ _ _ (by decide),jS,h.fb]
  exact gm (runT_add _ i d _ _)
 refine j_move (.inl j91) a (bQ _ _ (by decide)) ?_;refine mW (j_inLoop (hc _ ?_));refine⟨?_,?_,?_,?_,?_⟩
 .rw[bH _ _ (by decide),bH _ _ (by decide)];exact h.f2
 .rw[bH _ _ (by decide),bH _ _ (by decide)];exact h.f5
 .rw[bH _ _ (by decide),bH _ _ (by decide)];exact h.f6
 .rw[bH _ _ (by decide),bH _ _ (by decide)];exact h.fa
 .rw[cK,cK]
end
theorem und_int:∃d,prog.underlying 3=some d/\d.isRow=false:=⟨_,underlying3,rfl⟩
theorem bF.none_trans {K M}{u v w}(h:bF K (λ_=>False) u v)(k:bF K M v w):bF K (λ_=>False) u w:=h.trans (k.mono λ_ h=>h.elim)
section
theorem round_body {S}{K M}{u}{cs}{c}{bb VV Wg i}{f}(F:i<4)(h:HJ c bb VV Wg i f)(r:∀d,K d->¬M d)(q:∀d,K d->d<u.heap.size)
 (m:c i<=0->∀f u' M',HJ c bb VV Wg i f->bF K (λ_=>False) u u'->(∀d,M' d->M d\/u.heap.size<=d)->aC prog true K S (G ((base 42).at ⟨JT f,[]⟩ (backJ f42)) cs) u' M')
 (hgo:0<c i->∀f a b u' M',HJ c bb VV Wg i f->f 7=ptr a->f 8=ptr b->Holds K [(a,.cells #[.int .i64 i] 3),(b,.cells #[.int .i64 (c i)] 3)] u' M'->M' a->M' b->a<b->bF K (λ_=>False) u u'->(∀d,M' d->M d\/u.heap.size<=d)->
  aC prog true K S (G ((base 42).at ⟨JT f,[]⟩ (.code (.seq (mI f42 7) (mI f42 8)):: .inBlock 1::backJ f42)) cs) u' M'):
 aC prog true K S (G ((base 42).at ⟨JT f,[]⟩ (headJ f42)) cs) u M:=by
 have j:(base 42).kind≠.early:=by decide
 refine jo (fu (iN 4 1 rfl) ?_);refine nR j40 j (Holds.nil (K:=K) (M:=M)) (v:=.bool (decide (i<4))) (λo az g _=>⟨#[],?_,λe he=>by simp at he⟩) ?_
 .rw[mq g,bQ _ _ (by decide),jS,h.fb]
  exact gm (runT_lss _ i (by omega) _ _)
 replace h:=h.up (d:=12) (.bool (decide (i<4))) (by decide);have w:(Act.mk (JT (up f 12 (.bool (decide (i<4))))) []).eval (.tmp 12)=.bool true:=by rw[bQ _ _ (by decide),cK,decide_eq_true F]
 generalize up f 12 (.bool (decide (i<4)))=f at h w⊢;refine mW (jo (j_cond w ?_));simp;refine j_skip (jo (j_block (jo (fu (iN 5 6 rfl) ?_))));refine j_move (.inl j50) j ((bQ _ _ (by decide)).trans h.fb) ?_;have g13:up f 13 (.int .i64 i) 13=.int .i64 i:=cK _ _ _;replace h:=h.up (d:=13) (.int .i64 i) (by decide);generalize up f 13 (.int .i64 i)=f at h g13⊢;refine nR j51 j (Holds.nil (K:=K) (M:=M)) (v:=.int .i64 (c i)) (λo az g _=>⟨#[],?_,λe he=>by simp at he⟩) ?_
 .rw[exec_index g,bQ _ _ (by decide),bQ _ _ (by decide),h.fb,h.fa]
  exact gm (runT_index _ i F c)
 have g14:up f 14 (.int .i64 (c i)) 14=.int .i64 (c i):=cK _ _ _;replace g13:up f 14 (.int .i64 (c i)) 13=.int .i64 i:=(bH _ _ (by decide)).trans g13;replace h:=h.up (d:=14) (.int .i64 (c i)) (by decide);generalize up f 14 (.int .i64 (c i))=f at h g13 g14⊢;refine j_make r j52 j Holds.nil ptr (.cells #[.int .i64 0] 3) (λo az g=>by rw[mr g];exact gm (pG _)) λa u1 O U a2 a3 a4 a5 T R N=>?_
 have g7:up f 7 (ptr a) 7=ptr a:=cK _ _ _;replace g13:up f 7 (ptr a) 13=.int .i64 i:=(bH _ _ (by decide)).trans g13;replace g14:up f 7 (ptr a) 14=.int .i64 (c i):=(bH _ _ (by decide)).trans g14;replace h:=h.up (d:=7) (ptr a) (by decide);generalize up f 7 (ptr a)=f at h g7 g13 g14⊢;have l:∀d,K d->¬O d:=λd hd hm=>(a5 d hm).elim (r d hd) λx=>by have:=q d hd;omega
 refine j_make l j53 j a2 ptr (.cells #[.int .i64 0] 3) (λo az g=>by rw[mr g];exact gm (pG _)) λb u2 M2 b1 b2 E I H Q P L=>?_
 have g8:up f 8 (ptr b) 8=ptr b:=cK _ _ _;replace g7:up f 8 (ptr b) 7=ptr a:=(bH _ _ (by decide)).trans g7;replace g13:up f 8 (ptr b) 13=.int .i64 i:=(bH _ _ (by decide)).trans g13;replace g14:up f 8 (ptr b) 14=.int .i64 (c i):=(bH _ _ (by decide)).trans g14;replace h:=h.up (d:=8) (ptr b) (by decide);generalize up f 8 (ptr b)=f at h g7 g8 g13 g14⊢;have k:∀d,K d->¬M2 d:=λd hd hm=>(H d hm).elim (l d hd) λx=>by have:=q d hd;omega
 have n:a≠b:=by omega
 refine j_write (new:= #[.int .i64 i]) k j54 j b2 (I _ a3) (List.mem_cons_of_mem _ ZX) (λo az g A=>?_) λu3 J c2 c3=>?_
 .rw[exec_store g,bQ _ _ (by decide),bQ _ _ (by decide),g7,g13]
  obtain⟨es,y,s⟩:=nD (ty:=3) (by kernel_rfl) A (v:=.int .i64 i) rfl rfl;exact⟨es,runT_u y,s⟩
 have D:Holds K [(b,.cells #[.int .i64 0] 3),(a,.cells #[.int .i64 i] 3)] u3 M2:=J.sub λx hx=>by
  simp at hx⊢;rcases hx with rfl|rfl
  .exact .inr ⟨.inl rfl,by simpa using Ne.symm n⟩
  .exact .inl rfl
 refine j_write (new:= #[.int .i64 (c i)]) k j55 j D E ZX (λo az g A=>?_) λu4 d1 d2 d3=>?_
 .rw[exec_store g,bQ _ _ (by decide),bQ _ _ (by decide),g8,g14]
  obtain⟨es,y,s⟩:=nD (ty:=3) (by kernel_rfl) A (v:=.int .i64 (c i)) rfl rfl;exact⟨es,runT_u y,s⟩
 have z:Holds K [(a,.cells #[.int .i64 i] 3),(b,.cells #[.int .i64 (c i)] 3)] u4 M2:=d1.sub λx hx=>by
  simp only[ZW,List.mem_filter,List.not_mem_nil,or_false]at hx⊢;rcases hx with rfl|rfl
  .exact .inr ⟨.inr rfl,by simpa using n⟩
  .exact .inl rfl
 have hR:=N.trans (L.trans (c3.trans d3));have p:=λd hm=>(H d hm).elim (λx=>(a5 d x).imp id And.left) λx=>.inr (by omega)
 refine mW (jo (jo (fu (iN 6 2 rfl) ?_)));refine nR j60 j z (v:=.int .i64 (c i)) (λo az g hl=>?_) ?_
 .rw[exec_load g,bQ _ _ (by decide),g8]
  obtain⟨d,C,B⟩:=und_int;obtain⟨es,y,s⟩:=runT_load1 C B (hl _ (List.mem_cons_of_mem _ ZX)).2.2;exact⟨es,gm y,events_sub E s⟩
 have g15:up f 15 (.int .i64 (c i)) 15=.int .i64 (c i):=cK _ _ _;replace g7:up f 15 (.int .i64 (c i)) 7=ptr a:=(bH _ _ (by decide)).trans g7;replace g8:up f 15 (.int .i64 (c i)) 8=ptr b:=(bH _ _ (by decide)).trans g8;replace h:=h.up (d:=15) (.int .i64 (c i)) (by decide);generalize up f 15 (.int .i64 (c i))=f at h g7 g8 g15⊢;refine nR j61 j (Holds.nil (K:=K) (M:=M2)) (v:=.bool (decide (c i<=0))) (λo az g _=>⟨#[],?_,λe he=>by simp at he⟩) ?_
 .rw[mq g,bQ _ _ (by decide),jS,g15]
  exact gm (runT_leq _ _ _ _)
 have t:(Act.mk (JT (up f 16 (.bool (decide (c i<=0))))) []).eval (.tmp 16)=.bool (decide (c i<=0)):=by rw[bQ _ _ (by decide),cK]
 replace g7:up f 16 (.bool (decide (c i<=0))) 7=ptr a:=(bH _ _ (by decide)).trans g7;replace g8:up f 16 (.bool (decide (c i<=0))) 8=ptr b:=(bH _ _ (by decide)).trans g8;replace h:=h.up (d:=16) (.bool (decide (c i<=0))) (by decide);generalize up f 16 (.bool (decide (c i<=0)))=f at h g7 g8 t⊢;refine mW (j_cond t ?_)
 by_cases hc:c i<=0
 .simp only[decide_eq_true hc,if_true]
  exact j_exit rfl (m hc f u4 M2 h hR p)
 .simp only[decide_eq_false hc,Z0,if_false]
  exact j_skip (hgo (by omega) f a b u4 M2 h g7 g8 z (I _ a3) E (by omega) hR p)
end
section
variable {ty:TypeId}{Wg:Nat}{Q:Program}{St:Goroutine->World->Prop}{m:Nat}
theorem goes_main {g g'}(hs:g.status=.running)(h:∀w,stepG Q true g w=.go g' w #[])(k:∀w,WgLive ty Wg w->Goes Q true (RL ty Wg) DC0 St m g' w):∀w,WgLive ty Wg w->Goes Q true (RL ty Wg) DC0 St (m+1) g w:=
 λw _=>Goes.step hs λa b=>by rw[h a];exact⟨⟨rfl,rfl⟩,k a b⟩
end
theorem nQ {P}{fn}{a}{o}{w}(h:(execOp a.eval o).events P w #[]= #[]):listed P fn a o w= #[]:=by
 unfold listed;rw[h,seen_none]
theorem to_go {Wg bb VV b c}{f}{cs}{k}(f2:f 2=ptr bb)(f5:f 5=ptr VV)(f6:f 6=ptr Wg)(f7:f 7=ptr b)(f8:f 8=ptr c):
 ∀w,WgLive link.tWg Wg w->Goes prog true (RL link.tWg Wg) DC0 (TGo prog (G ((base 42).at ⟨JT (up f 18 (.func (.func 69) #[] #[ptr Wg,ptr bb,ptr b,ptr c,ptr VV])),[]⟩ (.inRegion (AJ f42 8) []::k)) cs) (born prog (callW Wg bb b c VV))) 3
  (G ((base 42).at ⟨JT f,[]⟩ (.inRegion (AJ f42 7) []:: .code (mI f42 8)::k)) cs) w:=by
 refine goes_main rfl (λw=>stepG_region_end) ?_;refine goes_main rfl (λw=>stepG_region) ?_;rw[iN 8 2 rfl,show List.range 2=[0,1]from rfl];obtain⟨o,l,j,i,h⟩:=j80
 have g:∀w,(execOp (Act.mk (JT f) []).eval o).runT prog w #[]=(.ok (.value (.func (.func 69) #[] #[ptr Wg,ptr bb,ptr b,ptr c,ptr VV])) w,#[]):=λw=>by
  have e:execOp (Act.mk (JT f) []).eval o=(do Pure.pure (Next.value (<-Instr.makeFunc (.func 69) ((#[]:Array Operand).map (Act.mk (JT f) []).eval) ((#[.tmp 6,.tmp 2,.tmp 7,.tmp 8,.tmp 5]:Array Operand).map (Act.mk (JT f) []).eval)))):=by
   unfold execOp;rw[j]
  have m:(#[.tmp 6,.tmp 2,.tmp 7,.tmp 8,.tmp 5]:Array Operand).map (Act.mk (JT f) []).eval= #[(Act.mk (JT f) []).eval (.tmp 6),(Act.mk (JT f) []).eval (.tmp 2),(Act.mk (JT f) []).eval (.tmp 7),(Act.mk (JT f) []).eval (.tmp 8),(Act.mk (JT f) []).eval (.tmp 5)]:=by simp
  rw[m,show((#[]:Array Operand).map (Act.mk (JT f) []).eval)= #[]from by simp]at e;rw[e,bQ _ _ (by decide),bQ _ _ (by decide),bQ _ _ (by decide),bQ _ _ (by decide),bQ _ _ (by decide),f2,f5,f6,f7,f8];exact gm rfl
 have d:=λw=>(g w)
 simp only[Sem.runT_eq,Prod.mk.injEq]at d;refine goes_main rfl (λw=>by rw[stepG_value l (bq h _) (by decide) (d w).1,nQ (d w).2,i,put_JT]) ?_;intro w _;refine Goes.stop λa _=>⟨rfl,?_⟩
 obtain⟨o,g1,g2,g3,g4⟩:=j81
 have hs:(execOp (Act.mk (JT (up f 18 (.func (.func 69) #[] #[ptr Wg,ptr bb,ptr b,ptr c,ptr VV]))) []).eval o).runT prog a #[]=(.ok (.spawn (callW Wg bb b c VV)) a,#[]):=by
  have e:execOp (Act.mk (JT (up f 18 (.func (.func 69) #[] #[ptr Wg,ptr bb,ptr b,ptr c,ptr VV]))) []).eval o=(do Pure.pure (Next.spawn (<-resolve (Act.mk (JT (up f 18 (.func (.func 69) #[] #[ptr Wg,ptr bb,ptr b,ptr c,ptr VV]))) []).eval {callee:=.value (.tmp 18),args:= #[],argTypes:= #[]} o.type))):=by
   unfold execOp;rw[g2]
  rw[e];unfold resolve;simp only[bQ _ _ (show 18<22 by decide),cK,List.map_toArray,List.map_nil];rfl
 rw[Sem.runT_eq,Prod.mk.injEq]at hs;rw[stepG_spawn g1 (bq g4 _) (by decide) hs.1 rfl,nQ hs.2,g3];rfl
section
variable [Payload]
theorem rounds {K}{aL}{c}{vd:Nat->Array Value}{bb V VV Wg nW}{off}{vals}{cs}{cnt:Nat->Nat}(z:WgLive link.tWg Wg aL)
 (c4:cnt 4=0)(Q:∀i,i<4->cnt i=cnt (i+1)+if 0<c i then 1 else 0)(t:∀i,i<4->0<c i->off (nW-(cnt (i+1)+1))=17*i/\vals (nW-(cnt (i+1)+1))=(vd i).toList)(B:∀d,K d->d<aL.heap.size)
 (Z:∀(r g j:Nat) (az:World) (M₀:Nat->Prop),r<4->0<c r->M₀ g->M₀ j->g<j->Holds K [(g,.cells #[.int .i64 r] 3),(j,.cells #[.int .i64 (c r)] 3)] az M₀->bF K (λ_=>False) aL az->(∀d,M₀ d->aL.heap.size<=d)->
  aC prog false K (kg prog link.tWg Wg V 68 (17*r) (vd r).toList) (born prog (callW Wg bb g j VV)) az M₀):
 ∀n i,i+n=4->∀f u M,HJ c bb VV Wg i f->bF K (λ_=>False) aL u->(∀d,M d->aL.heap.size<=d)->Sr prog link.tWg Wg V 68 K (AnJ f42 link Wg VV cs) nW off vals (cnt i) (G ((base 42).at ⟨JT f,[]⟩ (headJ f42)) cs) u M:=by
 intro n;have J:(base 42).kind≠.early:=by decide
 induction n with
 |zero=>
  intro i U f u M h hR D;obtain rfl:i=4:=by omega
  rw[c4,sr_eq];refine jo (fu (iN 4 1 rfl) ?_);refine nR j40 J (Holds.nil (K:=K) (M:=M)) (v:=.bool (decide ((4:Nat)<4))) (λo az T _=>⟨#[],?_,λe he=>by simp at he⟩) ?_
  .rw[mq T,bQ _ _ (by decide),jS,h.fb]
   exact gm (runT_lss _ 4 (by omega) _ _)
  replace h:=h.up (d:=12) (.bool (decide ((4:Nat)<4))) (by decide);have C:(Act.mk (JT (up f 12 (.bool (decide ((4:Nat)<4))))) []).eval (.tmp 12)=.bool false:=by rw[bQ _ _ (by decide),cK];rfl
  generalize up f 12 (.bool (decide ((4:Nat)<4)))=f at h C⊢;refine mW (jo (j_cond C ?_));simp only[Z0,if_false];refine j_exit rfl (jo (fu (iN 10 1 rfl) ?_));refine j_enter (fn:=waitFn link) (c:=Go.ConcR.Gen.body_wait link) jA0 J wgLib.f_wait (Go.ConcR.Gen.nm_wait link) rfl ?_;refine aC.stop λaz _=>?_
  have he:(#[Operand.tmp 6]).map (Act.mk (JT f) []).eval= #[.pointer (some ⟨Wg,0,none⟩)]:=by
   rw[show(#[Operand.tmp 6]).map (Act.mk (JT f) []).eval= #[(Act.mk (JT f) []).eval (.tmp 6)]from by simp,bQ _ _ (by decide),h.f6];rfl
  rw[he];exact start_wait h.f5 z az
 |succ n P=>
  intro i U f u M h hR D;have a:i<4:=by omega
  have N:∀d,K d->¬M d:=λd hd hm=>by have:=B d hd;have:=D d hm;omega
  rw[sr_eq];refine round_body a h N (λd hd=>ZO (B d hd) hR.size) ?_ ?_
  .intro hc f u' M' q E p
   refine to_next a q λf X=>?_
   have m:∀d,M' d->aL.heap.size<=d:=λd hd=>(p d hd).elim (D d) λx=>ZP hR.size x
   have:=P (i+1) (by omega) f u' M' X (hR.trans E) m;rw[sr_eq]at this;rw[Q i a,if_neg (by omega)];exact this
  .intro hc f g j u' M' q f7 f8 W m1 m2 I E p
   have m:∀d,M' d->aL.heap.size<=d:=λd hd=>(p d hd).elim (D d) λx=>ZP hR.size x
   have L:=hR.trans E;have y:cnt i=cnt (i+1)+1:=(by rw[Q i a,if_pos hc]);rw[y];obtain⟨H,F⟩:=t i a hc;refine jo (fu (iN 7 1 rfl) ?_);refine j_enter (fn:=addFn link) (c:=Go.ConcR.Gen.body_add link) j70 J wgLib.f_add (Go.ConcR.Gen.nm_add link) rfl ?_;refine aC.stop λaz l=>?_
   have he:(#[Operand.tmp 6,Operand.const (.int .i64 1)]).map (Act.mk (JT f) []).eval= #[.pointer (some ⟨Wg,0,none⟩),.int .i64 1]:=by
        rw[show(#[Operand.tmp 6,Operand.const (.int .i64 1)]).map (Act.mk (JT f) []).eval= #[(Act.mk (JT f) []).eval (.tmp 6),.int .i64 1]from by simp[Act.eval],bQ _ _ (by decide),q.f6];rfl
   rw[he]
   have s:∃o,(AJ f42 7)[0]? =some o/\o.dst=some 17:=by
        obtain⟨o,Y,_,O,_⟩:=j70;exact⟨o,Y,O⟩
   obtain⟨o,S,R⟩:=s;refine⟨G ((base 42).at ⟨JT (up (up f 17 (.tuple #[])) 18 (.func (.func 69) #[] #[ptr Wg,ptr bb,ptr g,ptr j,ptr VV])),[]⟩ (.inRegion (AJ f42 8) []:: .inBlock 1::backJ f42)) cs,born prog (callW Wg bb g j VV),rfl,⟨40,goes_any az (addWalk (b₀:=base 42) (a₀:=⟨JT f,[]⟩) (ops₀:=AJ f42 7) (i₀:=0) (rest₀:=[]) (k₀:=.code (mI f42 8):: .inBlock 1::backJ f42) (cs:=cs) (mT:=3) (child:=born prog (callW Wg bb g j VV)) wgLib ?_ aL z)⟩,?_⟩
   .intro w hw
    rw[S,Option.bind_some,R,put_JT];refine to_go ?_ ?_ ?_ ?_ ?_ w hw
    .rw[bH _ _ (by decide)];exact q.f2
    .rw[bH _ _ (by decide)];exact q.f5
    .rw[bH _ _ (by decide)];exact q.f6
    .rw[bH _ _ (by decide)];exact f7
    .rw[bH _ _ (by decide)];exact f8
   .intro b k
    have A:bF K (λ_=>False) aL b:=(L.none_trans l).none_trans k;refine⟨?_,?_⟩
    .rw[H,F]
     exact Z i g j b M' a hc m1 m2 I ((W.rely l).rely k) A m
    .rw[sr_eq]
     refine mW (j_inBlock ?_);refine to_next a ((q.up (d:=17) _ (by decide)).up (d:=18) _ (by decide)) λf O=>?_
     have:=P (i+1) (by omega) f b (λ_=>False) O A (λ_ h=>h.elim);rw[sr_eq]at this;exact this
end
def iR (c:Nat->Int)(i:Nat):Nat:=((List.range 4).filter λj=>decide (i<=j)&&decide (0<c j)).length
def posJ (c:Nat->Int):List Nat:=(List.range 4).filter λj=>decide (0<c j)
def offJ (c:Nat->Int)(k:Nat):Nat:=17*(posJ c)[k]?.getD 0
def pq (c:Nat->Int)(vd:Nat->Array Value)(k:Nat):List Value:=(vd ((posJ c)[k]?.getD 0)).toList
def mK (x:Nat):Value:=dQ.getD x undef
theorem four {P:Nat->Prop}(d:P 0)(c:P 1)(b:P 2)(a:P 3):∀i,i<4->P i:=λi e=>by
 obtain rfl|rfl|rfl|rfl:i=0\/i=1\/i=2\/i=3:=by omega
 .exact d
 .exact c
 .exact b
 .exact a
theorem range4:List.range 4=[0,1,2,3]:=rfl
theorem cntJ_4 (c):iR c 4=0:=by simp[iR,range4]
theorem cntJ_S (c):∀i,i<4->iR c i=iR c (i+1)+if 0<c i then 1 else 0:=by
 refine four ?_ ?_ ?_ ?_<;>(simp only[iR,range4];by_cases e:0<c 0<;>by_cases d:0<c 1<;>by_cases b:0<c 2<;>by_cases a:0<c 3<;>simp[e,d,b,a])
theorem offJ_at (c)(vd):∀i,i<4->0<c i->offJ c (iR c 0-(iR c (i+1)+1))=17*i/\pq c vd (iR c 0-(iR c (i+1)+1))=(vd i).toList:=by
 refine four ?_ ?_ ?_ ?_<;>(intro a;simp only[offJ,pq,posJ,iR,range4];by_cases f:0<c 0<;>by_cases e:0<c 1<;>by_cases d:0<c 2<;>by_cases b:0<c 3<;>simp_all)
theorem posJ_get (c):∀k,k<iR c 0->∃i,i<4/\0<c i/\(posJ c)[k]? =some i:=by
 intro k b;have e:iR c 0=(posJ c).length:=by unfold iR posJ;congr 1
 have a:k< (posJ c).length:=by omega
 refine⟨(posJ c)[k],?_,?_,by simp[a]⟩
 .have:=List.getElem_mem a
  simpa using (List.mem_filter.1 this).1
 .have:=List.getElem_mem a
  simpa using (List.mem_filter.1 this).2
theorem posJ_inj (c){k k'}(d:k<iR c 0)(b:k'<iR c 0)(h:(posJ c)[k]? =(posJ c)[k']?):k=k':=by
 have e:iR c 0=(posJ c).length:=by unfold iR posJ;congr 1
 have a:(posJ c).Nodup:=List.Pairwise.filter _ List.nodup_range;exact(List.getElem?_inj (by omega) a).1 h
theorem cntJ_le (c):iR c 0<=4:=ZP (List.length_filter_le _ _) (by simp)
theorem geoJ (c)(vd)(e:∀i,i<4->0<c i->(vd i).size=17):pg 68 (iR c 0) (offJ c) (pq c vd):=by
 have key:∀k,k<iR c 0->∃i,i<4/\(posJ c)[k]? =some i/\offJ c k=17*i/\(pq c vd k).length=17:=λk a=>by
  obtain⟨i,g,f,d⟩:=posJ_get c k a;refine⟨i,g,d,?_,?_⟩
  .simp[offJ,d]
  .simp[pq,d,e i g f]
 refine⟨cntJ_le c,λk a=>?_,λk a=>?_,λk k' x a b m a2 a3 a4=>?_⟩
 .obtain⟨i,_,_,_,h⟩:=key k a;omega
 .obtain⟨i,g,_,d,h⟩:=key k a;omega
 .obtain⟨i,_,f,d,l⟩:=key k a
  obtain⟨j,_,g2,g3,g4⟩:=key k' b;have:i=j:=by omega
  subst this;exact posJ_inj c a b (f.trans g2.symm)
theorem goes_calm {Q}{ty}{Wg}{St}:∀(n:Nat) (g:Goroutine) (w:World),WgLive ty Wg w->Goes Q true (RL ty Wg) DC0 St n g w->Goes Q true (λw a=>∃d,a=w.at d) DC0 St n g w
 |0,g,w,hl,h=>λa ⟨d,e⟩=>h a (by subst e;exact hl)
 |n+1,g,w,hl,h=>by
  rcases h with h|⟨c,h⟩
  .exact .inl λa ⟨d,e⟩=>h a (by subst e;exact hl)
  .refine .inr ⟨c,λa ⟨d,e⟩=>?_⟩
   have b:WgLive ty Wg a:=(by subst e;exact hl);have:=h a b
   revert this
   cases stepG Q true g a<;>simp only[GStep.goes,imp_self]
   rintro⟨⟨rfl,rfl⟩,x⟩;exact⟨⟨rfl,rfl⟩,goes_calm n _ _ b x⟩
def inJ (vb:Value)(c:Nat->Int)(j:Nat):Value:=if j=0 then vb else if j=1 then .agg (aQ c)else undef
theorem tmpsJ (vb)(c): #[vb,.agg (aQ c)]++Array.replicate 20 undef=JT (inJ vb c):=by kernel_rfl
theorem enterJ (vb)(c):Frame.enter prog 42 #[vb,.agg (aQ c)] .normal=(base 42).at ⟨JT (inJ vb c),[]⟩ [.code (.seq (mI f42 0) (.seq (mI f42 1) (.seq (mI f42 2) (.seq (.seq (mI f42 3) (.block 0 (.loop (loopJ f42)))) (.seq (mI f42 10) (.seq (mI f42 11) .ret))))))]:=by
 rw[enter_at _ fn_judge judge_code,ntmpsJ,show 22-(#[vb,Value.agg (aQ c)]:Array Value).size=20 from rfl,tmpsJ]
theorem tail_back {V VV}{b}{bs}{t}(l:t 5=ptr VV){u}(a:u.heap[VV]? =some (.cells #[ko V] 87)):
 aC prog true (λx=>x=VV) (λg _ _=>g=df (b.finish (ko V)) bs) (G (waitFr f42 t []) (b::bs)) u (λ_=>False):=by
 have i:(base 42).kind≠.early:=by decide
 have k:Holds (λx=>x=VV) [(VV,.cells #[ko V] 87)] u (λ_=>False):=λx hx=>by
  simp only[ZW,List.not_mem_nil,or_false]at hx;subst hx;exact⟨.inr rfl,(ZK.1 a).1,a⟩
 refine mW (jo (fu (iN 11 2 rfl) ?_));refine nR jB0 i k (v:=ko V) (λo az j hl=>?_) ?_
 .rw[exec_load j,bQ _ _ (by decide),l]
  obtain⟨d,h,f⟩:=und_verdicts;obtain⟨es,c,m⟩:=runT_load1 h f (hl _ ZX).2.2;refine⟨es,gm c,λe he=>?_⟩;obtain⟨x,rfl⟩:=m e he;exact .inl ⟨VV,.inr ⟨_,rfl,rfl⟩,rfl,.inr ⟨rfl,rfl⟩⟩
 refine j_move (.inr jB1) i ((bQ _ _ (by decide)).trans (cK _ _ _)) ?_;refine mW (aC.ctl rfl (λ_=>stepG_ret') ?_);have c:Func.results f42= #[.tmp 4]:=by kernel_rfl
 refine aC.ctl (g':=G (b.finish (ko V)) bs) rfl (λaz=>?_) (aC.stop λ_ _=>rfl);refine stepG_leave (fn:=f42) rfl rfl fn_judge ?_ ?_
 .rw[results_tmp c]
  show Result.ok ((JT _).getD 4 undef) az=_
  rw[JT_get _ (by decide),cK]
 .exact events_results_tmp c _ _
section
variable [Payload]
theorem judge_company (D:Payload.ety=91){S}{gs}{u}{sl}{t}{q}{b}{bs}{B'}{c}{vd:Nat->Array Value}
 (hF:ni prog S gs u.heap.size t q)(h0:gs[0]? =some (df (Frame.enter prog 42 #[ptr B',.agg (aQ c)] .normal) (b::bs)))(F:∀i,i<4->0<c i->(vd i).size=17)
 (HW:∀(bb V VV Wg:Nat) (aL:World),(∀d,d<u.heap.size->aL.heap[d]? =u.heap[d]?)->u.heap.size<=bb->bb<V->V<VV->VV<Wg->Wg<aL.heap.size->aL.heap[bb]? =some (.cells #[ptr B'] 31)->aL.heap[VV]? =some (.cells #[ko V] 87)->aL.tape=u.tape->
  ∀(r X Y:Nat) (az:World) (M₀:Nat->Prop),r<4->0<c r->M₀ X->M₀ Y->X<Y->Holds (λx=>x<aL.heap.size/\x≠V/\x≠Wg/\¬S x) [(X,.cells #[.int .i64 r] 3),(Y,.cells #[.int .i64 (c r)] 3)] az M₀->
   bF (λx=>x<aL.heap.size/\x≠V/\x≠Wg/\¬S x) (λ_=>False) aL az->(∀d,M₀ d->aL.heap.size<=d)->
   aC prog false (λx=>x<aL.heap.size/\x≠V/\x≠Wg/\¬S x) (kg prog link.tWg Wg V 68 (17*r) (vd r).toList) (born prog (callW Wg bb X Y VV)) az M₀):
 ∃(N:Nat) (L:Array Goroutine) (u':World) (δ:Option (Nat×Nat)) (t':Trace) (q':Nat->Nat) (V Wg:Nat) (cs:Array Value),runNT prog N (crowd gs u sl) t=(.next (crowd L u' δ),t')/\L[0]? =some (df (b.finish (ko V)) bs)/\ni prog (λx=>S x\/x=Wg) L u'.heap.size t' q'/\
  u'.tape=u.tape/\u'.os=u.os/\u'.output=u.output/\u.heap.size<=u'.heap.size/\(∀d,d<u.heap.size->u'.heap[d]? =u.heap[d]?)/\u.heap.size<=V/\V≠Wg/\u.heap.size<=Wg/\u'.heap[V]? =some (.cells cs 91)/\cs.size=68/\
  (∀i,i<4->0<c i->∀o,o<17->cs[17*i+o]? =(vd i)[o]?)/\∀i,i<4->¬0<c i->∀o,o<17->cs[17*i+o]? =some (mK (17*i+o)):=by
 have I:(base 42).kind≠.early:=by decide
 have R:=judge_pro (K:=λ_=>False) (M:=λ_=>False) (u:=u) (cs:=b::bs) (f:=inJ (ptr B') c) (vb:=ptr B') (c:=c) (λ_ h=>h) rfl rfl rfl;rw[enterJ]at h0;obtain⟨N1,Θ,g1,u1,γ,t1,q1,M1,r1,r2,⟨f,bb,wb,V,VV,hP⟩,r4,Q⟩:=drive0 R gs sl t q hF h0 (λ_ h=>h.elim (λh=>h.elim) λh=>h.elim);obtain⟨rfl,f2,f3,f5,hH,hm,ν,Γ,ω,μ,U⟩:=hP;have y:=λd hd=>Q.keep d hd (λh=>h)
 obtain⟨o,o1,o2,o3,o4⟩:=j20;have κ:=λw=>gm (runT_allocWg w)
 obtain⟨N2,Δ,g2,u2,χ,t2,q2,B2,s1,s2,s3,⟨rfl,d2,rfl,rfl⟩,s5⟩:=own0 (sl:=γ) (Stop:=λg' u' B'=>B'=u1.heap.size/\∃d,g'=G ((base 42).at ⟨JT (up f 6 (ptr u1.heap.size)),[]⟩ (.inRegion (AJ f42 2) []::restJ f42)) (b::bs)/\u'=(u1.at d).alloc (wgBlock 130 0 0)) r4 r2 rfl λd=>by
  have e':(execOp (Act.mk (JT f) []).eval o).runT prog (u1.at d) #[]=(.ok (.value (ptr u1.heap.size)) ((u1.at d).alloc (wgBlock 130 0 0)),#[]):=by rw[mr o2];exact κ (u1.at d)
  rw[Sem.runT_eq,Prod.mk.injEq]at e';refine⟨_,_,_,u1.heap.size,stepG_value o1 (bq o4 _) I e'.1,ZL _,λev he=>?_,rfl,d,?_,rfl⟩
  .rw[nQ e'.2]at he
   simp at he
  .rw[o3,put_JT]
 obtain⟨Wg,C⟩:∃Wg,Wg=u1.heap.size:=⟨_,rfl⟩;obtain⟨u2,a⟩:∃u2,u2=(u1.at d2).alloc (wgBlock 130 0 0):=⟨_,rfl⟩;rw[<-C]at s3 s5 U;rw[<-a]at s1;have φ:u2.heap.size=Wg+1:=by rw[a,fo,C];rfl
 have j:∀d,d<Wg->u2.heap[d]? =u1.heap[d]?:=λd hd=>by rw[a,alloc_old _ _ (by rw[C]at hd;exact hd)];rfl
 have z:u2.heap[Wg]? =some (wgBlock 130 0 0):=by rw[a,C];exact alloc_new _ _
 have hS:=hF.sh;have A:=λx hx=>(j _ (by have:=(hH x hx).2.1;omega)).trans (hH x hx).2.2
 have b1:=A (bb,_) ZX;have b2:=A (wb,_) (List.mem_cons_of_mem _ ZX);have b3:=A (V,_) (List.mem_cons_of_mem _ (List.mem_cons_of_mem _ ZX));have b4:=A (VV,_) (List.mem_cons_of_mem _ (List.mem_cons_of_mem _ (List.mem_cons_of_mem _ ZX)));have p:u2.tape=u.tape:=by rw[a];exact Q.tape
 obtain⟨K,hK⟩:∃K:Nat->Prop,K=λx=>x<u2.heap.size/\x≠V/\x≠Wg/\¬S x:=⟨_,rfl⟩
 have ο:∀d,K d->d<u2.heap.size:=λd hd=>by rw[hK]at hd;exact hd.1
 have H:WgLive link.tWg Wg u2:=⟨0,0,z⟩;have n:=HW bb V VV Wg u2 (λd hd=>(j d (by omega)).trans (y d hd)) ν (by omega) μ U (by omega) b1 b4 p;rw[<-hK]at n
 have ξ:Sr prog link.tWg Wg V 68 K (AnJ f42 link Wg VV (b::bs)) (iR c 0) (offJ c) (pq c vd) (iR c 0) (G ((base 42).at ⟨JT (up f 6 (ptr Wg)),[]⟩ (.inRegion (AJ f42 2) []::restJ f42)) (b::bs)) u2 (λ_=>False):=by
  rw[sr_eq];refine mW (jo (jo (fu (iN 3 2 rfl) ?_)))
  have hL:Holds K [(wb,.cells (aQ c) 37)] u2 (λ_=>False):=λx hx=>by
   simp at hx;subst hx;refine⟨.inr ?_,by simp only;omega,b2⟩;rw[hK];exact⟨by omega,by omega,by omega,λh=>by have:=hS _ h;omega⟩
  refine nR j30 I hL (v:=.agg (aQ c)) (λo az Z hl=>?_) ?_
  .rw[exec_load Z,bQ _ _ (by decide),bH _ _ (by decide),f3]
   obtain⟨es,e1,e2⟩:=runT_load4 (hl _ ZX).2.2;refine⟨es,gm e1,λe he=>?_⟩;obtain⟨x,rfl⟩:=e2 e he;exact .inl ⟨wb,.inr ⟨_,rfl,rfl⟩,rfl,.inr ⟨(hL _ ZX).1.resolve_left (λh=>h),rfl⟩⟩
  refine j_move (.inl j31) I (jS _ _ _) ?_;refine mW (j_block (j_loop ?_))
  have:=rounds (vd:=vd) (bb:=bb) (V:=V) (VV:=VV) (cs:=b::bs) (cnt:=iR c) (nW:=iR c 0) (off:=offJ c) (vals:=pq c vd) H (cntJ_4 c) (cntJ_S c) (offJ_at c vd) ο n 4 0 rfl (up (up (up f 6 (ptr Wg)) 10 (.agg (aQ c))) 11 (.int .i64 0)) u2 (λ_=>False)
   ⟨by rw[bH _ _ (by decide),bH _ _ (by decide),bH _ _ (by decide)];exact f2,by rw[bH _ _ (by decide),bH _ _ (by decide),bH _ _ (by decide)];exact f5,by rw[bH _ _ (by decide),bH _ _ (by decide),cK],by rw[bH _ _ (by decide),cK],by rw[cK];rfl⟩ (bF.refl _ _ _) (λ_ h=>h.elim)
  rw[sr_eq]at this;exact this
 obtain⟨N3,m3,t3,p1,τ,u3,β,q3,υ,rfl,⟨E,p2,tt,h5,J⟩,l,p4,p5,p6,p7,p8,p9,θ,η,ζ,ε⟩:=phaseP (B:=Wg) (K:=K) (zero:=mK) (gE:=EndJ f42 prog link.tWg Wg VV (b::bs)) (geoJ c vd F) (λg w h=>anJ_running g w h) (λg w hl h=>anJ_round g w hl h) s5 s3 ξ (ZL _) (by omega) (by omega) (by omega) (λh=>by have:=hS _ h;omega)
  (λx hx=>by rw[hK]at hx;exact hx) z (by rw[D];exact b3) (by kernel_rfl) (λx hx=>by unfold mK;rw[ZY];simp[show x<dQ.size from hx])
 obtain⟨m,hgo⟩:=J u3 l;obtain⟨N4,σ,g4,d4,P,t4,q4,w1,w2,rfl,w4⟩:=goes0 (λw d=>⟨d,rfl⟩) m E u3 τ β t3 q3 (goes_calm m E u3 l hgo) p4 p2;have W:=(p9 VV (by omega) (by omega) (by omega)).trans b4
 obtain⟨N5,ρ,g5,u5,α,t5,q5,M5,x1,x2,rfl,x4,O⟩:=drive0 (tail_back (b:=b) (bs:=bs) h5 (u:=u3.at d4) W) σ P t4 q4 w4 w2 (λx hx=>hx.elim (λh=>h.elim) λh=>by
  have ψ:=h;exact⟨by show x<u3.heap.size;omega,λhs=>hs.elim (λh=>by have:=hS _ h;omega) λh=>by omega⟩)
 have s:∀d,d<u3.heap.size->u5.heap[d]? =u3.heap[d]?:=λd hd=>O.keep d hd (λh=>h)
 have z5:u3.heap.size<=u5.heap.size:=O.size;refine⟨N1+(N2+(N3+(N4+N5))),ρ,u5,α,t5,q5,V,Wg,υ,?_,x2,x4,?_,?_,?_,by have:=Q.size;omega,λd hd=>?_,by omega,by omega,by omega,?_,η,?_,?_⟩
 .rw[runNT_add,r1]
  simp only;rw[runNT_add,s1];simp only;rw[runNT_add,p1];simp only;rw[runNT_add,w1];exact x1
 .rw[O.tape];exact(rfl).trans (p5.trans p)
 .rw[O.os];exact(rfl).trans (p6.trans (by rw[a];exact Q.os))
 .rw[O.output];exact(rfl).trans (p7.trans (by rw[a];exact Q.output))
 .rw[s d (by omega),p9 d (by omega) (by omega) (by omega),j d (by omega),y d hd]
 .rw[s V (by omega),θ,D]
 .intro i hi hc o Z
  obtain⟨k,I,ι,T⟩:∃k,k<iR c 0/\offJ c k=17*i/\pq c vd k=(vd i).toList:=by
   have:=cntJ_S c i hi;rw[if_pos hc]at this
   have hle:iR c (i+1)+1<=iR c 0:=by
        have h0:=cntJ_S c 0 (by omega);have h1:=cntJ_S c 1 (by omega);have h2:=cntJ_S c 2 (by omega);obtain rfl|rfl|rfl|rfl:i=0\/i=1\/i=2\/i=3:=by omega
        all_goals(simp at*;omega)
   exact⟨_,by omega,offJ_at c vd i hi hc⟩
  have:=ζ k I o (by rw[T,Array.length_toList,F i hi hc];exact Z);rw[ι,T]at this;rw[this];simp
 .intro i hi hc o Z
  refine ε (17*i+o) (by omega) λk I hh=>?_
  obtain⟨i',g1,g2,g3⟩:=posJ_get c k I;have e1:offJ c k=17*i':=by simp[offJ,g3]
  have e2:(pq c vd k).length=17:=by simp[pq,g3,F i' g1 g2]
  have:i=i':=by omega
  exact hc (this▸g2)
end
end
