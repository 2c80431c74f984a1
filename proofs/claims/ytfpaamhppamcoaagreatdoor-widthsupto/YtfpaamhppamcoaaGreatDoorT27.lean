/- Part 27 of the proof. -/
import Derived.Test.YtfpaamhppamcoaaGreatDoorT26
set_option linter.all false
namespace Go.Proofs.YtfpaamhppamcoaaGreatDoor
open Go.Proofs.Tryz
section
open Go Go.Conc Go.ConcN Go.RowKit Go.Conc.Lib
open Go.ConcR (KK wgBlock WgAt stA smA rd wr mk Payload DC0)
theorem AU {P}{n}{f}(h:P.funcs[n]? =some f)(a:(f.name== "runtime.NumGoroutine")=false)(hb:f.body.isNone=false)(args)(w):(callFunc n args).runT P w #[]=(.ok (.enter n args) w,#[]):=by
 rw[Sem.runT_eq];refine Prod.ext ?_ ?_
 .simp only[callFunc,Sem.run_bind,run_program,Result.andThen_ok,h,a,hb,Z0,if_false]
  simp
 .simp only[callFunc,Sem.events_bind,run_program,Result.evThen_ok,h,a,hb,Z0,if_false]
  simp
section
variable {K M:Nat->Prop}{S:Goroutine->World->(Nat->Prop)->Prop}{u:World}{b:Frame}{f:Nat->Value}{k:List Item}{cs:List Frame}{ops:Array Oper}{i:Nat}{rest:List Nat}
theorem JO {fn}{g}{args}{l}{d}{c}(h:gp ops i (.call {callee:=.value (.func g),args:=args,argTypes:=l}) (some d))(p:b.kind≠.early)(hf:prog.funcs[g]? =some fn)(n:(fn.name== "runtime.NumGoroutine")=false)(hb:fn.body=some c)
 (hc:aC prog true K S (G ((base g).at ⟨args.map (Act.mk (JT f) []).eval++Array.replicate (fn.ntmps-(args.map (Act.mk (JT f) []).eval).size) undef,[]⟩ [.code c]) (b.at ⟨JT f,[]⟩ (.inRegion ops (i::rest)::k)::cs)) u M):
 aC prog true K S (G (b.at ⟨JT f,[]⟩ (.inRegion ops (i::rest)::k)) cs) u M:=by
 obtain⟨o,s,r,t,q⟩:=h
 have m:∀az,(execOp (Act.mk (JT f) []).eval o).runT prog az #[]=(.ok (.enter g (args.map (Act.mk (JT f) []).eval)) az,#[]):=λaz=>by
  have e:execOp (Act.mk (JT f) []).eval o=callFunc g (#[]++args.map (Act.mk (JT f) []).eval++ #[]):=by
   unfold execOp;rw[r];rfl
  rw[e,Array.empty_append,Array.append_empty];exact AU hf n (by rw[hb];rfl) _ _
 refine aC.step rfl λaz a=>?_
 have j:=m az;rw[Sem.runT_eq,Prod.mk.injEq]at j;refine⟨_,az,_,stepG_enter (f:=g) (args:=args.map (Act.mk (JT f) []).eval) s (bq q _) p j.1,⟨rfl,rfl,rfl,ZL _,λ_ _ _=>rfl,λe he=>?_⟩,?_⟩
 .have:=jF e he
  rw[j.2]at this;simp at this
 .rw[Grow.self,enter_at _ hf hb]
  exact hc.rely a
theorem Ip {x}{p q}{t}(hx:(Act.mk (JT f) []).eval x=.bool t)(hc:aC prog true K S (G (b.at ⟨JT f,[]⟩ (.code (if t then p else q)::k)) cs) u M):aC prog true K S (G (b.at ⟨JT f,[]⟩ (.code (.cond x p q)::k)) cs) u M:=aC.ctl rfl (λ_=>stepG_cond hx) hc
theorem Np {a}{id}{k'}(h:exitTo id k=some k')(hc:aC prog true K S (G (b.at a k') cs) u M):aC prog true K S (G (b.at a (.code (.exit id)::k)) cs) u M:=aC.ctl rfl (λ_=>stepG_exit h) hc
theorem Nl {a}(hc:aC prog true K S (G (b.at a k) cs) u M):aC prog true K S (G (b.at a (.code .skip::k)) cs) u M:=aC.ctl rfl (λ_=>stepG_skip) hc
theorem JP {a}{id}{c}(hc:aC prog true K S (G (b.at a (.code c:: .inBlock id::k)) cs) u M):aC prog true K S (G (b.at a (.code (.block id c)::k)) cs) u M:=aC.ctl rfl (λ_=>stepG_block) hc
theorem K9 {a}{id}(hc:aC prog true K S (G (b.at a k) cs) u M):aC prog true K S (G (b.at a (.inBlock id::k)) cs) u M:=aC.ctl rfl (λ_=>stepG_inBlock) hc
theorem RI {a}{c}(hc:aC prog true K S (G (b.at a (.code c:: .inLoop c::k)) cs) u M):aC prog true K S (G (b.at a (.code (.loop c)::k)) cs) u M:=aC.ctl rfl (λ_=>stepG_loop) hc
theorem Nn {a}{c}(hc:aC prog true K S (G (b.at a (.code c:: .inLoop c::k)) cs) u M):aC prog true K S (G (b.at a (.inLoop c::k)) cs) u M:=aC.ctl rfl (λ_=>stepG_inLoop) hc
end
section
variable [Payload]
theorem xg {Q}{ty}{Wg V nV}{K}{An}{nW}{off}{vals}(r):Sr Q ty Wg V nV K An nW off vals r=aC Q true K (SS Q ty Wg V nV K An nW off vals r):=by
 cases r<;>rfl
end
section
def ND (f:Func):List Item:=[.code (xP f),.inLoop (xP f),.inBlock 0,.code (.seq (mI f 10) (.seq (mI f 11) .ret))]
def F3 (f:Func):List Item:=[.code (mI f 9),.inLoop (xP f),.inBlock 0,.code (.seq (mI f 10) (.seq (mI f 11) .ret))]
theorem IW {M K}{c}(hm:M c){es:Array Event}(h:∀e∈es,∃x,e=⟨.cell ⟨c,x,none⟩,false,false⟩):∀e∈es,Ow K M e:=λe he=>by
 obtain⟨x,rfl⟩:=h e he;exact .inl ⟨c,.inr ⟨_,rfl,rfl⟩,rfl,.inl hm⟩
structure HJ (c:Nat->Int)(bb VV Wg i:Nat)(f:Nat->Value):Prop where
 f2:f 2=ptr bb
 f5:f 5=ptr VV
 f6:f 6=ptr Wg
 fa:f 10=.agg (aQ c)
 fb:f 11=.int .i64 i
theorem HJ.up {c:Nat->Int}{bb VV Wg i:Nat}{f:Nat->Value}(h:HJ c bb VV Wg i f){d:Nat}(v:Value)(hd:d≠2/\d≠5/\d≠6/\d≠10/\d≠11):HJ c bb VV Wg i (up f d v):=
 ⟨by rw[bH _ _ (Ne.symm hd.1)];exact h.f2,by rw[bH _ _ (Ne.symm hd.2.1)];exact h.f5,by rw[bH _ _ (Ne.symm hd.2.2.1)];exact h.f6,by rw[bH _ _ (Ne.symm hd.2.2.2.1)];exact h.fa,by rw[bH _ _ (Ne.symm hd.2.2.2.2)];exact h.fb⟩
theorem JA {S}{K M}{u}{cs}{c}{bb VV Wg i}{f}(d:i<4)(h:HJ c bb VV Wg i f)
 (hc:∀f,HJ c bb VV Wg (i+1) f->aC prog true K S (G ((base 42).at ⟨JT f,[]⟩ (ND f42)) cs) u M):aC prog true K S (G ((base 42).at ⟨JT f,[]⟩ (F3 f42)) cs) u M:=by
 have a:(base 42).kind≠.early:=by decide
 refine fu (iN 9 2 rfl) ?_;refine nR Yq a (Holds.nil (K:=K) (M:=M)) (v:=.int .i64 ((i+1:Nat):Int)) (λo az b _=>⟨#[],?_,λe he=>by simp at he⟩) ?_
 .rw[mq b,bQ _ _ (by decide),jS,h.fb]
  exact gm (Mw _ i d _ _)
 refine xZ (.inl Yp) a (bQ _ _ (by decide)) ?_;refine mW (Nn (hc _ ?_));refine⟨?_,?_,?_,?_,?_⟩
 .rw[bH _ _ (by decide),bH _ _ (by decide)];exact h.f2
 .rw[bH _ _ (by decide),bH _ _ (by decide)];exact h.f5
 .rw[bH _ _ (by decide),bH _ _ (by decide)];exact h.f6
 .rw[bH _ _ (by decide),bH _ _ (by decide)];exact h.fa
 .rw[cK,cK]
end
theorem Cb:∃d,prog.underlying 3=some d/\d.isRow=false:=⟨_,underlying3,rfl⟩
theorem bF.xN {K M}{u v w}(h:bF K (λ_=>False) u v)(k:bF K M v w):bF K (λ_=>False) u w:=h.trans (k.mono λ_ h=>h.elim)
section
theorem Hd {S}{K M}{u}{cs}{c}{bb VV Wg i}{f}(E:i<4)(h:HJ c bb VV Wg i f)(r:∀d,K d->¬M d)(q:∀d,K d->d<u.heap.size)
 (m:c i<=0->∀f u' M',HJ c bb VV Wg i f->bF K (λ_=>False) u u'->(∀d,M' d->M d\/u.heap.size<=d)->aC prog true K S (G ((base 42).at ⟨JT f,[]⟩ (F3 f42)) cs) u' M')
 (hgo:0<c i->∀f a b u' M',HJ c bb VV Wg i f->f 7=ptr a->f 8=ptr b->Holds K [(a,.cells #[.int .i64 i] 3),(b,.cells #[.int .i64 (c i)] 3)] u' M'->M' a->M' b->a<b->bF K (λ_=>False) u u'->(∀d,M' d->M d\/u.heap.size<=d)->
  aC prog true K S (G ((base 42).at ⟨JT f,[]⟩ (.code (.seq (mI f42 7) (mI f42 8)):: .inBlock 1::F3 f42)) cs) u' M'):
 aC prog true K S (G ((base 42).at ⟨JT f,[]⟩ (ND f42)) cs) u M:=by
 have j:(base 42).kind≠.early:=by decide
 refine jo (fu (iN 4 1 rfl) ?_);refine nR XD j (Holds.nil (K:=K) (M:=M)) (v:=.bool (decide (i<4))) (λo az g _=>⟨#[],?_,λe he=>by simp at he⟩) ?_
 .rw[mq g,bQ _ _ (by decide),jS,h.fb]
  exact gm (Es _ i (by omega) _ _)
 replace h:=h.up (d:=12) (.bool (decide (i<4))) (by decide);have w:(Act.mk (JT (up f 12 (.bool (decide (i<4))))) []).eval (.tmp 12)=.bool true:=by rw[bQ _ _ (by decide),cK,decide_eq_true E]
 generalize up f 12 (.bool (decide (i<4)))=f at h w⊢;refine mW (jo (Ip w ?_));simp;refine Nl (jo (JP (jo (fu (iN 5 6 rfl) ?_))));refine xZ (.inl YB) j ((bQ _ _ (by decide)).trans h.fb) ?_;have g13:up f 13 (.int .i64 i) 13=.int .i64 i:=cK _ _ _;replace h:=h.up (d:=13) (.int .i64 i) (by decide);generalize up f 13 (.int .i64 i)=f at h g13⊢;refine nR YA j (Holds.nil (K:=K) (M:=M)) (v:=.int .i64 (c i)) (λo az g _=>⟨#[],?_,λe he=>by simp at he⟩) ?_
 .rw[IU g,bQ _ _ (by decide),bQ _ _ (by decide),h.fb,h.fa]
  exact gm (G7 _ i E c)
 have g14:up f 14 (.int .i64 (c i)) 14=.int .i64 (c i):=cK _ _ _;replace g13:up f 14 (.int .i64 (c i)) 13=.int .i64 i:=(bH _ _ (by decide)).trans g13;replace h:=h.up (d:=14) (.int .i64 (c i)) (by decide);generalize up f 14 (.int .i64 (c i))=f at h g13 g14⊢;refine sQ r Yz j Holds.nil ptr (.cells #[.int .i64 0] 3) (λo az g=>by rw[mr g];exact gm (pG _)) λa u1 L R a2 a3 a4 a5 Q P J=>?_
 have g7:up f 7 (ptr a) 7=ptr a:=cK _ _ _;replace g13:up f 7 (ptr a) 13=.int .i64 i:=(bH _ _ (by decide)).trans g13;replace g14:up f 7 (ptr a) 14=.int .i64 (c i):=(bH _ _ (by decide)).trans g14;replace h:=h.up (d:=7) (ptr a) (by decide);generalize up f 7 (ptr a)=f at h g7 g13 g14⊢;have l:∀d,K d->¬L d:=λd hd hm=>(a5 d hm).elim (r d hd) λx=>by have:=q d hd;omega
 refine sQ l Yy j a2 ptr (.cells #[.int .i64 0] 3) (λo az g=>by rw[mr g];exact gm (pG _)) λb u2 M2 b1 b2 b3 b4 F O N I=>?_
 have g8:up f 8 (ptr b) 8=ptr b:=cK _ _ _;replace g7:up f 8 (ptr b) 7=ptr a:=(bH _ _ (by decide)).trans g7;replace g13:up f 8 (ptr b) 13=.int .i64 i:=(bH _ _ (by decide)).trans g13;replace g14:up f 8 (ptr b) 14=.int .i64 (c i):=(bH _ _ (by decide)).trans g14;replace h:=h.up (d:=8) (ptr b) (by decide);generalize up f 8 (ptr b)=f at h g7 g8 g13 g14⊢;have k:∀d,K d->¬M2 d:=λd hd hm=>(F d hm).elim (l d hd) λx=>by have:=q d hd;omega
 have n:a≠b:=by omega
 refine CX (new:= #[.int .i64 i]) k Yx j b2 (b4 _ a3) (List.mem_cons_of_mem _ ZX) (λo az g A=>?_) λu3 H c2 c3=>?_
 .rw[qy g,bQ _ _ (by decide),bQ _ _ (by decide),g7,g13]
  obtain⟨es,y,s⟩:=nD (ty:=3) (by kernel_rfl) A (v:=.int .i64 i) rfl rfl;exact⟨es,G5 y,s⟩
 have D:Holds K [(b,.cells #[.int .i64 0] 3),(a,.cells #[.int .i64 i] 3)] u3 M2:=H.sub λx hx=>by
  simp at hx⊢;rcases hx with rfl|rfl
  .exact .inr ⟨.inl rfl,by simpa using Ne.symm n⟩
  .exact .inl rfl
 refine CX (new:= #[.int .i64 (c i)]) k Yw j D b3 ZX (λo az g A=>?_) λu4 d1 d2 d3=>?_
 .rw[qy g,bQ _ _ (by decide),bQ _ _ (by decide),g8,g14]
  obtain⟨es,y,s⟩:=nD (ty:=3) (by kernel_rfl) A (v:=.int .i64 (c i)) rfl rfl;exact⟨es,G5 y,s⟩
 have z:Holds K [(a,.cells #[.int .i64 i] 3),(b,.cells #[.int .i64 (c i)] 3)] u4 M2:=d1.sub λx hx=>by
  simp only[ZW,List.mem_filter,List.not_mem_nil,or_false]at hx⊢;rcases hx with rfl|rfl
  .exact .inr ⟨.inr rfl,by simpa using n⟩
  .exact .inl rfl
 have hR:=J.trans (I.trans (c3.trans d3));have p:=λd hm=>(F d hm).elim (λx=>(a5 d x).imp id And.left) λx=>.inr (by omega)
 refine mW (jo (jo (fu (iN 6 2 rfl) ?_)));refine nR Yv j z (v:=.int .i64 (c i)) (λo az g hl=>?_) ?_
 .rw[tC g,bQ _ _ (by decide),g8]
  obtain⟨d,C,B⟩:=Cb;obtain⟨es,y,s⟩:=xy C B (hl _ (List.mem_cons_of_mem _ ZX)).2.2;exact⟨es,gm y,IW b3 s⟩
 have g15:up f 15 (.int .i64 (c i)) 15=.int .i64 (c i):=cK _ _ _;replace g7:up f 15 (.int .i64 (c i)) 7=ptr a:=(bH _ _ (by decide)).trans g7;replace g8:up f 15 (.int .i64 (c i)) 8=ptr b:=(bH _ _ (by decide)).trans g8;replace h:=h.up (d:=15) (.int .i64 (c i)) (by decide);generalize up f 15 (.int .i64 (c i))=f at h g7 g8 g15⊢;refine nR Yu j (Holds.nil (K:=K) (M:=M2)) (v:=.bool (decide (c i<=0))) (λo az g _=>⟨#[],?_,λe he=>by simp at he⟩) ?_
 .rw[mq g,bQ _ _ (by decide),jS,g15]
  exact gm (Mv _ _ _ _)
 have t:(Act.mk (JT (up f 16 (.bool (decide (c i<=0))))) []).eval (.tmp 16)=.bool (decide (c i<=0)):=by rw[bQ _ _ (by decide),cK]
 replace g7:up f 16 (.bool (decide (c i<=0))) 7=ptr a:=(bH _ _ (by decide)).trans g7;replace g8:up f 16 (.bool (decide (c i<=0))) 8=ptr b:=(bH _ _ (by decide)).trans g8;replace h:=h.up (d:=16) (.bool (decide (c i<=0))) (by decide);generalize up f 16 (.bool (decide (c i<=0)))=f at h g7 g8 t⊢;refine mW (Ip t ?_)
 by_cases hc:c i<=0
 .simp only[decide_eq_true hc,if_true]
  exact Np rfl (m hc f u4 M2 h hR p)
 .simp only[decide_eq_false hc,Z0,if_false]
  exact Nl (hgo (by omega) f a b u4 M2 h g7 g8 z (b4 _ a3) b3 (by omega) hR p)
end
section
variable {ty:TypeId}{Wg:Nat}{Q:Program}{St:Goroutine->World->Prop}{m:Nat}
theorem sV {g g'}(hs:g.status=.running)(h:∀w,stepG Q true g w=.go g' w #[])(k:∀w,WgLive ty Wg w->Goes Q true (RL ty Wg) DC0 St m g' w):∀w,WgLive ty Wg w->Goes Q true (RL ty Wg) DC0 St (m+1) g w:=
 λw _=>Goes.step hs λa b=>by rw[h a];exact⟨⟨rfl,rfl⟩,k a b⟩
end
theorem nQ {P}{fn}{a}{o}{w}(h:(execOp a.eval o).events P w #[]= #[]):listed P fn a o w= #[]:=by
 unfold listed;rw[h,seen_none]
theorem Td {Wg bb VV b c}{f}{cs}{k}(f2:f 2=ptr bb)(f5:f 5=ptr VV)(f6:f 6=ptr Wg)(f7:f 7=ptr b)(f8:f 8=ptr c):
 ∀w,WgLive link.tWg Wg w->Goes prog true (RL link.tWg Wg) DC0 (V8 prog (G ((base 42).at ⟨JT (up f 18 (.func (.func 69) #[] #[ptr Wg,ptr bb,ptr b,ptr c,ptr VV])),[]⟩ (.inRegion (AJ f42 8) []::k)) cs) (born prog (rP Wg bb b c VV))) 3
  (G ((base 42).at ⟨JT f,[]⟩ (.inRegion (AJ f42 7) []:: .code (mI f42 8)::k)) cs) w:=by
 refine sV rfl (λw=>stepG_region_end) ?_;refine sV rfl (λw=>stepG_region) ?_;rw[iN 8 2 rfl,show List.range 2=[0,1]from rfl];obtain⟨o,l,j,i,h⟩:=Yt
 have g:∀w,(execOp (Act.mk (JT f) []).eval o).runT prog w #[]=(.ok (.value (.func (.func 69) #[] #[ptr Wg,ptr bb,ptr b,ptr c,ptr VV])) w,#[]):=λw=>by
  have e:execOp (Act.mk (JT f) []).eval o=(do Pure.pure (Next.value (<-Instr.makeFunc (.func 69) ((#[]:Array Operand).map (Act.mk (JT f) []).eval) ((#[.tmp 6,.tmp 2,.tmp 7,.tmp 8,.tmp 5]:Array Operand).map (Act.mk (JT f) []).eval)))):=by
   unfold execOp;rw[j]
  have m:(#[.tmp 6,.tmp 2,.tmp 7,.tmp 8,.tmp 5]:Array Operand).map (Act.mk (JT f) []).eval= #[(Act.mk (JT f) []).eval (.tmp 6),(Act.mk (JT f) []).eval (.tmp 2),(Act.mk (JT f) []).eval (.tmp 7),(Act.mk (JT f) []).eval (.tmp 8),(Act.mk (JT f) []).eval (.tmp 5)]:=by simp
  rw[m,show((#[]:Array Operand).map (Act.mk (JT f) []).eval)= #[]from by simp]at e;rw[e,bQ _ _ (by decide),bQ _ _ (by decide),bQ _ _ (by decide),bQ _ _ (by decide),bQ _ _ (by decide),f2,f5,f6,f7,f8];exact gm rfl
 have d:=λw=>(g w)
 simp only[Sem.runT_eq,Prod.mk.injEq]at d;refine sV rfl (λw=>by rw[stepG_value l (bq h _) (by decide) (d w).1,nQ (d w).2,i,qi]) ?_;intro w _;refine Goes.stop λa _=>⟨rfl,?_⟩
 obtain⟨o,g1,g2,g3,g4⟩:=Yr
 have hs:(execOp (Act.mk (JT (up f 18 (.func (.func 69) #[] #[ptr Wg,ptr bb,ptr b,ptr c,ptr VV]))) []).eval o).runT prog a #[]=(.ok (.spawn (rP Wg bb b c VV)) a,#[]):=by
  have e:execOp (Act.mk (JT (up f 18 (.func (.func 69) #[] #[ptr Wg,ptr bb,ptr b,ptr c,ptr VV]))) []).eval o=(do Pure.pure (Next.spawn (<-resolve (Act.mk (JT (up f 18 (.func (.func 69) #[] #[ptr Wg,ptr bb,ptr b,ptr c,ptr VV]))) []).eval {callee:=.value (.tmp 18),args:= #[],argTypes:= #[]} o.type))):=by
   unfold execOp;rw[g2]
  rw[e];unfold resolve;simp only[bQ _ _ (show 18<22 by decide),cK,List.map_toArray,List.map_nil];rfl
 rw[Sem.runT_eq,Prod.mk.injEq]at hs;rw[stepG_spawn g1 (bq g4 _) (by decide) hs.1 rfl,nQ hs.2,g3];rfl
section
variable [Payload]
theorem rounds {K}{aL}{c}{vd:Nat->Array Value}{bb V VV Wg nW}{off}{vals}{cs}{cnt:Nat->Nat}(z:WgLive link.tWg Wg aL)
 (c4:cnt 4=0)(Q:∀i,i<4->cnt i=cnt (i+1)+if 0<c i then 1 else 0)(t:∀i,i<4->0<c i->off (nW-(cnt (i+1)+1))=17*i/\vals (nW-(cnt (i+1)+1))=(vd i).toList)(B:∀d,K d->d<aL.heap.size)
 (Z:∀(r g j:Nat) (az:World) (M₀:Nat->Prop),r<4->0<c r->M₀ g->M₀ j->g<j->Holds K [(g,.cells #[.int .i64 r] 3),(j,.cells #[.int .i64 (c r)] 3)] az M₀->bF K (λ_=>False) aL az->(∀d,M₀ d->aL.heap.size<=d)->
  aC prog false K (kg prog link.tWg Wg V 68 (17*r) (vd r).toList) (born prog (rP Wg bb g j VV)) az M₀):
 ∀n i,i+n=4->∀f u M,HJ c bb VV Wg i f->bF K (λ_=>False) aL u->(∀d,M d->aL.heap.size<=d)->Sr prog link.tWg Wg V 68 K (S8 f42 link Wg VV cs) nW off vals (cnt i) (G ((base 42).at ⟨JT f,[]⟩ (ND f42)) cs) u M:=by
 intro n;have J:(base 42).kind≠.early:=by decide
 induction n with
 |zero=>
  intro i U f u M h hR D;obtain rfl:i=4:=by omega
  rw[c4,xg];refine jo (fu (iN 4 1 rfl) ?_);refine nR XD J (Holds.nil (K:=K) (M:=M)) (v:=.bool (decide ((4:Nat)<4))) (λo az T _=>⟨#[],?_,λe he=>by simp at he⟩) ?_
  .rw[mq T,bQ _ _ (by decide),jS,h.fb]
   exact gm (Es _ 4 (by omega) _ _)
  replace h:=h.up (d:=12) (.bool (decide ((4:Nat)<4))) (by decide);have C:(Act.mk (JT (up f 12 (.bool (decide ((4:Nat)<4))))) []).eval (.tmp 12)=.bool false:=by rw[bQ _ _ (by decide),cK];rfl
  generalize up f 12 (.bool (decide ((4:Nat)<4)))=f at h C⊢;refine mW (jo (Ip C ?_));simp only[Z0,if_false];refine Np rfl (jo (fu (iN 10 1 rfl) ?_));refine JO (fn:=waitFn link) (c:=Go.ConcR.Gen.body_wait link) XB J wS.f_wait (Go.ConcR.Gen.nm_wait link) rfl ?_;refine aC.stop λaz _=>?_
  have he:(#[Operand.tmp 6]).map (Act.mk (JT f) []).eval= #[.pointer (some ⟨Wg,0,none⟩)]:=by
   rw[show(#[Operand.tmp 6]).map (Act.mk (JT f) []).eval= #[(Act.mk (JT f) []).eval (.tmp 6)]from by simp,bQ _ _ (by decide),h.f6];rfl
  rw[he];exact GX h.f5 z az
 |succ n P=>
  intro i U f u M h hR D;have a:i<4:=by omega
  have N:∀d,K d->¬M d:=λd hd hm=>by have:=B d hd;have:=D d hm;omega
  rw[xg];refine Hd a h N (λd hd=>ZO (B d hd) hR.size) ?_ ?_
  .intro hc f u' M' q E p
   refine JA a q λf X=>?_
   have m:∀d,M' d->aL.heap.size<=d:=λd hd=>(p d hd).elim (D d) λx=>ZP hR.size x
   have:=P (i+1) (by omega) f u' M' X (hR.trans E) m;rw[xg]at this;rw[Q i a,if_neg (by omega)];exact this
  .intro hc f g j u' M' q f7 f8 W m1 m2 I E p
   have m:∀d,M' d->aL.heap.size<=d:=λd hd=>(p d hd).elim (D d) λx=>ZP hR.size x
   have L:=hR.trans E;have y:cnt i=cnt (i+1)+1:=(by rw[Q i a,if_pos hc]);rw[y];obtain⟨H,F⟩:=t i a hc;refine jo (fu (iN 7 1 rfl) ?_);refine JO (fn:=addFn link) (c:=Go.ConcR.Gen.body_add link) XC J wS.f_add (Go.ConcR.Gen.nm_add link) rfl ?_;refine aC.stop λaz l=>?_
   have he:(#[Operand.tmp 6,Operand.const (.int .i64 1)]).map (Act.mk (JT f) []).eval= #[.pointer (some ⟨Wg,0,none⟩),.int .i64 1]:=by
        rw[show(#[Operand.tmp 6,Operand.const (.int .i64 1)]).map (Act.mk (JT f) []).eval= #[(Act.mk (JT f) []).eval (.tmp 6),.int .i64 1]from by simp[Act.eval],bQ _ _ (by decide),q.f6];rfl
   rw[he]
   have s:∃o,(AJ f42 7)[0]? =some o/\o.dst=some 17:=by
        obtain⟨o,Y,_,O,_⟩:=XC;exact⟨o,Y,O⟩
   obtain⟨o,S,R⟩:=s;refine⟨G ((base 42).at ⟨JT (up (up f 17 (.tuple #[])) 18 (.func (.func 69) #[] #[ptr Wg,ptr bb,ptr g,ptr j,ptr VV])),[]⟩ (.inRegion (AJ f42 8) []:: .inBlock 1::F3 f42)) cs,born prog (rP Wg bb g j VV),rfl,⟨40,Fq az (P9 (b₀:=base 42) (a₀:=⟨JT f,[]⟩) (ops₀:=AJ f42 7) (i₀:=0) (rest₀:=[]) (k₀:=.code (mI f42 8):: .inBlock 1::F3 f42) (cs:=cs) (mT:=3) (child:=born prog (rP Wg bb g j VV)) wS ?_ aL z)⟩,?_⟩
   .intro w hw
    rw[S,Option.bind_some,R,qi];refine Td ?_ ?_ ?_ ?_ ?_ w hw
    .rw[bH _ _ (by decide)];exact q.f2
    .rw[bH _ _ (by decide)];exact q.f5
    .rw[bH _ _ (by decide)];exact q.f6
    .rw[bH _ _ (by decide)];exact f7
    .rw[bH _ _ (by decide)];exact f8
   .intro b k
    have A:bF K (λ_=>False) aL b:=(L.xN l).xN k;refine⟨?_,?_⟩
    .rw[H,F]
     exact Z i g j b M' a hc m1 m2 I ((W.rely l).rely k) A m
    .rw[xg]
     refine mW (K9 ?_);refine JA a ((q.up (d:=17) _ (by decide)).up (d:=18) _ (by decide)) λf O=>?_
     have:=P (i+1) (by omega) f b (λ_=>False) O A (λ_ h=>h.elim);rw[xg]at this;exact this
end
def iR (c:Nat->Int)(i:Nat):Nat:=((List.range 4).filter λj=>decide (i<=j)&&decide (0<c j)).length
def qR (c:Nat->Int):List Nat:=(List.range 4).filter λj=>decide (0<c j)
def Ad (c:Nat->Int)(k:Nat):Nat:=17*(qR c)[k]?.getD 0
def pq (c:Nat->Int)(vd:Nat->Array Value)(k:Nat):List Value:=(vd ((qR c)[k]?.getD 0)).toList
def mK (x:Nat):Value:=dQ.getD x undef
theorem four {P:Nat->Prop}(d:P 0)(c:P 1)(b:P 2)(a:P 3):∀i,i<4->P i:=λi e=>by
 obtain rfl|rfl|rfl|rfl:i=0\/i=1\/i=2\/i=3:=by omega
 .exact d
 .exact c
 .exact b
 .exact a
theorem Ho:List.range 4=[0,1,2,3]:=rfl
theorem Sc (c):iR c 4=0:=by simp[iR,Ho]
theorem yV (c):∀i,i<4->iR c i=iR c (i+1)+if 0<c i then 1 else 0:=by
 refine four ?_ ?_ ?_ ?_<;>(simp only[iR,Ho];by_cases e:0<c 0<;>by_cases d:0<c 1<;>by_cases b:0<c 2<;>by_cases a:0<c 3<;>simp[e,d,b,a])
theorem JM (c)(vd):∀i,i<4->0<c i->Ad c (iR c 0-(iR c (i+1)+1))=17*i/\pq c vd (iR c 0-(iR c (i+1)+1))=(vd i).toList:=by
 refine four ?_ ?_ ?_ ?_<;>(intro a;simp only[Ad,pq,qR,iR,Ho];by_cases f:0<c 0<;>by_cases e:0<c 1<;>by_cases d:0<c 2<;>by_cases b:0<c 3<;>simp_all)
theorem Ex (c):∀k,k<iR c 0->∃i,i<4/\0<c i/\(qR c)[k]? =some i:=by
 intro k b;have e:iR c 0=(qR c).length:=by unfold iR qR;congr 1
 have a:k< (qR c).length:=by omega
 refine⟨(qR c)[k],?_,?_,by simp[a]⟩
 .have:=List.getElem_mem a
  simpa using (List.mem_filter.1 this).1
 .have:=List.getElem_mem a
  simpa using (List.mem_filter.1 this).2
theorem MI (c){k k'}(d:k<iR c 0)(b:k'<iR c 0)(h:(qR c)[k]? =(qR c)[k']?):k=k':=by
 have e:iR c 0=(qR c).length:=by unfold iR qR;congr 1
 have a:(qR c).Nodup:=List.Pairwise.filter _ List.nodup_range;exact(List.getElem?_inj (by omega) a).1 h
theorem PR (c):iR c 0<=4:=ZP (List.length_filter_le _ _) (by simp)
theorem WU (c)(vd)(e:∀i,i<4->0<c i->(vd i).size=17):pg 68 (iR c 0) (Ad c) (pq c vd):=by
 have key:∀k,k<iR c 0->∃i,i<4/\(qR c)[k]? =some i/\Ad c k=17*i/\(pq c vd k).length=17:=λk a=>by
  obtain⟨i,g,f,d⟩:=Ex c k a;refine⟨i,g,d,?_,?_⟩
  .simp[Ad,d]
  .simp[pq,d,e i g f]
 refine⟨PR c,λk a=>?_,λk a=>?_,λk k' x a b m a2 a3 a4=>?_⟩
 .obtain⟨i,_,_,_,h⟩:=key k a;omega
 .obtain⟨i,g,_,d,h⟩:=key k a;omega
 .obtain⟨i,_,f,d,l⟩:=key k a
  obtain⟨j,_,g2,g3,g4⟩:=key k' b;have:i=j:=by omega
  subst this;exact MI c a b (f.trans g2.symm)
theorem Bh {Q}{ty}{Wg}{St}:∀(n:Nat) (g:Goroutine) (w:World),WgLive ty Wg w->Goes Q true (RL ty Wg) DC0 St n g w->Goes Q true (λw a=>∃d,a=w.at d) DC0 St n g w
 |0,g,w,hl,h=>λa ⟨d,e⟩=>h a (by subst e;exact hl)
 |n+1,g,w,hl,h=>by
  rcases h with h|⟨c,h⟩
  .exact .inl λa ⟨d,e⟩=>h a (by subst e;exact hl)
  .refine .inr ⟨c,λa ⟨d,e⟩=>?_⟩
   have b:WgLive ty Wg a:=(by subst e;exact hl);have:=h a b
   revert this
   cases stepG Q true g a<;>simp only[GStep.goes,imp_self]
   rintro⟨⟨rfl,rfl⟩,x⟩;exact⟨⟨rfl,rfl⟩,Bh n _ _ b x⟩
def WG (vb:Value)(c:Nat->Int)(j:Nat):Value:=if j=0 then vb else if j=1 then .agg (aQ c)else undef
theorem Te (vb)(c): #[vb,.agg (aQ c)]++Array.replicate 20 undef=JT (WG vb c):=by kernel_rfl
theorem R4 (vb)(c):Frame.enter prog 42 #[vb,.agg (aQ c)] .normal=(base 42).at ⟨JT (WG vb c),[]⟩ [.code (.seq (mI f42 0) (.seq (mI f42 1) (.seq (mI f42 2) (.seq (.seq (mI f42 3) (.block 0 (.loop (xP f42)))) (.seq (mI f42 10) (.seq (mI f42 11) .ret))))))]:=by
 rw[enter_at _ rE xV,Ro,show 22-(#[vb,Value.agg (aQ c)]:Array Value).size=20 from rfl,Te]
theorem Kv {V VV}{b}{bs}{t}(l:t 5=ptr VV){u}(a:u.heap[VV]? =some (.cells #[ko V] 87)):
 aC prog true (λx=>x=VV) (λg _ _=>g=df (b.finish (ko V)) bs) (G (BX f42 t []) (b::bs)) u (λ_=>False):=by
 have i:(base 42).kind≠.early:=by decide
 have k:Holds (λx=>x=VV) [(VV,.cells #[ko V] 87)] u (λ_=>False):=λx hx=>by
  simp only[ZW,List.not_mem_nil,or_false]at hx;subst hx;exact⟨.inr rfl,(ZK.1 a).1,a⟩
 refine mW (jo (fu (iN 11 2 rfl) ?_));refine nR Yo i k (v:=ko V) (λo az j hl=>?_) ?_
 .rw[tC j,bQ _ _ (by decide),l]
  obtain⟨d,h,f⟩:=qL;obtain⟨es,c,m⟩:=xy h f (hl _ ZX).2.2;refine⟨es,gm c,λe he=>?_⟩;obtain⟨x,rfl⟩:=m e he;exact .inl ⟨VV,.inr ⟨_,rfl,rfl⟩,rfl,.inr ⟨rfl,rfl⟩⟩
 refine xZ (.inr Yn) i ((bQ _ _ (by decide)).trans (cK _ _ _)) ?_;refine mW (aC.ctl rfl (λ_=>stepG_ret') ?_);have c:Func.results f42= #[.tmp 4]:=by kernel_rfl
 refine aC.ctl (g':=G (b.finish (ko V)) bs) rfl (λaz=>?_) (aC.stop λ_ _=>rfl);refine stepG_leave (fn:=f42) rfl rfl rE ?_ ?_
 .rw[results_tmp c]
  show Result.ok ((JT _).getD 4 undef) az=_
  rw[Ov _ (by decide),cK]
 .exact events_results_tmp c _ _
section
variable [Payload]
theorem Al (D:Payload.ety=91){S}{gs}{u}{sl}{t}{q}{b}{bs}{B'}{c}{vd:Nat->Array Value}
 (hF:ni prog S gs u.heap.size t q)(h0:gs[0]? =some (df (Frame.enter prog 42 #[ptr B',.agg (aQ c)] .normal) (b::bs)))(F:∀i,i<4->0<c i->(vd i).size=17)
 (HW:∀(bb V VV Wg:Nat) (aL:World),(∀d,d<u.heap.size->aL.heap[d]? =u.heap[d]?)->u.heap.size<=bb->bb<V->V<VV->VV<Wg->Wg<aL.heap.size->aL.heap[bb]? =some (.cells #[ptr B'] 31)->aL.heap[VV]? =some (.cells #[ko V] 87)->aL.tape=u.tape->
  ∀(r X Y:Nat) (az:World) (M₀:Nat->Prop),r<4->0<c r->M₀ X->M₀ Y->X<Y->Holds (λx=>x<aL.heap.size/\x≠V/\x≠Wg/\¬S x) [(X,.cells #[.int .i64 r] 3),(Y,.cells #[.int .i64 (c r)] 3)] az M₀->
   bF (λx=>x<aL.heap.size/\x≠V/\x≠Wg/\¬S x) (λ_=>False) aL az->(∀d,M₀ d->aL.heap.size<=d)->
   aC prog false (λx=>x<aL.heap.size/\x≠V/\x≠Wg/\¬S x) (kg prog link.tWg Wg V 68 (17*r) (vd r).toList) (born prog (rP Wg bb X Y VV)) az M₀):
 ∃(N:Nat) (L:Array Goroutine) (u':World) (δ:Option (Nat×Nat)) (t':Trace) (q':Nat->Nat) (V Wg:Nat) (cs:Array Value),runNT prog N (crowd gs u sl) t=(.next (crowd L u' δ),t')/\L[0]? =some (df (b.finish (ko V)) bs)/\ni prog (λx=>S x\/x=Wg) L u'.heap.size t' q'/\
  u'.tape=u.tape/\u'.os=u.os/\u'.output=u.output/\u.heap.size<=u'.heap.size/\(∀d,d<u.heap.size->u'.heap[d]? =u.heap[d]?)/\u.heap.size<=V/\V≠Wg/\u.heap.size<=Wg/\u'.heap[V]? =some (.cells cs 91)/\cs.size=68/\
  (∀i,i<4->0<c i->∀o,o<17->cs[17*i+o]? =(vd i)[o]?)/\∀i,i<4->¬0<c i->∀o,o<17->cs[17*i+o]? =some (mK (17*i+o)):=by
 have I:(base 42).kind≠.early:=by decide
 have R:=K6 (K:=λ_=>False) (M:=λ_=>False) (u:=u) (cs:=b::bs) (f:=WG (ptr B') c) (vb:=ptr B') (c:=c) (λ_ h=>h) rfl rfl rfl;rw[R4]at h0;obtain⟨N1,Θ,g1,u1,γ,t1,q1,M1,r1,r2,⟨f,bb,wb,V,VV,hP⟩,r4,Q⟩:=I7 R gs sl t q hF h0 (λ_ h=>h.elim (λh=>h.elim) λh=>h.elim);obtain⟨rfl,f2,f3,f5,hH,hm,ν,Γ,ω,μ,U⟩:=hP;have y:=λd hd=>Q.keep d hd (λh=>h)
 obtain⟨o,o1,o2,o3,o4⟩:=YE;have κ:=λw=>gm (Cr w)
 obtain⟨N2,Δ,g2,u2,χ,t2,q2,B2,s1,s2,s3,⟨rfl,d2,rfl,rfl⟩,s5⟩:=MQ (sl:=γ) (Stop:=λg' u' B'=>B'=u1.heap.size/\∃d,g'=G ((base 42).at ⟨JT (up f 6 (ptr u1.heap.size)),[]⟩ (.inRegion (AJ f42 2) []::MG f42)) (b::bs)/\u'=(u1.at d).alloc (wgBlock 130 0 0)) r4 r2 rfl λd=>by
  have e':(execOp (Act.mk (JT f) []).eval o).runT prog (u1.at d) #[]=(.ok (.value (ptr u1.heap.size)) ((u1.at d).alloc (wgBlock 130 0 0)),#[]):=by rw[mr o2];exact κ (u1.at d)
  rw[Sem.runT_eq,Prod.mk.injEq]at e';refine⟨_,_,_,u1.heap.size,stepG_value o1 (bq o4 _) I e'.1,ZL _,λev he=>?_,rfl,d,?_,rfl⟩
  .rw[nQ e'.2]at he
   simp at he
  .rw[o3,qi]
 obtain⟨Wg,C⟩:∃Wg,Wg=u1.heap.size:=⟨_,rfl⟩;obtain⟨u2,a⟩:∃u2,u2=(u1.at d2).alloc (wgBlock 130 0 0):=⟨_,rfl⟩;rw[<-C]at s3 s5 U;rw[<-a]at s1;have φ:u2.heap.size=Wg+1:=by rw[a,fo,C];rfl
 have j:∀d,d<Wg->u2.heap[d]? =u1.heap[d]?:=λd hd=>by rw[a,alloc_old _ _ (by rw[C]at hd;exact hd)];rfl
 have z:u2.heap[Wg]? =some (wgBlock 130 0 0):=by rw[a,C];exact tN _ _
 have hS:=hF.sh;have A:=λx hx=>(j _ (by have:=(hH x hx).2.1;omega)).trans (hH x hx).2.2
 have b1:=A (bb,_) ZX;have b2:=A (wb,_) (List.mem_cons_of_mem _ ZX);have b3:=A (V,_) (List.mem_cons_of_mem _ (List.mem_cons_of_mem _ ZX));have b4:=A (VV,_) (List.mem_cons_of_mem _ (List.mem_cons_of_mem _ (List.mem_cons_of_mem _ ZX)));have p:u2.tape=u.tape:=by rw[a];exact Q.tape
 obtain⟨K,hK⟩:∃K:Nat->Prop,K=λx=>x<u2.heap.size/\x≠V/\x≠Wg/\¬S x:=⟨_,rfl⟩
 have ο:∀d,K d->d<u2.heap.size:=λd hd=>by rw[hK]at hd;exact hd.1
 have H:WgLive link.tWg Wg u2:=⟨0,0,z⟩;have n:=HW bb V VV Wg u2 (λd hd=>(j d (by omega)).trans (y d hd)) ν (by omega) μ U (by omega) b1 b4 p;rw[<-hK]at n
 have ξ:Sr prog link.tWg Wg V 68 K (S8 f42 link Wg VV (b::bs)) (iR c 0) (Ad c) (pq c vd) (iR c 0) (G ((base 42).at ⟨JT (up f 6 (ptr Wg)),[]⟩ (.inRegion (AJ f42 2) []::MG f42)) (b::bs)) u2 (λ_=>False):=by
  rw[xg];refine mW (jo (jo (fu (iN 3 2 rfl) ?_)))
  have hL:Holds K [(wb,.cells (aQ c) 37)] u2 (λ_=>False):=λx hx=>by
   simp at hx;subst hx;refine⟨.inr ?_,by simp only;omega,b2⟩;rw[hK];exact⟨by omega,by omega,by omega,λh=>by have:=hS _ h;omega⟩
  refine nR YD I hL (v:=.agg (aQ c)) (λo az Z hl=>?_) ?_
  .rw[tC Z,bQ _ _ (by decide),bH _ _ (by decide),f3]
   obtain⟨es,e1,e2⟩:=G6 (hl _ ZX).2.2;refine⟨es,gm e1,λe he=>?_⟩;obtain⟨x,rfl⟩:=e2 e he;exact .inl ⟨wb,.inr ⟨_,rfl,rfl⟩,rfl,.inr ⟨(hL _ ZX).1.resolve_left (λh=>h),rfl⟩⟩
  refine xZ (.inl YC) I (jS _ _ _) ?_;refine mW (JP (RI ?_))
  have:=rounds (vd:=vd) (bb:=bb) (V:=V) (VV:=VV) (cs:=b::bs) (cnt:=iR c) (nW:=iR c 0) (off:=Ad c) (vals:=pq c vd) H (Sc c) (yV c) (JM c vd) ο n 4 0 rfl (up (up (up f 6 (ptr Wg)) 10 (.agg (aQ c))) 11 (.int .i64 0)) u2 (λ_=>False)
   ⟨by rw[bH _ _ (by decide),bH _ _ (by decide),bH _ _ (by decide)];exact f2,by rw[bH _ _ (by decide),bH _ _ (by decide),bH _ _ (by decide)];exact f5,by rw[bH _ _ (by decide),bH _ _ (by decide),cK],by rw[bH _ _ (by decide),cK],by rw[cK];rfl⟩ (bF.refl _ _ _) (λ_ h=>h.elim)
  rw[xg]at this;exact this
 obtain⟨N3,m3,t3,p1,τ,u3,β,q3,υ,rfl,⟨E,p2,tt,h5,J⟩,l,p4,p5,p6,p7,p8,p9,θ,η,ζ,ε⟩:=Ri (B:=Wg) (K:=K) (zero:=mK) (gE:=UM f42 prog link.tWg Wg VV (b::bs)) (WU c vd F) (λg w h=>F9 g w h) (λg w hl h=>LV g w hl h) s5 s3 ξ (ZL _) (by omega) (by omega) (by omega) (λh=>by have:=hS _ h;omega)
  (λx hx=>by rw[hK]at hx;exact hx) z (by rw[D];exact b3) (by kernel_rfl) (λx hx=>by unfold mK;rw[ZY];simp[show x<dQ.size from hx])
 obtain⟨m,hgo⟩:=J u3 l;obtain⟨N4,σ,g4,d4,P,t4,q4,w1,w2,rfl,w4⟩:=Uv (λw d=>⟨d,rfl⟩) m E u3 τ β t3 q3 (Bh m E u3 l hgo) p4 p2;have W:=(p9 VV (by omega) (by omega) (by omega)).trans b4
 obtain⟨N5,ρ,g5,u5,α,t5,q5,M5,x1,x2,rfl,x4,O⟩:=I7 (Kv (b:=b) (bs:=bs) h5 (u:=u3.at d4) W) σ P t4 q4 w4 w2 (λx hx=>hx.elim (λh=>h.elim) λh=>by
  have ψ:=h;exact⟨by show x<u3.heap.size;omega,λhs=>hs.elim (λh=>by have:=hS _ h;omega) λh=>by omega⟩)
 have s:∀d,d<u3.heap.size->u5.heap[d]? =u3.heap[d]?:=λd hd=>O.keep d hd (λh=>h)
 have z5:u3.heap.size<=u5.heap.size:=O.size;refine⟨N1+(N2+(N3+(N4+N5))),ρ,u5,α,t5,q5,V,Wg,υ,?_,x2,x4,?_,?_,?_,by have:=Q.size;omega,λd hd=>?_,by omega,by omega,by omega,?_,η,?_,?_⟩
 .rw[runNT_add,r1]
  simp only;rw[runNT_add,s1];simp only;rw[runNT_add,p1];simp only;rw[runNT_add,w1];exact x1
 .rw[O.tape];exact(rfl).trans (p5.trans p)
 .rw[O.os];exact(rfl).trans (p6.trans (by rw[a];exact Q.os))
 .rw[O.output];exact(rfl).trans (p7.trans (by rw[a];exact Q.output))
 .rw[s d (by omega),p9 d (by omega) (by omega) (by omega),j d (by omega),y d hd]
 .rw[s V (by omega),θ,D]
 .intro i hi hc o Z
  obtain⟨k,I,ι,T⟩:∃k,k<iR c 0/\Ad c k=17*i/\pq c vd k=(vd i).toList:=by
   have:=yV c i hi;rw[if_pos hc]at this
   have hle:iR c (i+1)+1<=iR c 0:=by
        have h0:=yV c 0 (by omega);have h1:=yV c 1 (by omega);have h2:=yV c 2 (by omega);obtain rfl|rfl|rfl|rfl:i=0\/i=1\/i=2\/i=3:=by omega
        all_goals(simp at*;omega)
   exact⟨_,by omega,JM c vd i hi hc⟩
  have:=ζ k I o (by rw[T,Array.length_toList,F i hi hc];exact Z);rw[ι,T]at this;rw[this];simp
 .intro i hi hc o Z
  refine ε (17*i+o) (by omega) λk I hh=>?_
  obtain⟨i',g1,g2,g3⟩:=Ex c k I;have e1:Ad c k=17*i':=by simp[Ad,g3]
  have e2:(pq c vd k).length=17:=by simp[pq,g3,F i' g1 g2]
  have:i=i':=by omega
  exact hc (this▸g2)
end
end
