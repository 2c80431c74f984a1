/- Part 26 of the proof. -/
import Derived.Test.YtfpaamhppamcoaaGreatDoorSp25
set_option linter.all false
set_option maxHeartbeats 60000000
namespace Go.Proofs.YtfpaamhppamcoaaGreatDoor
open Go.Proofs.Tryz
section
open Go Go.Conc Go.ConcN Go.RowKit Go.Conc.Lib
open Go.ConcR (KK wgBlock WgAt stA smA rd wr mk Payload DC0)
section
variable {ρ:Operand->Value}{o:Oper}
theorem exec_box {t}{x}(h:o.op=.box t x):execOp ρ o=(do Pure.pure (Next.value (<-Instr.box t (ρ x)))):=by unfold execOp;rw[h]
theorem mr {t}(h:o.op=.alloc t):execOp ρ o=(do Pure.pure (Next.value (<-Instr.alloc t true (.tuple #[])))):=by unfold execOp;rw[h]
theorem exec_makeSlice {t}{x y}(h:o.op=.makeSlice t x y):execOp ρ o=(do Pure.pure (Next.value (<-Instr.makeSlice t (ρ x) (ρ y)))):=by unfold execOp;rw[h]
theorem exec_load {t}{x}(h:o.op=.load t x):execOp ρ o=(do Pure.pure (Next.value (<-Instr.loadAt t (ρ x)))):=by unfold execOp;rw[h]
theorem exec_index {t}{x y}(h:o.op=.index t x y):execOp ρ o=(do Pure.pure (Next.value (<-Instr.index t (ρ x) (ρ y)))):=by unfold execOp;rw[h]
theorem exec_store {t}{x y}(h:o.op=.store t x y):execOp ρ o=(do Instr.storeAt t (ρ x) (ρ y);Pure.pure Next.skip):=by unfold execOp;rw[h]
theorem mq {op}{t s}{x y}(h:o.op=.binOp op t x y s):execOp ρ o=(do Pure.pure (Next.value (<-(do eqGuard op t x y (ρ x) (ρ y);binOp op t (ρ x) (ρ y))))):=by unfold execOp;rw[h]
theorem exec_move {x}(h:o.op=.move x\/o.op=.assign x):execOp ρ o=Pure.pure (Next.value (ρ x)):=by rcases h with h|h<;>(unfold execOp;rw[h])
end
theorem bQ (f)(ds){j}(h:j<22):(Act.mk (JT f) ds).eval (.tmp j)=f j:=JT_get f h
theorem jS (f)(ds)(v):(Act.mk (JT f) ds).eval (.const v)=v:=rfl
section
variable {K M:Nat->Prop}{S:Goroutine->World->(Nat->Prop)->Prop}{u:World}{L:List (Nat×Obj)}{b:Frame}{f:Nat->Value}{k:List Item}{cs:List Frame}{ops:Array Oper}{i:Nat}{rest:List Nat}
theorem j_move {x}{v}{d}(h:gp ops i (.move x) (some d)\/gp ops i (.assign x) (some d))(l:b.kind≠.early)(j:(Act.mk (JT f) []).eval x=v)
 (hc:aC prog true K S (G (b.at ⟨JT (up f d v),[]⟩ (.inRegion ops rest::k)) cs) u M):aC prog true K S (G (b.at ⟨JT f,[]⟩ (.inRegion ops (i::rest)::k)) cs) u M:=by
 obtain⟨o,g,a,e,c⟩:∃o,ops[i]? =some o/\(o.op=.move x\/o.op=.assign x)/\o.dst=some d/\o.guard=none:=by
  rcases h with⟨o,g,a,e,c⟩|⟨o,g,a,e,c⟩
  .exact⟨o,g,.inl a,e,c⟩
  .exact⟨o,g,.inr a,e,c⟩
 refine aC.pure v g (bq c _) l (λaz=>by rw[exec_move a,j];rfl) (λaz=>by rw[exec_move a];rfl) ?_;rw[e,put_JT];exact hc
theorem j_make {x}{d}(g:∀c,K c->¬M c)(e:gp ops i x (some d))(j:b.kind≠.early)(l:Holds K L u M)(v:Nat->Value)(a)
 (h:∀(o:Oper) (az:World),o.op=x->(execOp (Act.mk (JT f) []).eval o).runT prog az #[]=(.ok (.value (v az.heap.size)) (az.alloc a),#[]))
 (hc:∀n u' M',u.heap.size<=n->Holds K ((n,a)::L) u' M'->M' n->(∀c,M c->M' c)->(∀c,M' c->M c\/(u.heap.size<=c/\c<u'.heap.size))->n<u'.heap.size->u.heap.size<=u'.heap.size->bF K (λ_=>False) u u'->aC prog true K S (G (b.at ⟨JT (up f d (v n)),[]⟩ (.inRegion ops rest::k)) cs) u' M'):
 aC prog true K S (G (b.at ⟨JT f,[]⟩ (.inRegion ops (i::rest)::k)) cs) u M:=by
 obtain⟨o,r,q,p,m⟩:=e;refine aC.make g l r m j v a (λaz=>h o az q) λn u' M' y a2 a3 a4 a5 w t s=>?_
 rw[p,put_JT];exact hc n u' M' y a2 a3 a4 a5 w t s
theorem nR {x}{d}{v}(a:gp ops i x (some d))(g:b.kind≠.early)(h:Holds K L u M)
 (c:∀(o:Oper) (az:World),o.op=x->Holds K L az M->∃es,(execOp (Act.mk (JT f) []).eval o).runT prog az #[]=(.ok (.value v) az,es)/\∀e∈es,EvM K M e)
 (hc:aC prog true K S (G (b.at ⟨JT (up f d v),[]⟩ (.inRegion ops rest::k)) cs) u M):aC prog true K S (G (b.at ⟨JT f,[]⟩ (.inRegion ops (i::rest)::k)) cs) u M:=by
 obtain⟨o,n,m,l,j⟩:=a;refine aC.look h n j g v (λaz hl=>c o az m hl) ?_;rw[l,put_JT];exact hc
theorem j_write {x}{c}{old new}{t}(g:∀c,K c->¬M c)(a:gp ops i x none)(j:b.kind≠.early)(l:Holds K L u M)(hm:M c)(d:(c,.cells old t)∈L)
 (h:∀(o:Oper) (az:World),o.op=x->az.heap[c]? =some (.cells old t)->∃es,(execOp (Act.mk (JT f) []).eval o).runT prog az #[]=(.ok .skip (az.setRow c new),es)/\∀e∈es,(∃x,e=⟨.cell ⟨c,x,none⟩,true,false⟩))
 (hc:∀u',Holds K ((c,.cells new t)::L.filter λx=>x.1 !=c) u' M->u.heap.size<=u'.heap.size->bF K (λ_=>False) u u'->aC prog true K S (G (b.at ⟨JT f,[]⟩ (.inRegion ops rest::k)) cs) u' M):
 aC prog true K S (G (b.at ⟨JT f,[]⟩ (.inRegion ops (i::rest)::k)) cs) u M:=by
 obtain⟨o,q,p,n,m⟩:=a;refine aC.write g l hm d q m j (λaz hl=>h o az p hl) λu' r a2 a3=>?_
 rw[n];exact hc u' r a2 a3
theorem jo {x y}{a}(hc:aC prog true K S (G (b.at a (.code x:: .code y::k)) cs) u M):aC prog true K S (G (b.at a (.code (.seq x y)::k)) cs) u M:=aC.ctl rfl (λ_=>stepG_seq) hc
theorem fu {id}{a}{l}(hl:List.range ops.size=l)(hc:aC prog true K S (G (b.at a (.inRegion ops l::k)) cs) u M):aC prog true K S (G (b.at a (.code (.region id ops false)::k)) cs) u M:=aC.ctl rfl (λ_=>by rw[stepG_region,hl]) hc
theorem mW {a}(hc:aC prog true K S (G (b.at a k) cs) u M):aC prog true K S (G (b.at a (.inRegion ops []::k)) cs) u M:=aC.ctl rfl (λ_=>stepG_region_end) hc
end
theorem sizeJ (k n)(h:((List.range 12).map λk=>(AJ f42 k).size)[k]? =some n):(AJ f42 k).size=n:=by
 by_cases a:k<12
 .simpa[a] using h
 .simp[a]at h
theorem iN (k n)(h: [3,3,1,2,1,6,2,1,2,2,1,2][k]? =some n):List.range (AJ f42 k).size=List.range n:=by rw[sizeJ k n (by rw[sizesJ];exact h)]
def aQ (c:Nat->Int):Array Value:= #[.int .i64 (c 0),.int .i64 (c 1),.int .i64 (c 2),.int .i64 (c 3)]
def restJ (f:Func):List Item:=[.code (.seq (.seq (mI f 3) (.block 0 (.loop (loopJ f)))) (.seq (mI f 10) (.seq (mI f 11) .ret)))]
structure Pro (K:Nat->Prop)(vb:Value)(c:Nat->Int)(aL:World)(M₀:Nat->Prop)(cs:List Frame)(g:Goroutine)(u:World)(M:Nat->Prop)(f:Nat->Value)(bb wb V VV:Nat):Prop where
 at_:g=G ((base 42).at ⟨JT f,[]⟩ (.inRegion (AJ f42 2) [0]::restJ f42)) cs
 f2:f 2=ptr bb
 f3:f 3=ptr wb
 f5:f 5=ptr VV
 holds:Holds K [(bb,.cells #[vb] 31),(wb,.cells (aQ c) 37),(V,.cells dQ 91),(VV,.cells #[ko V] 87)] u M
 mine:M bb/\M wb/\M V/\M VV
 apart:aL.heap.size<=bb/\bb<wb/\wb<V/\V<VV/\VV<u.heap.size
theorem judge_pro {K M}(d:∀c,¬K c){u}{cs}{f}{vb}{c}(i:vb.cells= #[vb])(p:f 0=vb)(m:f 1=.agg (aQ c)):
 aC prog true K (λg u' M'=>∃f bb e V VV,Pro K vb c u M cs g u' M' f bb e V VV) (G ((base 42).at ⟨JT f,[]⟩ [.code (.seq (mI f42 0) (.seq (mI f42 1) (.seq (mI f42 2) (.seq (.seq (mI f42 3) (.block 0 (.loop (loopJ f42)))) (.seq (mI f42 10) (.seq (mI f42 11) .ret))))))]) cs) u M:=by
 have b:(base 42).kind≠.early:=by decide
 refine jo (fu (iN 0 3 rfl) ?_);refine j_make (λc h=>absurd h (d c)) j00 b Holds.nil ptr (.cells #[vb] 31) (λo az a=>by rw[exec_box a,bQ _ _ (by decide),p];refine(gm (runT_box _ _ _ _)).trans ?_;rw[i];rfl) λbb u1 I t a2 a3 a4 a5 E D _=>?_
 refine j_make (λc h=>absurd h (d c)) j01 b a2 ptr (.cells (aQ c) 37) (λo az a=>by rw[exec_box a,bQ _ _ (by decide),bH _ _ (by decide),m];exact gm (runT_box _ _ _ _)) λe u2 M2 b1 b2 s q C B A _=>?_
 refine j_move (.inr j02) b (jS _ _ _) ?_;refine mW (jo (fu (iN 1 3 rfl) ?_));refine j_make (λc h=>absurd h (d c)) j10 b b2 ko (.cells dQ 91) (λo az a=>by rw[exec_makeSlice a,jS];exact gm (runT_makeRow _)) λV u3 H z c2 c3 c4 c5 y w _=>?_
 refine j_make (λc h=>absurd h (d c)) j11 b c2 ptr (.cells #[.slice none 0 0] 87) (λo az a=>by rw[mr a];exact gm (runT_allocVV _)) λVV u4 F d1 d2 d3 d4 d5 d6 d7 _=>?_
 refine j_write (new:= #[ko V]) (λc h=>absurd h (d c)) j12 b d2 d3 ZX (λo az a l=>?_) λu5 j k _=>?_
 .rw[exec_store a,bQ _ _ (by decide),bQ _ _ (by decide),cK,bH _ _ (by decide),cK]
  obtain⟨es,j,k⟩:=nD (ty:=87) (by kernel_rfl) l (v:=ko V) rfl rfl;exact⟨es,runT_u j,k⟩
 refine mW (jo (fu (iN 2 1 rfl) ?_));refine aC.stop λaz r=>?_
 refine⟨_,bb,e,V,VV,rfl,?_,?_,?_,?_,⟨d4 _ (c4 _ (q _ a3)),d4 _ (c4 _ s),d4 _ c3,d3⟩,t,by omega,by omega,by omega,?_⟩
 .rw[bH _ _ (by decide),bH _ _ (by decide),bH _ _ (by decide),bH _ _ (by decide),cK]
 .rw[bH _ _ (by decide),bH _ _ (by decide),bH _ _ (by decide),cK]
 .rw[cK]
 .refine(j.rely r).sub λx hx=>?_
  simp only[ZW,List.not_mem_nil,or_false]at hx;have ne:∀n,n<VV->(n !=VV)=true:=λn h=>by simp;omega
  simp only[ZW,List.mem_filter,List.not_mem_nil,or_false];rcases hx with rfl|rfl|rfl|rfl
  .exact .inr ⟨by simp,ne _ (by omega)⟩
  .exact .inr ⟨by simp,ne _ (by omega)⟩
  .exact .inr ⟨by simp,ne _ (by omega)⟩
  .exact .inl rfl
 .have:=r.size;omega
theorem indexAt_row (V)(r:Nat)(a:r<4)(w):(Instr.indexAt 87 (ko V) (.int .i64 (r:Int))).runT prog w #[]=(.ok (.pointer (some ⟨V,17*r,none⟩)) w,#[]):=by
 obtain rfl|rfl|rfl|rfl:r=0\/r=1\/r=2\/r=3:=by omega
 .kernel_rfl
 .kernel_rfl
 .kernel_rfl
 .kernel_rfl
theorem info_verdict:(prog.info? 91).map (·.size)=some 17:=by kernel_rfl
section
variable {ty:TypeId}{Wg:Nat}{Q:Program}{St:Goroutine->World->Prop}{m:Nat}
theorem goes_ctl {g g'}(hs:g.status=.running)(h:∀w,stepG Q false g w=.go g' w #[])(k:∀w,WgLive ty Wg w->Goes Q false (RL ty Wg) DC0 St m g' w):∀w,WgLive ty Wg w->Goes Q false (RL ty Wg) DC0 St (m+1) g w:=
 λw _=>Goes.step hs λa b=>by rw[h a];exact⟨⟨rfl,rfl⟩,k a b⟩
end
section
variable [Payload]
theorem workerRest {V nV off}{Wg}{vs}{b:Frame}{T}{ops}(hf:b.fn=69)(d:b.kind=.deferred):
 ∀w,WgLive link.tWg Wg w->Goes prog false (RL link.tWg Wg) DC0 (TR0 prog link.tWg Wg V nV off vs) 63 (G (b.at ⟨T,[dcall 70 #[ptr Wg]]⟩ [.inRegion ops []]) [jZ prog.funcs.size]) w:=by
 refine goes_ctl rfl (λw=>stepG_region_end) ?_;refine goes_ctl rfl (λw=>stepG_end) ?_;refine goes_ctl rfl (λw=>stepG_unwind_enter (a:=⟨T,[dcall 70 #[ptr Wg]]⟩) (ds:=[]) (f:=link.done) (fn:=doneFn link) (c:=Go.ConcR.Gen.body_done link) rfl wgLib.f_done (Go.ConcR.Gen.nm_done link) rfl) ?_;intro w hw;exact workerDone wgLib (c:={b.at ⟨T,[]⟩ []with mode:=.returning}) (cs:=[jZ prog.funcs.size]) rfl (quitsTail hf d T) w hw
theorem worker_put {V Wg r}{vals}{b:Frame}{T}{ops}{o}(w:Payload.ety=91)(s:V≠Wg)(K:r<4)(l:vals.size=17)(p:∀v∈vals.toList,jP v)
 (hf:b.fn=69)(t:b.kind=.deferred)(C:ops[7]? =some o)(g:o.op=.store 91 (.tmp 25) (.tmp 24))(hd:o.dst=none)(E:o.guard=none)(h:T.getD 25 undef=.pointer (some ⟨V,17*r,none⟩))(i:T.getD 24 undef=.agg vals)(u)(M):
 kg prog link.tWg Wg V 68 (17*r) vals.toList (G (b.at ⟨T,[dcall 70 #[ptr Wg]]⟩ [.inRegion ops [7]]) [jZ prog.funcs.size]) u M:=by
 refine⟨rfl,fun⟨cs,a,F⟩ ⟨st,sm,H⟩=>?_⟩;obtain⟨u',A,z,I⟩:=seg_storeVar (Q:=prog) V (17*r) Payload.ety 91 vals cs u a (by omega) (by rw[l];exact info_verdict) λv B=>flat_cell (p v B)
 have d:(execOp (Act.mk T [dcall 70 #[ptr Wg]]).eval o).run prog u=.ok .skip u':=by
  unfold execOp;simp only[g,Act.eval,h,i,Instr.storeAt,Instr.sureAddr];simp[A]
 have q:∀k∈(execOp (Act.mk T [dcall 70 #[ptr Wg]]).eval o).events prog u #[],EvPut V (17*r) vals.toList.length k:=by
  intro k hm;unfold execOp at hm;simp only[g,Act.eval,h,i,Instr.storeAt,Instr.sureAddr]at hm
  have m:k∈(storeVar 91 ⟨V,17*r,none⟩ (.agg vals)).events prog u #[]:=by
   simpa[A] using hm
  obtain⟨x,x1,x2,x3⟩:=I k m;exact⟨x,x1,by simpa using x2,x3⟩
 refine⟨_,u',_,stepG_none C (bq E _) (by rw[t];decide) d,?_,λe he=>q e (jF e he),63,?_⟩
 .subst z
  refine⟨rfl,rfl,rfl,by simp,λc hc=>setRow_other _ _ _ _ hc,λJ y L=>?_⟩;rw[a]at y;cases y;have hlen:(cs.toList.take (17*r)).length=17*r:=by rw[List.length_take,Array.length_toList];omega
  refine⟨_,setRow_heap u V cs _ _ _ a,?_,λx hx=>?_,λj D=>?_⟩
  .rw[List.size_toArray,Z7,Z7,hlen,List.length_drop,Array.length_toList,Array.length_toList]
   omega
  .simp only[Array.length_toList]at hx
   simp only[List.getElem?_toArray]
   by_cases n:x<17*r
   .rw[List.append_assoc,List.getElem?_append_left (by omega),Z5,if_pos n]
    simp
   .rw[List.getElem?_append_right (by simp;omega),List.getElem?_drop]
    simp only[Z7,hlen,Array.length_toList];have:17*r+vals.size+(x-(17*r+vals.size))=x:=(by omega);rw[this];simp
  .simp only[Array.length_toList]at D
   simp only[List.getElem?_toArray];rw[List.append_assoc,List.getElem?_append_right (by omega),hlen,List.getElem?_append_left (by simp;omega),Nat.add_sub_cancel_left]
 .have f:(Act.mk T [dcall 70 #[ptr Wg]]).put o.dst undef=⟨T,[dcall 70 #[ptr Wg]]⟩:=by rw[hd];rfl
  rw[f];refine workerRest hf t u' ⟨st,sm,?_⟩;subst z;show _=_
  rw[setRow_other _ _ _ _ (Ne.symm s)];exact H
end
section
variable {Q:Program}{ty:TypeId}{Wg:Nat}
theorem goes_any {main}{D}{St}{n}{g}{w}(w')(h:Goes Q main (RL ty Wg) D St n g w):Goes Q main (RL ty Wg) D St n g w':=by
 cases n<;>exact h
theorem fK {main}{R}{D}{St b}(hs:∀g w,St g w->b g w){n}{g}{w}(h:Goes Q main R D St n g w):Goes Q main R D b n g w:=stops (λg _ a _ x=>hs g a x) n g w h
variable {gE gE':Goroutine->Prop}{An An':Goroutine->World->Prop}
theorem TAcq.sub (e:∀g,gE g->gE' g){g}{w}(h:TAcq Q Wg gE g w):TAcq Q Wg gE' g w:=let ⟨a,d,b,c⟩:=h;⟨a,d,e _ b,c⟩
theorem TKe.sub (e:∀g,gE g->gE' g){g}{w}(h:TKe Q ty Wg gE g w):TKe Q ty Wg gE' g w:=let ⟨a,d,b,m,c⟩:=h;⟨a,d,b,m,fK (λ_ _=>TAcq.sub e) c⟩
theorem TW4.sub (d:∀g,gE g->gE' g){g}{w}(h:TW4 Q ty Wg gE g w):TW4 Q ty Wg gE' g w:=⟨h.1,λx=>let ⟨a,b,m,c⟩:=h.2 x;⟨a,b,m,fK (λ_ _=>TKe.sub d) c⟩⟩
theorem TW3.sub (d:∀g,gE g->gE' g){g}{w}(h:TW3 Q ty Wg gE g w):TW3 Q ty Wg gE' g w:=⟨h.1,h.2.1,h.2.2.1,λx=>let ⟨a,b,m,c⟩:=h.2.2.2 x;⟨a,b,m,fK (λ_ _=>TW4.sub d) c⟩⟩
theorem TWr.sub (e:∀g,gE g->gE' g){g}{w}(h:TWr Q ty Wg gE g w):TWr Q ty Wg gE' g w:=let ⟨a,d,b,c⟩:=h;⟨a,d,b,fK (λ_ _=>TW3.sub e) c⟩
theorem TW2.sub (f:∀g,gE g->gE' g)(hA:∀g w,An g w->An' g w){vs}{g}{w}(h:TW2 Q ty Wg gE An vs g w):TW2 Q ty Wg gE' An' vs g w:=⟨h.1,λv d hw=>⟨λe=>let ⟨a,b,m,c⟩:=(h.2 v d hw).1 e;⟨a,b,m,fK (λ_ _=>TWr.sub f) c⟩,λe=>let ⟨a,b,m,c⟩:=(h.2 v d hw).2 e;⟨a,b,m,fK hA c⟩⟩⟩
theorem TW1.sub (i:∀g,gE g->gE' g)(hA:∀g w,An g w->An' g w){g}{w}(h:TW1 Q ty Wg gE An g w):TW1 Q ty Wg gE' An' g w:=⟨h.1,λv j hw=>let ⟨f,a,b,c⟩:=h.2 v j hw;⟨f,a,λe=>let ⟨m,d⟩:=b e;⟨m,fK (λ_ _=>TKe.sub i) d⟩,λe=>let ⟨m,d⟩:=c e;⟨m,fK (λ_ _=>TW2.sub i hA) d⟩⟩⟩
theorem TKd.sub (hA:∀g w,An g w->An' g w){g}{w}(h:TKd Q ty Wg An g w):TKd Q ty Wg An' g w:=let ⟨a,d,b,m,c⟩:=h;⟨a,d,b,m,fK hA c⟩
end
def waitFr (f:Func)(t:Nat->Value)(l:List Nat):Frame:=(base 42).at ⟨JT t,[]⟩ (.inRegion (AJ f 10) l::[.code (.seq (mI f 11) .ret)])
def AnJ (f:Func)(L:WgLink)(Wg VV:Nat)(cs:List Frame)(g:Goroutine)(w:World):Prop:=∃t,t 5=ptr VV/\Head L Wg (waitFr f t [0]) cs g w
def EndJ (f:Func)(P:Program)(ty:TypeId)(Wg VV:Nat)(cs:List Frame)(g:Goroutine):Prop:=∃t,t 5=ptr VV/\Back P ty Wg (G (waitFr f t []) cs) g
theorem anJ_running {f}{L}{Wg VV}{cs}(g)(w)(h:AnJ f L Wg VV cs g w):g.status=.running:=by
 obtain⟨t,_,T,rfl,_⟩:=h;rfl
theorem wait_fr (t:Nat->Value):∃o,(AJ f42 10)[0]? =some o/\o.dst=some 20:=by
 obtain⟨o,b,_,a,_⟩:=jA0;exact⟨o,b,a⟩
theorem anJ_round {Wg VV}{cs}(g)(w)(hF:WgLive link.tWg Wg w)(h:AnJ f42 link Wg VV cs g w):∃m,Goes prog true (RL link.tWg Wg) DC0 (TW1 prog link.tWg Wg (EndJ f42 prog link.tWg Wg VV cs) (AnJ f42 link Wg VV cs)) m g w:=by
 obtain⟨t,a,h⟩:=h;obtain⟨o,c,b⟩:=wait_fr t;obtain⟨m,hm⟩:=waitRound (b₀:=base 42) (a₀:=⟨JT t,[]⟩) (ops₀:=AJ f42 10) (i₀:=0) (rest₀:=[]) (k₀:=[.code (.seq (mI f42 11) .ret)]) (cs:=cs) wgLib g w hF h;refine⟨m,fK (λg w=>TW1.sub (λg h=>⟨up t 20 (.tuple #[]),?_,?_⟩) (λg w h=>⟨t,a,h⟩)) hm⟩
 .rw[bH _ _ (by decide)];exact a
 .rw[c,Option.bind_some,b,put_JT]at h
  exact h
theorem start_wait {Wg VV}{cs}{t}(b:t 5=ptr VV){a}(hF:WgLive link.tWg Wg a)(w):
 ∃m,Goes prog true (RL link.tWg Wg) DC0 (TKd prog link.tWg Wg (AnJ f42 link Wg VV cs)) m (G ((base link.wait).at ⟨#[.pointer (some ⟨Wg,0,none⟩)]++Array.replicate 83 undef,[]⟩ [.code (Go.ConcR.Gen.body_wait link)]) (waitFr f42 t [0]::cs)) w:=
 ⟨10,goes_any w (fK (λg w=>TKd.sub λg w h=>⟨t,b,h⟩) (waitStart (b₀:=base 42) (a₀:=⟨JT t,[]⟩) (ops₀:=AJ f42 10) (i₀:=0) (rest₀:=[]) (k₀:=[.code (.seq (mI f42 11) .ret)]) (cs:=cs) wgLib a hF))⟩
theorem und_verdicts:∃d,prog.underlying 87=some d/\d.isRow=false:=⟨_,underlying87,by kernel_rfl⟩
section
variable [Payload]
theorem worker_at6 {J}{st}{p:Rel st}{a b}{w u}{M}{V VV Wg r:Nat}{vals}(e:Payload.ety=91)(n:V≠Wg)(z:r<4)(m:vals.size=17)(d:∀v∈vals.toList,jP v)
 (C:Tree (patch ae prog) (o9 vals r) a [] w)(hl:Live (ou f69 (ptr Wg) (ptr VV) (ko V)) (patch ae prog) p a [] b [])(am:a.mode=.run)(ar:a.roundOf=none)(ad:a.defers=[])(H:a.kind=.normal)(I:a.fn=69)
 (G:b.defers=[dcall 70 #[ptr Wg]])(A:b.kind=.deferred)(E:b.mode=.run)(D:b.roundOf=none)(F:b.fn=69)(x:b.tmps.size=26)
 (i:a.todo=[.inRegion (H3 f69) [6,7]])(t:b.todo=a.todo.map (sgI (ou f69 (ptr Wg) (ptr VV) (ko V))))(g:b.tmps.getD 19 undef=ko V):
 aC prog false J (kg prog link.tWg Wg V 68 (17*r) vals.toList) (df b [jZ prog.funcs.size]) u M:=by
 obtain⟨q,s⟩:=leaf6 C am ar ad (by rw[H];decide) I i;have t24:=(hl.fr.tmps.get 24).resolve_left λh=>absurd h.2 (show ¬pvW 24=true by decide)
 rw[q]at t24;obtain⟨ys,y,B⟩:=t24.agg_inv;rw[flats_eq B d]at y;have t20:=(hl.fr.tmps.get 20).resolve_left λh=>absurd h.2 (show ¬pvW 20=true by decide)
 rw[s]at t20;have y3:=t20.bT;have f:b.todo=[.inRegion ((H3 f69).map sgW) [6,7]]:=by rw[t,i];rfl
 rw[gor_at E D f G];obtain⟨j,f1,f2⟩:=op6;obtain⟨l,g1,g2⟩:=op7;have k:=λu=>indexAt_row V r z u
 simp only[Sem.runT_eq,Prod.mk.injEq]at k;refine aC.pure (.pointer (some ⟨V,17*r,none⟩)) (o:=sgW j) (by rw[Array.getElem?_map,f1];rfl) (bq ((eY j).2.2.trans f2.2.2) _) (by rw[A];decide) (λaz=>?_) (λaz=>?_) ?_
 .rw[sg6 f2]
  unfold execOp;simp only[Act.eval,g,y3];simp[(k az).1]
 .rw[sg6 f2]
  unfold execOp;simp only[Act.eval,g,y3];simp[(k az).1,(k az).2]
 .have c:(Act.mk b.tmps [dcall 70 #[ptr Wg]]).put (sgW j).dst (.pointer (some ⟨V,17*r,none⟩))=⟨b.tmps.setIfInBounds 25 (.pointer (some ⟨V,17*r,none⟩)),[dcall 70 #[ptr Wg]]⟩:=by
   rw[(eY j).1,f2.2.1];rfl
  rw[c];refine aC.stop λaz _=>worker_put e n z m d F A (o:=sgW l) (by rw[Array.getElem?_map,g1];rfl) (by rw[sg7 g2]) ((eY l).1.trans g2.2.1) ((eY l).2.2.trans g2.2.2) ?_ ?_ az M
  .exact bU (by rw[x];decide)
  .rw[getD_set_ne (by decide)];exact y
theorem worker_at0 {t r}{S}{st}{p p₀}{M₀:Nat->Prop}{a b}{w u}{M}{V VV Wg}{R}{rest pre}(A:∀c,r c->t c)(l:t VV)
 (K:∀T,∃a' as' w' es,stepG (patch ae prog) true (df a ([]++[stop (patch ae prog)])) (ay w T)=.go (df a' (as'++[stop (patch ae prog)])) w' es/\(a'.mode=.run\/a'.mode=.returning)/\Tree (patch ae prog) R a' as' w'/\
   ∀(p:Rel st) (b:Frame) (bs:List Frame) (u:World) (M:Nat->Prop),Live (ou f69 (ptr Wg) (ptr VV) (ko V)) (patch ae prog) p a' as' b bs->WR (patch ae prog).globals.size r p w' u->(∀b c,p b c->¬r c->M c)->Ext p₀ p->(∀x,M₀ x->M x)->IvW VV V u M->aC prog false t S (df b (bs++[jZ prog.funcs.size])) u M)
 (hl:Live (ou f69 (ptr Wg) (ptr VV) (ko V)) (patch ae prog) p a [] b [])(hw:WR (patch ae prog).globals.size r p w u)(E:∀b c,p b c->¬r c->M c)(N:Ext p₀ p)(z:∀x,M₀ x->M x)(L:IvW VV V u M)
 (am:a.mode=.run)(ar:a.roundOf=none)(ad:a.defers=[])(Z:a.kind=.normal)(I:a.fn=69)
 (G:b.defers=[dcall 70 #[ptr Wg]])(F:b.kind=.deferred)(Y:b.mode=.run)(X:b.roundOf=none)(q:b.tmps.size=26)(H:b.tmps.getD 4 undef=ptr VV)(b0:b.tmps.getD 0 undef=ptr Wg)
 (i:a.todo=[.inRegion (H3 f69) (0::rest)])(C:b.todo=a.todo.map (sgI (ou f69 (ptr Wg) (ptr VV) (ko V))))(g:Last (pre++0::rest))(O:6∈rest):
 aC prog false t S (df b [jZ prog.funcs.size]) u M:=by
 obtain⟨s,f1,f2⟩:=lF;obtain⟨a',as',w',es,B,_,_,hc⟩:=K w.tape
 have hs:∃es,stepG (patch ae prog) true (df a ([]++[stop (patch ae prog)])) (ay w w.tape)=.go (df (a.at ((Act.mk a.tmps []).put (some 19) (.int .i64 (160160160160000+0))) [.inRegion (H3 f69) rest]) ([]++[stop (patch ae prog)])) (ay w w.tape) es:=by
  rw[gor_at am ar i ad,stepG_value f1 (bq f2.2.2 _) (by rw[Z];decide) (run_flag f2 _ _),f2.2.1];exact⟨_,rfl⟩
 obtain⟨P,hs⟩:=hs;rw[hs]at B;simp only[GStep.go.injEq,Goroutine.mk.injEq]at B;obtain⟨⟨rfl,W,_⟩,rfl,_⟩:=B;have U:=List.append_cancel_right W;subst U;have n:b.todo=[.inRegion ((H3 f69).map sgW) (0::rest)]:=by rw[C,i];rfl
 obtain⟨d,y,v⟩:=und_verdicts;rw[gor_at Y X n G];refine aC.op (o:=sgW s) (by rw[Array.getElem?_map,f1];rfl) (bq ((eY s).2.2.trans f2.2.2) _) (by rw[F];decide) λaz f=>?_
 have m:=ivW_rely l u az M L f;obtain⟨D,J⟩:=seg_loadVar (Q:=prog) ⟨VV,0,none⟩ 87 az (ko V) d y v m.2.2;have k:b.tmps.getD 4 undef=.pointer (some ⟨VV,0,none⟩):=H;refine⟨ko V,az,?_,⟨rfl,rfl,rfl,ZL _,λ_ _ _=>rfl,?_⟩,?_⟩
 .rw[sg0 f2]
  unfold execOp;simp only[Act.eval,k,Instr.loadAt,Instr.sureAddr];simp[D]
 .rw[sg0 f2]
  unfold execOp;simp only[Act.eval,k,Instr.loadAt,Instr.sureAddr];simp only[Sem.events_bind,Sem.run_bind];intro e he;have:e=⟨.cell ⟨VV,0,none⟩,false,false⟩:=by simpa[D,J] using he
  subst this;exact .inl ⟨VV,.inr ⟨_,rfl,rfl⟩,rfl,.inr ⟨l,rfl⟩⟩
 .rw[Grow.self]
  have j:(Act.mk b.tmps [dcall 70 #[ptr Wg]]).put (sgW s).dst (ko V)=(Act.mk b.tmps [dcall 70 #[ptr Wg]]).put (some 19) (ko V):=by
   rw[(eY s).1,f2.2.1]
  rw[j];refine hc p _ [] az M ⟨?_,.inl rfl,trivial,?_⟩ (hw.rely E (f.monoK A)) E N z m
  .refine FR.fill hl.fr am I rfl (show(19:Nat)≠25 by decide) i G ?_
   refine⟨⟨by simpa using q,?_,?_⟩,.inr (.inr (.inr (.inr (.inr (.inr (.inr ⟨rest,pre++[0],rfl,by simpa using g,O,λ_=>bU (by rw[q];decide)⟩))))))⟩
   .rw[getD_set_ne (by decide)];exact b0
   .rw[getD_set_ne (by decide)];exact H
  .refine⟨λh=>absurd rfl h,λ_=>⟨rfl,F,λ_=>I⟩⟩
def cfgT:iG:={fns:=69::fnsW,sp:=[],mark:=λ_=>false,sg:=id,root:=1000000,rt:=0,jh:=false,dd:=[],kd:=.normal,pv:=λ_=>false,okF:=λ_ _=>True,ext:=[167]}
theorem cfgT_ok:j6 cfgT:=⟨λ_ _=>rfl,λ_=>rfl,λ_=>rfl,λ_=>rfl,λ_ h=>Bool.noConfusion h,λ_ _ _ _ _=>trivial,λ_ _ _ _ _ _ _ _ _=>trivial⟩
theorem pbT:∀g∈69::fnsW,PB cfgT (patch ae prog) (patch ae prog) g:=
 all_cons ⟨_,_,jq,by kernel_rfl,kr,jq,by kernel_rfl⟩<|
 all_cons ⟨_,_,pf func80 (by rfl),by kernel_rfl,rfl,pf func80 (by rfl),by kernel_rfl⟩<|
 all_cons ⟨_,_,pf func134 (by rfl),by kernel_rfl,rfl,pf func134 (by rfl),by kernel_rfl⟩<|
 all_cons ⟨_,_,pf func83 (by rfl),by kernel_rfl,rfl,pf func83 (by rfl),by kernel_rfl⟩<|
 all_cons ⟨_,_,pf func135 (by rfl),by kernel_rfl,rfl,pf func135 (by rfl),by kernel_rfl⟩<|
 all_cons ⟨_,_,pf func136 (by rfl),by kernel_rfl,rfl,pf func136 (by rfl),by kernel_rfl⟩<|
 all_cons ⟨_,_,pf func169 (by rfl),by kernel_rfl,rfl,pf func169 (by rfl),by kernel_rfl⟩<|
 all_cons ⟨_,_,pf func170 (by rfl),by kernel_rfl,rfl,pf func170 (by rfl),by kernel_rfl⟩<|
 all_cons ⟨_,_,pf func81 (by rfl),by kernel_rfl,rfl,pf func81 (by rfl),by kernel_rfl⟩<|
 all_cons ⟨_,_,pf func131 (by rfl),by kernel_rfl,rfl,pf func131 (by rfl),by kernel_rfl⟩<|
 all_cons ⟨_,_,pf func132 (by rfl),by kernel_rfl,rfl,pf func132 (by rfl),by kernel_rfl⟩<|
 all_cons ⟨_,_,pf func72 (by rfl),by kernel_rfl,rfl,pf func72 (by rfl),by kernel_rfl⟩<|
 all_cons ⟨_,_,pf func117 (by rfl),by kernel_rfl,rfl,pf func117 (by rfl),by kernel_rfl⟩<|
 all_cons ⟨_,_,pf func129 (by rfl),by kernel_rfl,rfl,pf func129 (by rfl),by kernel_rfl⟩<|
 all_cons ⟨_,_,pf func166 (by rfl),by kernel_rfl,rfl,pf func166 (by rfl),by kernel_rfl⟩<|
 all_cons ⟨_,_,pf func71 (by rfl),by kernel_rfl,rfl,pf func71 (by rfl),by kernel_rfl⟩<|
 all_cons ⟨_,_,pf func116 (by rfl),by kernel_rfl,rfl,pf func116 (by rfl),by kernel_rfl⟩<|
 all_cons ⟨_,_,pf func48 (by rfl),by kernel_rfl,rfl,pf func48 (by rfl),by kernel_rfl⟩<|
 all_cons ⟨_,_,pf func77 (by rfl),by kernel_rfl,rfl,pf func77 (by rfl),by kernel_rfl⟩<|
 all_cons ⟨_,_,pf func78 (by rfl),by kernel_rfl,rfl,pf func78 (by rfl),by kernel_rfl⟩<|
 all_cons ⟨_,_,pf func128 (by rfl),by kernel_rfl,rfl,pf func128 (by rfl),by kernel_rfl⟩<|
 all_cons ⟨_,_,pf func130 (by rfl),by kernel_rfl,rfl,pf func130 (by rfl),by kernel_rfl⟩<|
 all_cons ⟨_,_,pf func127 (by rfl),by kernel_rfl,rfl,pf func127 (by rfl),by kernel_rfl⟩<|
 all_cons ⟨_,_,pf func157 (by rfl),by kernel_rfl,rfl,pf func157 (by rfl),by kernel_rfl⟩<|
 all_cons ⟨_,_,pf func76 (by rfl),by kernel_rfl,rfl,pf func76 (by rfl),by kernel_rfl⟩<|
 all_cons ⟨_,_,pf func126 (by rfl),by kernel_rfl,rfl,pf func126 (by rfl),by kernel_rfl⟩<|
 all_cons ⟨_,_,pf func73 (by rfl),by kernel_rfl,rfl,pf func73 (by rfl),by kernel_rfl⟩<|
 all_cons ⟨_,_,pf func118 (by rfl),by kernel_rfl,rfl,pf func118 (by rfl),by kernel_rfl⟩<|
 all_cons ⟨_,_,pf func119 (by rfl),by kernel_rfl,rfl,pf func119 (by rfl),by kernel_rfl⟩<|
 all_cons ⟨_,_,pf func163 (by rfl),by kernel_rfl,rfl,pf func163 (by rfl),by kernel_rfl⟩<|
 all_cons ⟨_,_,pf func192 (by rfl),by kernel_rfl,rfl,pf func192 (by rfl),by kernel_rfl⟩<|
 all_cons ⟨_,_,pf func214 (by rfl),by kernel_rfl,rfl,pf func214 (by rfl),by kernel_rfl⟩<|
 all_cons ⟨_,_,pf func215 (by rfl),by kernel_rfl,rfl,pf func215 (by rfl),by kernel_rfl⟩<|
 all_cons ⟨_,_,pf func120 (by rfl),by kernel_rfl,rfl,pf func120 (by rfl),by kernel_rfl⟩<|
 all_cons ⟨_,_,pf func164 (by rfl),by kernel_rfl,rfl,pf func164 (by rfl),by kernel_rfl⟩<|
 all_nil
theorem plainT:aH cfgT (patch ae prog) (patch ae prog):=
 aH.of cfgT_ok extCmpP fU.nil dw.nil (λg a=>by
  have h:(dS.all λg=>(69::fnsW).contains g)=true:=by kernel_rfl
  have:=ZU.1 h g a;exact List.mem_of_elem_eq_true this) (69::fnsW) (λg=>⟨.inl,λh=>h.elim id λh=>by cases h⟩) (λg a=>by cases a) (λg a e=>by
  subst e;exact absurd a (of_decide_eq_true (show decide (¬1000000∈69::fnsW)=true by kernel_rfl))) pbT (λg a=>by cases a)
end
theorem opD:∃o,(O0 f69)[0]? =some o/\o.op=.defer {callee:=.value (.func 70),args:= #[.tmp 0],argTypes:= #[130]}/\o.dst=none/\o.guard=none:=by
 have h:((O0 f69)[0]?).map (λo=>(o.op,o.dst,o.guard))=some (.defer {callee:=.value (.func 70),args:= #[.tmp 0],argTypes:= #[130]},none,none):=by kernel_rfl
 obtain⟨o,b,a⟩:=Option.map_eq_some_iff.1 h;simp only[Prod.mk.injEq]at a;exact⟨o,b,a⟩
theorem size0:(O0 f69).size=1:=by kernel_rfl
theorem ntmpsW:Func.ntmps f69=26:=by kernel_rfl
theorem nameW:(Func.name f69== "runtime.NumGoroutine")=false:=by kernel_rfl
def callW (Wg bb a b VV:Nat):Deferred:={target:=.fn (.func 69) #[ptr Wg,ptr bb,ptr a,ptr b,ptr VV],args:= #[]}
def pE (x0 bb b c a:Value):Array Value:= #[x0,bb,b,c,a,undef,undef,undef,undef,undef,undef,undef,undef,undef,undef,undef,undef,undef,undef,undef,undef,undef,undef,undef,undef,undef]
theorem tmpsW_eq (a b c d e): #[a,b,c,d,e]++Array.replicate 21 undef=pE a b c d e:=by kernel_rfl
theorem born_step (Wg bb a b VV)(w):stepG prog false (born prog (callW Wg bb a b VV)) w=
 .go (G ((baseD 69).at ⟨pE (ptr Wg) (ptr bb) (ptr a) (ptr b) (ptr VV),[]⟩ [.code (.seq (.region 0 (O0 f69) false) (.seq (R1 f69) (.seq (R2 f69) (RQ f69))))]) [jZ prog.funcs.size]) w #[]:=by
 have c:¬Func.name f69= "runtime.NumGoroutine" :=by simpa using nameW
 have hb:¬Func.body f69=none:=by rw[worker_body];simp
 have e:=enter_atD (P:=prog) (f:=69) #[ptr Wg,ptr bb,ptr a,ptr b,ptr VV] fn_worker worker_body;rw[ntmpsW,show 26-(#[ptr Wg,ptr bb,ptr a,ptr b,ptr VV]:Array Value).size=21 from rfl,tmpsW_eq]at e;simp only[born,callW,stepG,unwind,callDeferred,invoke,callFunc];simp only[Array.append_empty,Sem.runT_eq,Sem.run_bind,run_program,Result.andThen_ok,fn_worker,c,hb,nameW];simp[c,hb,GStep.after,e,G];exact⟨rfl,seen_none _ _⟩
theorem sgO1:(O1 f69).map sgW=O1 f69:=by kernel_rfl
theorem sgO2:(O2 f69).map sgW=O2 f69:=by kernel_rfl
theorem sgH3:(H3 f69).map sgW=O3 f69:=by kernel_rfl
theorem sg_body (a y4 sl): [Item.code (.seq (R1 f69) (.seq (R2 f69) (R3 f69)))].map (sgI (ou f69 a y4 sl))=[Item.code (.seq (R1 f69) (.seq (R2 f69) (RQ f69)))]:=by
 show [Item.code (.seq (.region 1 ((O1 f69).map sgW) true) (.seq (.region 2 ((O2 f69).map sgW) true) (.region 3 ((H3 f69).map sgW) true)))]=_
 rw[sgO1,sgO2,sgH3]
theorem plainLone (a y4 sl):bA (ou f69 a y4 sl) (patch ae prog) 69 (.seq (R1 f69) (.seq (R2 f69) (R3 f69)))=true:=by kernel_rfl
section
variable [Payload]
theorem worker_owned (hz:dM (patch ae prog)){Y J M}{st}{p:Rel st}{K u}{V VV Wg bb d f r:Nat}{vals}(x:Payload.ety=91)(S:V≠Wg)(hr:r<4)(P:vals.size=17)(R:∀v∈vals.toList,jP v)
 (B:∀c,J c->Y c)(A:Y VV)(I:IvW VV V u M)(hw:WR (patch ae prog).globals.size J p K u)(H:∀b c,p b c->¬J c->M c)(h1:p bb bb)(h2:p d d)(h3:p f f)
 (hc:∀T,Calls (patch ae prog) 69 #[undef,ptr bb,ptr d,ptr f,undef] (ay K T) fun|.returned v,w'=>o9 vals r v w'|_,_=>False):
 aC prog false Y (kg prog link.tWg Wg V 68 (17*r) vals.toList) (born prog (callW Wg bb d f VV)) u M:=by
 have tw:Twin (patch ae prog) prog:=patch_twin ae prog lH calmA;have L:=patch_twin' ae prog lH calmA;have hp:∀c,p c c->VR p (ptr c) (ptr c):=λc hc=>VR.ptr ⟨hc,rfl,rfl⟩
 have m:aF (VR p) #[undef,ptr bb,ptr d,ptr f,undef] #[undef,ptr bb,ptr d,ptr f,undef]:=aF.same λv hv=>by
  simp at hv;rcases hv with rfl|rfl|rfl|rfl|rfl
  .exact VR.undef
  .exact hp _ h1
  .exact hp _ h2
  .exact hp _ h3
  .exact VR.undef
 have k:Comp st cfgT (patch ae prog) J ⟨Frame.enter (patch ae prog) 69 #[undef,ptr bb,ptr d,ptr f,undef] .normal,[],K⟩:=
  ⟨p,_,[],u,⟨FR.enter plainT (by exact ZX) (by exact List.not_mem_nil) m (λg q=>by cases q),.inl rfl,trivial,⟨λh=>absurd rfl h,λ_=>⟨rfl,rfl,λh=>by cases h⟩⟩⟩,hw⟩
 have tree:=pz hz plainT L (.inl rfl) rfl (λ_=>rfl) k hc;obtain⟨o,e1,e2,e3,e4⟩:=opD;refine aC.ctl rfl (λaz=>born_step Wg bb d f VV az) ?_;refine aC.ctl rfl (λaz=>stepG_seq) ?_;refine aC.ctl rfl (λaz=>stepG_region) ?_;refine aC.ctl rfl (λaz=>stepG_defer e1 (bq e4 _) (by decide) e2) ?_;rw[e3];refine aC.ctl rfl (λaz=>stepG_region_end) ?_;have hm:(#[Operand.tmp 0]).map (Act.mk (pE (ptr Wg) (ptr bb) (ptr d) (ptr f) (ptr VV)) []).eval= #[ptr Wg]:=by simp[Act.eval,pE]
 have q:G ((baseD 69).at (Act.put ⟨pE (ptr Wg) (ptr bb) (ptr d) (ptr f) (ptr VV),[dcall 70 #[ptr Wg]]⟩ none undef) [.code (.seq (R1 f69) (.seq (R2 f69) (RQ f69)))]) [jZ prog.funcs.size]=
  df {fn:=69,tmps:=pE (ptr Wg) (ptr bb) (ptr d) (ptr f) (ptr VV),todo:=[.code (.seq (R1 f69) (.seq (R2 f69) (RQ f69)))],defers:=[dcall 70 #[ptr Wg]],mode:=.run,kind:=.deferred} ([]++[jZ prog.funcs.size]):=rfl
 rw[hm,q]
 have y:Frame.enter (patch ae prog) 69 #[undef,ptr bb,ptr d,ptr f,undef] .normal={fn:=69,tmps:=pE undef (ptr bb) (ptr d) (ptr f) undef,todo:=[.code (.seq (R1 f69) (.seq (R2 f69) (R3 f69)))],defers:=[],mode:=.run,kind:=.normal}:=by
  have en:(fD f69).ntmps=26:=by kernel_rfl
  have et:=kr;unfold Frame.enter;rw[jq];simp only[Option.map_some,Option.getD_some,Option.bind_some,et,en];rw[show 26-(#[undef,ptr bb,ptr d,ptr f,undef]:Array Value).size=21 from rfl,tmpsW_eq]
 rw[y]at tree;refine owned_of_tree (C:=ou f69 (ptr Wg) (ptr VV) (ko V)) (cs:=[jZ prog.funcs.size]) (p₀:=p) (M₀:=M) (Iv:=IvW VV V) B hz (plainW _ _ _) tw (.inl rfl) rfl (λu az M=>ivW_rely A u az M) (λu u' M es=>ivW_does u u' M es) ?_ ?_ tree p _ [] u M ?_ hw H (Ext.refl _) (λ_ h=>h) I
 .
  intro p a b w u M hl hw H hE z I Q;exfalso;obtain⟨l1,_,⟨l3,l4⟩,fn,T,v,l5,Z,O⟩:=Q;have s:a.fn=69:=(hl.deep.2 rfl).2.2 rfl;rw[s,jq]at l5;cases l5;rw[results_tmp3 (t:=24) (u:=20) (v:=25) (by kernel_rfl)]at Z;cases Z;have U:=hl.fr.rt s;have D:a.tmps.getD 25 undef=undef:=U;unfold o9 at O;simp only[Value.tuple.injEq]at O;have N:=congrArg Array.toList O;simp only[List.cons.injEq,and_true]at N;rw[D]at N;cases N.2.2
 .intro p a b fs gs w u M hm hk ht hn hl hw H hE z I
  obtain⟨rfl,rfl,X,ar,ad,ak,bd,bk,bm,br,bf,b4,F,rest,pre,l,E⟩:=marked_worker hm hk hl;have b0:=(hl.fr.shape X).1.2.1;rcases l with⟨n,j,h6⟩|⟨n,rfl,W⟩
  .exact worker_at0 B A hn hl hw H hE z I hm ar ad ak X bd bk bm br F b4 b0 n E j h6
  .exact worker_at6 x S hr P R ht hl hm ar ad ak X bd bk bm br bf F n E W
 .refine⟨⟨⟨_,jq⟩,⟨λi=>?_,rfl⟩,aU.of ?_ (λ_ hy=>by cases hy),rfl,rfl,rfl,?_,λ_=>rfl,λ_=>⟨⟨rfl,rfl,rfl⟩,.inl rfl⟩,(λe=>by cases e),λg q=>by cases q⟩,.inl rfl,trivial,⟨λh=>absurd rfl h,λ_=>⟨rfl,rfl,λ_=>rfl⟩⟩⟩
  .show _\/VR p ((pE undef (ptr bb) (ptr d) (ptr f) undef).getD i undef) ((pE (ptr Wg) (ptr bb) (ptr d) (ptr f) (ptr VV)).getD i undef)
   by_cases i0:i=0
   .exact .inl ⟨rfl,by rw[i0];rfl⟩
   by_cases i4:i=4
   .exact .inl ⟨rfl,by rw[i4];rfl⟩
   refine .inr ?_
   by_cases i1:i=1
   .rw[i1];exact hp _ h1
   by_cases i2:i=2
   .rw[i2];exact hp _ h2
   by_cases i3:i=3
   .rw[i3];exact hp _ h3
   have key:∀(a e:Value),(pE a (ptr bb) (ptr d) (ptr f) e).getD i undef=undef:=λa e=>by
        rw[<-tmpsW_eq,ZY]
        by_cases hi:i<26
        .rw[Array.getElem?_append_right (by simp;omega),Array.getElem?_replicate]
         split<;>rfl
        .rw[Array.getElem?_eq_none (by simp;omega)]
         rfl
   rw[key,key];exact VR.undef
  .show bA (ou f69 (ptr Wg) (ptr VV) (ko V)) (patch ae prog) 69 _=true
   exact plainLone _ _ _
  .simp only[sg_body]
end
end
