/- Part 3 of the proof. -/
import Derived.Test.YtfpaamhppamcoaaGreatDoorPo2
import Derived.Test.YtfpaamhppamcoaaGreatDoorRows
import Derived.WalkSpells
import Derived.WalkLawsBesides
import Derived.BigQuiet
import Derived.Deep.RegionHeld3
import Derived.Deep.DrawnRows
import Derived.Deep.OwnRows
import Derived.Laws.CopyOwn
import Derived.Deep.AppendLies
set_option linter.all false
set_option maxRecDepth 100000
set_option maxHeartbeats 60000000
namespace Go.Proofs.YtfpaamhppamcoaaGreatDoor
open Go.Proofs.Tryz
section
open Go
section
variable {P Q:Program}{K:Nat->Prop}{st:Prop}{p:Rel st}{C:iG}
structure bF (K M:Nat->Prop)(u az:World):Prop where
 tape:az.tape=u.tape
 os:az.os=u.os
 output:az.output=u.output
 size:u.heap.size<=az.heap.size
 keep:∀c,(M c\/K c)->c<u.heap.size->az.heap[c]? =u.heap[c]?
def bF.refl (K M)(u):bF K M u u:=⟨rfl,rfl,rfl,ZL _,λ_ _ _=>rfl⟩
def bF.trans {K M}{u v w}(h:bF K M u v)(k:bF K M v w):bF K M u w:=
 ⟨k.tape.trans h.tape,k.os.trans h.os,k.output.trans h.output,ZP h.size k.size,λc hc hl=>(k.keep c hc (ZO hl h.size)).trans (h.keep c hc hl)⟩
def bF.mono {K M N}{u v}(h:bF K N u v)(hm:∀c,M c->N c):bF K M u v:=⟨h.tape,h.os,h.output,h.size,λc hc=>h.keep c (hc.imp (hm c) id)⟩
def bF.ES {K K' M}{u v}(h:bF K' M u v)(a:∀c,K c->K' c):bF K M u v:=⟨h.tape,h.os,h.output,h.size,λc hc=>h.keep c (hc.imp id (a c))⟩
def Grow (M:Nat->Prop)(u u':World):Nat->Prop:=λc=>M c\/(u.heap.size<=c/\c<u'.heap.size)
def Ow (K M:Nat->Prop)(e:Event):Prop:=
 (∃c,(e.loc=.obj c\/∃a,e.loc=.cell a/\a.block=c)/\e.sync=false/\(M c\/(K c/\e.write=false)))\/∃m,Oo m/\e=⟨.mark m,false,true⟩
structure Does (K M:Nat->Prop)(u u':World)(es:Array Event):Prop where
 tape:u'.tape=u.tape
 os:u'.os=u.os
 output:u'.output=u.output
 size:u.heap.size<=u'.heap.size
 keep:∀c,c<u.heap.size->¬M c->u'.heap[c]? =u.heap[c]?
 evs:∀e∈es,Ow K (Grow M u u') e
def Does.ES {K K' M}{u u'}{es}(h:Does K M u u' es)(a:∀c,K c->K' c):Does K' M u u' es:=
 ⟨h.tape,h.os,h.output,h.size,h.keep,λe he=>(h.evs e he).imp (fun⟨c,f,d,b⟩=>⟨c,f,d,b.imp id λx=>⟨a c x.1,x.2⟩⟩) id⟩
def aC (P:Program)(main:Bool)(K:Nat->Prop)(S:Goroutine->World->(Nat->Prop)->Prop)(g:Goroutine)(u:World)(M:Nat->Prop):Prop:=
 ∀X:Goroutine->World->(Nat->Prop)->Prop,
  (∀g u M,((∀az,bF K M u az->S g az M)\/(g.status=.running/\∀az,bF K M u az->∃g' u' es,stepG P main g az=.go g' u' es/\Does K M az u' es/\X g' u' (Grow M az u')))->X g u M)->X g u M
section
variable {main:Bool}{S:Goroutine->World->(Nat->Prop)->Prop}{g:Goroutine}{u:World}{M:Nat->Prop}
def aC.stop (h:∀az,bF K M u az->S g az M):aC P main K S g u M:=λX a=>a _ _ _ (.inl h)
def aC.step (hs:g.status=.running)(h:∀az,bF K M u az->∃g' u' es,stepG P main g az=.go g' u' es/\Does K M az u' es/\aC P main K S g' u' (Grow M az u')):aC P main K S g u M:=λX e=>
 e _ _ _ (.inr ⟨hs,λaz d=>let ⟨g',u',es,a,b,c⟩:=h az d;⟨g',u',es,a,b,c X e⟩⟩)
def aC.cases (h:aC P main K S g u M):(∀az,bF K M u az->S g az M)\/(g.status=.running/\∀az,bF K M u az->∃g' u' es,stepG P main g az=.go g' u' es/\Does K M az u' es/\aC P main K S g' u' (Grow M az u')):=by
 refine h (λg u M=>(∀az,bF K M u az->S g az M)\/(g.status=.running/\∀az,bF K M u az->∃g' u' es,stepG P main g az=.go g' u' es/\Does K M az u' es/\aC P main K S g' u' (Grow M az u'))) ?_;intro g u M e;refine e.imp id fun⟨hs,e⟩=>⟨hs,λaz d=>?_⟩
 obtain⟨g',u',es,a,b,c⟩:=e az d;exact⟨g',u',es,a,b,c.elim aC.stop fun⟨x,y⟩=>aC.step x y⟩
def aC.rely {u'}(h:aC P main K S g u M)(b:bF K M u u'):aC P main K S g u' M:=by
 rcases h.cases with h|⟨hs,h⟩
 .exact aC.stop λaz a=>h az (b.trans a)
 .exact aC.step hs λaz a=>h az (b.trans a)
end
def WR.rely {G}{w u az}{M}(h:WR G K p w u)(r:∀b c,p b c->¬K c->M c)(o:bF K M u az):WR G K p w az:=by
 classical
 refine⟨h.fit,λb c d=>?_,h.qp,h.low,⟨h.BB.1,ZP h.BB.2 o.size⟩⟩;have m:=(h.lt d).2
 have n:az.heap[c]? =u.heap[c]?:=o.keep c (by
  by_cases q:K c
  .exact .inr q
  .exact .inl (r b c d q)) m
 obtain⟨xs,ys,e,f,g,k,j,i⟩|⟨a,a',l,k,j,i⟩|⟨a,a',l,k,j,i⟩:=h.rows b c d
 .exact .inl ⟨xs,ys,e,f,g,k,n.trans j,i⟩
 .exact .inr (.inl ⟨a,a',l,k,n.trans j,i⟩)
 .exact .inr (.inr ⟨a,a',l,k,n.trans j,i⟩)
def PO {q}{M}{w' u u'}{es}(i:∀b c,p b c->¬K c->M c)(hw:WR P.globals.size K q w' u')(d:dE K p q u u')(he:∀e∈es,vG K q e):
 Does K M u u' es/\∀b c,q b c->¬K c->Grow M u u' c:=by
 classical
 have h:∀b c,q b c->¬K c->Grow M u u' c:=λb c f a=>by
  by_cases hp:p b c
  .exact .inl (i b c hp a)
  .exact .inr ⟨d.fresh b c f hp,(hw.lt f).2⟩
 refine⟨⟨d.tape,d.os,d.output,d.size,λc hc hm=>d.keep c hc λb hb=>?_,λe hm=>?_⟩,h⟩
 .apply Classical.byContradiction
  intro a;exact hm (i b c hb a)
 .rcases he e hm with⟨c,b,g,l,k,j⟩|g
  .refine .inl ⟨c,g,k,?_⟩
   by_cases a:K c
   .refine .inr ⟨a,?_⟩
    cases hx:e.write with
    |false=>rfl
    |true=>exact absurd a (j hx)
   .exact .inl (h b c l a)
  .exact .inr g
def Tree.step {R}{a}{ZJ}{w}(h:Tree P R a ZJ w):Node P R (Tree P R) a ZJ w:=by
 refine h (λa ZJ w=>Node P R (Tree P R) a ZJ w) λa ZJ w b=>b.imp id fun⟨d,c⟩=>⟨d,λT=>?_⟩
 obtain⟨a',as',w',es,g,f,e⟩:=c T;exact⟨a',as',w',es,g,f,Tree.of e⟩
def Ab {K'}(s:∀c,K c->K' c)(hz:dM P)(hp:aH C P Q)(tw:Twin P Q)(α:AB C st K)(L:C.sp=[]){R}{main}{S}{cs}{p₀}{M₀:Nat->Prop}{Iv:World->(Nat->Prop)->Prop}(Y:∀u az M,Iv u M->bF K' M u az->Iv az M)(Z:∀u u' M es,Iv u M->Does K' M u u' es->Iv u' (Grow M u u'))
 (A:∀(p:Rel st) (a b:Frame) (w u:World) (M:Nat->Prop),Live C P p a [] b []->WR P.globals.size K p w u->(∀b c,p b c->¬K c->M c)->Ext p₀ p->(∀x,M₀ x->M x)->Iv u M->L6 P R a [] w->aC Q main K' S (df b cs) u M)
 (U:∀(p:Rel st) (a b:Frame) (ZJ bs:List Frame) (w u:World) (M:Nat->Prop),a.mode=.run->oH C a->Tree P R a ZJ w->
  (∀T,∃a' as' w' es,stepG P true (df a (ZJ++[stop P])) (ay w T)=.go (df a' (as'++[stop P])) w' es/\(a'.mode=.run\/a'.mode=.returning)/\Tree P R a' as' w'/\
        ∀(p:Rel st) (b:Frame) (bs:List Frame) (u:World) (M:Nat->Prop),Live C P p a' as' b bs->WR P.globals.size K p w' u->(∀b c,p b c->¬K c->M c)->Ext p₀ p->(∀x,M₀ x->M x)->Iv u M->aC Q main K' S (df b (bs++cs)) u M)->Live C P p a ZJ b bs->WR P.globals.size K p w u->(∀b c,p b c->¬K c->M c)->Ext p₀ p->(∀x,M₀ x->M x)->Iv u M->aC Q main K' S (df b (bs++cs)) u M)
 {a}{ZJ}{w}(ht:Tree P R a ZJ w):
 ∀(p:Rel st) (b:Frame) (bs:List Frame) (u:World) (M:Nat->Prop),Live C P p a ZJ b bs->WR P.globals.size K p w u->(∀b c,p b c->¬K c->M c)->Ext p₀ p->(∀x,M₀ x->M x)->Iv u M->
  aC Q main K' S (df b (bs++cs)) u M:=by
 classical
 refine ht (λa ZJ w=>Tree P R a ZJ w/\∀(p:Rel st) (b:Frame) (bs:List Frame) (u:World) (M:Nat->Prop),Live C P p a ZJ b bs->WR P.globals.size K p w u->(∀b c,p b c->¬K c->M c)->Ext p₀ p->(∀x,M₀ x->M x)->Iv u M->
  aC Q main K' S (df b (bs++cs)) u M) ?_|>.2
 intro a ZJ w n;have g:Tree P R a ZJ w:=Tree.of (n.imp id fun⟨l,B⟩=>⟨l,λT=>let ⟨a',as',w',es,E,D,e3⟩:=B T;⟨a',as',w',es,E,D,e3.1⟩⟩);refine⟨g,λp b bs u M hl hw F hE r hI=>?_⟩
 by_cases d:a.mode=.run/\oH C a
 .rcases n with⟨l,_⟩|⟨_,O⟩
  .rw[d.1]at l;cases l
  exact U p a b ZJ bs w u M d.1 d.2 g O hl hw F hE r hI
 rcases n with z|⟨N,O⟩
 .obtain rfl:=z.2.1
  cases bs with
  |cons x xs=>exact hl.cs.elim
  |nil=>exact A p a b w u M hl hw F hE r hI z
 refine aC.step rfl λaz k=>?_
 have I:=hw.rely F (k.ES s);have hr:a.mode=.returning->ZJ≠[]:=λl B=>N ⟨l,B⟩
 let G:Nat->Question->Nat:=λj q=>az.tape (az.drawn+(j-w.drawn)) q
 have J:TR (ay w G) az:=λi q=>by
  show az.tape (az.drawn+(w.drawn+i-w.drawn)) q=_
  rw[ada]
 have H:WR P.globals.size K p (ay w G) az:=I.kv G az.tape;obtain⟨a',as',w',es,E,e,hX⟩:=O G;rcases pY (m:=true) (m':=main) (cs:=[stop P]) (ds:=cs) hz hp tw α hl (λl B=>d ⟨l,B⟩) hr H J with hA|⟨q',a2,δ,b',γ,w2,u',ζ,new,D,e3,V,v,ε,hg,he⟩|⟨_,f,_,_,_,_,_,_,_,_,_,_,_,y,_⟩
 .rcases hA with⟨o,w3,β,t⟩|⟨fr,η,w3,β,t,ch,_,W,_⟩
  .rw[E]at t;cases t
  .rw[E]at t
   simp only[GStep.go.injEq,Goroutine.mk.injEq]at t;rw[t.1.1,W]at e;rcases e with h|h<;>cases h
 .rw[E]at D
  simp only[GStep.go.injEq,Goroutine.mk.injEq]at D;obtain⟨⟨rfl,e5,_⟩,rfl,rfl⟩:=D;obtain rfl:as'=δ:=adw e5;obtain⟨hd,X⟩:=PO F v hg he;exact⟨_,u',new,e3,hd.ES s,hX.2 q' b' γ u' _ V v X (hE.trans hg.ext) (λx hx=>.inl (r x hx)) (Z _ _ _ _ (Y _ _ _ hI k) (hd.ES s))⟩
 .rw[L]at y;cases y
end
section
variable (T:Tables)(f g:Array Func)
def bz (t):(Program.mk T g).underlying t=(Program.mk T f).underlying t:=rfl
def lU:(Program.mk T g).depth=(Program.mk T f).depth:=rfl
def jf:∀(d:Nat) (t:TypeId) (o:Nat),byteOfCell (Program.mk T g) d t o=byteOfCell (Program.mk T f) d t o
 |0,_,_=>rfl
 |d+1,t,o=>by
  unfold byteOfCell;rw[bz T f g];simp only[jf d];rfl
def mP:∀(d:Nat) (t:TypeId) (o:Nat),cellOfByte (Program.mk T g) d t o=cellOfByte (Program.mk T f) d t o
 |0,_,_=>rfl
 |d+1,t,o=>by
  unfold cellOfByte;rw[bz T f g];simp only[mP d];rfl
def sD (d):cellAtBytes (Program.mk T g) d=cellAtBytes (Program.mk T f) d:=by
 funext e c o b
 unfold cellAtBytes;simp only[jf T f g,mP T f g];rfl
def iL:∀(d:Nat) (t:TypeId),(Program.mk T g).eqGuardType d t=(Program.mk T f).eqGuardType d t
 |0,_=>rfl
 |d+1,t=>by
  unfold Program.eqGuardType;rw[bz T f g];simp only[iL d]
def qd:∀(d:Nat) (t u:TypeId),(Program.mk T g).alikeButTags d t u=(Program.mk T f).alikeButTags d t u
 |0,_,_=>rfl
 |d+1,t,u=>by
  unfold Program.alikeButTags;simp only[qd d]
def xu (t):(Program.mk T g).stoodInAs t=(Program.mk T f).stoodInAs t:=by
 unfold Program.stoodInAs;rw[bz T f g,lU T f g];simp only[qd T f g];rfl
def eP (t):(Program.mk T g).stoodInHeld t=(Program.mk T f).stoodInHeld t:=by
 unfold Program.stoodInHeld;rw[xu T f g]
def nC:∀(d:Nat) (t:TypeId) (o:Nat),plainCell (Program.mk T g) d t o=plainCell (Program.mk T f) d t o
 |0,_,_=>rfl
 |d+1,t,o=>by
  unfold plainCell;rw[bz T f g];simp only[nC d];rfl
def xq:∀(d:Nat) (t:TypeId),tight (Program.mk T g) d t=tight (Program.mk T f) d t
 |0,_=>rfl
 |d+1,t=>by
  unfold tight;rw[bz T f g];simp only[xq d];rfl
def lq:∀(d:Nat) (t:TypeId) (b:Nat),cellHolding (Program.mk T g) d t b=cellHolding (Program.mk T f) d t b
 |0,_,_=>rfl
 |d+1,t,b=>by
  unfold cellHolding;rw[bz T f g];simp only[lq d];rfl
def nA (c)(e):∀(n x s:Nat),seenCells (Program.mk T g) c e n x s=seenCells (Program.mk T f) c e n x s
 |0,_,_=>rfl
 |n+1,x,s=>by
  unfold seenCells;rw[lU T f g];simp only[nA c e n,lq T f g];rfl
def kz:∀(d:Nat) (t:TypeId),(Program.mk T g).holdsStoodIn d t=(Program.mk T f).holdsStoodIn d t
 |0,_=>rfl
 |d+1,t=>by
  unfold Program.holdsStoodIn;rw[bz T f g];simp only[kz d,eP T f g]
def mO:∀(d:Nat) (t u:TypeId),sameLayout (Program.mk T g) d t u=sameLayout (Program.mk T f) d t u
 |0,_,_=>rfl
 |d+1,t,u=>by
  unfold sameLayout;rw[bz T f g,bz T f g];simp only[mO d,eP T f g];rfl
def xw (h):∀(d:Nat) (e:TypeId) (c o n:Nat),rowAt (Program.mk T g) h d e c o n=rowAt (Program.mk T f) h d e c o n
 |0,_,_,_,_=>rfl
 |d+1,e,c,o,n=>by
  unfold rowAt;rw[bz T f g];simp only[xw h d,eP T f g];rfl
def uy:∀(d:Nat) (e:TypeId) (c o:Nat) (u:TypeId) (n:Nat),liesAt (Program.mk T g) d e c o u n=liesAt (Program.mk T f) d e c o u n
 |0,_,_,_,_,_=>rfl
 |d+1,e,c,o,u,n=>by
  unfold liesAt;rw[bz T f g,lU T f g];simp only[uy d,mO T f g,xw T f g]
def jD (hf:j4 (Program.mk T f))(hc:iT.contains T.rt.panicNilError=false):Twin (Program.mk T f) (Program.mk T g) where
 plainCell:=by funext t o;exact nC T f g _ t o
 seenCells:=by funext c e n x s;exact nA T f g c e n x s
 tight:=by funext t;exact xq T f g _ t
 liesAt:=by funext e c o u n;exact uy T f g _ e c o u n
 holdsStoodIn:=by funext t;exact kz T f g _ t
 EL:=hf
 calm:=hc
 underlying _:=rfl
 info _:=rfl
 globals:=rfl
 cellsOf:=rfl
 bytesOf:=rfl
 byteOfCell:=by funext t o;exact jf T f g _ t o
 cellAtBytes:=sD T f g _
 stoodInHeld:=by funext t;exact eP T f g t
 eqGuardType:=by funext t;exact iL T f g _ t
 mixed:=rfl
end
def bg (dst:Option Nat)(op:Op):Oper:={dst:=dst,op:=op,type:=0,pos:= "",after:= #[],guard:=none}
def bX (g:Nat)(args:Array Operand):Op:=.call {callee:=.value (.func g),args:=args,argTypes:= #[]}
def shut (f:Func):Func:={f with body:=some (.exit 0)}
def flag (n:Int):Op:=.move (.const (.int .i64 (160160160160000+n)))
def hands (l:List Oper):List Oper:=
 match l with
 |[a,b,c,d,e,f,g,h]=>[{a with op:=flag 0},b,c,d,e,f,{g with op:=flag 6},{h with op:=flag 7}]
 |l=>l
def GI (c:Code):Code:=
 match c with
 |.seq _ (.seq b (.seq a (.region n ops d)))=>.seq b (.seq a (.region n (hands ops.toList).toArray d))
 |c=>c
def fD (f:Func):Func:={f with body:=f.body.map GI,results:= #[.tmp 24,.tmp 20,.tmp 25]}
def LC (n t:Nat):Code:=.region n #[bg (some t) (.move (.const (.bool true))),bg (some t) (.move (.const (.bool false)))] true
def Ba (al:Nat)(c:Code):Code:=
 match c with
 |.seq r0 (.seq i (.seq h (.seq (.seq g (.block i0 (.loop (.seq f (.seq k (.seq (.block j (.seq e (.seq (.seq d c2) (.seq _ _)))) b)))))) (.seq _ (.seq a .ret)))))=>
  .seq (LC 90 22) (.seq (.cond (.tmp 22) (.region 91 #[bg none (bX al #[.tmp 0])] false) .skip)
   (.seq (LC 92 23) (.seq (.cond (.tmp 23) (.region 93 #[bg none (bX (al+1) #[.tmp 1])] false) .skip)
    (.seq r0 (.seq i (.seq h (.seq (.seq g (.block i0 (.loop (.seq f (.seq k (.seq (.block j (.seq e (.seq (.seq d c2)
        (.region 94 #[bg (some 24) (bX 69 #[.tmp 6,.tmp 2,.tmp 7,.tmp 8,.tmp 5]),bg (some 25) (.extract (.tmp 24) 0),bg (some 26) (.extract (.tmp 24) 1),bg (some 27) (.indexAddr 87 (.tmp 9) (.tmp 26)),bg none (.store 91 (.tmp 27) (.tmp 25))] false)))) b))))))
        (.seq a .ret))))))))
 |c=>c
def eD (al:Nat)(f:Func):Func:={f with body:=f.body.map (Ba al),ntmps:=28}
def iH (t:TypeId)(name:String):Func:=
 {name:=name,origin:= "",params:= #[t],resultTypes:= #[],nfree:=0,ntmps:=2,results:= #[],norace:=false,
  body:=some (.region 0 #[bg (some 1) (.makeInterface t (.tmp 0)),bg none (.panic (.tmp 1))] false),tmpNames:= #[]}
def gK (t:TypeId)(name:String):Func:=
 {name:=name,origin:= "",params:= #[t],resultTypes:= #[],nfree:=0,ntmps:=3,results:= #[],norace:=false,
  body:=some (.region 0 #[bg (some 1) (.box t (.tmp 0)),bg (some 2) (.makeInterface t (.tmp 1)),bg none (.panic (.tmp 2))] false),tmpNames:= #[]}
def AQ (al:Nat)(f:Func):Func:=
 {f with body:=some (.seq (LC 90 1) (.seq (.cond (.tmp 1) (.region 91 #[bg none (bX al #[.tmp 0])] false) .skip) (.seq (.region 92 #[bg (some 2) (.move (.const .nilFunc))] false) .ret))),ntmps:=3,results:= #[.tmp 2]}
def swap (ae:List Nat)(al n:Nat)(f:Func):Func:=if n=42 then eD al f else if n=69 then fD f else if n=88 then AQ (al+2) f else if ae.contains n then shut f else f
def patch (ae:List Nat)(P:Program):Program:=
 {P with funcs:=(((P.funcs.mapIdx (swap ae P.funcs.size)).push (iH 31 "alarm")).push (gK 37 "alarm2")).push (iH 47 "alarm3")}
section
variable (L:List Nat)(P:Program)
def Cw:(patch L P).toTables=P.toTables:=rfl
def iO {n}{f}(h:P.funcs[n]? =some f):(patch L P).funcs[n]? =some (swap L P.funcs.size n f):=by
 have a:n<P.funcs.size:=(ZK.1 h).1;show((((P.funcs.mapIdx (swap L P.funcs.size)).push _).push _).push _)[n]? =_
 rw[ac3,if_neg (by simp;omega),ac3,if_neg (by simp;omega),ac3,if_neg (by simp;omega),Array.getElem?_mapIdx,h];rfl
def EA:(patch L P).funcs[P.funcs.size]? =some (iH 31 "alarm"):=by
 show((((P.funcs.mapIdx (swap L P.funcs.size)).push _).push _).push _)[P.funcs.size]? =_
 rw[ac3,if_neg (by simp only[adC,Array.size_mapIdx];omega),ac3,if_neg (by simp only[adC,Array.size_mapIdx];omega),ac3,if_pos (by simp)]
def Cy:(patch L P).funcs[P.funcs.size+1]? =some (gK 37 "alarm2"):=by
 show((((P.funcs.mapIdx (swap L P.funcs.size)).push _).push _).push _)[P.funcs.size+1]? =_
 rw[ac3,if_neg (by simp only[adC,Array.size_mapIdx];omega),ac3,if_pos (by simp)]
def Cx:(patch L P).funcs[P.funcs.size+2]? =some (iH 47 "alarm3"):=by
 show((((P.funcs.mapIdx (swap L P.funcs.size)).push _).push _).push _)[P.funcs.size+2]? =_
 rw[ac3,if_pos (by simp)]
def xJ (hf:j4 P)(hc:iT.contains P.rt.panicNilError=false):Twin (patch L P) P:=jD P.toTables _ P.funcs hf hc
def uz (hf:j4 P)(hc:iT.contains P.rt.panicNilError=false):Twin (patch L P) (patch L P):=jD P.toTables _ _ hf hc
def pf {L}{P}{n}{f}(h:P.funcs[n]? =some f)(hs:(n==42||n==69||n==88||L.contains n)=false):(patch L P).funcs[n]? =some f:=by
 rw[iO L P h];unfold swap;simp only[Bool.or_eq_false_iff,acZ]at hs;rw[if_neg hs.1.1.1,if_neg hs.1.1.2,if_neg hs.1.2,hs.2];rfl
def Kw (L)(al n)(f):(swap L al n f).name=f.name:=by
 unfold swap;split
 .rfl
 .split
  .rfl
  .split
   .rfl
   .split<;>rfl
def Ky {L}{al n}{f}(h:f.body.isNone=false):(swap L al n f).body.isNone=false:=by
 unfold swap;split
 .simpa[eD] using h
 .split
  .simpa[fD] using h
  .split
   .rfl
   .split
    .rfl
    .exact h
def Ey {L}{P}{n}{f}(h:P.funcs[n]? =some f)(a:(f.name== "runtime.NumGoroutine")=false)(hb:f.body.isNone=false)(args)(w):
 Sem.run (patch L P) (callFunc n args) w=.ok (.enter n args) w:=by
 have c:=Kw L P.funcs.size n f;have b:=Ky (L:=L) (al:=P.funcs.size) (n:=n) hb;simp only[callFunc,Sem.run_bind,run_program,Result.andThen_ok,iO L P h,c,a,b,Z0,if_false];simp
@[go_sem] def ax (t):(patch L P).underlying t=P.underlying t:=rfl
@[go_sem] def Hy (t):(patch L P).info? t=P.info? t:=rfl
@[go_sem] def patch_types:(patch L P).types=P.types:=rfl
@[go_sem ↓] def Pg (t:Nat):(patch L P).types[t]? =P.types[t]?:=rfl
@[go_sem] def zZ:(patch L P).globals=P.globals:=rfl
@[go_sem] def Ez:(patch L P).depth=P.depth:=rfl
@[go_sem] def JF (d t):(patch L P).eqGuardType d t=P.eqGuardType d t:=iL P.toTables P.funcs _ d t
@[go_sem] def JE (t):(patch L P).stoodInHeld t=P.stoodInHeld t:=eP P.toTables P.funcs _ t
@[go_sem] def o6 (t)(w):Sem.run (patch L P) (underlying t) w=Sem.run P (underlying t) w:=by
 simp only[underlying,Sem.run_bind,run_program,Result.andThen_ok,ax];cases P.underlying t<;>simp[stuck]
@[go_sem] def nG (t)(w):Sem.run (patch L P) (typeInfo t) w=Sem.run P (typeInfo t) w:=by
 simp only[typeInfo,Sem.run_bind,run_program,Result.andThen_ok,Hy];cases P.info? t<;>simp[stuck]
@[go_sem] def aM (t)(w):Sem.run (patch L P) (Go.sizeOf t) w=Sem.run P (Go.sizeOf t) w:=by
 simp only[Go.sizeOf,Sem.run_bind,nG];cases Sem.run P (typeInfo t) w<;>simp
@[go_sem] def aI (t)(w):Sem.run (patch L P) (zeroValue t) w=Sem.run P (zeroValue t) w:=by
 simp only[zeroValue,Sem.run_bind,nG];cases Sem.run P (typeInfo t) w with
 |halt h w=>simp
 |ok i w=>simp only[Result.andThen];cases i.zero<;>simp[unsupported]
@[go_sem] def aP (t)(w):Sem.run (patch L P) (isAgg t) w=Sem.run P (isAgg t) w:=by
 simp only[isAgg,Sem.run_bind,o6];cases Sem.run P (underlying t) w with
 |halt h w=>simp
 |ok i w=>simp only[Result.andThen];cases i<;>simp
end
def ae:List Nat:=[62,63]
abbrev PC (n:Nat):Prop:=∀(args:Array Value) (w:World),Sem.run (patch ae prog) (callFunc n args) w=.ok (.enter n args) w
def aZ {n}{f}(h:prog.funcs[n]? =some f)(k:(!(f.name== "runtime.NumGoroutine")&& !f.body.isNone)=true):PC n:=λargs w=>by
 simp only[ZQ,Bool.not_eq_true']at k;exact Ey h k.1 k.2 args w
@[go_sem] def Wq:PC 8:=aZ func8 (by kernel_rfl)
@[go_sem] def Wp:PC 9:=aZ func9 (by kernel_rfl)
@[go_sem] def VX:PC 10:=aZ func10 (by kernel_rfl)
@[go_sem] def VW:PC 11:=aZ func11 (by kernel_rfl)
@[go_sem] def VU:PC 12:=aZ func12 (by kernel_rfl)
@[go_sem] def VS:PC 14:=aZ func14 (by kernel_rfl)
@[go_sem] def VQ:PC 15:=aZ func15 (by kernel_rfl)
@[go_sem] def VP:PC 16:=aZ func16 (by kernel_rfl)
@[go_sem] def acP:PC 17:=aZ func17 (by kernel_rfl)
@[go_sem] def acO:PC 18:=aZ func18 (by kernel_rfl)
@[go_sem] def VO:PC 21:=aZ func21 (by kernel_rfl)
@[go_sem] def VN:PC 24:=aZ func24 (by kernel_rfl)
@[go_sem] def acJ:PC 25:=aZ func25 (by kernel_rfl)
@[go_sem] def acH:PC 27:=aZ func27 (by kernel_rfl)
@[go_sem] def agm:PC 28:=aZ func28 (by kernel_rfl)
@[go_sem] def agl:PC 29:=aZ func29 (by kernel_rfl)
@[go_sem] def VM:PC 33:=aZ func33 (by kernel_rfl)
@[go_sem] def VL:PC 35:=aZ func35 (by kernel_rfl)
@[go_sem] def VK:PC 36:=aZ func36 (by kernel_rfl)
@[go_sem] def VJ:PC 39:=aZ func39 (by kernel_rfl)
@[go_sem] def VI:PC 40:=aZ func40 (by kernel_rfl)
@[go_sem] def VH:PC 41:=aZ func41 (by kernel_rfl)
@[go_sem] def VG:PC 42:=aZ func42 (by kernel_rfl)
@[go_sem] def VF:PC 43:=aZ func43 (by kernel_rfl)
@[go_sem] def VE:PC 44:=aZ func44 (by kernel_rfl)
@[go_sem] def VD:PC 45:=aZ func45 (by kernel_rfl)
@[go_sem] def VC:PC 46:=aZ func46 (by kernel_rfl)
@[go_sem] def VB:PC 47:=aZ func47 (by kernel_rfl)
@[go_sem] def VA:PC 48:=aZ func48 (by kernel_rfl)
@[go_sem] def Vz:PC 51:=aZ func51 (by kernel_rfl)
@[go_sem] def Vy:PC 52:=aZ func52 (by kernel_rfl)
@[go_sem] def Vx:PC 53:=aZ func53 (by kernel_rfl)
@[go_sem] def Vw:PC 54:=aZ func54 (by kernel_rfl)
@[go_sem] def Vv:PC 55:=aZ func55 (by kernel_rfl)
@[go_sem] def Vu:PC 56:=aZ func56 (by kernel_rfl)
@[go_sem] def Vt:PC 57:=aZ func57 (by kernel_rfl)
@[go_sem] def Vs:PC 58:=aZ func58 (by kernel_rfl)
@[go_sem] def Vr:PC 60:=aZ func60 (by kernel_rfl)
@[go_sem] def Vq:PC 61:=aZ func61 (by kernel_rfl)
@[go_sem] def Vp:PC 64:=aZ func64 (by kernel_rfl)
@[go_sem] def Vo:PC 65:=aZ func65 (by kernel_rfl)
@[go_sem] def Vn:PC 66:=aZ func66 (by kernel_rfl)
@[go_sem] def Vm:PC 67:=aZ func67 (by kernel_rfl)
@[go_sem] def Vk:PC 69:=aZ func69 (by kernel_rfl)
@[go_sem] def Vj:PC 71:=aZ func71 (by kernel_rfl)
@[go_sem] def Vi:PC 72:=aZ func72 (by kernel_rfl)
@[go_sem] def Vh:PC 73:=aZ func73 (by kernel_rfl)
@[go_sem] def Vg:PC 75:=aZ func75 (by kernel_rfl)
@[go_sem] def Vf:PC 76:=aZ func76 (by kernel_rfl)
@[go_sem] def Ve:PC 77:=aZ func77 (by kernel_rfl)
@[go_sem] def Vd:PC 78:=aZ func78 (by kernel_rfl)
@[go_sem] def Vb:PC 79:=aZ func79 (by kernel_rfl)
@[go_sem] def Va:PC 80:=aZ func80 (by kernel_rfl)
@[go_sem] def U':PC 81:=aZ func81 (by kernel_rfl)
@[go_sem] def U9:PC 82:=aZ func82 (by kernel_rfl)
@[go_sem] def U8:PC 83:=aZ func83 (by kernel_rfl)
@[go_sem] def U7:PC 84:=aZ func84 (by kernel_rfl)
@[go_sem] def U6:PC 85:=aZ func85 (by kernel_rfl)
@[go_sem] def U5:PC 86:=aZ func86 (by kernel_rfl)
@[go_sem] def U4:PC 87:=aZ func87 (by kernel_rfl)
@[go_sem] def U3:PC 88:=aZ func88 (by kernel_rfl)
@[go_sem] def U2:PC 89:=aZ func89 (by kernel_rfl)
@[go_sem] def U1:PC 90:=aZ func90 (by kernel_rfl)
@[go_sem] def U0:PC 91:=aZ func91 (by kernel_rfl)
@[go_sem] def UZ:PC 93:=aZ func93 (by kernel_rfl)
@[go_sem] def UY:PC 94:=aZ func94 (by kernel_rfl)
@[go_sem] def UX:PC 95:=aZ func95 (by kernel_rfl)
@[go_sem] def Ue:PC 102:=aZ func102 (by kernel_rfl)
@[go_sem] def Ud:PC 116:=aZ func116 (by kernel_rfl)
@[go_sem] def Uc:PC 117:=aZ func117 (by kernel_rfl)
@[go_sem] def Ub:PC 118:=aZ func118 (by kernel_rfl)
@[go_sem] def Ua:PC 119:=aZ func119 (by kernel_rfl)
@[go_sem] def T9:PC 120:=aZ func120 (by kernel_rfl)
@[go_sem] def T7:PC 126:=aZ func126 (by kernel_rfl)
@[go_sem] def T6:PC 127:=aZ func127 (by kernel_rfl)
@[go_sem] def T4:PC 128:=aZ func128 (by kernel_rfl)
@[go_sem] def T3:PC 129:=aZ func129 (by kernel_rfl)
@[go_sem] def TZ:PC 130:=aZ func130 (by kernel_rfl)
@[go_sem] def TY:PC 132:=aZ func132 (by kernel_rfl)
@[go_sem] def TX:PC 133:=aZ func133 (by kernel_rfl)
@[go_sem] def TW:PC 134:=aZ func134 (by kernel_rfl)
@[go_sem] def TV:PC 135:=aZ func135 (by kernel_rfl)
@[go_sem] def TU:PC 136:=aZ func136 (by kernel_rfl)
@[go_sem] def TT:PC 137:=aZ func137 (by kernel_rfl)
@[go_sem] def TS:PC 138:=aZ func138 (by kernel_rfl)
@[go_sem] def TQ:PC 139:=aZ func139 (by kernel_rfl)
@[go_sem] def TP:PC 140:=aZ func140 (by kernel_rfl)
@[go_sem] def TN:PC 146:=aZ func146 (by kernel_rfl)
@[go_sem] def TM:PC 149:=aZ func149 (by kernel_rfl)
@[go_sem] def TL:PC 150:=aZ func150 (by kernel_rfl)
@[go_sem] def TJ:PC 157:=aZ func157 (by kernel_rfl)
@[go_sem] def TH:PC 163:=aZ func163 (by kernel_rfl)
@[go_sem] def TG:PC 164:=aZ func164 (by kernel_rfl)
@[go_sem] def TF:PC 166:=aZ func166 (by kernel_rfl)
@[go_sem] def TE:PC 168:=aZ func168 (by kernel_rfl)
@[go_sem] def TD:PC 169:=aZ func169 (by kernel_rfl)
@[go_sem] def TC:PC 170:=aZ func170 (by kernel_rfl)
@[go_sem] def TB:PC 171:=aZ func171 (by kernel_rfl)
@[go_sem] def TA:PC 172:=aZ func172 (by kernel_rfl)
@[go_sem] def Tz:PC 181:=aZ func181 (by kernel_rfl)
@[go_sem] def Ty:PC 192:=aZ func192 (by kernel_rfl)
@[go_sem] def Tx:PC 193:=aZ func193 (by kernel_rfl)
@[go_sem] def Tw:PC 194:=aZ func194 (by kernel_rfl)
@[go_sem] def Tv:PC 195:=aZ func195 (by kernel_rfl)
@[go_sem] def Tu:PC 196:=aZ func196 (by kernel_rfl)
@[go_sem] def Tt:PC 215:=aZ func215 (by kernel_rfl)
@[go_sem] def Tq:PC 216:=aZ func216 (by kernel_rfl)
end
section
open Go.RowKit
abbrev adN (a b:World):Prop:=Below a.heap.size a b
abbrev adO (f:Nat)(a:Array Value)(w:World)(Q:Ending->World->Prop):Prop:=Calls (patch ae Tryz.prog) f a w Q
abbrev aaa:=@And.intro
abbrev aab:=@Below.refl
abbrev aac:=@Below.heap_alloc
abbrev aad:=@Below.heap_setCell
abbrev aae:=@heap_alloc_new
abbrev aaf:=@ownsRow_setCell_below
abbrev aag:=@World.ownsRow_nil
abbrev aah:=@List.take_of_length_le
abbrev aai:=@List.length_filter_le
abbrev aaj:=@List.filter_append
abbrev aak:=@List.mem_of_getElem?
abbrev aal:=@rounds_succ
abbrev aam:=@heap_alloc2_new
abbrev aan:=@block_lt_of_cell
abbrev aao:=@World.size_alloc
abbrev aap:=@heap_alloc2_old
abbrev adJ:=@wpList_append_own
abbrev adK:=@World.cell?_of_block
abbrev adL:=@World.cell?_setCell_other
abbrev adM:=@cell_one_new
end
namespace Z
open Go.RowKit
structure After (W:World) where
 val:World
 later:adN W val
def After.cell {W}(x:After W){b o}(h:b<W.heap.size):x.val.cell? ⟨b,o,none⟩=W.cell? ⟨b,o,none⟩:=x.later.cell (p:=⟨b,o,none⟩) h
def After.frozen {W}(x:After W){b o}(h:b<W.heap.size):x.val.frozen? ⟨b,o,none⟩=W.frozen? ⟨b,o,none⟩:=x.later.frozen (p:=⟨b,o,none⟩) h
theorem _root_.Go.RowKit.Below.drewN {B:Nat}{a w:World}(h:Below B a w)(n:Nat):Below B a (w.drewN n):=⟨h.os,h.tape,h.output,h.size,h.block⟩
def After.const {W}{p}:(After W->p)↔p:=⟨λh=>h ⟨W,aab _ _⟩,λh _=>h⟩
def rR {W w1}(hb:adN W w1):(∀b o,b<W.heap.size->w1.cell? ⟨b,o,none⟩=W.cell? ⟨b,o,none⟩)/\(∀b o,b<W.heap.size->w1.frozen? ⟨b,o,none⟩=W.frozen? ⟨b,o,none⟩):=
 ⟨λb o h=>hb.cell (p:=⟨b,o,none⟩) h,λb o h=>hb.frozen (p:=⟨b,o,none⟩) h⟩
def ai {a b c}(h:adN a b)(k:adN b c):adN a c:=h.trans (k.mono h.size)
def dx {P}{id}{Q}{a}{w}{l}(hm:P.follows .mixedOrders=true)(b:Region.lexB .any l.toArray=true)
 (h:wpQuiet P l.toArray (λw'=>∃x:After w,w'=x.val) (λa'=>∀w',(∃x:After w,w'=x.val)->Q .normal a' w') l a):(Code.region id l.toArray true).wp P Q a w:=
 wp_region_quiet (C:=λw'=>∃x:After w,w'=x.val) hm b ⟨⟨w.drew,(aab _ _).drew⟩,rfl⟩ (by simpa using h)
def Calls.after {P}{f}{args}{W}{x:After W}{v}
 (h:Calls P f args x.val λe w'=>e=.returned v/\Below x.val.heap.size x.val w'):Calls P f args x.val λe a=>e=.returned v/\∃y:After W,a=y.val:=
 h.mono λ_ w' ⟨he,hm⟩=>⟨he,⟨w',ai x.later hm⟩,rfl⟩
def lg (P:Prop)(e:Ending):Prop:=∃r:Bool,e=.returned (.bool r)/\(r=true↔P)
def lg.yes {P}(h:P):lg P (.returned (.bool true)):=⟨true,rfl,by simp[h]⟩
def lg.no {P}(h:¬P):lg P (.returned (.bool false)):=⟨false,rfl,by simp[h]⟩
def lg.fP {P}{e}(h:lg P e)(hp:P):e=.returned (.bool true):=by
 obtain⟨r,rfl,a⟩:=h;rw[a.2 hp]
def lg.gJ {P}{e}(h:lg P e)(hp:¬P):e=.returned (.bool false):=by
 obtain⟨r,rfl,a⟩:=h;cases r
 .rfl
 .exact absurd (a.1 rfl) hp
def Calls.iU {P}{f}{args}{W}{x:After W}{A}(hA:A)
 (h:Calls P f args x.val λe w'=>lg A e/\Below x.val.heap.size x.val w'):Calls P f args x.val λe a=>e=.returned (.bool true)/\∃y:After W,a=y.val:=
 Calls.after (h.mono λ_ _ ⟨he,hm⟩=>⟨he.fP hA,hm⟩)
def Calls.oC {P}{f}{args}{W}{x:After W}{A}(hA:¬A)
 (h:Calls P f args x.val λe w'=>lg A e/\Below x.val.heap.size x.val w'):Calls P f args x.val λe a=>e=.returned (.bool false)/\∃y:After W,a=y.val:=
 Calls.after (h.mono λ_ _ ⟨he,hm⟩=>⟨he.gJ hA,hm⟩)
def pop (m:Nat):Nat:=m%2+m/2%2+m/4%2+m/8%2
def vv (m:Nat)(h:m<16)(w):adO 215 #[.int .u64 m] w λe w'=>e=.returned (.int .i64 (pop m))/\w'=w:=by
 obtain rfl|rfl|rfl|rfl|rfl|rfl|rfl|rfl|rfl|rfl|rfl|rfl|rfl|rfl|rfl|rfl:m=0\/m=1\/m=2\/m=3\/m=4\/m=5\/m=6\/m=7\/m=8\/m=9\/m=10\/m=11\/m=12\/m=13\/m=14\/m=15:=by omega
 all_goals(
  go_enter (pf func215 (by rfl)),ntmps215
  go_wp2_with fail;go_ret;exact⟨by kernel_rfl,rfl⟩)
def iI (m:Nat)(h:m<16)(w):adO 163 #[.int .u64 m] w λe w'=>e=.returned (.int .i64 (pop m))/\w'=w:=by
 go_enter (pf func163 (by rfl)),ntmps163
 go_wp2_with(first
  |(go_at_call 192;go_enter (pf func192 (by rfl)),ntmps192)
  |(go_at_call 215;refine(vv m h _).mono ?_;rintro e w1 ⟨he,hw⟩;obtain rfl:=he;obtain rfl:=hw.symm))
 go_ret;exact⟨rfl,rfl⟩
def has (m k:Nat):Bool:=m/2^k%2==1
def vL (m k:Nat)(h:m<16)(a:k<4)(w):adO 164 #[.int .u64 m,.int .i64 k] w λe w'=>e=.returned (.bool (has m k))/\w'=w:=by
 obtain rfl|rfl|rfl|rfl:k=0\/k=1\/k=2\/k=3:=by omega
 all_goals(
  obtain rfl|rfl|rfl|rfl|rfl|rfl|rfl|rfl|rfl|rfl|rfl|rfl|rfl|rfl|rfl|rfl:m=0\/m=1\/m=2\/m=3\/m=4\/m=5\/m=6\/m=7\/m=8\/m=9\/m=10\/m=11\/m=12\/m=13\/m=14\/m=15:=by omega
  all_goals(
   go_enter (pf func164 (by rfl)),ntmps164
   go_wp2_with fail;go_ret;exact⟨by kernel_rfl,rfl⟩))
def fM (c:Nat->Int)(m:Nat):Nat->Int
 |0=>0
 |k+1=>fM c m k+if has m k then c k else 0
def Jy {c}(m){b}(hb:0<=b)(h:∀k,k<4->0<=c k/\c k<=b):∀j,j<=4->0<=fM c m j/\fM c m j<=j*b
 |0,_=>⟨Int.le_refl _,by simp[fM]⟩
 |j+1,a=>by
  have f:=Jy m hb h j (by omega);have d:=h j (by omega);unfold fM;have e:((j+1:Nat):Int)*b=j*b+b:=by rw[Int.natCast_add,Int.add_mul];simp
  rw[e];split<;>constructor<;>omega
def RY (a b c d)(w):Sem.run (patch ae prog) (Instr.index 131 (.agg #[a,b,c,d]) (.int .i64 0)) w=.ok a w:=by kernel_rfl
def RV (a b c d)(w):Sem.run (patch ae prog) (Instr.index 131 (.agg #[a,b,c,d]) (.int .i64 1)) w=.ok b w:=by kernel_rfl
def RU (a b c d)(w):Sem.run (patch ae prog) (Instr.index 131 (.agg #[a,b,c,d]) (.int .i64 2)) w=.ok c w:=by kernel_rfl
def RS (a b c d)(w):Sem.run (patch ae prog) (Instr.index 131 (.agg #[a,b,c,d]) (.int .i64 3)) w=.ok d w:=by kernel_rfl
def nN (c)(m:Nat)(hm:m<16)(hc:∀k,k<4->0<=c k/\c k<=24)(w):
 adO 120 #[.agg #[.int .i64 (c 0),.int .i64 (c 1),.int .i64 (c 2),.int .i64 (c 3)],.int .u64 m] w λe w'=>e=.returned (.int .i64 (fM c m 4))/\adN w w':=by
 have p:Hid (∀k,k<4->0<=c k/\c k<=24):=hc;clear hc;have x0:=RY;have x1:=RV;have x2:=RU;have x3:=RS
 go_enter (pf func120 (by rfl)),ntmps120
 go_wp2_with fail
 go_loop [5,9] (λs i=>∃j:Nat,j<=4/\i=.int .i64 j/\s=.int .i64 (fM c m j)) (λ_ i=>4-(intOf i).toNat)
 case atStart=>exact⟨0,by omega,rfl,rfl⟩
 case round=>
  obtain⟨j,q,rfl,rfl⟩:=hrel;have hs:=Jy m (b:=24) (by omega) p.out j q;obtain⟨s,d⟩:∃s,s=fM c m j:=⟨_,rfl⟩;rw[<-d]at hs⊢
  by_cases h:j<4
  .have r:=p.out j h
   have a:fM c m (j+1)=s+if has m j then c j else 0:=by rw[d];rfl
   obtain⟨g,f⟩:∃g,g=j+1:=⟨_,rfl⟩;rw[<-f]at a;have o:Hid (fM c m g=s+if has m j then c j else 0):=a;have HJ:Hid (g=j+1/\g<=4):=⟨f,by omega⟩;clear a d f;have l:j=0\/j=1\/j=2\/j=3:=(by omega);cases n:has m j
   all_goals(
        rcases l with rfl|rfl|rfl|rfl
        all_goals(
         go_wp2_with(go_at_call 164;refine(vL m _ hm (by omega) _).mono ?_;rintro e w1 ⟨he,hw⟩;rw[n]at he;obtain rfl:=he;obtain rfl:=hw.symm);go_roundw
         case rel=>exact⟨g,HJ.out.2,by rw[HJ.out.1];rfl,by first|(simp[o.out,n];done)|(rw[o.out,n];go_num)⟩
         case measure=>simp[intOf]))
  .have:j=4:=by omega
   subst this;go_wp2_with fail;go_ret;exact⟨by first|rfl|(rw[d];rfl),(aab _ _).alloc (ZL _) _⟩
attribute [local go_sem ↓] Go.wp_at_zero Go.wp_at_succ
def fI (W M:Nat):List Nat:=(List.range W).flatMap (λk=>(List.range 16).filter λm=>pop m==k&&decide (0<m))++(List.range M).filter λm=>pop m==W&&decide (0<m)
def sN (W M:Nat):List Value:=(fI W M).map λm:Nat=>Value.int .u64 (m:Int)
def KV {W M}(h:pop M=W)(a:0<M):fI W (M+1)=fI W M++[M]:=by
 unfold fI;rw[show List.range (M+1)=List.range M++[M]from Z6,aaj,<-adu];simp[h,a]
def H9 {W M}(h:pop M≠W):fI W (M+1)=fI W M:=by
 unfold fI;rw[show List.range (M+1)=List.range M++[M]from Z6,aaj,<-adu];simp[h]
def HV (W):fI (W+1) 1=fI W 16:=by
 unfold fI;rw[show List.range (W+1)=List.range W++[W]from Z6,List.flatMap_append,adu]
 congr 1
 have e:List.range 1=[0]:=rfl;rw[e];simp
def MS {W M}(a:M<=16):(fI W M).length<=16*W+16:=by
 unfold fI;rw[Z7,List.length_flatMap];have d:((List.range M).filter λm=>pop m==W&&decide (0<m)).length<=16:=ZP (aai _ _) (by simpa using a)
 have b:∀l:List Nat,(l.map λk=>((List.range 16).filter λm=>pop m==k&&decide (0<m)).length).sum<=16*l.length:=λl=>by
  induction l with
  |nil=>simp
  |cons k l c=>
   have:=aai (λm=>pop m==k&&decide (0<m)) (List.range 16);simp only[adr,List.sum_cons,adt,adI]at this⊢;omega
 have:=b (List.range W);rw[adI]at this;omega
def Nv:((patch ae prog).info? 143).map (λi=>(i.zero,i.size,i.bytes))=some (some (.int .u64 0),1,8):=by kernel_rfl
def gW (w):adO 119 #[] w λe w'=>∃v,e=.returned v/\w'.ownsRow w.heap.size 143 1 v (fI 5 1).length (sN 5 1)/\adN w w':=by
 obtain⟨i0,s,j,g,f⟩:=info_parts Nv;have hu:=((ax ae prog 180).trans underlying180)
 go_enter (pf func119 (by rfl)),ntmps119
 go_wp2_with fail
 go_loopw [1,2] (λv i wr=>∃W:Nat,1<=W/\W<=5/\i=.int .i64 W/\wr.ownsRow w.heap.size 143 1 v (fI W 1).length (sN W 1)/\adN w wr) (λ_ i _=>5-(intOf i).toNat)
 case atStart=>exact⟨1,by omega,by omega,rfl,aag _ _ _ _,aab _ _⟩
 case round=>
  obtain⟨W,x,t,rfl,a,hb⟩:=hrel;have d:Hid (wr.ownsRow w.heap.size 143 1 u1 (fI W 1).length (sN W 1)/\adN w wr):=⟨a,hb⟩;clear a hb
  by_cases r:W<=4
  .have l:decide ((W:Int)<=4)=true:=ady (by omega)
   go_wp2_with fail
   go_loopw [1,3] (λv i k=>∃M:Nat,1<=M/\M<=16/\i=.int .u64 M/\k.ownsRow w.heap.size 143 1 v (fI W M).length (sN W M)/\adN w k) (λ_ i _=>16-(intOf i).toNat)
   case atStart=>exact⟨1,by omega,by omega,rfl,d.out.1,d.out.2⟩
   case round=>
        obtain⟨M,y,m,rfl,a,hb⟩:=hrel;have c:Hid (wr.ownsRow w.heap.size 143 1 u1 (fI W M).length (sN W M)/\adN w wr):=⟨a,hb⟩;have z:w.heap.size<=wr.heap.size:=hb.size;clear a hb
        by_cases A:M<=15
        .have hlen:=MS (W:=W) (M:=M) (by omega)
         by_cases hp:pop M=W
         .go_wp2_with(first
           |(go_at_call 163;refine(iI M (by omega) _).mono ?_;rintro e w1 ⟨he,hw⟩;rw[hp]at he;obtain rfl:=he;obtain rfl:=hw.symm)
           |(at_builtin;refine adJ _ rfl _ _ _ rfl w.heap.size 143 i0 _ 1 8 hu s j g f rfl (by omega) _ (fI W M).length (sN W M) rfl (c.out.1.alloc _) ⟨wr.heap.size,0,none⟩ 1 1 [.int .u64 M] rfl rfl (adM _ _ _) (by intro u hu;simp at hu;subst hu;rfl) (by unfold maxLen;omega) (by omega) (by simp;omega) ?_;intro v' w1 a b _))
          have n:Hid (w1.ownsRow w.heap.size 143 1 v' (fI W (M+1)).length (sN W (M+1))/\adN w w1):=by
           refine⟨?_,(c.out.2.alloc (by omega) _).grown b (by simp;omega) (λq o=>(c.out.1.lt q o).1)⟩;unfold sN;rw[KV hp (by omega)];simpa[sN] using a
          clear a b;go_wp2_with fail;go_roundw
          case rel=>exact⟨M+1,by omega,by omega,by go_num,n.out.1,n.out.2⟩
          case measure=>simp[intOf];omega
         .have p:¬(pop M:Int)=W:=λh=>hp (by exact_mod_cast h)
          go_wp2_with(go_at_call 163;refine(iI M (by omega) _).mono ?_;rintro e w1 ⟨he,hw⟩;obtain rfl:=he;obtain rfl:=hw.symm);go_roundw
          case rel=>exact⟨M+1,by omega,by omega,by go_num,by unfold sN;rw[H9 hp];exact c.out.1,c.out.2⟩
          case measure=>simp[intOf];omega
        .have:M=16:=by omega
         subst this;go_wp2_with fail;go_roundw
         case rel=>exact⟨W+1,by omega,by omega,by go_num,by unfold sN;rw[HV];exact c.out.1,c.out.2⟩
         case measure=>simp[intOf];omega
  .have:W=5:=by omega
   subst this;go_wp2_with fail;go_ret;exact⟨_,rfl,d.out.1,d.out.2⟩
def place (s n c:Int):Prop:=0<=s/\s<4/\0<=n/\n<4/\0<=c/\c<24
def zn (s n c s' a b:Int):Prop:=¬(c=b/\n≠a)/\(n≠a\/s=s')
def nI (S N C:Nat->Int)(n:Nat):Prop:=∀i,i<n->place (S i) (N i) (C i)/\∀j,j<i->zn (S i) (N i) (C i) (S j) (N j) (C j)
def o7 (n:Nat)(R:Nat->Int)(r:Nat):Prop:=∀i,i<r->0<=R i/\R i<n/\(0<i->R (i-1)<R i)
def Uf (n:Nat)(S N C:Nat->Int)(r:Nat)(R:Nat->Int)(p:Int):Prop:=1<=n/\n<=24/\nI S N C n/\o7 n R r/\0<=p/\p<=3
def dK (w:World)(b o n:Nat)(S N C:Nat->Int):Prop:=
 ∀i,i<n->w.cell? ⟨b,o+i*3,none⟩=some (.int .i64 (S i))/\w.cell? ⟨b,o+i*3+1,none⟩=some (.int .i64 (N i))/\w.cell? ⟨b,o+i*3+2,none⟩=some (.int .i64 (C i))
def gM (w:World)(b o n:Nat)(R:Nat->Int):Prop:=∀i,i<n->w.cell? ⟨b,o+i,none⟩=some (.int .i64 (R i))
def dK.ext {w w'}{b o n}{S N C}(h:dK w b o n S N C)(hb:adN w w'):dK w' b o n S N C:=λi d=>by
 obtain⟨c,f,e⟩:=h i d;have a:b<w.heap.size:=aan c;exact⟨(hb.cell (p:=⟨b,_,none⟩) a).trans c,(hb.cell (p:=⟨b,_,none⟩) a).trans f,(hb.cell (p:=⟨b,_,none⟩) a).trans e⟩
def gM.ext {w w'}{b o n}{R}(h:gM w b o n R)(hb:adN w w'):gM w' b o n R:=λi d=>by
 have c:=h i d;have a:b<w.heap.size:=aan c;exact(hb.cell (p:=⟨b,_,none⟩) a).trans c
def dK.after {w W}{b o n}{S N C}(h:dK w b o n S N C)(hb:adN w W)(x:After W):dK x.val b o n S N C:=h.ext (ai hb x.later)
def dK.mono {w}{b o n m}{S N C}(h:dK w b o n S N C)(hm:m<=n):dK w b o m S N C:=λi a=>h i (by omega)
def tO (s n c s' a b)(w):
 adO 181 #[.agg #[.int .i64 s,.int .i64 n,.int .i64 c],.agg #[.int .i64 s',.int .i64 a,.int .i64 b]] w λe w'=>
  lg (zn s n c s' a b) e/\adN w w':=by
 by_cases hc:c=b<;>by_cases d:n=a<;>by_cases hs:s=s'<;>(
  go_enter (pf func181 (by rfl)),ntmps181
  go_wp2_with fail;go_ret;exact⟨⟨_,rfl,by simp[zn,hc,d,hs]⟩,((aab _ _).alloc (ZL _) _).alloc (by simp) _⟩)
def eu (s n c)(b o k cap)(S N C)(w)(E:k<=9223372036854775807)(hcell:dK w b o k S N C):
 adO 150 #[.agg #[.int .i64 s,.int .i64 n,.int .i64 c],.slice (some ⟨b,o,none⟩) k cap] w λe w'=>
  lg ((∀i,i<k->zn s n c (S i) (N i) (C i))) e/\adN w w':=by
 go_enter (pf func150 (by rfl)),ntmps150
 go_wp2_with fail
 go_loopw [9] (λi wr=>∃j:Nat,j<=k/\i=.int .i64 j/\adN w wr/\wr.cell? ⟨w.heap.size,0,none⟩=some (.int .i64 s)/\wr.cell? ⟨w.heap.size,1,none⟩=some (.int .i64 n)/\wr.cell? ⟨w.heap.size,2,none⟩=some (.int .i64 c)/\∀i,i<j->zn s n c (S i) (N i) (C i))
  (λi _=>k-(intOf i).toNat)
 case atStart=>exact⟨0,adl _,rfl,(aab _ _).alloc (ZL _) _,by simp,by simp,by simp,λi v=>absurd v (ZV _)⟩
 case round=>
  obtain⟨j,F,rfl,hb,x,D,B,d⟩:=hrel;have z:Hid (∀i,i<j->zn s n c (S i) (N i) (C i)):=d;clear d;have l:w.heap.size<wr.heap.size:=aan x
  by_cases q:j<k
  .obtain⟨c0,y,c2⟩:=hcell j q
   have m:b<w.heap.size:=aan c0;have c0:=(hb.cell (p:=⟨b,o+j*3,none⟩) m).trans c0;have y:=(hb.cell (p:=⟨b,o+j*3+1,none⟩) m).trans y;have c2:=(hb.cell (p:=⟨b,o+j*3+2,none⟩) m).trans c2;go_wp2_with fail;refine(tO s n c (S j) (N j) (C j) _).mono ?_;rintro e w1 ⟨⟨r,rfl,u⟩,t⟩;have a:adN w w1:=(hb.alloc (by omega) _).trans (t.mono (by simp;omega));obtain⟨g,A⟩:=rR t;cases r
   .have f:Hid (¬zn s n c (S j) (N j) (C j)):=λh=>by simp[h]at u
    clear u;go_wp2_with fail;go_ret;exact⟨.no (λh=>f.out (h j q)),a⟩
   .have f:Hid (zn s n c (S j) (N j) (C j)):=u.1 rfl
    clear u;go_wp2_with fail;go_roundw
    case rel=>exact⟨j+1,by omega,by go_num,a,by rw[g _ _ (by simp;omega)];simpa[World.cell?_alloc_past _ _ _ l] using x,by rw[g _ _ (by simp;omega)];simpa[World.cell?_alloc_past _ _ _ l] using D,by rw[g _ _ (by simp;omega)];simpa[World.cell?_alloc_past _ _ _ l] using B,λi v=>by
     rcases ac7.1 v with h|h
     .exact z.out i h
     .subst h;exact f.out⟩
    case measure=>simp[intOf];omega
  .have:j=k:=by omega
   subst this;go_wp2_with fail;go_ret;exact⟨.yes z.out,hb⟩
def dF (s n c)(w):
 adO 149 #[.agg #[.int .i64 s,.int .i64 n,.int .i64 c]] w λe w'=>
  lg (place s n c) e/\adN w w':=by
 go_enter (pf func149 (by rfl)),ntmps149
 go_wp2_with(first|(go_at_call 102;go_enter (pf func102 (by rfl)),ntmps102)|(go_at_call 65;go_enter (pf func65 (by rfl)),ntmps65))
 all_goals(go_ret;exact⟨⟨_,rfl,by simp only[place];simp;omega⟩,(aab _ _).alloc (ZL _) _⟩)
def dR (ao)(b o k cap n:Nat)(R)(w)(x:k<=9223372036854775807)(v:n<=24)(u:0<k->ao=some ⟨b,o,none⟩)(hcell:gM w b o k R):
 adO 94 #[.slice ao k cap,.int .i64 n] w λe w'=>
  lg (o7 n R k) e/\w'=w:=by
 go_enter (pf func94 (by rfl)),ntmps94
 go_wp2_with fail
 go_loop [5,10] (λl i=>∃j:Nat,∃last:Int,j<=k/\i=.int .i64 j/\l=.int .i64 last/\-1<=last/\last<24/\(last=if j=0 then -1 else R (j-1))/\o7 n R j)
  (λ_ i=>k-(intOf i).toNat)
 case atStart=>exact⟨0,-1,adl _,rfl,rfl,by omega,by omega,rfl,λi p=>absurd p (ZV _)⟩
 case round=>
  obtain⟨j,last,y,rfl,rfl,t,s,f,d⟩:=hrel;have g:Hid (o7 n R j/\last=if j=0 then -1 else R (j-1)):=⟨d,f⟩;clear d f
  by_cases c:j<k
  .have c0:=hcell j c
   have q:=u (by omega);subst q
   by_cases A:R j<=last
   .go_wp2_with fail
    go_ret;refine⟨.no λh=>?_,rfl⟩;have r:=h j c;have a:=g.out.2
    by_cases m:j=0
    .subst m;simp at a;omega
    .rw[if_neg m]at a;have:=r.2.2 (by omega);omega
   .by_cases z:(n:Int)<=R j
    .go_wp2_with fail
     go_ret;refine⟨.no λh=>?_,rfl⟩;have r:=h j c;omega
    .go_wp2_with fail
     go_round
     case rel=>exact⟨j+1,R j,by omega,by go_num,rfl,by omega,by omega,by simp,λi p=>by
      rcases ac7.1 p with h|h
      .exact g.out.1 i h
      .subst h
       refine⟨by omega,by omega,λm=>?_⟩;have a:=g.out.2;rw[if_neg (by omega)]at a;omega⟩
     case measure=>simp[intOf];omega
  .have:j=k:=by omega
   subst this;go_wp2_with fail;go_ret;exact⟨.yes g.out.1,rfl⟩
attribute [local go_sem] After.cell After.frozen After.const
def eB (ao)(b o n cap)(S N C)(w)(A:n<=9223372036854775807)(hc:n<=cap)(x:0<n->ao=some ⟨b,o,none⟩)(hcell:dK w b o n S N C):
 adO 93 #[.slice ao n cap] w λe w'=>
  lg (1<=n/\n<=24/\nI S N C n) e/\adN w w':=by
 by_cases v:n<1
 .have:n=0:=by omega
  subst this
  go_enter (pf func93 (by rfl)),ntmps93
  go_wp2_with fail;go_ret;exact⟨.no (by omega),aab _ _⟩
 have m:=x (by omega);subst m
 by_cases r:24<n
 .go_enter (pf func93 (by rfl)),ntmps93
  go_wp2_with fail;go_ret;exact⟨.no (by omega),aab _ _⟩
 go_enter (pf func93 (by rfl)),ntmps93
 go_wp2_with fail
 go_loopw [15] (λi wr=>∃j:Nat,j<=n/\i=.int .i64 j/\adN w wr/\nI S N C j) (λi _=>n-(intOf i).toNat)
 case atStart=>exact⟨0,adl _,rfl,aab _ _,λi l=>absurd l (ZV _)⟩
 case round=>
  obtain⟨j,B,rfl,hb,g⟩:=hrel;have u:Hid (nI S N C j):=g;clear g;have z:=hb.size
  by_cases d:j<n
  .obtain⟨c0,s,c2⟩:=hcell j d
   have f:b<w.heap.size:=aan c0;have t:Hid (dK wr b o j S N C):=(hcell.mono (by omega)).ext hb;have c0:=(hb.cell (p:=⟨b,o+j*3,none⟩) f).trans c0;have s:=(hb.cell (p:=⟨b,o+j*3+1,none⟩) f).trans s;have c2:=(hb.cell (p:=⟨b,o+j*3+2,none⟩) f).trans c2;have i0:(0:Int)<=(j:Int):=(by omega);have y:(j:Int)<=(cap:Int):=(by omega);clear hcell;have q:Hid (adN w wr):=hb
   by_cases hp:place (S j) (N j) (C j)
   .by_cases k:∀i,i<j->zn (S j) (N j) (C j) (S i) (N i) (C i)
    .have c:Hid (place (S j) (N j) (C j)/\∀i,i<j->zn (S j) (N j) (C j) (S i) (N i) (C i)):=⟨hp,k⟩
     clear hp k;go_wp2_with fail;refine dx (by kernel_rfl) (by kernel_rfl) ?_
     repeat(go_big_quiet_step (first
      |(go_at_call 149;exact Calls.iU c.out.1 (dF _ _ _ _))
      |(go_at_call 150;exact Calls.iU c.out.2 (eu (S j) (N j) (C j) b o j cap S N C _ (by omega) (t.out.after ((aab _ _).alloc (ZL _) _) _)))))
     refine wpQuiet_nil ?_;rintro _ ⟨⟨w1,a⟩,rfl⟩;go_wp2_with fail;go_roundw
     case rel=>exact⟨j+1,by omega,by go_num,ai q.out (ai ((aab _ _).alloc (ZL _) _) a),λi l=>by
      rcases ac7.1 l with h|h
      .exact u.out i h
      .subst h;exact c.out⟩
     case measure=>simp[intOf];omega
    .have c:Hid (place (S j) (N j) (C j)/\¬∀i,i<j->zn (S j) (N j) (C j) (S i) (N i) (C i)):=⟨hp,k⟩
     clear hp k;go_wp2_with fail;refine dx (by kernel_rfl) (by kernel_rfl) ?_
     repeat(go_big_quiet_step (first
      |(go_at_call 149;exact Calls.iU c.out.1 (dF _ _ _ _))
      |(go_at_call 150;exact Calls.oC c.out.2 (eu (S j) (N j) (C j) b o j cap S N C _ (by omega) (t.out.after ((aab _ _).alloc (ZL _) _) _)))))
     refine wpQuiet_nil ?_;rintro _ ⟨⟨w1,a⟩,rfl⟩;go_wp2_with fail;go_ret;exact⟨.no λh=>c.out.2 (h.2.2 j d).2,ai q.out (ai ((aab _ _).alloc (ZL _) _) a)⟩
   .have c:Hid (¬place (S j) (N j) (C j)):=hp
    clear hp;go_wp2_with fail;refine dx (by kernel_rfl) (by kernel_rfl) ?_
    repeat(go_big_quiet_step (first
     |(go_at_call 149;exact Calls.oC c.out (dF _ _ _ _))))
    refine wpQuiet_nil ?_;rintro _ ⟨⟨w1,a⟩,rfl⟩;go_wp2_with fail;go_ret;exact⟨.no λh=>c.out (h.2.2 j d).1,ai q.out (ai ((aab _ _).alloc (ZL _) _) a)⟩
  .have:j=n:=by omega
   subst this;go_wp2_with fail;go_ret;exact⟨.yes ⟨by omega,by omega,u.out⟩,hb⟩
structure cz where
 ao:Option Addr
 b:Nat
 o:Nat
 n:Nat
 cap:Nat
 S:Nat->Int
 N:Nat->Int
 C:Nat->Int
 ro:Option Addr
 rb:Nat
 rp:Nat
 r:Nat
 gD:Nat
 R:Nat->Int
 p:Int
def cz.val (m:cz):Value:=.agg #[.slice m.ao m.n m.cap,.slice m.ro m.r m.gD,.int .i64 m.p]
structure cz.At (m:cz)(w:World):Prop where
 qW:m.n<=m.cap
 Ig:m.n*24<=140737488355328
 addr:0<m.n->m.ao=some ⟨m.b,m.o,none⟩
 dA:dK w m.b m.o m.n m.S m.N m.C
 rc:m.r<=m.gD
 Hg:m.r*8<=140737488355328
 mQ:0<m.r->m.ro=some ⟨m.rb,m.rp,none⟩
 ints:gM w m.rb m.rp m.r m.R
def cz.At.ext {m:cz}{w w'}(h:m.At w)(hb:adN w w'):m.At w':=⟨h.qW,h.Ig,h.addr,h.dA.ext hb,h.rc,h.Hg,h.mQ,h.ints.ext hb⟩
def cz.ok (m:cz):Prop:=Uf m.n m.S m.N m.C m.r m.R m.p
def AM (m:cz)(w)(hm:m.At w):
 adO 60 #[m.val] w λe w'=>lg m.ok e/\adN w w':=by
 obtain⟨ao,b,o,n,cap,S,N,C,ro,rb,rp,r,gD,R,p⟩:=m;obtain⟨qW,Ig,addr,dA,rc,Hg,mQ,ints⟩:=hm;simp only[cz.val,cz.ok]at*;have f:Hid (gM w rb rp r R):=ints;have d:Hid (dK w b o n S N C):=dA;clear ints dA
 by_cases i:1<=n/\n<=24/\nI S N C n
 .have q:n<=24:=i.2.1
  by_cases l:o7 n R r
  .have g:Hid ((1<=n/\n<=24/\nI S N C n)/\o7 n R r):=⟨i,l⟩
   clear i l
   go_enter (pf func60 (by rfl)),ntmps60
   go_wp2_with(first
        |(go_at_call 93;refine(eB ao b o n cap S N C _ (by omega) qW addr (d.out.ext ((aab _ _).alloc (ZL _) _))).mono ?_;rintro e w1 ⟨he,c⟩;obtain rfl:=he.fP g.out.1;clear he;obtain⟨k,j⟩:=rR c;have a:=ai ((aab _ _).alloc (ZL _) _) c)
        |(go_at_call 94;refine(dR ro rb rp r gD n R _ (by omega) q mQ (f.out.ext a)).mono ?_;rintro e w2 ⟨he,rfl⟩;obtain rfl:=he.fP g.out.2;clear he))
   all_goals(go_ret;refine⟨⟨_,rfl,?_⟩,a⟩;simp only[Uf];simp[g.out.1,g.out.2];omega)
  .have g:Hid ((1<=n/\n<=24/\nI S N C n)/\¬o7 n R r):=⟨i,l⟩
   clear i l
   go_enter (pf func60 (by rfl)),ntmps60
   go_wp2_with(first
        |(go_at_call 93;refine(eB ao b o n cap S N C _ (by omega) qW addr (d.out.ext ((aab _ _).alloc (ZL _) _))).mono ?_;rintro e w1 ⟨he,c⟩;obtain rfl:=he.fP g.out.1;clear he;obtain⟨k,j⟩:=rR c;have a:=ai ((aab _ _).alloc (ZL _) _) c)
        |(go_at_call 94;refine(dR ro rb rp r gD n R _ (by omega) q mQ (f.out.ext a)).mono ?_;rintro e w2 ⟨he,rfl⟩;obtain rfl:=he.gJ g.out.2;clear he))
   go_ret;exact⟨.no λh=>g.out.2 h.2.2.2.1,a⟩
 .have g:Hid (¬(1<=n/\n<=24/\nI S N C n)):=i
  clear i
  go_enter (pf func60 (by rfl)),ntmps60
  go_wp2_with(go_at_call 93;refine(eB ao b o n cap S N C _ (by omega) qW addr (d.out.ext ((aab _ _).alloc (ZL _) _))).mono ?_;rintro e w1 ⟨he,c⟩;obtain rfl:=he.gJ g.out;clear he;obtain⟨k,j⟩:=rR c;have a:=ai ((aab _ _).alloc (ZL _) _) c);go_ret;exact⟨.no λh=>g.out ⟨h.1,h.2.1,h.2.2.1⟩,a⟩
def among (R:Nat->Int)(k:Nat)(x:Int):Prop:=∃i,i<k/\R i=x
def KC {w:World}{B}{x0 x1 x2}(v0 v1 v2)(c:w.cell? ⟨B,0,none⟩=some x0)(b:w.cell? ⟨B,1,none⟩=some x1)(a:w.cell? ⟨B,2,none⟩=some x2):
 (((w.setCell ⟨B,0,none⟩ v0).setCell ⟨B,1,none⟩ v1).setCell ⟨B,2,none⟩ v2).cell? ⟨B,0,none⟩=some v0/\(((w.setCell ⟨B,0,none⟩ v0).setCell ⟨B,1,none⟩ v1).setCell ⟨B,2,none⟩ v2).cell? ⟨B,1,none⟩=some v1/\
 (((w.setCell ⟨B,0,none⟩ v0).setCell ⟨B,1,none⟩ v1).setCell ⟨B,2,none⟩ v2).cell? ⟨B,2,none⟩=some v2:=by
 refine⟨?_,?_,?_⟩
 .rw[adL _ _ _ _ (by simp),adL _ _ _ _ (by simp),World.cell?_setCell_same _ _ _ c]
 .rw[adL _ _ _ _ (by simp)]
  exact World.cell?_setCell_same _ _ _ ((adL _ _ _ _ (by simp)).trans b)
 .exact World.cell?_setCell_same _ _ _ ((adL _ _ _ _ (by simp)).trans ((adL _ _ _ _ (by simp)).trans a))
def blk {w:World}{k}{cs}{t}(h:w.heap[k]? =some (.cells cs t (0,0))):(∀j,w.cell? ⟨k,j,none⟩=cs[j]?)/\(∀j,w.frozen? ⟨k,j,none⟩=false):=
 ⟨λj=>cell_of_row w k j cs t (0,0) h,λj=>frozen_of_row w k j cs t h⟩
def aD {w:World}{k i}{cs}{t}(v)(h:w.heap[k]? =some (.cells cs t (0,0))):(w.setCell ⟨k,i,none⟩ v).heap[k]? =some (.cells (cs.setIfInBounds i v) t (0,0)):=heap_setCell_same w k i cs t v h
def dP {w:World}{k}{a}{o}(v)(h:w.heap[k]? =o)(b:k≠a.block):(w.setCell a v).heap[k]? =o:=(heap_setCell_other w a k v b).trans h
def Tryz.info22:((patch ae prog).info? 81).map (λi=>(i.zero,i.size,i.bytes))=some (some (.agg #[.int .i64 0,.int .i64 0,.int .i64 0]),3,24):=by kernel_rfl
def Tryz.gQ:((patch ae prog).info? 3).map (λi=>(i.zero,i.size,i.bytes))=some (some (.int .i64 0),1,8):=by kernel_rfl
def ord:List Nat:=fI 5 1
def CG:ord=[1,2,4,8,3,5,6,9,10,12,7,11,13,14,15]:=by kernel_rfl
def MR {k m:Nat}(h:ord[k]? =some m):0<m/\m<16:=by
 have a:k<15:=by
  have:=(ZZ.1 h).1;rw[CG]at this;simpa using this
 rw[CG]at h;obtain rfl|rfl|rfl|rfl|rfl|rfl|rfl|rfl|rfl|rfl|rfl|rfl|rfl|rfl|rfl:k=0\/k=1\/k=2\/k=3\/k=4\/k=5\/k=6\/k=7\/k=8\/k=9\/k=10\/k=11\/k=12\/k=13\/k=14:=by omega
 all_goals(simp at h;omega)
def gP (c:Nat->Int)(want:Int):List Nat->Int
 |[]=> -1
 |m::l=>if want<=fM c m 4 then(pop m:Nat)else gP c want l
def l9 (c:Nat->Int)(want:Int):Int:=gP c want ord
def KS {w:World}{base ty}{v}{n}{vs}(h:w.ownsRow base ty 1 v n vs)(e:0<n):∃g cap,v=.slice (some ⟨g,0,none⟩) n cap/\g<w.heap.size/\n<=cap/\cap<=maxLen/\∀i,i<n->w.cell? ⟨g,i,none⟩=vs[i]?:=by
 rcases h.2 with⟨rfl,d⟩|⟨g,cap,cur,rfl,j,a,c,hc,hs,b⟩
 .have:=h.1
  rw[d]at this;simp at this;omega
 .refine⟨g,cap,rfl,(ZK.1 a).1,c,by unfold maxLen at hc⊢;omega,λi f=>?_⟩
  rw[cell_of_row w g i cur _ (0,0) a,<-b,Z5,if_pos (by omega)];simp
def oM {w:World}{base}{v}(h:w.ownsRow base 143 1 v (fI 5 1).length (sN 5 1)):
 ∃g cap,v=.slice (some ⟨g,0,none⟩) 15 cap/\15<=cap/\cap<=maxLen/\g<w.heap.size/\∀k m:Nat,ord[k]? =some m->w.cell? ⟨g,k,none⟩=some (.int .u64 (m:Int)):=by
 have hl:(fI 5 1).length=15:=by kernel_rfl
 rw[hl]at h;obtain⟨g,cap,rfl,f,c,a,hcell⟩:=KS h (by omega);refine⟨g,cap,rfl,c,a,f,λk m e=>?_⟩;have b:(fI 5 1)[k]? =some m:=e;have d:k<15:=by rw[<-hl];exact(ZZ.1 b).1
 rw[hcell k d];unfold sN;rw[List.getElem?_map,b];rfl
def JK {k}(h:k<15):∃m,ord[k]? =some m/\0<m/\m<16:=by
 have hl:ord.length=15:=by kernel_rfl
 have e:ord[k]? =some ord[k]:=ZT (by omega);exact⟨_,e,MR e⟩
def ru {c}{want}{k m}(h:ord[k]? =some m):gP c want (ord.drop k)=if want<=fM c m 4 then((pop m:Nat):Int)else gP c want (ord.drop (k+1)):=by
 obtain⟨a,rfl⟩:=ZZ.1 h;rw[List.drop_eq_getElem_cons a];rfl
def xR (c)(want)(hc:∀k,k<4->0<=c k/\c k<=24)(w):
 adO 118 #[.agg #[.int .i64 (c 0),.int .i64 (c 1),.int .i64 (c 2),.int .i64 (c 3)],.int .i64 want] w λe w'=>e=.returned (.int .i64 (l9 c want))/\adN w w':=by
 have z:Hid (∀k,k<4->0<=c k/\c k<=24):=hc;clear hc
 go_enter (pf func118 (by rfl)),ntmps118
 go_wp2_with(go_at_call 119;refine(gW _).mono ?_;rintro e w1 ⟨v,rfl,f,n⟩;obtain⟨g,cap,rfl,x,u,B,d⟩:=oM f;have t:Hid ((∀k m:Nat,ord[k]? =some m->w1.cell? ⟨g,k,none⟩=some (.int .u64 (m:Int)))/\Below _ _ w1):=⟨d,n⟩;clear f d n)
 have o:Hid (w1.heap[w.heap.size]? =some (.cells #[.int .i64 (c 0),.int .i64 (c 1),.int .i64 (c 2),.int .i64 (c 3)] 131 (0,0))/\adN w w1):=by
  refine⟨(t.out.2.block _ (by simp)).trans (aae _ _),?_⟩;exact((aab _ _).alloc (ZL _) _).trans (t.out.2.mono (by simp))
 go_loopw [9] (λi wr=>∃k:Nat,k<=15/\i=.int .i64 k/\l9 c want=gP c want (ord.drop k)/\adN w1 wr) (λi _=>15-(intOf i).toNat)
 case atStart=>exact⟨0,by omega,rfl,rfl,aab _ _⟩
 case round=>
  obtain⟨k,E,rfl,l,hb⟩:=hrel;have h:Hid (l9 c want=gP c want (ord.drop k)/\adN w1 wr):=⟨l,hb⟩;clear l hb
  by_cases r:k<15
  .obtain⟨m,hm,A,a⟩:=JK r
   have u0:wr.cell? ⟨g,k,none⟩=some (.int .u64 (m:Int)):=(h.out.2.cell (p:=⟨g,k,none⟩) B).trans (t.out.1 k m hm);obtain⟨q,C⟩:=blk ((h.out.2.block _ (by have:=(ZK.1 o.out.1).1;exact this)).trans o.out.1);have D:(k:Int)<15:=(by omega);have y:Hid (ord[k]? =some m):=hm;clear hm
   by_cases hw:want<=fM c m 4
   .go_wp2_with(first
     |(go_at_call 120;refine(nN c m a z.out _).mono ?_;rintro e w2 ⟨rfl,b⟩;have s:Hid (Below _ _ w2):=b;clear b)
     |(go_at_call 163;refine(iI m a _).mono ?_;rintro e w3 ⟨he,j⟩;obtain rfl:=he;obtain rfl:=j.symm))
    go_ret;exact⟨by rw[h.out.1,ru y.out,if_pos (by omega)];rfl,ai (ai o.out.2 h.out.2) s.out⟩
   .go_wp2_with(first
     |(go_at_call 120;refine(nN c m a z.out _).mono ?_;rintro e w2 ⟨rfl,b⟩;have s:Hid (Below _ _ w2):=b;clear b)
     |(go_at_call 163;refine(iI m a _).mono ?_;rintro e w3 ⟨he,j⟩;obtain rfl:=he;obtain rfl:=j.symm))
    go_roundw
    case rel=>exact⟨k+1,by omega,by go_num,by rw[h.out.1,ru y.out,if_neg (by omega)],ai h.out.2 s.out⟩
    case measure=>simp[intOf];omega
  .have:k=15:=by omega
   subst this;go_wp2_with fail;go_ret;exact⟨by rw[h.out.1];rfl,ai o.out.2 h.out.2⟩
def Li (c:Nat->Int)(want:Int)(k m:Nat):Bool:=(ord.take k).contains m&&decide (want<=fM c m 4)
def jC (us fr:Nat->Int)(want:Int)(k:Nat)(j:Nat):Value:=if j=0 then .int .i64 (l9 us want)else .bool (Li fr want k (j-1))
def eF (us fr:Nat->Int)(want:Int):Array Value:=((List.range 17).map (jC us fr want 15)).toArray
def iA:((patch ae prog).info? 91).map (·.size)=some 17:=by kernel_rfl
def Ul {w}{b}{t}{xs}(h:w.heap[b]? =some (.cells xs t (0,0)))(hs:xs.size=17):Sem.run (patch ae prog) (Instr.loadAt 91 (.pointer (some ⟨b,0,none⟩))) w=.ok (.agg xs) w:=by
 have:=run_loadVar_row (P:=(patch ae prog)) w b t 91 xs (0,0) _ h ((ax ae prog 91).trans underlying91) rfl (by rw[hs];exact iA);simp only[Instr.loadAt,Instr.sureAddr];simp[this]
def jB (us fr)(want):(eF us fr want).size=17:=by simp[eF]
def AL (us fr)(want):∀v∈(eF us fr want).toList,v.oneCell'=true:=λv a=>by
 simp only[eF,adz]at a;obtain⟨j,_,rfl⟩:=a;unfold jC;split<;>rfl
def My {w:World}{b}{us fr}{want}(h:w.rowIs b 91 17 (jC us fr want 15)):w.heap[b]? =some (.cells (eF us fr want) 91 (0,0)):=by
 obtain⟨cur,f,e,d⟩:=h
 have:cur=eF us fr want:=by
  refine Array.ext (by rw[e,jB]) λj c g=>?_
  have:=d j (by omega);have a:j<17:=by omega
  rw[ZM c]at this;simpa[eF,a] using this
 rw[<-this];exact f
def NL {fr}{want}{k m}(h:ord[k]? =some m)(j):Li fr want (k+1) j=if j=m then decide (want<=fM fr m 4)else Li fr want k j:=by
 obtain⟨b,rfl⟩:=ZZ.1 h;unfold Li;rw[List.take_succ_eq_append_getElem b];have e:(ord.take k++[ord[k]]).contains j=((ord.take k).contains j||j==ord[k]):=by rw[List.contains_append];simp only[List.contains_cons,List.contains_nil,Bool.or_false]
 rw[e]
 by_cases a:j=ord[k]
 .rw[if_pos a,a]
  simp only[beq_self_eq_true,Bool.or_true,Bool.true_and]
 .rw[if_neg a,acZ.2 a,Bool.or_false]
def MN {w:World}{base ty}{v}{n}{vs}(h:w.ownsRow base ty 1 v n vs):∀{a b cap},v=.slice (some a) b cap->base<=a.block:=by
 intro a b cap e;rcases h.2 with⟨rfl,j⟩|⟨g,cap,cur,rfl,c,i,f,hc,hs,d⟩
 .cases e
 .cases e;exact c
def K7 (us fr)(want)(hu:∀k,k<4->0<=us k/\us k<=24)(hf:∀k,k<4->0<=fr k/\fr k<=24)(w):
 adO 73 #[.agg #[.int .i64 (us 0),.int .i64 (us 1),.int .i64 (us 2),.int .i64 (us 3)],.agg #[.int .i64 (fr 0),.int .i64 (fr 1),.int .i64 (fr 2),.int .i64 (fr 3)],.int .i64 want] w λe w'=>
  e=.returned (.agg (eF us fr want))/\adN w w':=by
 have V:Hid ((∀k,k<4->0<=us k/\us k<=24)/\∀k,k<4->0<=fr k/\fr k<=24):=⟨hu,hf⟩;clear hu hf
 go_enter (pf func73 (by rfl)),ntmps73
 go_wp2_with(go_at_call 118;refine(xR us want V.out.1 _).mono ?_;rintro e y ⟨rfl,G⟩;have O:Hid (Below _ _ y):=G;clear G);obtain⟨x,f⟩:∃x,x=y.alloc (.cells #[.int .i64 (l9 us want),.bool false,.bool false,.bool false,.bool false,.bool false,.bool false,.bool false,.bool false,.bool false,.bool false,.bool false,.bool false,.bool false,.bool false,.bool false,.bool false] 91):=⟨_,rfl⟩;obtain⟨c,p⟩:∃c,c=y.heap.size:=⟨_,rfl⟩
 have M:Hid (x.rowIs c 91 17 (jC us fr want 0)/\x.heap[w.heap.size+1]? =some (.cells #[.int .i64 (fr 0),.int .i64 (fr 1),.int .i64 (fr 2),.int .i64 (fr 3)] 131 (0,0))/\
  x.heap[w.heap.size+1+1]? =some (.cells #[.int .i64 0,.bool false,.bool false,.bool false,.bool false,.bool false,.bool false,.bool false,.bool false,.bool false,.bool false,.bool false,.bool false,.bool false,.bool false,.bool false,.bool false] 91 (0,0))/\adN w x/\w.heap.size+1+1<c):=by
  have s3:w.heap.size+3<=y.heap.size:=by have:=O.out.size;simpa using this
  have hA:=O.out;refine⟨?_,?_,?_,?_,by omega⟩
  .rw[f,p]
   refine World.rowIs_alloc y _ _ _ λi E=>?_
   have α:i<17:=E;obtain rfl|rfl|rfl|rfl|rfl|rfl|rfl|rfl|rfl|rfl|rfl|rfl|rfl|rfl|rfl|rfl|rfl:i=0\/i=1\/i=2\/i=3\/i=4\/i=5\/i=6\/i=7\/i=8\/i=9\/i=10\/i=11\/i=12\/i=13\/i=14\/i=15\/i=16:=by omega
   all_goals rfl
  .rw[f,aac _ _ _ (by omega),hA.block _ (by simp),aac _ _ _ (by simp)]
   exact aam _ _ _
  .rw[f,aac _ _ _ (by omega),hA.block _ (by simp)]
   have:=aae ((w.alloc (.cells #[.int .i64 (us 0),.int .i64 (us 1),.int .i64 (us 2),.int .i64 (us 3)] 131)).alloc (.cells #[.int .i64 (fr 0),.int .i64 (fr 1),.int .i64 (fr 2),.int .i64 (fr 3)] 131)) (.cells #[.int .i64 0,.bool false,.bool false,.bool false,.bool false,.bool false,.bool false,.bool false,.bool false,.bool false,.bool false,.bool false,.bool false,.bool false,.bool false,.bool false,.bool false] 91);simpa using this
  .rw[f]
   exact((((aab _ _).alloc (ZL _) _).alloc (by simp) _).alloc (by simp;omega) _).trans (hA.mono (by simp;omega))|>.alloc (by omega) _
 rw[<-f,<-p];clear f p O;refine Calls.mono (gW _) ?_;rintro e w1 ⟨v,rfl,o,d⟩;have F:∀{a W cap},v=.slice (some a) W cap->_:=MN o;obtain⟨g,cap,rfl,S,Q,Z,s⟩:=oM o
 have L:g≠c:=by
  have:x.heap.size<=g:=F rfl;have:=M.out.1.lt;omega
 clear F;have U:Hid (∀k m:Nat,ord[k]? =some m->w1.cell? ⟨g,k,none⟩=some (.int .u64 (m:Int))):=s
 have t:Hid (w1.rowIs c 91 17 (jC us fr want 0)/\w1.heap[w.heap.size+1]? =some (.cells #[.int .i64 (fr 0),.int .i64 (fr 1),.int .i64 (fr 2),.int .i64 (fr 3)] 131 (0,0))/\
  w1.heap[w.heap.size+1+1]? =some (.cells #[.int .i64 0,.bool false,.bool false,.bool false,.bool false,.bool false,.bool false,.bool false,.bool false,.bool false,.bool false,.bool false,.bool false,.bool false,.bool false,.bool false,.bool false] 91 (0,0))/\adN w w1/\w.heap.size+1+1<c/\c<w1.heap.size):=by
  obtain⟨H,T,h3,h5,h6⟩:=M.out;have X:=H.lt;refine⟨H.of_block (d.block _ X),(d.block _ (by omega)).trans T,(d.block _ (by omega)).trans h3,ai h5 d,h6,?_⟩;have:=d.size;omega
 clear o s d M;go_wp2_with fail
 go_loopw [16] (λi wr=>∃k:Nat,k<=15/\i=.int .i64 k/\wr.rowIs c 91 17 (jC us fr want k)/\(∀b,b<w1.heap.size->b≠c->wr.heap[b]? =w1.heap[b]?)/\adN w wr/\w1.heap.size<=wr.heap.size) (λi _=>15-(intOf i).toNat)
 case atStart=>exact⟨0,by omega,rfl,t.out.1,λ_ _ _=>rfl,t.out.2.2.2.1,ZL _⟩
 case round=>
  obtain⟨k,R,rfl,z,C,hb,n⟩:=hrel;have h:Hid (wr.rowIs c 91 17 (jC us fr want k)/\(∀b,b<w1.heap.size->b≠c->wr.heap[b]? =w1.heap[b]?)/\adN w wr/\w1.heap.size<=wr.heap.size):=⟨z,C,hb,n⟩;clear z C hb n
  by_cases K:k<15
  .obtain⟨m,hm,Y,B⟩:=JK K
   have u0:wr.cell? ⟨g,k,none⟩=some (.int .u64 (m:Int)):=(adK (w:=w1) (h.out.2.1 g Z L)).trans (U.out k m hm);obtain⟨q,qf⟩:=blk ((h.out.2.1 (w.heap.size+1) (by have:=t.out.2.2.2.2;omega) (by have:=t.out.2.2.2.2;omega)).trans t.out.2.1);have kn:(k:Int)<15:=(by omega);have HM:Hid (ord[k]? =some m):=hm;clear hm;go_wp2_with(go_at_call 120;refine(nN fr m B V.out.2 _).mono ?_;rintro e w2 ⟨rfl,u⟩;have R2:=h.out.1.of_block (u.block c h.out.1.lt);have cV:=R2.cell (i:=1+m) (by omega);have fV:=R2.frozen (1+m);have J:Hid (w2.rowIs c 91 17 (jC us fr want k)/\adN wr w2):=⟨R2,u⟩;clear R2 u);go_roundw
   case rel=>
        have hV:=t.out.2.2.2.2;refine⟨k+1,by omega,by go_num,?_,?_,?_,?_⟩
        .refine(J.out.1.set (1+m) _).congr λj hj=>?_
         unfold jC
         by_cases I:j=0
         .rw[if_neg (by omega),if_pos I,if_pos I]
         .rw[if_neg I,if_neg I,NL HM.out]
          by_cases D:j=1+m
          .rw[if_pos D,if_pos (by omega)]
          .rw[if_neg D,if_neg (by omega)]
        .intro b hb A
         exact(aad _ _ _ _ A).trans ((J.out.2.block b (by have:=h.out.2.2.2;omega)).trans (h.out.2.1 b hb A))
        .exact(ai h.out.2.2.1 J.out.2).setCell (by show w.heap.size<=c;omega) _
        .have H:=J.out.2.size
         have T:=h.out.2.2.2;simp;omega
   case measure=>simp[intOf];omega
  .have:k=15:=by omega
   subst this;obtain⟨vs,l⟩:∃vs,vs=eF us fr want:=⟨_,rfl⟩;have n:vs.size=17:=(by rw[l,jB])
   have H:vs.all (·.oneCell')=true:=by
        rw[adb];intro v P;rw[l]at P;exact AL us fr want v (by simpa using P)
   have hV:=t.out.2.2.2.2;have p:wr.heap[c]? =some (.cells vs 91 (0,0)):=(by rw[l];exact My h.out.1);have hR:=(h.out.2.1 (w.heap.size+1+1) (by omega) (by omega)).trans t.out.2.2.1;have E:((patch ae prog).info? 91).map (·.size)=some vs.size:=(by rw[n];exact iA);have N:Hid (vs=eF us fr want):=l;have r:Hid (adN w wr):=h.out.2.2.1;clear l h U
   go_wp2_with(first
        |refine wpList_load_row rfl 91 _ rfl c rfl 91 vs (0,0) _ p ((ax ae prog 91).trans underlying91) rfl E ?_
        |refine wpList_store_row rfl 91 _ _ rfl (w.heap.size+1+1) vs rfl rfl 91 _ hR E (by rw[n];rfl) H ?_)
   (try simp only[Exit.inBlock,Exit.then])
   refine bodyPost_ret_by (results_cell_row rfl _ _ (w.heap.size+1+1) 91 vs (0,0) _ rfl (setRow_heap _ _ _ _ _ _ hR) ((ax ae prog 91).trans underlying91) rfl E) rfl ?_;refine⟨by rw[N.out],?_⟩;exact⟨r.out.os,r.out.tape,r.out.output,by simpa using r.out.size,λk R=>(setRow_other _ _ _ _ (by omega)).trans (r.out.block k R)⟩
def bW (S N C:Nat->Int)(j:Nat):Value:=.int .i64 (if j%3=0 then S (j/3)else if j%3=1 then N (j/3)else C (j/3))
def Bu (S N C)(i):bW S N C (i*3)=.int .i64 (S i):=by
 unfold bW;rw[show i*3%3=0 by omega,show i*3/3=i by omega];rfl
def Bt (S N C)(i):bW S N C (i*3+1)=.int .i64 (N i):=by
 unfold bW;rw[show(i*3+1)%3=1 by omega,show(i*3+1)/3=i by omega];rfl
def Br (S N C)(i):bW S N C (i*3+2)=.int .i64 (C i):=by
 unfold bW;rw[show(i*3+2)%3=2 by omega,show(i*3+2)/3=i by omega];rfl
def hR (m:cz)(j:Nat):Value:=if j<m.r then .int .i64 (m.R j)else .int .i64 (-5)
def NB (v:Value):Prop:=(∃k n,v=.int k n)\/∃b,v=.bool b
def Flat (w:World)(v:Value):Prop:=∀g,v.ownBlock=some g->∃cur e,w.heap[g]? =some (.cells cur e (0,0))/\∀u∈cur.toList,NB u
def jg {P}(w)(base)(t ty e)(i)(z)(size bytes)(C:P.underlying t=some (.slice e))(F:P.info? e=some i)(H:i.zero=some z)
 (f:i.size=size)(s:i.bytes=bytes)(A:z.cells.size=size)(D:0<size)(B:∀u∈z.cells.toList,NB u)
 (g)(y:w.heap[g]? =some (.cells #[] e (0,0)))(hb:base<=g)
 (a)(m c)(news)(hl:news.length=m*size)(l:∀j u,news[j]? =some u->w.cell? (a.add j)=some u)(I:∀u∈news,NB u)
 (G:m<=maxLen)(d:m*bytes<=140737488355328):
 ∃v' w',(Builtin.append_ #[t,t] ty #[.slice (some ⟨g,0,none⟩) 0 0,.slice (some a) m c]).run P w=.ok v' w'/\w'.ownsRow base e size v' m news/\w.grownBy w' (some g)/\Flat w' v':=by
 have K:g<w.heap.size:=(ZK.1 y).1
 have r:∀u∈news,u.oneCell'=true:=λu hu=>by
  rcases I u hu with⟨k,n,rfl⟩|⟨b,rfl⟩<;>rfl
 have q:w.ownsRow base e size (.slice (some ⟨g,0,none⟩) 0 0) 0 []:=⟨by simp,.inr ⟨g,0,#[],rfl,hb,y,ZL _,by unfold maxLen;omega,by simp,by simp⟩⟩;obtain⟨v',w',p,M,L,_⟩:=run_append_own (P:=P) w base t ty e i z size bytes C F H f s A D _ 0 [] q a m c news hl l r (by omega) (by rw[Z8];exact d) (by omega);refine⟨v',w',p,by simpa using M,L,?_⟩;subst f;subst s;have v:m<=9223372036854775807:=by simp only[maxLen]at G;omega
 by_cases hm:m=0
 .subst hm
  have J:news=[]:=List.eq_nil_of_length_eq_zero (by simpa using hl);subst J;have o:=run_append_room (P:=P) w t ty e i C F g 0 0 #[] y a 0 c [] (by simp) (λj u h=>by simp at h) (λu h=>by simp at h) (ZL _) (by simp);rw[o]at p;cases p;intro k E;cases E;refine⟨_,e,setRow_heap w g #[] _ e _ y,λu hu=>by simp at hu⟩
 .have o:=run_append_grow (P:=P) w t ty e i z C F H ⟨g,0,none⟩ 0 0 [] (by simp) (λj u h=>by simp at h) a m c news hl l (by omega) (by omega) (growslice_fits (by omega) (by rw[Z8];exact d))
  rw[o]at p;cases p;intro k E;cases E;refine⟨_,e,aae w.drew _,λu hu=>?_⟩;have hu:(u∈([]:List Value)\/u∈news)\/u∈(Builtin.zeroCells z.cells (grownCap w (0+m) 0 e-(0+m))).toList:=by simpa using hu
  rcases hu with(hu|hu)|hu
  .cases hu
  .exact I u hu
  .simp only[Builtin.zeroCells]at hu
   simp at hu;obtain⟨x,hx,rfl⟩:=hu;have hp:x%z.cells.size<z.cells.size:=Nat.mod_lt _ (by omega);refine B _ ?_;rw[getElem!_pos z.cells _ hp];exact(by simp)
def eX {P}{w}{ops}{rest}{o}{ac}{Q}(n:o.guard=none)(s x)(t)
 (A:o.op=.call {callee:=.builtin .append,args:= #[s,x],argTypes:= #[t,t]})
 (base)(e)(i)(z)(size bytes)(v:P.underlying t=some (.slice e))(B:P.info? e=some i)(r:i.zero=some z)
 (b:i.size=size)(p:i.bytes=bytes)(f:z.cells.size=size)(l:0<size)(k:∀u∈z.cells.toList,NB u)
 (g)(hs:ac.eval s=.slice (some ⟨g,0,none⟩) 0 0)(C:w.heap[g]? =some (.cells #[] e (0,0)))(hb:base<=g)
 (ad)(m c)(news)(hx:ac.eval x=.slice (some ad) m c)(hl:news.length=m*size)(d:∀j u,news[j]? =some u->w.cell? (ad.add j)=some u)(H:∀u∈news,NB u)
 (q:m<=maxLen)(a:m*bytes<=140737488355328)
 (h:∀v' w',w'.ownsRow base e size v' m news->w.grownBy w' (some g)->Flat w' v'->wpList P ops Q rest (ac.put o.dst v') w'):wpList P ops Q (o::rest) ac w:=
 wpList_plain n λ_ D=>by
  obtain⟨v',w',y,G,F,E⟩:=jg (P:=P) w base t o.type e i z size bytes v B r b p f l k g C hb ad m c news hl d H q a;unfold Oper.wp execOp;simp only[A,resolve,invoke,builtin,Sem.run_bind,Sem.run_pure,Result.andThen_ok,List.map_toArray,adr,List.map_nil,hs,hx,y];exact D _ _ (h v' w' G F E)
def Xc:∀u∈(Value.agg #[.int .i64 0,.int .i64 0,.int .i64 0]).cells.toList,NB u:=λu hu=>by
 simp[Value.cells]at hu;subst hu;exact .inl ⟨_,_,rfl⟩
def uN (b o n cap)(xs)(w)(t:n*24<=140737488355328)(hl:xs.length=n*3)(hx:∀j u,xs[j]? =some u->w.cell? ⟨b,o+j,none⟩=some u)(p:∀u∈xs,NB u):
 adO 95 #[.slice (some ⟨b,o,none⟩) n cap] w λe w'=>∃v,e=.returned v/\w'.ownsRow w.heap.size 81 3 v n xs/\Flat w' v/\adN w w':=by
 have heq:=fun(W:World)=>Lib.run_eql_slice_nil (P:=(patch ae prog)) W 22 81 (some ⟨b,o,none⟩) n cap 0 0 ((ax ae prog 22).trans underlying22)
 obtain⟨i,r,l,h,g⟩:=info_parts Tryz.info22;have hu:=((ax ae prog 22).trans underlying22);have d:∀j u,xs[j]? =some u->(w.alloc (.cells #[] 81)).cell? ((⟨b,o,none⟩:Addr).add j)=some u:=λj u m=>by rw[Addr.add_lit,World.cell?_alloc_past _ _ _ (aan (hx j u m))];exact hx j u m
 have s:Hid (∀j u,xs[j]? =some u->(w.alloc (.cells #[] 81)).cell? ((⟨b,o,none⟩:Addr).add j)=some u):=d;have H1:Hid (∀u∈xs,NB u):=p;clear hx d p
 go_enter (pf func95 (by rfl)),ntmps95
 go_wp2_with(at_builtin;go_loud(refine eX rfl _ _ _ rfl w.heap.size 81 i _ 3 24 hu r l h g (by rfl) (by omega) Xc w.heap.size (by rfl) (aae _ _) (ZL _) ⟨b,o,none⟩ n cap xs (by rfl) hl s.out H1.out (by unfold maxLen;omega) (by omega) ?_);intro v' w1 f a c);go_ret;exact⟨_,rfl,f,c,((aab _ _).alloc (ZL _) _).grown a (by simp) (λk q=>by cases q;exact ZL _)⟩
def aj {w:World}{base}{e}{size}{v}{n}{xs}(h:w.ownsRow base e size v n xs):∃ao cap,v=.slice ao n cap:=by
 rcases h.2 with⟨b,rfl⟩|⟨g,cap,cur,a,_⟩
 .exact⟨_,_,b⟩
 .exact⟨_,_,a⟩
def au {w w'}{base}{e}{size}{v}{n}{xs}(h:w.ownsRow base e size v n xs)(hb:adN w w'):w'.ownsRow base e size v n xs:=by
 refine⟨h.1,?_⟩;rcases h.2 with d|⟨g,cap,cur,b,c,a,r⟩
 .exact .inl d
 .exact .inr ⟨g,cap,cur,b,c,by rw[hb.block g (ZK.1 a).1];exact a,r⟩
def aB {w:World}{base a}{e}{size}{v}{n}{xs}(h:w.ownsRow base e size v n xs)(hb:a<=base):w.ownsRow a e size v n xs:=by
 refine⟨h.1,?_⟩;rcases h.2 with d|⟨g,cap,cur,b,c,r⟩
 .exact .inl d
 .exact .inr ⟨g,cap,cur,b,ZP hb c,r⟩
def oq (m:cz):List Value:=(List.range (m.n*3)).map (bW m.S m.N m.C)
def vk (m:cz):List Value:=(List.range m.r).map (λj=>.int .i64 (m.R j))
def Ints (w:World)(v:Value)(n:Nat)(R:Nat->Int):Prop:=∃ao cap,v=.slice ao n cap/\n<=cap/\n<=9223372036854775807/\(0<n->∃b o,ao=some ⟨b,o,none⟩/\gM w b o n R)
def Ints.ext {w w'}{v}{n}{R}(h:Ints w v n R)(hb:adN w w'):Ints w' v n R:=by
 obtain⟨ao,cap,rfl,e,d,c⟩:=h;refine⟨ao,cap,rfl,e,d,λf=>?_⟩;obtain⟨b,o,rfl,a⟩:=c f;exact⟨b,o,rfl,a.ext hb⟩
def aaJ (n:Nat)(R:Nat->Int)(a:Nat)(b:Nat->Int):Prop:=n=a/\∀i,i<n->R i=b i
def sS (v)(n)(R)(x)(w)(h:Ints w v n R):
 adO 166 #[v,.int .i64 x] w λe w'=>(∃q:Int,e=.returned (.int .i64 q)/\(0<=q↔among R n x))/\w'=w:=by
 obtain⟨ao,cap,rfl,hc,hm,g⟩:=h
 go_enter (pf func166 (by rfl)),ntmps166
 go_wp2_with fail
 go_loop [8] (λi=>∃k:Nat,k<=n/\i=.int .i64 k/\∀j,j<k->R j≠x) (λi=>n-(intOf i).toNat)
 case atStart=>exact⟨0,by omega,rfl,λj f=>absurd f (ZV _)⟩
 case round=>
  obtain⟨k,s,rfl,a⟩:=hrel;have m:Hid (∀j,j<k->R j≠x):=a;clear a
  by_cases c:k<n
  .obtain⟨b,o,rfl,d⟩:=g (by omega)
   have u0:=d k c;have r:(k:Int)<n:=(by omega);clear d g
   by_cases he:x=R k
   .have l:Hid (x=R k):=he
    have p:(x==R k)=true:=(by simp[he]);clear he;go_wp2_with fail;go_ret;exact⟨⟨k,rfl,by simp;exact⟨k,c,l.out.symm⟩⟩,rfl⟩
   .have l:Hid (x≠R k):=he
    have p:(x==R k)=false:=(by simp[he]);clear he;go_wp2_with fail;go_round
    case rel=>exact⟨k+1,by omega,by go_num,λj f=>by
     rcases ac7.1 f with h|h
     .exact m.out j h
     .subst h;exact λe=>l.out e.symm⟩
    case measure=>simp[intOf];omega
  .have:k=n:=by omega
   subst this;clear g;go_wp2_with fail;go_ret;exact⟨⟨-1,rfl,by simp;exact fun⟨i,d,he⟩=>m.out i d he⟩,rfl⟩
def fT (v)(n)(R)(x)(w)(h:Ints w v n R):
 adO 129 #[v,.int .i64 x] w λe w'=>lg (among R n x) e/\w'=w:=by
 go_enter (pf func129 (by rfl)),ntmps129
 go_wp2_with(go_at_call 166;refine(sS v n R x _ h).mono ?_;rintro e w1 ⟨⟨q,rfl,a⟩,rfl⟩);go_ret;exact⟨⟨_,rfl,by simpa using a⟩,rfl⟩
def lY (m:cz)(i:Nat):Bool:=(List.range m.r).any (λj=>m.R j==(i:Int))
def lz (m)(i):lY m i=true↔among m.R m.r (i:Int):=by
 unfold lY among;rw[List.any_eq_true];constructor
 .rintro⟨j,a,he⟩
  exact⟨j,Z9.1 a,by simpa using he⟩
 .rintro⟨j,a,he⟩
  exact⟨j,Z9.2 a,by simpa using he⟩
def bS (m:cz)(k:Nat):List Nat:=(List.range k).filter (λi=> !lY m i)
def jc (m:cz)(k:Nat):List Value:=(bS m k).map (λi:Nat=>Value.int .i64 (i:Int))
def oQ {m}{k}(h:lY m k=false):bS m (k+1)=bS m k++[k]:=by
 unfold bS;rw[Z6,aaj];simp[h]
def mh {m}{k}(h:lY m k=true):bS m (k+1)=bS m k:=by
 unfold bS;rw[Z6,aaj];simp[h]
def rD (m)(k):(bS m k).length<=k:=by
 unfold bS;exact ZP (aai _ _) (by simp)
def ny (m)(vc vr)(y)(x)(w)(C:vc=.slice y m.n x)(Q:m.n<=24)(G:Ints w vr m.r m.R):
 adO 117 #[.agg #[vc,vr,.int .i64 m.p]] w λe w'=>∃v,e=.returned v/\w'.ownsRow w.heap.size 3 1 v (bS m m.n).length (jc m m.n)/\adN w w':=by
 subst C;have o:=G;obtain⟨ra,rc,rfl,_⟩:=G;obtain⟨i0,M,B,A,z⟩:=info_parts Tryz.gQ;have hu:=((ax ae prog 23).trans underlying23);have I:Hid (Ints w (.slice ra m.r rc) m.r m.R):=o;clear o;obtain⟨f,d⟩:∃f,f=w.alloc (.cells #[.slice y m.n x,.slice ra m.r rc,.int .i64 m.p] 25):=⟨_,rfl⟩;have l:f.heap.size=w.heap.size+1:=by rw[d];simp
 have t:adN w f:=by rw[d];exact(aab _ _).alloc (ZL _) _
 have F:f.heap[w.heap.size]? =some (.cells #[.slice y m.n x,.slice ra m.r rc,.int .i64 m.p] 25 (0,0)):=by rw[d];exact aae _ _
 have D:Hid (adN w f/\f.heap[w.heap.size]? =some (.cells #[.slice y m.n x,.slice ra m.r rc,.int .i64 m.p] 25 (0,0))/\f.heap.size=w.heap.size+1):=⟨t,F,l⟩
 go_enter (pf func117 (by rfl)),ntmps117
 go_wp2_with fail;rw[<-d];clear d t F l
 go_loopw [3,8] (λv i wr=>∃k:Nat,k<=m.n/\i=.int .i64 k/\wr.ownsRow (w.heap.size+1) 3 1 v (bS m k).length (jc m k)/\Below (w.heap.size+1) f wr) (λ_ i _=>m.n-(intOf i).toNat)
 case atStart=>exact⟨0,by omega,rfl,aag _ _ _ _,aab _ _⟩
 case round=>
  obtain⟨k,S,rfl,b,hb⟩:=hrel;have P:w.heap.size+1<=wr.heap.size:=by have:=hb.size;have:=D.out.2.2;omega
  have E:=(hb.block w.heap.size (by omega)).trans D.out.2.1;have s:adN w wr:=D.out.1.trans (hb.mono (by omega));have g:Hid (wr.ownsRow (w.heap.size+1) 3 1 u3 (bS m k).length (jc m k)/\Below (w.heap.size+1) f wr/\adN w wr):=⟨b,hb,s⟩;obtain⟨O,J⟩:=blk E;have hlen:=rD m k;clear E hb s b
  by_cases L:k<m.n
  .by_cases a:lY m k=true
   .go_wp2_with(go_at_call 129;refine(fT (.slice ra m.r rc) m.r m.R k _ (I.out.ext g.out.2.2)).mono ?_;rintro e w1 ⟨he,rfl⟩;obtain rfl:=he.fP ((lz m k).1 a);clear he)
    go_roundw
    case rel=>exact⟨k+1,by omega,by go_num,by unfold jc;rw[mh a];exact g.out.1,g.out.2.1⟩
    case measure=>simp[intOf];omega
   .have j:lY m k=false:=by simpa using a
    have N:Hid (¬among m.R m.r (k:Int)):=λh=>a ((lz m k).2 h)
    clear a
    go_wp2_with(first
     |(go_at_call 129;refine(fT (.slice ra m.r rc) m.r m.R k _ (I.out.ext g.out.2.2)).mono ?_;rintro e w1 ⟨he,hw⟩;obtain rfl:=hw.symm;obtain rfl:=he.gJ N.out;clear he)
     |(at_builtin;refine adJ _ rfl _ _ _ rfl (w.heap.size+1) 3 i0 _ 1 8 hu M B A z rfl (by omega) _ (bS m k).length (jc m k) rfl (g.out.1.alloc _) ⟨wr.heap.size,0,none⟩ 1 1 [.int .i64 k] rfl rfl (adM _ _ _) (by intro u hu;simp at hu;subst hu;rfl) (by unfold maxLen;omega) (by omega) (by simp;omega) ?_;intro v' w1 b c _))
    have H:Hid (w1.ownsRow (w.heap.size+1) 3 1 v' (bS m (k+1)).length (jc m (k+1))/\Below (w.heap.size+1) f w1):=by
     refine⟨?_,(g.out.2.1.alloc (by omega) _).grown c (by simp;omega) (λq K=>(g.out.1.lt q K).1)⟩;unfold jc;rw[oQ j];simpa[jc] using b
    clear b c;go_wp2_with fail;go_roundw
    case rel=>exact⟨k+1,by omega,by go_num,H.out.1,H.out.2⟩
    case measure=>simp[intOf];omega
  .have:k=m.n:=by omega
   rw[this]at g;go_wp2_with fail;go_ret;exact⟨_,rfl,aB g.out.1 (by omega),g.out.2.2⟩
def av {p}(h:p):Hid p:=h
end Z
section
open Go
def Uu (Z:Nat->Prop):Rel True:=λb c=>b=c/\Z b
structure BD where
 n:Nat
 N:Nat->Int
 r:Nat
 R:Nat->Int
 dn:Nat->Nat
 dN:Nat->Nat->Int
 dH:Nat->Nat->Bool
 bn:Nat
 oN:Nat->Nat->Nat
 oR:Nat->Nat->Nat->Int
structure BD.ok (D:BD):Prop where
 qF:D.n<=24
 nodes:∀i,i<D.n->0<=D.N i/\D.N i<4
 res:D.r<=24
 dC:∀k,k<3->D.dn k<=16/\∀i,i<D.dn k->0<=D.dN k i/\D.dN k i<4
def bZ (w:World)(Z:Nat->Prop)(v:Value)(n:Nat)(cells:Nat->Nat->World->Prop):Prop:=∃ao cap,v=.slice ao n cap/\n<=cap/\n<=1000000/\(0<n->∃b o,ao=some ⟨b,o,none⟩/\cells b o w)/\∀x,ao=some x->Z x.block\/(n=0/\cap=0)
def Xb (D:BD)(b o:Nat)(w:World):Prop:=∀i,i<D.n->w.cell? ⟨b,o+3*i+1,none⟩=some (.int .i64 (D.N i))
def Tn (D:BD)(b o:Nat)(w:World):Prop:=∀i,i<D.r->w.cell? ⟨b,o+i,none⟩=some (.int .i64 (D.R i))
def FN (D:BD)(k:Nat)(b o:Nat)(w:World):Prop:=∀i,i<D.dn k->w.cell? ⟨b,o+2*i,none⟩=some (.int .i64 (D.dN k i))/\w.cell? ⟨b,o+2*i+1,none⟩=some (.bool (D.dH k i))
def Rk (D:BD)(i q:Nat)(b o:Nat)(w:World):Prop:=∀j,j<D.oN i q->w.cell? ⟨b,o+j,none⟩=some (.int .i64 (D.oR i q j))
def LJ (D:BD)(Z:Nat->Prop)(b o:Nat)(w:World):Prop:=∀i,i<D.bn->(∃s,w.cell? ⟨b,o+5*i,none⟩=some (.string s))/\∀q,q<4->∃v,w.cell? ⟨b,o+5*i+1+q,none⟩=some v/\bZ w Z v (D.oN i q) (Rk D i q)
structure bM (w:World)(Z:Nat->Prop)(bb:Nat)(D:BD):Prop where
 dA:∃v,w.cell? ⟨bb,0,none⟩=some v/\bZ w Z v D.n (Xb D)
 res:∃v,w.cell? ⟨bb,1,none⟩=some v/\bZ w Z v D.r (Tn D)
 sI:∃p,w.cell? ⟨bb,2,none⟩=some (.int .i64 p)
 dC:∀k,k<3->∃v,w.cell? ⟨bb,3+k,none⟩=some v/\bZ w Z v (D.dn k) (FN D k)
 boxes:∃v,w.cell? ⟨bb,6,none⟩=some v/\bZ w Z v D.bn (LJ D Z)
abbrev aW (w:World)(bb:Nat)(D:BD):Prop:=bM w (λ_=>True) bb D
def oK (Z:Nat->Prop):Value->Prop
 |.int .u8 _=>False
 |.int _ _|.bool _|.string _|.pointer none|.slice none _ _=>True
 |.pointer (some a)=>Z a.block
 |.slice (some a) l c=>Z a.block\/(l=0/\c=0)
 |_=>False
section
variable {K:Nat->Prop}{st:Prop}{p:Rel st}{w u:World}{G:Nat}
def bZ.simple {Z}{v}{n}{cells}(h:bZ w Z v n cells):oK Z v:=by
 obtain⟨ao,cap,rfl,e,d,c,b⟩:=h;cases ao with
 |none=>trivial
 |some a=>exact b a rfl
def bZ.move {Z Z'}{q:Rel st}{v x}{n}{cells d}(h:bZ w Z v n cells)(r:VR q v x)(t:∀b c,q b c->Z b->Z' c)(hc:∀b c o,q b c->Z b->cells b o w->d c o u):bZ u Z' x n d:=by
 obtain⟨ao,cap,rfl,A,z,y,m⟩:=h;obtain⟨l,rfl,f⟩:=r.bD;refine⟨l,cap,rfl,A,z,λs=>?_,λx hx=>?_⟩
 .obtain⟨b,o,rfl,hb⟩:=y s
  obtain⟨a',rfl,k⟩:=f.aO;replace k:=k.resolve_right (λh=>by omega);obtain⟨p,B,s'⟩:=a';obtain⟨j,i,g⟩:=k;simp only at j i g;subst i g;exact⟨p,o,rfl,hc b p o j ((m _ rfl).resolve_right λh=>by omega) hb⟩
 .subst hx
  cases ao with
  |none=>exact f.elim
  |some a=>
   obtain⟨a',e,f⟩:=f.aO;cases e;rcases f with f|f
   .exact(m _ rfl).imp (λh=>t _ _ f.1 h) id
   .exact .inr f.1
def bZ.mono {Z Z'}{v}{n}{cells a}(h:bZ w Z v n cells)(d:∀b,Z b->Z' b)(hc:∀b o,cells b o w->a b o u):bZ u Z' v n a:=by
 obtain⟨ao,cap,e,j,i,g,f⟩:=h;exact⟨ao,cap,e,j,i,λc=>let ⟨b,o,x,y⟩:=g c;⟨b,o,x,hc b o y⟩,λx hx=>(f x hx).imp (d _) id⟩
def bM.move {Z Z'}{q:Rel st}{bb p}{D}(h:bM w Z bb D)(hcell:∀b c i v,q b c->Z b->w.cell? ⟨b,i,none⟩=some v->oK Z v->∃x,u.cell? ⟨c,i,none⟩=some x/\VR q v x)
 (A:∀b c,q b c->Z b->Z' c)(hp:q bb p)(r:Z bb):bM u Z' p D:=by
 have t:∀b c i (n:Int),q b c->Z b->w.cell? ⟨b,i,none⟩=some (.int .i64 n)->u.cell? ⟨c,i,none⟩=some (.int .i64 n):=λb c i n a hb hc=>by
  obtain⟨x,e,d⟩:=hcell b c i _ a hb hc trivial;rw[d.bT]at e;exact e
 have C:∀b c i n,q b c->Z b->w.cell? ⟨b,i,none⟩=some (.bool n)->u.cell? ⟨c,i,none⟩=some (.bool n):=λb c i n a hb hc=>by
  obtain⟨x,e,d⟩:=hcell b c i _ a hb hc trivial;rw[d.j3]at e;exact e
 refine⟨?_,?_,?_,λk F=>?_,?_⟩
 .obtain⟨v,e,d⟩:=h.dA
  obtain⟨x,l,g⟩:=hcell bb p 0 v hp r e d.simple;exact⟨x,l,d.move g A λb c o a hb f i hl=>t _ _ _ _ a hb (f i hl)⟩
 .obtain⟨v,e,d⟩:=h.res
  obtain⟨x,l,g⟩:=hcell bb p 1 v hp r e d.simple;exact⟨x,l,d.move g A λb c o a hb f i hl=>t _ _ _ _ a hb (f i hl)⟩
 .obtain⟨n,e⟩:=h.sI
  exact⟨n,t _ _ _ _ hp r e⟩
 .obtain⟨v,e,d⟩:=h.dC k F
  obtain⟨x,l,g⟩:=hcell bb p (3+k) v hp r e d.simple;exact⟨x,l,d.move g A λb c o a hb f i hl=>⟨t _ _ _ _ a hb (f i hl).1,C _ _ _ _ a hb (f i hl).2⟩⟩
 .obtain⟨v,e,d⟩:=h.boxes
  obtain⟨x,l,g⟩:=hcell bb p 6 v hp r e d.simple;refine⟨x,l,d.move g A λb c o a hb f i hl=>?_⟩;obtain⟨⟨s,f1⟩,f2⟩:=f i hl;refine⟨?_,λj G=>?_⟩
  .obtain⟨y,g1,g2⟩:=hcell b c _ _ a hb f1 trivial
   rw[g2.bO]at g1;exact⟨s,g1⟩
  .obtain⟨v',f3,f4⟩:=f2 j G
   obtain⟨y,g1,g2⟩:=hcell b c _ _ a hb f3 f4.simple;exact⟨y,g1,f4.move g2 A λJ I H z E B m hm=>t _ _ _ _ z E (B m hm)⟩
def bM.same {Z Z'}{bb}{D}(h:bM w Z bb D)(g:∀b,Z b->Z' b)(hc:∀a v,w.cell? a=some v->u.cell? a=some v):bM u Z' bb D:=by
 refine⟨?_,?_,?_,λk m=>?_,?_⟩
 .obtain⟨v,d,f⟩:=h.dA
  exact⟨v,hc _ _ d,f.mono g λb o c i e=>hc _ _ (c i e)⟩
 .obtain⟨v,d,f⟩:=h.res
  exact⟨v,hc _ _ d,f.mono g λb o c i e=>hc _ _ (c i e)⟩
 .obtain⟨q,d⟩:=h.sI
  exact⟨q,hc _ _ d⟩
 .obtain⟨v,d,f⟩:=h.dC k m
  exact⟨v,hc _ _ d,f.mono g λb o c i e=>⟨hc _ _ (c i e).1,hc _ _ (c i e).2⟩⟩
 .obtain⟨v,d,f⟩:=h.boxes
  refine⟨v,hc _ _ d,f.mono g λb o c i e=>?_⟩;obtain⟨⟨s,f1⟩,f2⟩:=c i e;refine⟨⟨s,hc _ _ f1⟩,λq l=>?_⟩;obtain⟨v',f3,f4⟩:=f2 q l;exact⟨v',hc _ _ f3,f4.mono g λb o c j n=>hc _ _ (c j n)⟩
def bM.any {Z}{bb}{D}(h:bM w Z bb D):aW w bb D:=h.same (λ_ _=>trivial) λ_ _ h=>h
end
def vK {st}{p:Rel st}:∀v:Value,∃v',VR p v' v/\Ae v'
 |.bool b=>⟨_,VR.bool b,trivial⟩
 |.int k n=>by cases k<;>first|exact⟨_,VR.int _ n,trivial⟩|exact⟨.nilFunc,VR.gU rfl,trivial⟩
 |.string s=>⟨_,VR.string s,trivial⟩
 |.nilIface=>⟨.nilIface,VR.nilIface,trivial⟩
 |.agg cs=>by
  have h:∀i:Nat,∃v',∀x,cs[i]? =some x->VR p v' x:=λi=>by
   by_cases a:i<cs.size
   .obtain⟨v',c,_⟩:=vK (p:=p) cs[i]
    refine⟨v',λx hx=>?_⟩;rw[ZM a]at hx;cases hx;exact c
   .exact⟨undef,λx hx=>by rw[Array.getElem?_eq_none (by omega)]at hx;cases hx⟩
  exact⟨.agg ((Array.range cs.size).map λi=>(h i).choose),VR.agg ⟨by simp,λi x y hx hy=>by
   rw[ac6]at hx;cases a:(Array.range cs.size)[i]? with
   |none=>rw[a]at hx;cases hx
   |some k=>
    rw[a]at hx;simp only[ads,ac2]at hx
    have d:k=i:=by
       obtain⟨f,e⟩:=ZK.1 a;simpa using e.symm
    subst d;subst hx;exact(h k).choose_spec y hy⟩,trivial⟩
 |.tuple cs=>by
  have h:∀i:Nat,∃v',∀x,cs[i]? =some x->VR p v' x:=λi=>by
   by_cases a:i<cs.size
   .obtain⟨v',c,_⟩:=vK (p:=p) cs[i]
    refine⟨v',λx hx=>?_⟩;rw[ZM a]at hx;cases hx;exact c
   .exact⟨undef,λx hx=>by rw[Array.getElem?_eq_none (by omega)]at hx;cases hx⟩
  exact⟨.tuple ((Array.range cs.size).map λi=>(h i).choose),VR.tuple ⟨by simp,λi x y hx hy=>by
   rw[ac6]at hx;cases a:(Array.range cs.size)[i]? with
   |none=>rw[a]at hx;cases hx
   |some k=>
    rw[a]at hx;simp only[ads,ac2]at hx
    have d:k=i:=by
       obtain⟨f,e⟩:=ZK.1 a;simpa using e.symm
    subst d;subst hx;exact(h k).choose_spec y hy⟩,trivial⟩
 |.float _ _=>⟨.nilFunc,VR.gU rfl,trivial⟩
 |.complex _ _ _=>⟨.nilFunc,VR.gU rfl,trivial⟩
 |.pointer _=>⟨.nilFunc,VR.gU rfl,trivial⟩
 |.slice _ _ _=>⟨.nilFunc,VR.gU rfl,trivial⟩
 |.map _=>⟨.nilFunc,VR.gU rfl,trivial⟩
 |.chan _=>⟨.nilFunc,VR.gU rfl,trivial⟩
 |.func _ _ _=>⟨.nilFunc,VR.gU rfl,trivial⟩
 |.nilFunc=>⟨.nilFunc,VR.gU rfl,trivial⟩
 |.iface _ _=>⟨.nilFunc,VR.gU rfl,trivial⟩
def tX (w:World)(Z:Nat->Prop):Prop:=∀b,Z b->∃xs e,w.heap[b]? =some (.cells xs e)
def Eo {st}{p:Rel st}{Z}{v u}(h:VR p v u)(hs:oK Z v):Ae u:=by
 cases v with
 |int k n=>obtain rfl:=h.bT;cases k<;>first|exact hs.elim|trivial
 |bool b=>obtain rfl:=h.j3;trivial
 |string b=>obtain rfl:=h.bO;trivial
 |pointer o=>obtain⟨a,rfl,d⟩:=h.bV;trivial
 |slice o l c=>obtain⟨a,rfl,d⟩:=h.bD;trivial
 |_=>exact hs.elim
def En {st zG}(e:zG){p:Rel st}{q:Rel zG}{Z}{v u}(h:VR p v u)(hs:oK Z v)(g:∀b c,p b c->Z b->q c c):VR q u u:=by
 cases v with
 |int k n=>obtain rfl:=h.bT;exact VR.int _ _
 |bool b=>obtain rfl:=h.j3;exact VR.bool _
 |string b=>obtain rfl:=h.bO;exact VR.string _
 |pointer o=>
  obtain⟨i,rfl,f⟩:=h.bV;cases o with
  |none=>obtain rfl:=f.aV;exact VR.ptr trivial
  |some a=>
   obtain⟨a',rfl,d⟩:=f.aO;exact VR.ptr ⟨g _ _ d.1 hs,rfl,rfl⟩
 |slice o l c=>
  obtain⟨i,rfl,f⟩:=h.bD;cases o with
  |none=>obtain rfl:=f.aV;exact VR.slice trivial
  |some a=>
   obtain⟨a',rfl,d⟩:=f.aO;rcases d with d|d
   .rcases hs with hs|hs
    .exact VR.kJ (.inl ⟨g _ _ d.1 hs,rfl,rfl⟩)
    .exact VR.kJ (.inr ⟨hs,e⟩)
   .exact VR.kJ (.inr ⟨d.1,e⟩)
 |_=>exact hs.elim
def Fv (K:Nat->Prop)(ok:Nat->Nat->Prop)(u:World):
 ∃(b:World) (a:Value->Value),(∀v,VR (st:=True) (Uu λ_=>False) (a v) v/\Ae (a v))/\b.heap.size=u.heap.size/\(∀c ys e g,K c->u.heap[c]? =some (.cells ys e g)->∃xs,b.heap[c]? =some (.cells xs e (0,max ys.size g.2))/\xs.size=ys.size/\∀(i:Nat) y,ys[i]? =some y->(ok c i->xs[i]? =some y)/\(¬ok c i->xs[i]? =some (a y)))/\∀c,¬K c->b.heap[c]? =u.heap[c]?:=by
 classical
 obtain⟨a,d⟩:∃a:Value->Value,∀v,VR (st:=True) (Uu λ_=>False) (a v) v/\Ae (a v):=⟨λv=>(vK v).choose,λv=>(vK v).choose_spec⟩;refine⟨{u with heap:=u.heap.mapIdx λc o=>if K c then(match o with|.cells ys e g=>.cells (ys.mapIdx λi y=>if ok c i then y else a y) e (0,max ys.size g.2)|o=>o)else o},a,d,by simp,λc ys e g hc hu=>?_,λc hc=>?_⟩
 .refine⟨ys.mapIdx λi y=>if ok c i then y else a y,?_,by simp,λi y hy=>⟨λh=>?_,λh=>?_⟩⟩
  .show(u.heap.mapIdx _)[c]? =_
   rw[Array.getElem?_mapIdx,hu];simp[hc]
  .rw[Array.getElem?_mapIdx,hy];simp[h]
  .rw[Array.getElem?_mapIdx,hy];simp[h]
 .show(u.heap.mapIdx _)[c]? =_
  rw[Array.getElem?_mapIdx];cases u.heap[c]? with
  |none=>rfl
  |some o=>simp[hc]
def lL {w:World}{c i}{xs}{e}{g}(h:w.heap[c]? =some (.cells xs e g)):w.cell? ⟨c,i,none⟩=xs[i]?:=by
 unfold World.cell?;rw[h];simp
def DY {G}{K0}{st}{p:Rel st}{w u}(hw:WR G K0 p w u){k}(hz:tX w k){B B' bb o r}{x y}{t1 t2 t3}(hB:p B B')(V:k B){D}(hD:bM w k B D)
 (O:u.heap[bb]? =some (.cells #[.pointer (some ⟨B',0,none⟩)] t1))(R:u.heap[o]? =some (.cells #[.int .i64 x] t2))(S:u.heap[r]? =some (.cells #[.int .i64 y] t3))
 (hp:∀b,¬p b bb)(hr:∀b,¬p b o)(hn:∀b,¬p b r)(α:bb≠o)(β:bb≠r):
 ∃A,WR G (λc=>(∃b,p b c/\k b)\/c=bb) (Uu λc=>((∃b,p b c/\k b)\/c=bb)\/c=o\/c=r) A u/\aW A B' D/\A.cell? ⟨bb,0,none⟩=some (.pointer (some ⟨B',0,none⟩))/\A.cell? ⟨o,0,none⟩=some (.int .i64 x)/\A.cell? ⟨r,0,none⟩=some (.int .i64 y):=by
 have J:∀b c,p b c->k b->∃xs ys e f,w.heap[b]? =some (.cells xs e)/\u.heap[c]? =some (.cells ys e f)/\aF (VR p) xs ys:=λb c j hb=>by
  obtain⟨xs,e,g1⟩:=hz b hb;rcases hw.rows b c j with⟨γ,ys,e',f,g,m1,m2,m3,m4,m5⟩|⟨a,a',l,m1,_⟩|⟨a,a',l,m1,_⟩
  .rw[g1]at m1
   simp only[ac2,Obj.cells.injEq]at m1;obtain⟨rfl,rfl,rfl⟩:=m1;exact⟨_,ys,_,g,g1,m2,m3⟩
  .rw[g1]at m1;cases m1
  .rw[g1]at m1;cases m1
 obtain⟨A,jk,T,hs,X,M⟩:=Fv (λc=>(∃b,p b c/\k b)\/c=bb) (λc i=>∀b v,p b c->k b->w.cell? ⟨b,i,none⟩=some v->oK k v) u
 have W:∀c,(c=o\/c=r)->¬((∃b,p b c/\k b)\/c=bb):=λc hc hx=>by
  rcases hc with rfl|rfl
  .rcases hx with⟨b,d,_⟩|h
   .exact hr b d
   .exact α h.symm
  .rcases hx with⟨b,d,_⟩|h
   .exact hn b d
   .exact β h.symm
 refine⟨A,⟨λb c s c' h h'=>?_,λb c h=>?_,λc hc=>⟨rfl,.inl hc⟩,λb c h Y=>absurd h.1 Y,⟨by rw[hs];exact hw.BB.2,hw.BB.2⟩⟩,?_,?_,?_,?_⟩
 .obtain⟨rfl,_⟩:=h
  obtain⟨rfl,_⟩:=h';exact Iff.rfl
 .obtain⟨rfl,hc⟩:=h
  rcases hc with hc|hc
  .rcases hc with⟨b0,I,F⟩|rfl
   .obtain⟨xs,ys,e,f,g1,g2,g3⟩:=J b0 b I F
    obtain⟨zs,k1,C,K⟩:=X b ys e f (.inl ⟨b0,I,F⟩) g2
    have key:∀(i:Nat) z P,zs[i]? =some z->ys[i]? =some P->VR (st:=True) (Uu λc=>((∃b,p b c/\k b)\/c=bb)\/c=o\/c=r) z P/\Ae z:=λi z P E L=>by
     obtain⟨q1,q2⟩:=K i P L;have N:i<ys.size:=(ZK.1 L).1;have U:i<xs.size:=(by rw[g3.1];exact N)
     by_cases m:∀s v,p s b->k s->w.cell? ⟨s,i,none⟩=some v->oK k v
     .rw[q1 m]at E
      cases E;have n:=g3.2 i xs[i] _ (ZM U) L;have H:=m b0 xs[i] I F (by rw[lL g1];exact ZM U);exact⟨En trivial (p:=p) (Z:=k) n H λb c j hZ=>⟨rfl,.inl (.inl ⟨b,j,hZ⟩)⟩,Eo (p:=p) (Z:=k) n H⟩
     .rw[q2 m]at E
      cases E;exact⟨(T _).1.mono λb c h=>h.2.elim,(T _).2⟩
    refine .inl ⟨zs,ys,e,_,f,k1,g2,⟨C,λi z P d h2=>(key i z P d h2).1⟩,λ_=>⟨rfl,by rw[C];exact Nat.le_max_left _ _,Nat.le_max_right _ _,λi z d=>?_⟩,λhx=>absurd (.inl ⟨b0,I,F⟩) hx⟩;have N:i<ys.size:=(by rw[<-C];exact(ZK.1 d).1);exact(key i z _ d (ZM N)).2
   .obtain⟨zs,k1,C,K⟩:=X b _ _ _ (.inr rfl) O
    have one:∀(i:Nat) (v:Value),zs[i]? =some v->i=0/\v=.pointer (some ⟨B',0,none⟩):=λi v n=>by
     have N:i=0:=by
         have:=(ZK.1 n).1;rw[C]at this;simp at this;exact this
     subst N;have:=(K 0 (.pointer (some ⟨B',0,none⟩)) (by simp)).1 λs v d _ _=>absurd d (hp s)
     rw[n]at this;exact⟨rfl,by simpa using this⟩
    refine .inl ⟨zs,_,_,_,_,k1,O,⟨C,λi v u' n hu=>?_⟩,λ_=>⟨rfl,by rw[C];exact Nat.le_max_left _ _,Nat.le_max_right _ _,λi v n=>?_⟩,λhx=>absurd (.inr rfl) hx⟩
    .obtain⟨rfl,rfl⟩:=one i v n
     have:u'=.pointer (some ⟨B',0,none⟩):=by simpa using hu.symm
     subst this;exact VR.ptr ⟨⟨rfl,.inl (.inl ⟨B,hB,V⟩)⟩,rfl,rfl⟩
    .obtain⟨rfl,rfl⟩:=one i v n
     trivial
  .have d:=M b (W b hc)
   have key:∀z t,u.heap[b]? =some (.cells #[.int .i64 z] t)->Qn (λc=>(∃b,p b c/\k b)\/c=bb) (Uu λc=>((∃b,p b c/\k b)\/c=bb)\/c=o\/c=r) A u b b:=λz t hu=>by
        rw[hu]at d;refine .inl ⟨_,_,_,_,_,d,hu,⟨rfl,λi v u' n Q=>?_⟩,λhx=>absurd hx (W b hc),λ_=>rfl⟩;rw[n]at Q;obtain rfl:=adn Q
        have N:i=0:=by
         have:=(ZK.1 n).1;simp at this;exact this
        subst N;have:v=.int .i64 z:=by simpa using n.symm
        subst this;exact VR.int _ _
   rcases hc with rfl|rfl
   .exact key x t2 R
   .exact key y t3 S
 .refine(hD.move (u:=A) (q:=p) (Z':=λ_=>True) (λb c i v j hb hc H=>?_) (λ_ _ _ _=>trivial) hB V)
  obtain⟨x',d,h2⟩:=hw.cell (a:=⟨b,i,none⟩) (b:=⟨c,i,none⟩) ⟨j,rfl,rfl⟩ hc;refine⟨x',?_,h2⟩;obtain⟨xs,ys,e,f,g1,g2,g3⟩:=J b c j hb;obtain⟨zs,k1,C,K⟩:=X c ys e f (.inl ⟨b,j,hb⟩) g2;rw[lL g2]at d;rw[lL k1];refine(K i x' d).1 λs v' h3 _ h5=>?_
  obtain rfl:=(hw.fit s c b c h3 j).2 rfl;rw[hc]at h5;cases h5;exact H
 .obtain⟨zs,k1,C,K⟩:=X bb _ _ _ (.inr rfl) O
  rw[lL k1];exact(K 0 _ (by simp)).1 λs v d _ _=>absurd d (hp s)
 .rw[lL ((M o (W o (.inl rfl))).trans R)];rfl
 .rw[lL ((M r (W r (.inr rfl))).trans S)];rfl
end
namespace Z
open Go.RowKit
attribute [local go_sem ↓] Go.wp_at_zero Go.wp_at_succ
attribute [local go_sem] After.cell After.frozen After.const
def OC (D:BD)(p:Int):cz:=⟨none,0,0,D.n,D.n,λ_=>0,D.N,λ_=>0,none,0,0,D.r,D.r,D.R,p⟩
def dL (D:BD)(r:Nat):List Nat:=if r=0 then bS (OC D 0) D.n else(List.range (D.dn (r-1))).filter (λi=>D.dH (r-1) i)
def dX (D:BD)(k i:Nat):List Nat:=(List.range i).filter (λj=>D.dH k j)
def aT (l:List Nat):List Value:=l.map λi:Nat=>.int .i64 (i:Int)
def bG (D:BD)(r i:Nat):Int:=if r=0 then D.N i else D.dN (r-1) i
def dz (D:BD)(r:Nat)(l:List Nat)(k:Nat):Int:=(l.countP (λi=>bG D r i==(k:Int)):Nat)
def yS {D}{k i}(h:D.dH k i=true):dX D k (i+1)=dX D k i++[i]:=by
 unfold dX;rw[Z6,aaj];simp[h]
def tJ {D}{k i}(h:D.dH k i=false):dX D k (i+1)=dX D k i:=by
 unfold dX;rw[Z6,aaj];simp[h]
def Dq (D)(k i):(dX D k i).length<=i:=by
 unfold dX;exact ZP (aai _ _) (by simp)
def keeps {w w'}(h:adN w w'){a}{v}(hc:w.cell? a=some v):w'.cell? a=some v:=by
 by_cases hl:a.block<w.heap.size
 .exact(h.cell hl).trans hc
 .have:w.heap[a.block]? =none:=Array.getElem?_eq_none_iff.2 (by omega)
  simp[World.cell?,this]at hc
def bM.below {w w'}{Z}{bb}{D}(h:bM w Z bb D)(hb:adN w w'):bM w' Z bb D:=h.same (λ_ h=>h) λ_ _ hc=>keeps hb hc
def aW.below {w w'}{bb}{D}(h:aW w bb D)(hb:adN w w'):aW w' bb D:=bM.below h hb
def bZ.ints {w}{Z}{v}{D}(h:bZ w Z v D.r (Tn D)):Ints w v D.r D.R:=by
 obtain⟨ao,cap,e,f,g,d,_⟩:=h;exact⟨ao,cap,e,f,by omega,λa=>let ⟨b,o,q,c⟩:=d a;⟨b,o,q,c⟩⟩
def EI (bb i)(D)(w)(hb:aW w bb D)(a:D.ok)(h:i<D.n):
 adO 116 #[.pointer (some ⟨bb,0,none⟩),.int .i64 0,.int .i64 i] w λe w'=>e=.returned (.int .i64 (D.N i))/\w'=w:=by
 obtain⟨v,j,ao,cap,rfl,c,d,f,_⟩:=hb.dA;obtain⟨b,o,rfl,hc⟩:=f (by omega);have g:=hc i h;rw[Nat.mul_comm 3 i]at g;clear hc f hb a
 go_enter (pf func116 (by rfl)),ntmps116
 go_wp2_with fail;go_ret;exact⟨rfl,rfl⟩
def EH (bb i)(D)(w)(hb:aW w bb D)(a:D.ok)(h:i<D.dn 0):
 adO 116 #[.pointer (some ⟨bb,0,none⟩),.int .i64 1,.int .i64 i] w λe w'=>e=.returned (.int .i64 (D.dN 0 i))/\w'=w:=by
 obtain⟨v,j,ao,cap,rfl,c,d,f,_⟩:=hb.dC 0 (by omega);have hd:=(a.dC 0 (by omega)).1;obtain⟨b,o,rfl,hc⟩:=f (by omega);have g:=(hc i h).1;rw[Nat.mul_comm 2 i]at g;clear hc f hb a
 go_enter (pf func116 (by rfl)),ntmps116
 go_wp2_with fail;go_ret;exact⟨rfl,rfl⟩
def EG (bb i)(D)(w)(hb:aW w bb D)(a:D.ok)(h:i<D.dn 1):
 adO 116 #[.pointer (some ⟨bb,0,none⟩),.int .i64 2,.int .i64 i] w λe w'=>e=.returned (.int .i64 (D.dN 1 i))/\w'=w:=by
 obtain⟨v,j,ao,cap,rfl,c,d,f,_⟩:=hb.dC 1 (by omega);have hd:=(a.dC 1 (by omega)).1;obtain⟨b,o,rfl,hc⟩:=f (by omega);have g:=(hc i h).1;rw[Nat.mul_comm 2 i]at g;clear hc f hb a
 go_enter (pf func116 (by rfl)),ntmps116
 go_wp2_with fail;go_ret;exact⟨rfl,rfl⟩
def EF (bb i)(D)(w)(hb:aW w bb D)(a:D.ok)(h:i<D.dn 2):
 adO 116 #[.pointer (some ⟨bb,0,none⟩),.int .i64 3,.int .i64 i] w λe w'=>e=.returned (.int .i64 (D.dN 2 i))/\w'=w:=by
 obtain⟨v,j,ao,cap,rfl,c,d,f,_⟩:=hb.dC 2 (by omega);have hd:=(a.dC 2 (by omega)).1;obtain⟨b,o,rfl,hc⟩:=f (by omega);have g:=(hc i h).1;rw[Nat.mul_comm 2 i]at g;clear hc f hb a
 go_enter (pf func116 (by rfl)),ntmps116
 go_wp2_with fail;go_ret;exact⟨rfl,rfl⟩
def Ie (bb i r)(D)(w)(c:r<4)(hb:aW w bb D)(a:D.ok)(b:if r=0 then i<D.n else i<D.dn (r-1)):
 adO 116 #[.pointer (some ⟨bb,0,none⟩),.int .i64 r,.int .i64 i] w λe w'=>e=.returned (.int .i64 (bG D r i))/\w'=w:=by
 obtain rfl|rfl|rfl|rfl:r=0\/r=1\/r=2\/r=3:=by omega
 .exact EI bb i D w hb a b
 .exact EH bb i D w hb a b
 .exact EG bb i D w hb a b
 .exact EF bb i D w hb a b
def kV (w:World)(A)(v)(t):∀j u,[v][j]? =some u->((w.alloc A).alloc (.cells #[v] t)).cell? ((⟨w.heap.size+1,0,none⟩:Addr).add j)=some u:=by
 have h:=adM (w.alloc A) v t;intro j u a;have:=h j u a;simpa using this
def Ca (bb)(D)(w)(hb:aW w bb D)(b:D.ok):
 adO 72 #[.pointer (some ⟨bb,0,none⟩),.int .i64 0] w λe w'=>∃v,e=.returned v/\w'.ownsRow w.heap.size 3 1 v (dL D 0).length (aT (dL D 0))/\adN w w':=by
 obtain⟨vc,l,ao,cap,rfl,f,g,m,_⟩:=hb.dA;obtain⟨vr,k,d⟩:=hb.res;obtain⟨p,j⟩:=hb.sI;have i:=av (bZ.ints d);have h:=b.qF;clear hb d b
 go_enter (pf func72 (by rfl)),ntmps72
 go_wp2_with(go_at_call 117;refine(ny (OC D p) (.slice ao D.n cap) vr ao cap _ rfl h i.out).mono ?_;rintro e w1 ⟨v,rfl,a,c⟩);go_ret;exact⟨_,rfl,a,c⟩
def B6 (bb)(D)(w)(hb:aW w bb D)(g:D.ok):
 adO 72 #[.pointer (some ⟨bb,0,none⟩),.int .i64 1] w λe w'=>∃v,e=.returned v/\w'.ownsRow w.heap.size 3 1 v (dL D 1).length (aT (dL D 1))/\adN w w':=by
 obtain⟨vc,C,ao,cap,rfl,s,t,x,_⟩:=hb.dC 0 (by omega);have hd:=(g.dC 0 (by omega)).1;obtain⟨i0,B,n,m,l⟩:=info_parts Tryz.gQ;have hu:=((ax ae prog 23).trans underlying23);have H3:Hid (0<D.dn 0->∃b o,ao=some ⟨b,o,none⟩/\FN D 0 b o w):=x;clear hb g x
 go_enter (pf func72 (by rfl)),ntmps72
 go_wp2_with fail
 go_loopw [5,23] (λv i wr=>∃j:Nat,j<=D.dn 0/\i=.int .i64 j/\wr.ownsRow w.heap.size 3 1 v (dX D 0 j).length (aT (dX D 0 j))/\adN w wr) (λ_ i _=>D.dn 0-(intOf i).toNat)
 case atStart=>exact⟨0,by omega,rfl,aag _ _ _ _,aab _ _⟩
 case round=>
  obtain⟨j,E,rfl,a,hb⟩:=hrel;have d:Hid (wr.ownsRow w.heap.size 3 1 u5 (dX D 0 j).length (aT (dX D 0 j))/\adN w wr):=⟨a,hb⟩;clear a hb;have hlen:=Dq D 0 j
  by_cases h:j<D.dn 0
  .obtain⟨b,o,rfl,hc⟩:=H3.out (by omega)
   have z:=keeps d.out.2 (hc j h).1;have k:=keeps d.out.2 (hc j h).2;rw[Nat.mul_comm 2 j]at z k;clear hc;have r:w.heap.size<=wr.heap.size:=d.out.2.size;cases f:D.dH 0 j
   .rw[f]at k
    have p:=av f;clear f;go_wp2_with fail;go_roundw
    case rel=>exact⟨j+1,by omega,by go_num,by rw[tJ p.out];exact d.out.1.alloc _,d.out.2.alloc r _⟩
    case measure=>simp[intOf];omega
   .rw[f]at k
    have p:=av f;clear f;go_wp2_with(at_builtin;refine adJ _ rfl _ _ _ rfl w.heap.size 3 i0 _ 1 8 hu B n m l rfl (by omega) _ (dX D 0 j).length (aT (dX D 0 j)) rfl ((d.out.1.alloc _).alloc _) ⟨wr.heap.size+1,0,none⟩ 1 1 [.int .i64 j] rfl rfl (kV _ _ _ _) (by intro u hu;simp at hu;subst hu;rfl) (by unfold maxLen;omega) (by omega) (by simp;omega) ?_;intro v' w1 a c _)
    have y:Hid (w1.ownsRow w.heap.size 3 1 v' (dX D 0 (j+1)).length (aT (dX D 0 (j+1)))/\adN w w1):=by
     refine⟨?_,((d.out.2.alloc r _).alloc (by simp;omega) _).grown c (by simp;omega) (λq A=>(d.out.1.lt q A).1)⟩;unfold aT;rw[yS p.out];simpa[aT] using a
    clear a c;go_wp2_with fail;go_roundw
    case rel=>exact⟨j+1,by omega,by go_num,y.out.1,y.out.2⟩
    case measure=>simp[intOf];omega
  .have:j=D.dn 0:=by omega
   rw[this]at d;go_wp2_with fail;go_ret;exact⟨_,rfl,d.out.1,d.out.2⟩
def B5 (bb)(D)(w)(hb:aW w bb D)(g:D.ok):
 adO 72 #[.pointer (some ⟨bb,0,none⟩),.int .i64 2] w λe w'=>∃v,e=.returned v/\w'.ownsRow w.heap.size 3 1 v (dL D 2).length (aT (dL D 2))/\adN w w':=by
 obtain⟨vc,C,ao,cap,rfl,s,t,x,_⟩:=hb.dC 1 (by omega);have hd:=(g.dC 1 (by omega)).1;obtain⟨i0,B,n,m,l⟩:=info_parts Tryz.gQ;have hu:=((ax ae prog 23).trans underlying23);have H3:Hid (0<D.dn 1->∃b o,ao=some ⟨b,o,none⟩/\FN D 1 b o w):=x;clear hb g x
 go_enter (pf func72 (by rfl)),ntmps72
 go_wp2_with fail
 go_loopw [5,23] (λv i wr=>∃j:Nat,j<=D.dn 1/\i=.int .i64 j/\wr.ownsRow w.heap.size 3 1 v (dX D 1 j).length (aT (dX D 1 j))/\adN w wr) (λ_ i _=>D.dn 1-(intOf i).toNat)
 case atStart=>exact⟨0,by omega,rfl,aag _ _ _ _,aab _ _⟩
 case round=>
  obtain⟨j,E,rfl,a,hb⟩:=hrel;have d:Hid (wr.ownsRow w.heap.size 3 1 u5 (dX D 1 j).length (aT (dX D 1 j))/\adN w wr):=⟨a,hb⟩;clear a hb;have hlen:=Dq D 1 j
  by_cases h:j<D.dn 1
  .obtain⟨b,o,rfl,hc⟩:=H3.out (by omega)
   have z:=keeps d.out.2 (hc j h).1;have k:=keeps d.out.2 (hc j h).2;rw[Nat.mul_comm 2 j]at z k;clear hc;have r:w.heap.size<=wr.heap.size:=d.out.2.size;cases f:D.dH 1 j
   .rw[f]at k
    have p:=av f;clear f;go_wp2_with fail;go_roundw
    case rel=>exact⟨j+1,by omega,by go_num,by rw[tJ p.out];exact d.out.1.alloc _,d.out.2.alloc r _⟩
    case measure=>simp[intOf];omega
   .rw[f]at k
    have p:=av f;clear f;go_wp2_with(at_builtin;refine adJ _ rfl _ _ _ rfl w.heap.size 3 i0 _ 1 8 hu B n m l rfl (by omega) _ (dX D 1 j).length (aT (dX D 1 j)) rfl ((d.out.1.alloc _).alloc _) ⟨wr.heap.size+1,0,none⟩ 1 1 [.int .i64 j] rfl rfl (kV _ _ _ _) (by intro u hu;simp at hu;subst hu;rfl) (by unfold maxLen;omega) (by omega) (by simp;omega) ?_;intro v' w1 a c _)
    have y:Hid (w1.ownsRow w.heap.size 3 1 v' (dX D 1 (j+1)).length (aT (dX D 1 (j+1)))/\adN w w1):=by
     refine⟨?_,((d.out.2.alloc r _).alloc (by simp;omega) _).grown c (by simp;omega) (λq A=>(d.out.1.lt q A).1)⟩;unfold aT;rw[yS p.out];simpa[aT] using a
    clear a c;go_wp2_with fail;go_roundw
    case rel=>exact⟨j+1,by omega,by go_num,y.out.1,y.out.2⟩
    case measure=>simp[intOf];omega
  .have:j=D.dn 1:=by omega
   rw[this]at d;go_wp2_with fail;go_ret;exact⟨_,rfl,d.out.1,d.out.2⟩
def BZ (bb)(D)(w)(hb:aW w bb D)(g:D.ok):
 adO 72 #[.pointer (some ⟨bb,0,none⟩),.int .i64 3] w λe w'=>∃v,e=.returned v/\w'.ownsRow w.heap.size 3 1 v (dL D 3).length (aT (dL D 3))/\adN w w':=by
 obtain⟨vc,C,ao,cap,rfl,s,t,x,_⟩:=hb.dC 2 (by omega);have hd:=(g.dC 2 (by omega)).1;obtain⟨i0,B,n,m,l⟩:=info_parts Tryz.gQ;have hu:=((ax ae prog 23).trans underlying23);have H3:Hid (0<D.dn 2->∃b o,ao=some ⟨b,o,none⟩/\FN D 2 b o w):=x;clear hb g x
 go_enter (pf func72 (by rfl)),ntmps72
 go_wp2_with fail
 go_loopw [5,23] (λv i wr=>∃j:Nat,j<=D.dn 2/\i=.int .i64 j/\wr.ownsRow w.heap.size 3 1 v (dX D 2 j).length (aT (dX D 2 j))/\adN w wr) (λ_ i _=>D.dn 2-(intOf i).toNat)
 case atStart=>exact⟨0,by omega,rfl,aag _ _ _ _,aab _ _⟩
 case round=>
  obtain⟨j,E,rfl,a,hb⟩:=hrel;have d:Hid (wr.ownsRow w.heap.size 3 1 u5 (dX D 2 j).length (aT (dX D 2 j))/\adN w wr):=⟨a,hb⟩;clear a hb;have hlen:=Dq D 2 j
  by_cases h:j<D.dn 2
  .obtain⟨b,o,rfl,hc⟩:=H3.out (by omega)
   have z:=keeps d.out.2 (hc j h).1;have k:=keeps d.out.2 (hc j h).2;rw[Nat.mul_comm 2 j]at z k;clear hc;have r:w.heap.size<=wr.heap.size:=d.out.2.size;cases f:D.dH 2 j
   .rw[f]at k
    have p:=av f;clear f;go_wp2_with fail;go_roundw
    case rel=>exact⟨j+1,by omega,by go_num,by rw[tJ p.out];exact d.out.1.alloc _,d.out.2.alloc r _⟩
    case measure=>simp[intOf];omega
   .rw[f]at k
    have p:=av f;clear f;go_wp2_with(at_builtin;refine adJ _ rfl _ _ _ rfl w.heap.size 3 i0 _ 1 8 hu B n m l rfl (by omega) _ (dX D 2 j).length (aT (dX D 2 j)) rfl ((d.out.1.alloc _).alloc _) ⟨wr.heap.size+1,0,none⟩ 1 1 [.int .i64 j] rfl rfl (kV _ _ _ _) (by intro u hu;simp at hu;subst hu;rfl) (by unfold maxLen;omega) (by omega) (by simp;omega) ?_;intro v' w1 a c _)
    have y:Hid (w1.ownsRow w.heap.size 3 1 v' (dX D 2 (j+1)).length (aT (dX D 2 (j+1)))/\adN w w1):=by
     refine⟨?_,((d.out.2.alloc r _).alloc (by simp;omega) _).grown c (by simp;omega) (λq A=>(d.out.1.lt q A).1)⟩;unfold aT;rw[yS p.out];simpa[aT] using a
    clear a c;go_wp2_with fail;go_roundw
    case rel=>exact⟨j+1,by omega,by go_num,y.out.1,y.out.2⟩
    case measure=>simp[intOf];omega
  .have:j=D.dn 2:=by omega
   rw[this]at d;go_wp2_with fail;go_ret;exact⟨_,rfl,d.out.1,d.out.2⟩
def uh (bb r:Nat)(D)(w)(b:r<4)(hb:aW w bb D)(a:D.ok):
 adO 72 #[.pointer (some ⟨bb,0,none⟩),.int .i64 r] w λe w'=>∃v,e=.returned v/\w'.ownsRow w.heap.size 3 1 v (dL D r).length (aT (dL D r))/\adN w w':=by
 obtain rfl|rfl|rfl|rfl:r=0\/r=1\/r=2\/r=3:=by omega
 .exact Ca bb D w hb a
 .exact B6 bb D w hb a
 .exact B5 bb D w hb a
 .exact BZ bb D w hb a
def dh {w}{base}{v}{l}(h:w.ownsRow base 3 1 v l.length (aT l)):Ints w v l.length (λj=>((l[j]?.getD 0:Nat):Int)):=by
 rcases h.2 with⟨rfl,a⟩|⟨g,cap,cur,rfl,_,f,c,hc,hs,b⟩
 .rw[a];exact⟨none,0,rfl,ZL _,by omega,λh=>absurd h (aby _)⟩
 .refine⟨_,cap,rfl,c,by unfold maxLen at hc;omega,λa=>⟨g,0,rfl,λi d=>?_⟩⟩
  have e:(aT l)[i]? =some (.int .i64 ((l[i]?.getD 0:Nat):Int)):=by simp[aT,d]
  rw[Z8,cell_of_row w g i cur _ (0,0) f];rw[<-b,Z5]at e;split at e
  .simpa using e
  .cases e
end Z
