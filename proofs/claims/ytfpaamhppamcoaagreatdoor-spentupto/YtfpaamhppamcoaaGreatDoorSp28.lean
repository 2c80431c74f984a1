/- Part 28 of the proof. -/
import Derived.Test.YtfpaamhppamcoaaGreatDoorSp27
set_option linter.all false
namespace Go.Proofs.YtfpaamhppamcoaaGreatDoor
open Go.Proofs.Tryz
section
open Go Go.Conc Go.ConcN Go.RowKit
def RowI (w:World)(Z:Nat->Prop)(v:Value)(n:Nat)(R:Nat->Int):Prop:=∃ao cap,v=.slice ao n cap/\n<=cap/\n<=9223372036854775807/\(0<n->∃b o,ao=some ⟨b,o,none⟩/\∀i,i<n->w.cell? ⟨b,o+i,none⟩=some (.int .i64 (R i)))/\∀x,ao=some x->Z x.block/\cap≠0
def BoxT (w:World)(Z:Nat->Prop)(b o D:Nat):Prop:=∃(nm:ByteArray) (A:Nat->Option Addr) (N C:Nat->Nat) (R:Nat->Nat->Int),
 w.cell? ⟨b,o,none⟩=some (.string nm)/\(∀q,q<4->w.cell? ⟨b,o+1+q,none⟩=some (.slice (A q) (N q) (C q)))/\(∀q,q<4->RowI w Z (.slice (A q) (N q) (C q)) (N q) (R q))/\(∀q,q<4->∀i,i<N q->-9223372036854775808<=R q i/\R q i<9223372036854775808)/\22*(N 0+N 1+N 2+N 3)+10*nm.size<=D
def je (w:World)(Z:Nat->Prop)(v:Value)(n D:Nat):Prop:=∃ao cap,v=.slice ao n cap/\n<=cap/\n<=1000000/\D<=1000000/\(0<n->∃b o,ao=some ⟨b,o,none⟩/\∀i,i<n->BoxT w Z b (o+i*5) D)/\∀x,ao=some x->Z x.block/\cap≠0
theorem cb_carry {K}{st}{p:Rel st}{w u}{G b c}(hw:WR G K p w u)(hp:p b c)(h:CB w b):CB u c:=by
 obtain⟨xs,e,g,hb⟩:=h;obtain⟨d,ys,j,f,g',a,i,_⟩|⟨_,_,_,a,_⟩|⟨_,_,_,a,_⟩:=hw.rows b c hp
 .exact⟨ys,j,g',i⟩
 .rw[hb]at a;cases a
 .rw[hb]at a;cases a
def Img {st:Prop}(p:Rel st)(u:World)(Z:Nat->Prop)(c:Nat):Prop:=CB u c/\∃b,p b c/\Z b
theorem slice_carry {K}{st}{p:Rel st}{w u}{Z}{G n cap}{ao}{x}(hw:WR G K p w u)(s:∀b,Z b->CB w b)(r:VR p (.slice ao n cap) x)(hx:∀x,ao=some x->Z x.block/\cap≠0):
 ∃c,x=.slice c n cap/\(∀x,c=some x->Img p u Z x.block/\cap≠0)/\∀b o,ao=some ⟨b,o,none⟩->∃j,c=some ⟨j,o,none⟩/\p b j:=by
 obtain⟨c,rfl,l⟩:=r.bD;refine⟨c,rfl,λx k=>?_,λb o hb=>?_⟩
 .subst k
  cases ao with
  |none=>exact l.elim
  |some a=>
   obtain⟨q,m⟩:=hx a rfl;obtain⟨a',e,i⟩:=l.aO;cases e;have hp:=(i.resolve_right λh=>m h.1.2).1;exact⟨⟨cb_carry hw hp (s _ q),_,hp,q⟩,m⟩
 .subst hb
  obtain⟨a',rfl,i⟩:=l.aO;replace i:=i.resolve_right λh=>(hx _ rfl).2 h.1.2
  obtain⟨j,t,s'⟩:=a';obtain⟨g,f,d⟩:=i;simp only at g f d;subst f d;exact⟨j,rfl,g⟩
theorem RowI.carry {K}{st}{p:Rel st}{w u}{Z}{G}{v x}{n}{R}(h:RowI w Z v n R)(hw:WR G K p w u)(l:∀b,Z b->CB w b)(g:VR p v x):RowI u (Img p u Z) x n R:=by
 obtain⟨ao,cap,rfl,s,r,q,m⟩:=h;obtain⟨c,rfl,k1,f⟩:=slice_carry hw l g m;refine⟨c,cap,rfl,s,r,λj=>?_,k1⟩;obtain⟨b,o,e,hb⟩:=q j;obtain⟨d,t,hp⟩:=f b o e;refine⟨d,o,t,λi k=>?_⟩;obtain⟨y,g1,g2⟩:=hw.cell (a:=⟨b,o+i,none⟩) (b:=⟨d,o+i,none⟩) ⟨hp,rfl,rfl⟩ (hb i k);rw[g2.bT]at g1;exact g1
theorem je.carry {K}{st}{p:Rel st}{w u}{Z}{G}{v x}{n D}(h:je w Z v n D)(hw:WR G K p w u)(l:∀b,Z b->CB w b)(m:VR p v x):je u (Img p u Z) x n D:=by
 obtain⟨ao,cap,rfl,H,F,t,E,B⟩:=h;obtain⟨k,rfl,k1,j⟩:=slice_carry hw l m B;refine⟨k,cap,rfl,H,F,t,λr=>?_,k1⟩;obtain⟨b,o,e,hb⟩:=E r;obtain⟨g,I,hp⟩:=j b o e;refine⟨g,o,I,λi s=>?_⟩;obtain⟨nm,A,N,C,R,f1,f2,f3,f4,f5⟩:=hb i s;obtain⟨y,g1,g2⟩:=hw.cell (a:=⟨b,o+i*5,none⟩) (b:=⟨g,o+i*5,none⟩) ⟨hp,rfl,rfl⟩ f1;rw[g2.bO]at g1
 have key:∀q,∃c,q<4->u.cell? ⟨g,o+i*5+1+q,none⟩=some (.slice c (N q) (C q))/\RowI u (Img p u Z) (.slice c (N q) (C q)) (N q) (R q):=λq=>by
  by_cases d:q<4
  .obtain⟨z,k1,j⟩:=hw.cell (a:=⟨b,o+i*5+1+q,none⟩) (b:=⟨g,o+i*5+1+q,none⟩) ⟨hp,rfl,rfl⟩ (f2 q d)
   obtain⟨c,e,_⟩:=j.bD;subst e;exact⟨c,λ_=>⟨k1,(f3 q d).carry hw l j⟩⟩
  .exact⟨none,λh=>absurd h d⟩
 obtain⟨c,f⟩:∃c:Nat->Option Addr,∀q,q<4->u.cell? ⟨g,o+i*5+1+q,none⟩=some (.slice (c q) (N q) (C q))/\RowI u (Img p u Z) (.slice (c q) (N q) (C q)) (N q) (R q):=⟨λq=>(key q).choose,λq=>(key q).choose_spec⟩;exact⟨nm,c,N,C,R,g1,λq d=>(f q d).1,λq d=>(f q d).2,f4,f5⟩
theorem RowI.same {w u}{Z Z'}{v}{n}{R}(h:RowI w Z v n R)(c:∀b,Z b->Z' b)(hc:∀a v,w.cell? a=some v->jH Z v->u.cell? a=some v):RowI u Z' v n R:=by
 obtain⟨ao,cap,e,l,k,j,d⟩:=h;exact⟨ao,cap,e,l,k,λf=>let ⟨b,o,x,y⟩:=j f;⟨b,o,x,λi g=>hc _ _ (y i g) trivial⟩,λx hx=>⟨c _ (d x hx).1,(d x hx).2⟩⟩
theorem RowI.pure {w}{Z}{v}{n}{R}(h:RowI w Z v n R):jH Z v:=by
 obtain⟨ao,cap,rfl,e,d,c,b⟩:=h;cases ao with
 |none=>trivial
 |some a=>exact(b a rfl).1
theorem je.pure {w}{Z}{v}{n D}(h:je w Z v n D):jH Z v:=by
 obtain⟨ao,cap,rfl,f,e,c,d,b⟩:=h;cases ao with
 |none=>trivial
 |some a=>exact(b a rfl).1
theorem je.same {w u}{Z Z'}{v}{n D}(h:je w Z v n D)(c:∀b,Z b->Z' b)(hc:∀a v,w.cell? a=some v->jH Z v->u.cell? a=some v):je u Z' v n D:=by
 obtain⟨ao,cap,e,p,m,k,l,f⟩:=h;refine⟨ao,cap,e,p,m,k,λg=>?_,λx hx=>⟨c _ (f x hx).1,(f x hx).2⟩⟩;obtain⟨b,o,x,y⟩:=l g;refine⟨b,o,x,λi j=>?_⟩;obtain⟨nm,A,N,C,R,f1,f2,f3,f4,f5⟩:=y i j;exact⟨nm,A,N,C,R,hc _ _ f1 trivial,λq d=>hc _ _ (f2 q d) (f3 q d).pure,λq d=>(f3 q d).same c hc,f4,f5⟩
def JJ (f:FuncId)(x:Array Value)(w:World):Prop:=
 (f=340->∃B D a,arg0 x=ptr B/\bM w a B D/\D.ok/\Lies w a/\a B)/\(f=341->∃c:Nat->Int,arg0 x=.agg (aQ c))/\(f=342->∃n D,je w (CB w) (arg0 x) n D)
theorem mE {w u:World}(h:u.heap=w.heap):∀a v,w.cell? a=some v->u.cell? a=some v:=λa v b=>by
 unfold World.cell? at b⊢;rw[h];exact b
theorem berthZ_heap {w u}(h:u.heap=w.heap){Z}{B}{D}(hb:bM w Z B D):bM u Z B D:=hb.same (λ_ h=>h) (mE h)
theorem berthC_heap {w u}(h:u.heap=w.heap){B}{D}(hb:aW w B D):aW u B D:=hb.same (λ_ h=>h) (mE h)
theorem lies_heap {w u}(h:u.heap=w.heap){Z}(hc:Lies w Z):Lies u Z:=λb hb=>by rw[h];exact hc b hb
theorem JJ_heap {f}{x}{w u}(h:u.heap=w.heap)(i:JJ f x w):JJ f x u:=
 ⟨λe=>let ⟨B,D,Z,a,b,c,d,z⟩:=i.1 e;⟨B,D,Z,a,berthZ_heap h b,c,lies_heap h d,z⟩,i.2.1,λe=>let ⟨n,D,b⟩:=i.2.2 e;⟨n,D,b.same (λ_ ⟨xs,e,g,hb⟩=>⟨xs,e,g,by rw[h];exact hb⟩) λa v j _=>mE h a v j⟩⟩
theorem JJ_tape:∀f x w T,JJ f x (ay w T)->JJ f x w:=λ_ _ w T h=>JJ_heap (w:=ay w T) (u:=w) rfl h
theorem arg0_pad (x)(n):(x++Array.replicate n undef).getD 0 undef=arg0 x:=by
 unfold arg0;rw[ZY,ZY]
 by_cases h:0<x.size
 .rw[Array.getElem?_append_left h]
 .have:x= #[]:=Array.eq_empty_of_size_eq_zero (by omega)
  subst this;cases n<;>simp
theorem enter_arg0 {P}{f f'}{x a}(h:Frame.enter P f' a .normal=Frame.enter P f x .normal):f'=f/\arg0 a=arg0 x:=by
 have e:=congrArg Frame.fn h;have d:=congrArg Frame.tmps h;have b:f'=f:=e;subst b;refine⟨rfl,?_⟩;have c:a++Array.replicate (((P.funcs[f']?).map (·.ntmps)).getD 0-a.size) undef=x++Array.replicate (((P.funcs[f']?).map (·.ntmps)).getD 0-x.size) undef:=d;rw[<-arg0_pad a,<-arg0_pad x,c]
def CO (t:Nat):Array Oper:= #[bg (some t) (.move (.const (.bool true))),bg (some t) (.move (.const (.bool false)))]
def rest4:Code->Code
 |.seq _ (.seq _ (.seq _ (.seq _ r)))=>r
 |c=>c
theorem jK:(eD 340 f42).body=some (.seq (.region 90 (CO 22) true) (.seq (.cond (.tmp 22) (.region 91 #[bg none (bX 340 #[.tmp 0])] false) .skip) (.seq (.region 92 (CO 23) true) (.seq (.cond (.tmp 23) (.region 93 #[bg none (bX 341 #[.tmp 1])] false) .skip) (rest4 ((eD 340 f42).body.getD .skip)))))):=by kernel_rfl
theorem pjudge:(patch ae prog).funcs[42]? =some (eD 340 f42):=by
 have h:=iO ae prog fn_judge;rw[jN]at h;rw[h];rfl
def sched0P (m:Bool)(t:Nat):Prop:=Region.schedule m (CO t) 0=[0,1]/\Region.schedule m (CO t) 1=[1,0]
theorem sched0 (m)(t)(a:t=22\/t=23\/t=1):sched0P m t:=by
 rcases a with rfl|rfl|rfl<;>cases m
 .exact⟨by kernel_rfl,by kernel_rfl⟩
 .exact⟨by kernel_rfl,by kernel_rfl⟩
 .exact⟨by kernel_rfl,by kernel_rfl⟩
 .exact⟨by kernel_rfl,by kernel_rfl⟩
 .exact⟨by kernel_rfl,by kernel_rfl⟩
 .exact⟨by kernel_rfl,by kernel_rfl⟩
theorem base_kind (n):(base n).kind≠.early:=by show CallKind.normal≠_;decide
theorem stepG_draw {P}{main}{b:Frame}{a}{k}{cs}{id}{ops}(w):
 stepG P main (G (b.at a (.code (.region id ops true)::k)) cs) w=.go (G (b.at a (.inRegion ops (Region.schedule (P.follows .mixedOrders) ops (w.tape w.drawn (.order b.fn id)))::k)) cs) w.drew #[]:=by
 have d:(Question.order b.fn id).forced=false:=rfl;have c:∀n,(Question.order b.fn id).cut n=n:=λ_=>rfl
 simp[G,stepG,stepG.exec,Frame.at,d,c]
section
variable {C0:iG}{R:Value->World->Prop}{fs:List Frame}
theorem tj {fb}{a a'}{k k'}{w w'}(T)(h:bI (patch ae prog) C0 R JJ ((base fb).at a k) fs w)(b:fb∉C0.sp)
 (hs:∃es,stepG (patch ae prog) true (G ((base fb).at a k) (fs++[stop (patch ae prog)])) (ay w T)=.go (G ((base fb).at a' k') (fs++[stop (patch ae prog)])) w' es):bI (patch ae prog) C0 R JJ ((base fb).at a' k') fs w':=
 let ⟨_,hs⟩:=hs
 treeJ_go T h rfl (λf x hf e=>b (by have:=congrArg Frame.fn e;rw[show(Frame.enter (patch ae prog) f x .normal).fn=f from rfl]at this;rw[show fb=f from this];exact hf)) hs
theorem toss {fb N}(c:fb∉C0.sp){X}{id t n}{k}{w}(B:t=22\/t=23\/t=1)(d:t<N)(y:n=0\/n=1)(p:X.size=N)
 (h:bI (patch ae prog) C0 R JJ ((base fb).at ⟨X,[]⟩ (.code (.region id (CO t) true)::k)) fs w):
 ∃(w':World) (r:Array Value),w'.heap=w.heap/\r.size=N/\r.getD t undef=.bool (n==1)/\(∀j,j≠t->r.getD j undef=X.getD j undef)/\bI (patch ae prog) C0 R JJ ((base fb).at ⟨r,[]⟩ k) fs w':=by
 have e:∀m,Region.schedule m (CO t) n=if n=0 then [0,1]else [1,0]:=λm=>by
  obtain⟨a,b⟩:=sched0 m t B;rcases y with rfl|rfl
  .simpa using a
  .simpa using b
 have q:=tj (λ_ _=>n) h c (k':=.inRegion (CO t) (if n=0 then [0,1]else [1,0])::k) (w':=(ay w λ_ _=>n).drew) (a':=⟨X,[]⟩) ⟨#[],by rw[stepG_draw,<-e];rfl⟩
 have g:∀(i:Nat) (v:Value) (l:List Nat) (X:Array Value) (w:World),(i=0/\v=.bool true\/i=1/\v=.bool false)->bI (patch ae prog) C0 R JJ ((base fb).at ⟨X,[]⟩ (.inRegion (CO t) (i::l)::k)) fs w->
  bI (patch ae prog) C0 R JJ ((base fb).at ⟨X.setIfInBounds t v,[]⟩ (.inRegion (CO t) l::k)) fs (ay w w.tape):=λi v l X w C s=>by
  refine tj w.tape s c ?_
  obtain⟨o,A,z,x⟩:∃o,(CO t)[i]? =some o/\o.op=.move (.const v)/\o.dst=some t/\o.guard=none:=by
   rcases C with⟨rfl,rfl⟩|⟨rfl,rfl⟩<;>exact⟨_,rfl,rfl,rfl,rfl⟩
  rw[stepG_value A (bq x.2 _) (base_kind _) (v:=v) (w':=ay w w.tape) (by rw[exec_move (.inl z)];rfl),x.1];exact⟨_,rfl⟩
 have fin:∀(X:Array Value) (w:World),bI (patch ae prog) C0 R JJ ((base fb).at ⟨X,[]⟩ (.inRegion (CO t) []::k)) fs w->bI (patch ae prog) C0 R JJ ((base fb).at ⟨X,[]⟩ k) fs (ay w w.tape):=λX w s=>
  tj w.tape s c ⟨_,stepG_region_end⟩
 rcases y with rfl|rfl
 .simp only[if_true]at q
  have u:=fin _ _ (g 1 _ _ _ _ (.inr ⟨rfl,rfl⟩) (g 0 _ _ _ _ (.inl ⟨rfl,rfl⟩) q));refine⟨_,_,?_,by simpa using p,bU (by simp only[Array.size_setIfInBounds,p];exact d),λj f=>?_,u⟩
  .rfl
  .rw[getD_set_ne (Ne.symm f),getD_set_ne (Ne.symm f)]
 .simp only[Nat.one_ne_zero,if_false]at q
  have u:=fin _ _ (g 0 _ _ _ _ (.inl ⟨rfl,rfl⟩) (g 1 _ _ _ _ (.inr ⟨rfl,rfl⟩) q));refine⟨_,_,?_,by simpa using p,bU (by simp only[Array.size_setIfInBounds,p];exact d),λj f=>?_,u⟩
  .rfl
  .rw[getD_set_ne (Ne.symm f),getD_set_ne (Ne.symm f)]
theorem ring {fb}(g:fb∉C0.sp){X}{id al t s}{c}{fn}{w}(hc:X.getD t undef=.bool true)(hf:(patch ae prog).funcs[al]? =some fn)(d:(fn.name== "runtime.NumGoroutine")=false)(hb:fn.body.isNone=false)(k:∀x w,oG (patch ae prog) al x w)
 (h:bI (patch ae prog) C0 R JJ ((base fb).at ⟨X,[]⟩ [.code (.cond (.tmp t) (.region id #[bg none (bX al #[.tmp s])] false) .skip),.code c]) fs w):JJ al #[X.getD s undef] w:=by
 have p:=tj w.tape h g (k':=[.code (.region id #[bg none (bX al #[.tmp s])] false),.code c]) (w':=ay w w.tape) (a':=⟨X,[]⟩) ⟨_,stepG_cond (show(Act.mk X []).eval (.tmp t)=.bool true from hc)⟩;have m:=tj w.tape p g (k':=[.inRegion #[bg none (bX al #[.tmp s])] [0],.code c]) (w':=ay w w.tape) (a':=⟨X,[]⟩) ⟨_,stepG_region⟩
 have e:(execOp (Act.mk X []).eval (bg none (bX al #[.tmp s]))).runT (patch ae prog) (ay w w.tape) #[]=(.ok (.enter al #[X.getD s undef]) (ay w w.tape),#[]):=by
  have q:execOp (Act.mk X []).eval (bg none (bX al #[.tmp s]))=callFunc al (#[]++(#[.tmp s]:Array Operand).map (Act.mk X []).eval++ #[]):=rfl;rw[q,Array.empty_append,Array.append_empty,show(#[.tmp s]:Array Operand).map (Act.mk X []).eval= #[X.getD s undef]from by simp[Act.eval]];exact run_enter hf d hb _ _
 rw[Sem.runT_eq,Prod.mk.injEq]at e;have l:=treeJ_alarm (f:=al) (x:= #[X.getD s undef]) (as':=(base fb).at ⟨X,[]⟩ [.inRegion #[bg none (bX al #[.tmp s])] [0],.code c]::fs) (w':=ay w w.tape) w.tape m rfl (λfs w=>(k _ w).lZ fs) (λf' r he i=>?_) (stepG_enter (o:=bg none (bX al #[.tmp s])) rfl (bq rfl _) (base_kind _) e.1)
 .exact JJ_heap (w:=ay w w.tape) rfl l
 .obtain⟨rfl,j⟩:=enter_arg0 he
  refine⟨λe=>?_,λe=>?_,λe=>?_⟩
  .obtain⟨B,D,Z,a,b⟩:=i.1 e
   exact⟨B,D,Z,j▸a,b⟩
  .obtain⟨c,a⟩:=i.2.1 e
   exact⟨c,j▸a⟩
  .obtain⟨n,D,a⟩:=i.2.2 e
   exact⟨n,D,j▸a⟩
theorem skip_on {fb}(a:fb∉C0.sp){X}{t}{p x y}{w}(hc:X.getD t undef=.bool false)(h:bI (patch ae prog) C0 R JJ ((base fb).at ⟨X,[]⟩ [.code (.cond (.tmp t) p .skip),.code (.seq x y)]) fs w):
 ∃w',w'.heap=w.heap/\bI (patch ae prog) C0 R JJ ((base fb).at ⟨X,[]⟩ [.code x,.code y]) fs w':=by
 have d:=tj w.tape h a (k':=[.code .skip,.code (.seq x y)]) (w':=ay w w.tape) (a':=⟨X,[]⟩) ⟨_,stepG_cond (show(Act.mk X []).eval (.tmp t)=.bool false from hc)⟩;have c:=tj w.tape d a (k':=[.code (.seq x y)]) (w':=ay w w.tape) (a':=⟨X,[]⟩) ⟨_,stepG_skip⟩;have b:=tj w.tape c a (k':=[.code x,.code y]) (w':=ay w w.tape) (a':=⟨X,[]⟩) ⟨_,stepG_seq⟩;exact⟨_,rfl,b⟩
theorem ntmpsJL:(eD 340 f42).ntmps=28:=rfl
theorem judge_lone':∃r,(eD 340 f42).body=some (.seq (.region 90 (CO 22) true) (.seq (.cond (.tmp 22) (.region 91 #[bg none (bX 340 #[.tmp 0])] false) .skip) (.seq (.region 92 (CO 23) true) (.seq (.cond (.tmp 23) (.region 93 #[bg none (bX 341 #[.tmp 1])] false) .skip) r)))):=⟨_,jK⟩
theorem padJ (x0 x1):(#[x0,x1]++Array.replicate 26 undef).size=28/\(#[x0,x1]++Array.replicate 26 undef).getD 0 undef=x0/\(#[x0,x1]++Array.replicate 26 undef).getD 1 undef=x1:=by
 refine⟨by simp,?_,?_⟩
 .rw[ZY,Array.getElem?_append_left (by simp)];rfl
 .rw[ZY,Array.getElem?_append_left (by simp)];rfl
theorem learn (a:42∉C0.sp){x0 x1}{w}(h:bI (patch ae prog) C0 R JJ (Frame.enter (patch ae prog) 42 #[x0,x1] .normal) fs w):JJ 340 #[x0] w/\JJ 341 #[x1] w:=by
 obtain⟨r,hb⟩:=judge_lone';rw[enter_at _ pjudge hb,ntmpsJL,show 28-(#[x0,x1]:Array Value).size=26 from rfl]at h;obtain⟨hs,g0,g1⟩:=padJ x0 x1;generalize #[x0,x1]++Array.replicate 26 undef=X at h hs g0 g1;have j:=tj w.tape h a (k':=[.code (.region 90 (CO 22) true),.code (.seq (.cond (.tmp 22) (.region 91 #[bg none (bX 340 #[.tmp 0])] false) .skip) (.seq (.region 92 (CO 23) true) (.seq (.cond (.tmp 23) (.region 93 #[bg none (bX 341 #[.tmp 1])] false) .skip) r)))]) (w':=ay w w.tape) (a':=⟨X,[]⟩) ⟨_,stepG_seq⟩;refine⟨?_,?_⟩
 .obtain⟨w2,i,g,k,f,e,d⟩:=toss a (.inl rfl) (by decide) (.inr rfl) hs j
  have c:=tj w2.tape d a (k':=[.code (.cond (.tmp 22) (.region 91 #[bg none (bX 340 #[.tmp 0])] false) .skip),.code (.seq (.region 92 (CO 23) true) (.seq (.cond (.tmp 23) (.region 93 #[bg none (bX 341 #[.tmp 1])] false) .skip) r))]) (w':=ay w2 w2.tape) (a':=⟨i,[]⟩) ⟨_,stepG_seq⟩;have:=ring a f (pal ae) (by kernel_rfl) rfl ig c;rw[e 0 (by decide),g0]at this;exact JJ_heap (w:=w2) g.symm this
 .obtain⟨w2,i,g,k,f,e,d⟩:=toss a (.inl rfl) (by decide) (.inl rfl) hs j
  have c:=tj w2.tape d a (k':=[.code (.cond (.tmp 22) (.region 91 #[bg none (bX 340 #[.tmp 0])] false) .skip),.code (.seq (.region 92 (CO 23) true) (.seq (.cond (.tmp 23) (.region 93 #[bg none (bX 341 #[.tmp 1])] false) .skip) r))]) (w':=ay w2 w2.tape) (a':=⟨i,[]⟩) ⟨_,stepG_seq⟩;obtain⟨w3,f1,o⟩:=skip_on a f c;obtain⟨b,p,l,i2,i3,i4,n⟩:=toss a (.inr (.inl rfl)) (by decide) (.inr rfl) k o;have m:=tj b.tape n a (k':=[.code (.cond (.tmp 23) (.region 93 #[bg none (bX 341 #[.tmp 1])] false) .skip),.code r]) (w':=ay b b.tape) (a':=⟨p,[]⟩) ⟨_,stepG_seq⟩;have:=ring a i3 (pal2 ae) (by kernel_rfl) rfl gH m;rw[i4 1 (by decide),e 1 (by decide),g1]at this;exact JJ_heap (w:=b) (l.trans (f1.trans g)).symm this
def bodyT:Code:=.seq (.region 90 (CO 1) true) (.seq (.cond (.tmp 1) (.region 91 #[bg none (bX 342 #[.tmp 0])] false) .skip) (.seq (.region 92 #[bg (some 2) (.move (.const .nilFunc))] false) .ret))
theorem ptext:(patch ae prog).funcs[88]? =some (textS 342 f88):=by
 have h:=iO ae prog func88;rw[jN]at h;rw[h];rfl
theorem lh:(textS 342 f88).body=some bodyT:=rfl
theorem padT (x0):(#[x0]++Array.replicate 2 undef).size=3/\(#[x0]++Array.replicate 2 undef).getD 0 undef=x0:=by
 refine⟨by simp,?_⟩;rw[ZY,Array.getElem?_append_left (by simp)];rfl
theorem learnT (a:88∉C0.sp){x0}{w}(h:bI (patch ae prog) C0 R JJ (Frame.enter (patch ae prog) 88 #[x0] .normal) fs w):JJ 342 #[x0] w:=by
 rw[enter_at _ ptext lh,show(textS 342 f88).ntmps=3 from rfl,show 3-(#[x0]:Array Value).size=2 from rfl]at h;obtain⟨hs,g0⟩:=padT x0;generalize #[x0]++Array.replicate 2 undef=X at h hs g0;unfold bodyT at h;have d:=tj w.tape h a (k':=[.code (.region 90 (CO 1) true),.code (.seq (.cond (.tmp 1) (.region 91 #[bg none (bX 342 #[.tmp 0])] false) .skip) (.seq (.region 92 #[bg (some 2) (.move (.const .nilFunc))] false) .ret))]) (w':=ay w w.tape) (a':=⟨X,[]⟩) ⟨_,stepG_seq⟩;obtain⟨w2,i,g,j,f,e,c⟩:=toss a (.inr (.inr rfl)) (by decide) (.inr rfl) hs d;have b:=tj w2.tape c a (k':=[.code (.cond (.tmp 1) (.region 91 #[bg none (bX 342 #[.tmp 0])] false) .skip),.code (.seq (.region 92 #[bg (some 2) (.move (.const .nilFunc))] false) .ret)]) (w':=ay w2 w2.tape) (a':=⟨i,[]⟩) ⟨_,stepG_seq⟩;have:=ring a f (pal3 ae) (by kernel_rfl) rfl gG b;rw[e 0 (by decide),g0]at this;exact JJ_heap (w:=w2) g.symm this
end
end
section
open Go Go.Conc Go.ConcN Go.RowKit Go.Conc.Lib
open Go.ConcR (KK wgBlock WgAt stA smA rd wr mk Payload DC0)
theorem zeroJ_flat:∀x,x<68->jP (mK x):=by
 have key:∀v∈dQ.toList,jP v:=by
  intro v a;simp only[dQ,zeroV,List.append_assoc,aaz,ZW,List.mem_replicate]at a;have f0:jP (.int .i64 0):=.inl ⟨_,_,rfl⟩;have f1:jP (.bool false):=.inr ⟨_,rfl⟩;rcases a with(rfl|⟨_,rfl⟩)|(rfl|⟨_,rfl⟩)|(rfl|⟨_,rfl⟩)|(rfl|⟨_,rfl⟩)<;>assumption
 intro x hx;have hs:dQ.size=68:=by kernel_rfl
 refine key _ ?_;unfold mK;rw[ZY];have:x<dQ.size:=by omega
 simp[this]
theorem flat_VR {st}{p:Rel st}{v}(h:jP v):VR p v v:=by
 rcases h with⟨k,n,rfl⟩|⟨b,rfl⟩
 .exact VR.int _ _
 .exact VR.bool _
def dm (vd:Nat->Array Value)(c:Nat->Int)(w:World)(v:Value)(w':World):Prop:=
 ∃a row,v=ko a/\w.heap.size<=a/\(∀d,d<w.heap.size->w'.heap[d]? =w.heap[d]?)/\w.heap.size<=w'.heap.size/\w'.heap[a]? =some (.cells row 91)/\row.size=68/\
  (∀i,i<4->0<c i->∀o,o<17->row[17*i+o]? =(vd i)[o]?)/\∀i,i<4->¬0<c i->∀o,o<17->row[17*i+o]? =some (mK (17*i+o))
theorem rows_same {vd:Nat->Array Value}{c:Nat->Int}(e:∀i,i<4->0<c i->(vd i).size=17/\∀v∈(vd i).toList,jP v){row cs}(g:row.size=68)(f:cs.size=68)
 (h:∀i,i<4->0<c i->∀o,o<17->row[17*i+o]? =(vd i)[o]?)(a2:∀i,i<4->¬0<c i->∀o,o<17->row[17*i+o]? =some (mK (17*i+o)))
 (b1:∀i,i<4->0<c i->∀o,o<17->cs[17*i+o]? =(vd i)[o]?)(b2:∀i,i<4->¬0<c i->∀o,o<17->cs[17*i+o]? =some (mK (17*i+o))){st}(p:Rel st):aF (VR p) row cs:=by
 refine⟨g.trans f.symm,λx v u a hu=>?_⟩;have hx:x<68:=by have:=(ZK.1 a).1;omega
 obtain⟨i,o,b,d,rfl⟩:∃i o,i<4/\o<17/\x=17*i+o:=⟨x/17,x%17,by omega,by omega,by omega⟩
 by_cases hc:0<c i
 .rw[h i b hc o d]at a
  rw[b1 i b hc o d]at hu;rw[a]at hu;cases hu;obtain⟨s1,s2⟩:=e i b hc;exact flat_VR (s2 v (by rw[<-Array.mem_def];exact Array.mem_of_getElem? a))
 .rw[a2 i b hc o d]at a
  rw[b2 i b hc o d]at hu;cases a;cases hu;exact flat_VR (zeroJ_flat _ (by omega))
def addR {st:Prop}(p:Rel st)(B D:Nat):Rel st:=λb c=>p b c\/(b=B/\c=D)
theorem WR.keep {G}{K}{st}{p:Rel st}{w u az}(h:WR G K p w u)(m:∀b c,p b c->az.heap[c]? =u.heap[c]?)(hs:u.heap.size<=az.heap.size):WR G K p w az:=by
 refine⟨h.fit,λb c d=>?_,h.kin,h.low,⟨h.big.1,ZP h.big.2 hs⟩⟩;obtain⟨xs,ys,e,f,g,k,j,i⟩|⟨a,a',l,k,j,i⟩|⟨a,a',l,k,j,i⟩:=h.rows b c d
 .exact .inl ⟨xs,ys,e,f,g,k,(m b c d).trans j,i⟩
 .exact .inr (.inl ⟨a,a',l,k,(m b c d).trans j,i⟩)
 .exact .inr (.inr ⟨a,a',l,k,(m b c d).trans j,i⟩)
section
variable [Payload]
theorem edge {K0}{st}{Iv}(ω:∀p q u u',Iv p u->dE K0 p q u u'->Iv q u')(F:Payload.ety=91)(hz:dM (patch ae prog)){C C0}{R}{vd:BD->Nat->Int->Array Value}(hC:j6 C)(Γ:42∉C0.sp)(O:∀f,f∈C0.sp->f=340\/f=341\/f=342)(φ:∀f,f∈C0.sp->f∉C.fns/\f≠C.root)(υ:C.jh=true)
 (H:∀D i n,i<4->0<n->(vd D i n).size=17/\∀v∈(vd D i n).toList,jP v)
 (Ω:∀(D:BD) (B bb M nB r:Nat) (n:Int) (w:World),aW w B D->D.ok->r<4->0<n->w.cell? ⟨bb,0,none⟩=some (ptr B)->w.cell? ⟨M,0,none⟩=some (.int .i64 r)->w.cell? ⟨nB,0,none⟩=some (.int .i64 n)->
  Calls (patch ae prog) 69 #[undef,ptr bb,ptr M,ptr nB,undef] w fun|.returned v,w'=>o9 (vd D r n) r v w'|_,_=>False)
 (HJC:∀(D:BD) (B:Nat) (c:Nat->Int) (w:World),aW w B D->D.ok->(∀j q,w.tape j q=0)->Calls (patch ae prog) 42 #[ptr B,.agg (aQ c)] w fun|.returned v,w'=>dm (λi=>vd D i (c i)) c w v w'|_,_=>False)
 {x y}{a}{fs}{b}{bs}{w u}{gs}{sl}{t}{q}{S}{p:Rel st}
 (ht:bI (patch ae prog) C0 R JJ (Frame.enter (patch ae prog) 42 x .normal) (a::fs) w)(G:aF (VR p) x y)(hx:x.size=2)(W:CR C (patch ae prog) p (a::fs) (b::bs))(hw:WR (patch ae prog).globals.size K0 p w u)(hF:ni prog S gs u.heap.size t q)
 (h0:gs[0]? =some (df (Frame.enter prog 42 y .normal) (b::bs)))(hS:∀b c,p b c->¬S c)(ψ:Iv p u):
 ∃N m' t' n s',runNT prog N (crowd gs u sl) t=(.next m',t')/\Down (patch ae prog) C0 n ⟨Frame.enter (patch ae prog) 42 x .normal,a::fs,w⟩ s'/\Runs C (patch ae prog) prog K0 Iv s' m' t':=by
 obtain⟨x0,x1,rfl⟩:=array2 hx;obtain⟨j1,j2⟩:=learn Γ ht;obtain⟨B,D,Zl,e0,hb,z,σ,χ⟩:=j1.1 rfl;obtain⟨c,e1⟩:=j2.2.1 rfl;have Ψ:=e0;have Φ:=e1;subst Ψ Φ;obtain⟨y0,y1,rfl⟩:=array2 (G.1.symm.trans hx)
 obtain⟨B',rfl,hB⟩:∃B',y0=ptr B'/\p B B':=by
  obtain⟨o,m,L⟩:=(G.2 0 (ptr B) y0 rfl rfl).bV;obtain⟨a',rfl,h3⟩:=L.aO;obtain⟨b',o',s'⟩:=a';obtain⟨k1,k2,k3⟩:=h3;subst k2 k3;exact⟨b',m,k1⟩
 obtain rfl:y1=.agg (aQ c):=by
  obtain⟨ys,m,L⟩:=(G.2 1 (.agg (aQ c)) y1 rfl rfl).agg_inv;rw[m,flats_eq L λv hv=>?_];simp only[aQ,ZW,List.not_mem_nil,or_false]at hv;rcases hv with rfl|rfl|rfl|rfl<;>exact .inl ⟨_,_,rfl⟩
 obtain⟨N,Δ,u',α,t',q',V,Wg,cs,r1,r2,r3,r4,r5,r6,r7,r8,r9,ζ,r11,ε,δ,γ,β⟩:=judge_company (sl:=sl) (vd:=λi=>vd D i (c i)) F hF h0 (λi hi hc=>(H D i (c i) hi hc).1) (by
  intro bb V VV Wg aL k1 k2 k3 k4 k5 k6 k7 k8 k9 r M nB az M₀ hr hc m1 m2 hlt hH hR hM;have k:∀b c,p b c->c<u.heap.size:=λb c h=>(hw.lt h).2
  have s:∀b c,p b c->c<aL.heap.size/\c≠V/\c≠Wg/\¬S c:=λb c h=>by have:=k b c h;exact⟨by omega,by omega,by omega,hS b c h⟩
  have hsz:=hR.size;have κ:=hw.keep (λb d K=>(hR.keep d (.inr (s b d K)) (s b d K).1).trans (k1 d (k b d K))) (by omega);have η:az.heap[bb]? =some (.cells #[ptr B'] 31):=(hR.keep bb (.inr ⟨by omega,by omega,by omega,λh=>by have:=hF.sh _ h;omega⟩) (by omega)).trans k7;have θ:az.heap[VV]? =some (.cells #[ko V] 87):=(hR.keep VV (.inr ⟨by omega,by omega,by omega,λh=>by have:=hF.sh _ h;omega⟩) (by omega)).trans k8;have ν:=(hH _ ZX).2.2;have ο:=(hH _ (List.mem_cons_of_mem _ ZX)).2.2;have μ:=hM M m1;obtain⟨wL,ι,τ,E,c2,c3⟩:=worker_copy κ σ hB χ hb η ν ο (λb h=>by have:=k b _ h;omega) (λb h=>by have:=k b _ h;omega) (λb h=>by have:=k b _ h;omega) (by omega) (by omega);obtain⟨s1,s2⟩:=H D r (c r) hr hc;refine worker_owned hz F (by omega) hr s1 s2 ?_ ⟨by omega,by omega,by omega,λh=>by have:=hF.sh _ h;omega⟩ ⟨?_,λh=>?_,?_⟩ ι ?_ ⟨rfl,.inl (.inr rfl)⟩ ⟨rfl,.inr (.inl rfl)⟩ ⟨rfl,.inr (.inr rfl)⟩ λT=>?_
  .rintro d (⟨b,hb,_⟩|rfl)
   .exact s b d hb
   .exact⟨by omega,by omega,by omega,λh=>by have:=hF.sh _ h;omega⟩
  .omega
  .have:=hM VV h;omega
  .simp[World.cell?,θ]
  .rintro b d ⟨rfl,hd⟩ I
   rcases hd with hd|rfl|rfl
   .exact absurd hd I
   .exact m1
   .exact m2
  .exact Ω D B' bb M nB r (c r) (ay wL T) (berthC_heap (w:=wL) (u:=ay wL T) rfl τ) z hr hc E c2 c3)
 have Y:∀f x fs w,f∈C0.sp->¬bI (patch ae prog) C0 R JJ (Frame.enter (patch ae prog) f x .normal) fs w:=λf x fs w hf=>by
  rcases O f hf with rfl|rfl|rfl
  .exact(ig x w).lZ fs
  .exact(gH x w).lZ fs
  .exact(gG x w).lZ fs
 have X:∀f x fs cs w n fr w',f∈C0.sp->(∀y∈fs,y.mode=.run/\y.defers=[]/\∃fn,(patch ae prog).funcs[y.fn]? =some fn)->runN (patch ae prog) n (lone (Frame.enter (patch ae prog) f x .normal) (fs++[stop (patch ae prog)]) w)=.next (lone fr cs w')->fr.mode≠.returning:=λf x fs cs w n fr w' hf z I=>by
  rcases O f hf with rfl|rfl|rfl
  .exact(ig x w).lost fs z I
  .exact(gH x w).lost fs z I
  .exact(gG x w).lost fs z I
 have U:∀v f x,f∈C0.sp->a.finish v≠Frame.enter (patch ae prog) f x .normal:=λv f x hf e=>by
  have m:=congrArg Frame.fn e;rw[(oU a v).1]at m;have Z:a.fn=f:=m;obtain⟨n1,n2⟩:=φ f hf;obtain⟨_,_,_,A⟩:=W.1
  by_cases Q:fs=[]
  .exact n2 (Z.symm.trans ((A.2 Q).2.2 υ))
  .exact n1 (Z▸(A.1 Q).2.2.1)
 obtain⟨n,v,w',⟨Vl,row,rfl,g1,g2,g3,g4,g5,g6,g7⟩,hd⟩:=down_calls (C0:=C0) Y X (T:=λ_ _=>0) ht rfl U (HJC D B c (ay w λ_ _=>0) (berthC_heap (w:=w) (u:=ay w λ_ _=>0) rfl hb.any) z (λ_ _=>rfl));obtain⟨⟨ρ,P,J,A⟩,hcs⟩:=W;have hp:Ext p (addR p Vl V):=λb c h=>.inl h
 have pl:∀b c,p b c->b<w.heap.size/\c<u.heap.size:=λb c h=>hw.lt h
 refine⟨N,_,t',n,_,r1,hd,addR p Vl V,b.finish (ko V),bs,Δ,u',α,q',λx=>S x\/x=Wg,rfl,r2,⟨?_,.inl ((jd _ _).trans P),hcs.ext hp,A.finish _ _⟩,?_,r3,?_,ω p _ u u' ψ ⟨r4,r5,r6,r7,λc hc _=>r8 c hc,λb c h I=>?_,hp⟩⟩
 .exact(ρ.ext hp).finish hC (VR.slice ⟨.inr ⟨rfl,rfl⟩,rfl,rfl⟩) J
 .have Ξ:w.heap.size<=Vl:=g1
  have Θ:=g3;have hVl:=(ZK.1 g4).1;refine⟨?_,?_,λc h=>.inl (hw.kin c h),?_,⟨ZP hw.big.1 Θ,ZP hw.big.2 r7⟩⟩
  .rintro b1 E b2 c2 (m|⟨rfl,rfl⟩) (L|⟨rfl,rfl⟩)
   .exact hw.fit _ _ _ _ m L
   .have:=pl _ _ m;omega
   .have:=pl _ _ L;omega
   .simp
  .rintro b1 E (m|⟨rfl,rfl⟩)
   .obtain⟨l1,l2⟩:=pl _ _ m
    obtain⟨xs,ys,e,f,g,m1,m2,m3,m4,m5⟩|⟨a1,a2,l,m1,m2,m3,m4⟩|⟨a1,a2,l,m1,m2,m3,m4⟩:=hw.rows b1 E m
    .exact .inl ⟨xs,ys,e,f,g,(g2 b1 l1).trans m1,(r8 E l2).trans m2,m3.mono λ_ _=>VR.ext hp,m4,m5⟩
    .exact .inr (.inl ⟨a1,a2,l,(g2 b1 l1).trans m1,(r8 E l2).trans m2,m3.mono hp,m4⟩)
    .exact .inr (.inr ⟨a1,a2,l,(g2 b1 l1).trans m1,(r8 E l2).trans m2,m3.mono hp,m4⟩)
   .exact .inl ⟨row,cs,91,(0,0),(0,0),g4,ε,rows_same (λi hi hc=>H D i (c i) hi hc) g5 δ g6 g7 γ β _,λh=>by have:=(pl _ _ (hw.kin _ h)).2;omega,λ_=>rfl⟩
  .rintro b1 E (m|⟨rfl,rfl⟩) ξ
   .exact hw.low _ _ m ξ
   .exact⟨ZP hw.big.1 Ξ,ZP hw.big.2 r9⟩
 .rintro b1 E (m|⟨rfl,rfl⟩) hs
  .rcases hs with hs|rfl
   .exact hS _ _ m hs
   .have:=(pl _ _ m).2;omega
  .rcases hs with hs|hs
   .have:=hF.sh _ hs;omega
   .exact ζ hs
 .rcases h with h|⟨_,rfl⟩
  .exact absurd h I
  .exact r9
end
end
namespace Z
open Go.RowKit
attribute [local go_sem ↓] Go.wp_at_zero Go.wp_at_succ
attribute [local go_sem] After.cell After.frozen After.const
def vdB (D:BD)(i:Nat)(n:Int):Array Value:=eF (dz D i (dL D i)) (dz D i (gq D i)) n
theorem vdB_flat:∀D i n,i<4->0<n->(vdB D i n).size=17/\∀v∈(vdB D i n).toList,jP v:=λD i n _ _=>by
 refine⟨jB _ _ _,λv a=>?_⟩;simp only[vdB,eF,List.mem_map]at a;obtain⟨j,_,rfl⟩:=a;unfold jC;split
 .exact .inl ⟨_,_,rfl⟩
 .exact .inr ⟨_,rfl⟩
theorem make_verd (W):(Instr.makeSlice 87 (.int .i64 4) (.int .i64 4)).run (patch ae prog) W=.ok (.slice (some ⟨W.heap.size,0,none⟩) 4 4) (W.alloc (.cells dQ 91)):=by kernel_rfl
theorem index_ints (c:Nat->Int)(k:Nat)(a:k<4)(W):Sem.run (patch ae prog) (Instr.index 37 (.agg #[.int .i64 (c 0),.int .i64 (c 1),.int .i64 (c 2),.int .i64 (c 3)]) (.int .i64 k)) W=.ok (.int .i64 (c k)) W:=by
 obtain rfl|rfl|rfl|rfl:k=0\/k=1\/k=2\/k=3:=by omega
 all_goals kernel_rfl
def vrow (D:BD)(c:Nat->Int)(k j:Nat):Value:=if j/17<k/\0<c (j/17)then jC (dz D (j/17) (dL D (j/17))) (dz D (j/17) (gq D (j/17))) (c (j/17)) 15 (j%17)else mK j
theorem vrow_hit {D}{c}{k}(h:0<c k)(j):vrow D c (k+1) j=if k*17<=j/\j<k*17+17 then jC (dz D k (dL D k)) (dz D k (gq D k)) (c k) 15 (j-k*17)else vrow D c k j:=by
 unfold vrow
 by_cases b:k*17<=j/\j<k*17+17
 .have f:j/17=k:=by omega
  have e:j%17=j-k*17:=by omega
  rw[f,if_pos ⟨by omega,h⟩,if_pos b,e]
 .rw[if_neg b]
  by_cases a:j/17<k/\0<c (j/17)
  .rw[if_pos a,if_pos ⟨by omega,a.2⟩]
  .rw[if_neg a,if_neg (λd=>a ⟨by omega,d.2⟩)]
theorem vrow_miss {D}{c}{k}(h:¬0<c k)(j):vrow D c (k+1) j=vrow D c k j:=by
 unfold vrow
 by_cases a:j/17<k/\0<c (j/17)
 .rw[if_pos a,if_pos ⟨by omega,a.2⟩]
 .rw[if_neg a,if_neg (λb=>a ⟨by
   have:j/17≠k:=λe=>h (e▸b.2)
   omega,b.2⟩)]
theorem jset_row {b n}{t}:∀(vs:List Value) (o:Nat) (w:World) (f:Nat->Value),w.rowIs b t n f->(w.setCells b o vs).rowIs b t n (λj=>if o<=j/\j<o+vs.length then vs.getD (j-o) undef else f j)
 |[],o,w,f,h=>h.congr λj _=>by
  have:¬(o<=j/\j<o+([]:List Value).length):=λh=>by have a:=h.2;simp only[List.length_nil]at a;omega
  rw[if_neg this]
 |v::vs,o,w,f,h=>by
  refine(jset_row vs (o+1) (w.setCell ⟨b,o,none⟩ v) _ (h.set o v)).congr λj _=>?_
  by_cases c:j=o
  .subst c
   rw[if_neg (by omega),if_pos rfl,if_pos (by simp),Nat.sub_self];rfl
  .by_cases a:o+1<=j/\j<o+1+vs.length
   .have e:j-o=(j-(o+1))+1:=by omega
    rw[if_pos a,if_pos (by simp only[List.length_cons];omega),e];rfl
   .rw[if_neg a,if_neg c,if_neg (by simp only[List.length_cons];omega)]
theorem jset_other {b c}(a:c≠b):∀(vs:List Value) (o:Nat) (w:World),(w.setCells b o vs).heap[c]? =w.heap[c]?
 |[],_,_=>rfl
 |v::vs,o,w=>(jset_other a vs (o+1) (w.setCell ⟨b,o,none⟩ v)).trans (aad _ _ _ _ a)
theorem jset_below {B b}{a}(hb:B<=b):∀(vs:List Value) (o:Nat) (w:World),Below B a w->Below B a (w.setCells b o vs)
 |[],_,_,h=>h
 |v::vs,o,w,h=>jset_below hb vs (o+1) _ (h.setCell hb v)
theorem jset_size {b}:∀(vs:List Value) (o:Nat) (w:World),(w.setCells b o vs).heap.size=w.heap.size
 |[],_,_=>rfl
 |v::vs,o,w=>(jset_size vs (o+1) (w.setCell ⟨b,o,none⟩ v)).trans (by simp)
theorem zeroRow_rowIs {w:World}{b}(h:w.heap[b]? =some (.cells dQ 91 (0,0)))(D)(c):w.rowIs b 91 68 (vrow D c 0):=by
 have hs:dQ.size=68:=by kernel_rfl
 refine⟨dQ,h,hs,λj a=>?_⟩;unfold vrow;rw[if_neg (by omega)];unfold mK;rw[ZY,ZM (by omega)];rfl
theorem vrow_set {w:World}{b k}{t}{D}{c}{vs}(h:w.rowIs b t 68 (vrow D c k))(hc:0<c k)(a:vs=eF (dz D k (dL D k)) (dz D k (gq D k)) (c k)):(w.setCells b (k*17) vs.toList).rowIs b t 68 (vrow D c (k+1)):=by
 refine(jset_row _ _ _ _ h).congr λj _=>?_
 rw[vrow_hit hc];have e:vs.toList.length=17:=by rw[a];simp[jB]
 rw[e]
 by_cases d:k*17<=j/\j<k*17+17
 .rw[if_pos d,if_pos d,a]
  have:j-k*17<17:=by omega
  simp[eF,this]
 .rw[if_neg d,if_neg d]
theorem judge_kept {wr w2:World}{o a}{b n}{t}{f}(h:wr.rowIs b t n f)(hb:Below ((wr.alloc o).alloc a).heap.size ((wr.alloc o).alloc a) w2):w2.rowIs b t n f:=
 have c:Below wr.heap.size wr ((wr.alloc o).alloc a):=((aab _ _).alloc (ZL _) _).alloc (by simp) _
 h.of_block ((ai c hb).block b h.lt)
theorem judge_there {w:World}{b k}{t}{f}{vs:Array Value}(h:w.rowIs b t 68 f)(d:k<4)(a:vs.size=17):w.there b (k*17) vs.size:=λj c=>by
 rw[a]at c;refine⟨?_,h.frozen _⟩;rw[h.cell (by omega)];rfl
theorem judge_all (us fr)(n):(eF us fr n).all (·.oneCell')=true:=by
 rw[Array.all_eq_true'];intro v a;exact verdV_one us fr n v (by simpa using a)
end Z
