/- Part 8 of the proof. -/
import Derived.Test.YtfpaamhppamcoaaGreatDoorPo7
import Derived.Great.LaidInts
import Derived.Conc.LeavingOf
import Derived.SevenTiedAt
import Derived.LaidOnce
import Derived.Test.YtfpaamhppamcoaaGreatDoorShelf
import Derived.Lib.OwnBridge
import Derived.Lib.AppendIntMem
import Derived.RangeFuncNested
import Derived.RangeFuncBound
import Derived.Lib.ItoaLen
import Derived.Shelf.Spec.TrailingZeros
import Derived.Lib.RuneCount
set_option linter.all false
set_option maxRecDepth 100000
set_option maxHeartbeats 60000000
namespace Go.Proofs.YtfpaamhppamcoaaGreatDoor
open Go.Proofs.Tryz
section
open Go Go.Conc Go.ConcN Go.RowKit
def vF (w:World)(Z:Nat->Prop)(v:Value)(n:Nat)(R:Nat->Int):Prop:=∃ao cap,v=.slice ao n cap/\n<=cap/\n<=9223372036854775807/\(0<n->∃b o,ao=some ⟨b,o,none⟩/\∀i,i<n->w.cell? ⟨b,o+i,none⟩=some (.int .i64 (R i)))/\∀x,ao=some x->Z x.block/\cap≠0
def Xj (w:World)(Z:Nat->Prop)(b o D:Nat):Prop:=∃(nm:ByteArray) (A:Nat->Option Addr) (N C:Nat->Nat) (R:Nat->Nat->Int),
 w.cell? ⟨b,o,none⟩=some (.string nm)/\(∀q,q<4->w.cell? ⟨b,o+1+q,none⟩=some (.slice (A q) (N q) (C q)))/\(∀q,q<4->vF w Z (.slice (A q) (N q) (C q)) (N q) (R q))/\(∀q,q<4->∀i,i<N q->-9223372036854775808<=R q i/\R q i<9223372036854775808)/\22*(N 0+N 1+N 2+N 3)+10*nm.size<=D
def je (w:World)(Z:Nat->Prop)(v:Value)(n D:Nat):Prop:=∃ao cap,v=.slice ao n cap/\n<=cap/\n<=1000000/\D<=1000000/\(0<n->∃b o,ao=some ⟨b,o,none⟩/\∀i,i<n->Xj w Z b (o+i*5) D)/\∀x,ao=some x->Z x.block/\cap≠0
def NV {K}{st}{p:Rel st}{w u}{G b c}(hw:WR G K p w u)(hp:p b c)(h:CB w b):CB u c:=by
 obtain⟨xs,e,g,hb⟩:=h;obtain⟨d,ys,j,f,g',a,i,_⟩|⟨_,_,_,a,_⟩|⟨_,_,_,a,_⟩:=hw.rows b c hp
 .exact⟨ys,j,g',i⟩
 .rw[hb]at a;cases a
 .rw[hb]at a;cases a
def QP {st:Prop}(p:Rel st)(u:World)(Z:Nat->Prop)(c:Nat):Prop:=CB u c/\∃b,p b c/\Z b
def um {K}{st}{p:Rel st}{w u}{Z}{G n cap}{ao}{x}(hw:WR G K p w u)(s:∀b,Z b->CB w b)(r:VR p (.slice ao n cap) x)(hx:∀x,ao=some x->Z x.block/\cap≠0):
 ∃c,x=.slice c n cap/\(∀x,c=some x->QP p u Z x.block/\cap≠0)/\∀b o,ao=some ⟨b,o,none⟩->∃j,c=some ⟨j,o,none⟩/\p b j:=by
 obtain⟨c,rfl,l⟩:=r.bD;refine⟨c,rfl,λx k=>?_,λb o hb=>?_⟩
 .subst k
  cases ao with
  |none=>exact l.elim
  |some a=>
   obtain⟨q,m⟩:=hx a rfl;obtain⟨a',e,i⟩:=l.aO;cases e;have hp:=(i.resolve_right λh=>m h.1.2).1;exact⟨⟨NV hw hp (s _ q),_,hp,q⟩,m⟩
 .subst hb
  obtain⟨a',rfl,i⟩:=l.aO;replace i:=i.resolve_right λh=>(hx _ rfl).2 h.1.2
  obtain⟨j,t,s'⟩:=a';obtain⟨g,f,d⟩:=i;simp only at g f d;subst f d;exact⟨j,rfl,g⟩
def vF.carry {K}{st}{p:Rel st}{w u}{Z}{G}{v x}{n}{R}(h:vF w Z v n R)(hw:WR G K p w u)(l:∀b,Z b->CB w b)(g:VR p v x):vF u (QP p u Z) x n R:=by
 obtain⟨ao,cap,rfl,s,r,q,m⟩:=h;obtain⟨c,rfl,k1,f⟩:=um hw l g m;refine⟨c,cap,rfl,s,r,λj=>?_,k1⟩;obtain⟨b,o,e,hb⟩:=q j;obtain⟨d,t,hp⟩:=f b o e;refine⟨d,o,t,λi k=>?_⟩;obtain⟨y,g1,g2⟩:=hw.cell (a:=⟨b,o+i,none⟩) (b:=⟨d,o+i,none⟩) ⟨hp,rfl,rfl⟩ (hb i k);rw[g2.bT]at g1;exact g1
def je.carry {K}{st}{p:Rel st}{w u}{Z}{G}{v x}{n D}(h:je w Z v n D)(hw:WR G K p w u)(l:∀b,Z b->CB w b)(m:VR p v x):je u (QP p u Z) x n D:=by
 obtain⟨ao,cap,rfl,H,F,t,E,B⟩:=h;obtain⟨k,rfl,k1,j⟩:=um hw l m B;refine⟨k,cap,rfl,H,F,t,λr=>?_,k1⟩;obtain⟨b,o,e,hb⟩:=E r;obtain⟨g,I,hp⟩:=j b o e;refine⟨g,o,I,λi s=>?_⟩;obtain⟨nm,A,N,C,R,f1,f2,f3,f4,f5⟩:=hb i s;obtain⟨y,g1,g2⟩:=hw.cell (a:=⟨b,o+i*5,none⟩) (b:=⟨g,o+i*5,none⟩) ⟨hp,rfl,rfl⟩ f1;rw[g2.bO]at g1
 have key:∀q,∃c,q<4->u.cell? ⟨g,o+i*5+1+q,none⟩=some (.slice c (N q) (C q))/\vF u (QP p u Z) (.slice c (N q) (C q)) (N q) (R q):=λq=>by
  by_cases d:q<4
  .obtain⟨z,k1,j⟩:=hw.cell (a:=⟨b,o+i*5+1+q,none⟩) (b:=⟨g,o+i*5+1+q,none⟩) ⟨hp,rfl,rfl⟩ (f2 q d)
   obtain⟨c,e,_⟩:=j.bD;subst e;exact⟨c,λ_=>⟨k1,(f3 q d).carry hw l j⟩⟩
  .exact⟨none,λh=>absurd h d⟩
 obtain⟨c,f⟩:∃c:Nat->Option Addr,∀q,q<4->u.cell? ⟨g,o+i*5+1+q,none⟩=some (.slice (c q) (N q) (C q))/\vF u (QP p u Z) (.slice (c q) (N q) (C q)) (N q) (R q):=⟨λq=>(key q).choose,λq=>(key q).choose_spec⟩;exact⟨nm,c,N,C,R,g1,λq d=>(f q d).1,λq d=>(f q d).2,f4,f5⟩
def vF.same {w u}{Z Z'}{v}{n}{R}(h:vF w Z v n R)(c:∀b,Z b->Z' b)(hc:∀a v,w.cell? a=some v->jH Z v->u.cell? a=some v):vF u Z' v n R:=by
 obtain⟨ao,cap,e,l,k,j,d⟩:=h;exact⟨ao,cap,e,l,k,λf=>let ⟨b,o,x,y⟩:=j f;⟨b,o,x,λi g=>hc _ _ (y i g) trivial⟩,λx hx=>⟨c _ (d x hx).1,(d x hx).2⟩⟩
def vF.pure {w}{Z}{v}{n}{R}(h:vF w Z v n R):jH Z v:=by
 obtain⟨ao,cap,rfl,e,d,c,b⟩:=h;cases ao with
 |none=>trivial
 |some a=>exact(b a rfl).1
def je.pure {w}{Z}{v}{n D}(h:je w Z v n D):jH Z v:=by
 obtain⟨ao,cap,rfl,f,e,c,d,b⟩:=h;cases ao with
 |none=>trivial
 |some a=>exact(b a rfl).1
def je.same {w u}{Z Z'}{v}{n D}(h:je w Z v n D)(c:∀b,Z b->Z' b)(hc:∀a v,w.cell? a=some v->jH Z v->u.cell? a=some v):je u Z' v n D:=by
 obtain⟨ao,cap,e,p,m,k,l,f⟩:=h;refine⟨ao,cap,e,p,m,k,λg=>?_,λx hx=>⟨c _ (f x hx).1,(f x hx).2⟩⟩;obtain⟨b,o,x,y⟩:=l g;refine⟨b,o,x,λi j=>?_⟩;obtain⟨nm,A,N,C,R,f1,f2,f3,f4,f5⟩:=y i j;exact⟨nm,A,N,C,R,hc _ _ f1 trivial,λq d=>hc _ _ (f2 q d) (f3 q d).pure,λq d=>(f3 q d).same c hc,f4,f5⟩
def JJ (f:FuncId)(x:Array Value)(w:World):Prop:=
 (f=340->∃B D a,zk x=ptr B/\bM w a B D/\D.ok/\tX w a/\a B)/\(f=341->∃c:Nat->Int,zk x=.agg (aQ c))/\(f=342->∃n D,je w (CB w) (zk x) n D)
def mE {w u:World}(h:u.heap=w.heap):∀a v,w.cell? a=some v->u.cell? a=some v:=λa v b=>by
 unfold World.cell? at b⊢;rw[h];exact b
def uS {w u}(h:u.heap=w.heap){Z}{B}{D}(hb:bM w Z B D):bM u Z B D:=hb.same (λ_ h=>h) (mE h)
def uT {w u}(h:u.heap=w.heap){B}{D}(hb:aW w B D):aW u B D:=hb.same (λ_ h=>h) (mE h)
def A9 {w u}(h:u.heap=w.heap){Z}(hc:tX w Z):tX u Z:=λb hb=>by rw[h];exact hc b hb
def rY {f}{x}{w u}(h:u.heap=w.heap)(i:JJ f x w):JJ f x u:=
 ⟨λe=>let ⟨B,D,Z,a,b,c,d,z⟩:=i.1 e;⟨B,D,Z,a,uS h b,c,A9 h d,z⟩,i.2.1,λe=>let ⟨n,D,b⟩:=i.2.2 e;⟨n,D,b.same (λ_ ⟨xs,e,g,hb⟩=>⟨xs,e,g,by rw[h];exact hb⟩) λa v j _=>mE h a v j⟩⟩
def Qo:∀f x w T,JJ f x (ay w T)->JJ f x w:=λ_ _ w T h=>rY (w:=ay w T) (u:=w) rfl h
def F4 (x)(n):(x++Array.replicate n undef).getD 0 undef=zk x:=by
 unfold zk;rw[ZY,ZY]
 by_cases h:0<x.size
 .rw[Array.getElem?_append_left h]
 .have:x= #[]:=Array.eq_empty_of_size_eq_zero (by omega)
  subst this;cases n<;>simp
def I5 {P}{f f'}{x a}(h:Frame.enter P f' a .normal=Frame.enter P f x .normal):f'=f/\zk a=zk x:=by
 have e:=congrArg Frame.fn h;have d:=congrArg Frame.tmps h;have b:f'=f:=e;subst b;refine⟨rfl,?_⟩;have c:a++Array.replicate (((P.funcs[f']?).map (·.ntmps)).getD 0-a.size) undef=x++Array.replicate (((P.funcs[f']?).map (·.ntmps)).getD 0-x.size) undef:=d;rw[<-F4 a,<-F4 x,c]
def CO (t:Nat):Array Oper:= #[bg (some t) (.move (.const (.bool true))),bg (some t) (.move (.const (.bool false)))]
def xB:Code->Code
 |.seq _ (.seq _ (.seq _ (.seq _ r)))=>r
 |c=>c
def jK:(eD 340 f42).body=some (.seq (.region 90 (CO 22) true) (.seq (.cond (.tmp 22) (.region 91 #[bg none (bX 340 #[.tmp 0])] false) .skip) (.seq (.region 92 (CO 23) true) (.seq (.cond (.tmp 23) (.region 93 #[bg none (bX 341 #[.tmp 1])] false) .skip) (xB ((eD 340 f42).body.getD .skip)))))):=by kernel_rfl
def sK:(patch ae prog).funcs[42]? =some (eD 340 f42):=by
 have h:=iO ae prog rE;rw[jN]at h;rw[h];rfl
def OY (m:Bool)(t:Nat):Prop:=Region.schedule m (CO t) 0=[0,1]/\Region.schedule m (CO t) 1=[1,0]
def Ms (m)(t)(a:t=22\/t=23\/t=1):OY m t:=by
 rcases a with rfl|rfl|rfl<;>cases m
 .exact⟨by kernel_rfl,by kernel_rfl⟩
 .exact⟨by kernel_rfl,by kernel_rfl⟩
 .exact⟨by kernel_rfl,by kernel_rfl⟩
 .exact⟨by kernel_rfl,by kernel_rfl⟩
 .exact⟨by kernel_rfl,by kernel_rfl⟩
 .exact⟨by kernel_rfl,by kernel_rfl⟩
def base_kind (n):(base n).kind≠.early:=by show CallKind.normal≠_;decide
def GV {P}{main}{b:Frame}{a}{k}{cs}{id}{ops}(w):
 stepG P main (G (b.at a (.code (.region id ops true)::k)) cs) w=.go (G (b.at a (.inRegion ops (Region.schedule (P.follows .mixedOrders) ops (w.tape w.drawn (.order b.fn id)))::k)) cs) w.drew #[]:=by
 have d:(Question.order b.fn id).forced=false:=rfl;have c:∀n,(Question.order b.fn id).cut n=n:=λ_=>rfl
 simp[G,stepG,stepG.exec,Frame.at,d,c]
section
variable {C0:iG}{R:Value->World->Prop}{fs:List Frame}
def tj {fb}{a a'}{k k'}{w w'}(T)(h:bI (patch ae prog) C0 R JJ ((base fb).at a k) fs w)(b:fb∉C0.sp)
 (hs:∃es,stepG (patch ae prog) true (G ((base fb).at a k) (fs++[stop (patch ae prog)])) (ay w T)=.go (G ((base fb).at a' k') (fs++[stop (patch ae prog)])) w' es):bI (patch ae prog) C0 R JJ ((base fb).at a' k') fs w':=
 let ⟨_,hs⟩:=hs
 Ml T h rfl (λf x hf e=>b (by have:=congrArg Frame.fn e;rw[show(Frame.enter (patch ae prog) f x .normal).fn=f from rfl]at this;rw[show fb=f from this];exact hf)) hs
def OM {fb N}(c:fb∉C0.sp){X}{id t n}{k}{w}(B:t=22\/t=23\/t=1)(d:t<N)(y:n=0\/n=1)(p:X.size=N)
 (h:bI (patch ae prog) C0 R JJ ((base fb).at ⟨X,[]⟩ (.code (.region id (CO t) true)::k)) fs w):
 ∃(w':World) (r:Array Value),w'.heap=w.heap/\r.size=N/\r.getD t undef=.bool (n==1)/\(∀j,j≠t->r.getD j undef=X.getD j undef)/\bI (patch ae prog) C0 R JJ ((base fb).at ⟨r,[]⟩ k) fs w':=by
 have e:∀m,Region.schedule m (CO t) n=if n=0 then [0,1]else [1,0]:=λm=>by
  obtain⟨a,b⟩:=Ms m t B;rcases y with rfl|rfl
  .simpa using a
  .simpa using b
 have q:=tj (λ_ _=>n) h c (k':=.inRegion (CO t) (if n=0 then [0,1]else [1,0])::k) (w':=(ay w λ_ _=>n).drew) (a':=⟨X,[]⟩) ⟨#[],by rw[GV,<-e];rfl⟩
 have g:∀(i:Nat) (v:Value) (l:List Nat) (X:Array Value) (w:World),(i=0/\v=.bool true\/i=1/\v=.bool false)->bI (patch ae prog) C0 R JJ ((base fb).at ⟨X,[]⟩ (.inRegion (CO t) (i::l)::k)) fs w->
  bI (patch ae prog) C0 R JJ ((base fb).at ⟨X.setIfInBounds t v,[]⟩ (.inRegion (CO t) l::k)) fs (ay w w.tape):=λi v l X w C s=>by
  refine tj w.tape s c ?_
  obtain⟨o,A,z,x⟩:∃o,(CO t)[i]? =some o/\o.op=.move (.const v)/\o.dst=some t/\o.guard=none:=by
   rcases C with⟨rfl,rfl⟩|⟨rfl,rfl⟩<;>exact⟨_,rfl,rfl,rfl,rfl⟩
  rw[stepG_value A (bq x.2 _) (base_kind _) (v:=v) (w':=ay w w.tape) (by rw[tu (.inl z)];rfl),x.1];exact⟨_,rfl⟩
 have fin:∀(X:Array Value) (w:World),bI (patch ae prog) C0 R JJ ((base fb).at ⟨X,[]⟩ (.inRegion (CO t) []::k)) fs w->bI (patch ae prog) C0 R JJ ((base fb).at ⟨X,[]⟩ k) fs (ay w w.tape):=λX w s=>
  tj w.tape s c ⟨_,stepG_region_end⟩
 rcases y with rfl|rfl
 .simp only[if_true]at q
  have u:=fin _ _ (g 1 _ _ _ _ (.inr ⟨rfl,rfl⟩) (g 0 _ _ _ _ (.inl ⟨rfl,rfl⟩) q));refine⟨_,_,?_,by simpa using p,bU (by simp only[Array.size_setIfInBounds,p];exact d),λj f=>?_,u⟩
  .rfl
  .rw[getD_set_ne (Ne.symm f),getD_set_ne (Ne.symm f)]
 .simp only[Nat.one_ne_zero,if_false]at q
  have u:=fin _ _ (g 0 _ _ _ _ (.inl ⟨rfl,rfl⟩) (g 1 _ _ _ _ (.inr ⟨rfl,rfl⟩) q));refine⟨_,_,?_,by simpa using p,bU (by simp only[Array.size_setIfInBounds,p];exact d),λj f=>?_,u⟩
  .rfl
  .rw[getD_set_ne (Ne.symm f),getD_set_ne (Ne.symm f)]
def ring {fb}(g:fb∉C0.sp){X}{id al t s}{c}{fn}{w}(hc:X.getD t undef=.bool true)(hf:(patch ae prog).funcs[al]? =some fn)(d:(fn.name== "runtime.NumGoroutine")=false)(hb:fn.body.isNone=false)(k:∀x w,oG (patch ae prog) al x w)
 (h:bI (patch ae prog) C0 R JJ ((base fb).at ⟨X,[]⟩ [.code (.cond (.tmp t) (.region id #[bg none (bX al #[.tmp s])] false) .skip),.code c]) fs w):JJ al #[X.getD s undef] w:=by
 have p:=tj w.tape h g (k':=[.code (.region id #[bg none (bX al #[.tmp s])] false),.code c]) (w':=ay w w.tape) (a':=⟨X,[]⟩) ⟨_,stepG_cond (show(Act.mk X []).eval (.tmp t)=.bool true from hc)⟩;have m:=tj w.tape p g (k':=[.inRegion #[bg none (bX al #[.tmp s])] [0],.code c]) (w':=ay w w.tape) (a':=⟨X,[]⟩) ⟨_,stepG_region⟩
 have e:(execOp (Act.mk X []).eval (bg none (bX al #[.tmp s]))).runT (patch ae prog) (ay w w.tape) #[]=(.ok (.enter al #[X.getD s undef]) (ay w w.tape),#[]):=by
  have q:execOp (Act.mk X []).eval (bg none (bX al #[.tmp s]))=callFunc al (#[]++(#[.tmp s]:Array Operand).map (Act.mk X []).eval++ #[]):=rfl;rw[q,Array.empty_append,ac4,show(#[.tmp s]:Array Operand).map (Act.mk X []).eval= #[X.getD s undef]from by simp[Act.eval]];exact AU hf d hb _ _
 rw[Sem.runT_eq,Prod.mk.injEq]at e;have l:=Eg (f:=al) (x:= #[X.getD s undef]) (as':=(base fb).at ⟨X,[]⟩ [.inRegion #[bg none (bX al #[.tmp s])] [0],.code c]::fs) (w':=ay w w.tape) w.tape m rfl (λfs w=>(k _ w).lZ fs) (λf' r he i=>?_) (stepG_enter (o:=bg none (bX al #[.tmp s])) rfl (bq rfl _) (base_kind _) e.1)
 .exact rY (w:=ay w w.tape) rfl l
 .obtain⟨rfl,j⟩:=I5 he
  refine⟨λe=>?_,λe=>?_,λe=>?_⟩
  .obtain⟨B,D,Z,a,b⟩:=i.1 e
   exact⟨B,D,Z,j▸a,b⟩
  .obtain⟨c,a⟩:=i.2.1 e
   exact⟨c,j▸a⟩
  .obtain⟨n,D,a⟩:=i.2.2 e
   exact⟨n,D,j▸a⟩
def OT {fb}(a:fb∉C0.sp){X}{t}{p x y}{w}(hc:X.getD t undef=.bool false)(h:bI (patch ae prog) C0 R JJ ((base fb).at ⟨X,[]⟩ [.code (.cond (.tmp t) p .skip),.code (.seq x y)]) fs w):
 ∃w',w'.heap=w.heap/\bI (patch ae prog) C0 R JJ ((base fb).at ⟨X,[]⟩ [.code x,.code y]) fs w':=by
 have d:=tj w.tape h a (k':=[.code .skip,.code (.seq x y)]) (w':=ay w w.tape) (a':=⟨X,[]⟩) ⟨_,stepG_cond (show(Act.mk X []).eval (.tmp t)=.bool false from hc)⟩;have c:=tj w.tape d a (k':=[.code (.seq x y)]) (w':=ay w w.tape) (a':=⟨X,[]⟩) ⟨_,stepG_skip⟩;have b:=tj w.tape c a (k':=[.code x,.code y]) (w':=ay w w.tape) (a':=⟨X,[]⟩) ⟨_,stepG_seq⟩;exact⟨_,rfl,b⟩
def CJ:(eD 340 f42).ntmps=28:=rfl
def EX:∃r,(eD 340 f42).body=some (.seq (.region 90 (CO 22) true) (.seq (.cond (.tmp 22) (.region 91 #[bg none (bX 340 #[.tmp 0])] false) .skip) (.seq (.region 92 (CO 23) true) (.seq (.cond (.tmp 23) (.region 93 #[bg none (bX 341 #[.tmp 1])] false) .skip) r)))):=⟨_,jK⟩
def Ww (x0 x1):(#[x0,x1]++Array.replicate 26 undef).size=28/\(#[x0,x1]++Array.replicate 26 undef).getD 0 undef=x0/\(#[x0,x1]++Array.replicate 26 undef).getD 1 undef=x1:=by
 refine⟨by simp,?_,?_⟩
 .rw[ZY,Array.getElem?_append_left (by simp)];rfl
 .rw[ZY,Array.getElem?_append_left (by simp)];rfl
def Um (a:42∉C0.sp){x0 x1}{w}(h:bI (patch ae prog) C0 R JJ (Frame.enter (patch ae prog) 42 #[x0,x1] .normal) fs w):JJ 340 #[x0] w/\JJ 341 #[x1] w:=by
 obtain⟨r,hb⟩:=EX;rw[enter_at _ sK hb,CJ,show 28-(#[x0,x1]:Array Value).size=26 from rfl]at h;obtain⟨hs,g0,g1⟩:=Ww x0 x1;generalize #[x0,x1]++Array.replicate 26 undef=X at h hs g0 g1;have j:=tj w.tape h a (k':=[.code (.region 90 (CO 22) true),.code (.seq (.cond (.tmp 22) (.region 91 #[bg none (bX 340 #[.tmp 0])] false) .skip) (.seq (.region 92 (CO 23) true) (.seq (.cond (.tmp 23) (.region 93 #[bg none (bX 341 #[.tmp 1])] false) .skip) r)))]) (w':=ay w w.tape) (a':=⟨X,[]⟩) ⟨_,stepG_seq⟩;refine⟨?_,?_⟩
 .obtain⟨w2,i,g,k,f,e,d⟩:=OM a (.inl rfl) (by decide) (.inr rfl) hs j
  have c:=tj w2.tape d a (k':=[.code (.cond (.tmp 22) (.region 91 #[bg none (bX 340 #[.tmp 0])] false) .skip),.code (.seq (.region 92 (CO 23) true) (.seq (.cond (.tmp 23) (.region 93 #[bg none (bX 341 #[.tmp 1])] false) .skip) r))]) (w':=ay w2 w2.tape) (a':=⟨i,[]⟩) ⟨_,stepG_seq⟩;have:=ring a f (OB ae) (by kernel_rfl) rfl ig c;rw[e 0 (by decide),g0]at this;exact rY (w:=w2) g.symm this
 .obtain⟨w2,i,g,k,f,e,d⟩:=OM a (.inl rfl) (by decide) (.inl rfl) hs j
  have c:=tj w2.tape d a (k':=[.code (.cond (.tmp 22) (.region 91 #[bg none (bX 340 #[.tmp 0])] false) .skip),.code (.seq (.region 92 (CO 23) true) (.seq (.cond (.tmp 23) (.region 93 #[bg none (bX 341 #[.tmp 1])] false) .skip) r))]) (w':=ay w2 w2.tape) (a':=⟨i,[]⟩) ⟨_,stepG_seq⟩;obtain⟨w3,f1,o⟩:=OT a f c;obtain⟨b,p,l,i2,i3,i4,n⟩:=OM a (.inr (.inl rfl)) (by decide) (.inr rfl) k o;have m:=tj b.tape n a (k':=[.code (.cond (.tmp 23) (.region 93 #[bg none (bX 341 #[.tmp 1])] false) .skip),.code r]) (w':=ay b b.tape) (a':=⟨p,[]⟩) ⟨_,stepG_seq⟩;have:=ring a i3 (xK ae) (by kernel_rfl) rfl gH m;rw[i4 1 (by decide),e 1 (by decide),g1]at this;exact rY (w:=b) (l.trans (f1.trans g)).symm this
def J6:Code:=.seq (.region 90 (CO 1) true) (.seq (.cond (.tmp 1) (.region 91 #[bg none (bX 342 #[.tmp 0])] false) .skip) (.seq (.region 92 #[bg (some 2) (.move (.const .nilFunc))] false) .ret))
def AX:(patch ae prog).funcs[88]? =some (AQ 342 f88):=by
 have h:=iO ae prog func88;rw[jN]at h;rw[h];rfl
def lh:(AQ 342 f88).body=some J6:=rfl
def Wv (x0):(#[x0]++Array.replicate 2 undef).size=3/\(#[x0]++Array.replicate 2 undef).getD 0 undef=x0:=by
 refine⟨by simp,?_⟩;rw[ZY,Array.getElem?_append_left (by simp)];rfl
def Rz (a:88∉C0.sp){x0}{w}(h:bI (patch ae prog) C0 R JJ (Frame.enter (patch ae prog) 88 #[x0] .normal) fs w):JJ 342 #[x0] w:=by
 rw[enter_at _ AX lh,show(AQ 342 f88).ntmps=3 from rfl,show 3-(#[x0]:Array Value).size=2 from rfl]at h;obtain⟨hs,g0⟩:=Wv x0;generalize #[x0]++Array.replicate 2 undef=X at h hs g0;unfold J6 at h;have d:=tj w.tape h a (k':=[.code (.region 90 (CO 1) true),.code (.seq (.cond (.tmp 1) (.region 91 #[bg none (bX 342 #[.tmp 0])] false) .skip) (.seq (.region 92 #[bg (some 2) (.move (.const .nilFunc))] false) .ret))]) (w':=ay w w.tape) (a':=⟨X,[]⟩) ⟨_,stepG_seq⟩;obtain⟨w2,i,g,j,f,e,c⟩:=OM a (.inr (.inr rfl)) (by decide) (.inr rfl) hs d;have b:=tj w2.tape c a (k':=[.code (.cond (.tmp 1) (.region 91 #[bg none (bX 342 #[.tmp 0])] false) .skip),.code (.seq (.region 92 #[bg (some 2) (.move (.const .nilFunc))] false) .ret)]) (w':=ay w2 w2.tape) (a':=⟨i,[]⟩) ⟨_,stepG_seq⟩;have:=ring a f (z8 ae) (by kernel_rfl) rfl gG b;rw[e 0 (by decide),g0]at this;exact rY (w:=w2) g.symm this
end
end
section
open Go Go.Conc Go.ConcN Go.RowKit Go.Conc.Lib
open Go.ConcR (KK wgBlock WgAt stA smA rd wr mk Payload DC0)
def Gx:∀x,x<68->jP (mK x):=by
 have key:∀v∈dQ.toList,jP v:=by
  intro v a;simp only[dQ,zeroV,adu,abz,ZW,List.mem_replicate]at a;have f0:jP (.int .i64 0):=.inl ⟨_,_,rfl⟩;have f1:jP (.bool false):=.inr ⟨_,rfl⟩;rcases a with(rfl|⟨_,rfl⟩)|(rfl|⟨_,rfl⟩)|(rfl|⟨_,rfl⟩)|(rfl|⟨_,rfl⟩)<;>assumption
 intro x hx;have hs:dQ.size=68:=by kernel_rfl
 refine key _ ?_;unfold mK;rw[ZY];have:x<dQ.size:=by omega
 simp[this]
def JY {st}{p:Rel st}{v}(h:jP v):VR p v v:=by
 rcases h with⟨k,n,rfl⟩|⟨b,rfl⟩
 .exact VR.int _ _
 .exact VR.bool _
def dm (vd:Nat->Array Value)(c:Nat->Int)(w:World)(v:Value)(w':World):Prop:=
 ∃a row,v=ko a/\w.heap.size<=a/\(∀d,d<w.heap.size->w'.heap[d]? =w.heap[d]?)/\w.heap.size<=w'.heap.size/\w'.heap[a]? =some (.cells row 91)/\row.size=68/\
  (∀i,i<4->0<c i->∀o,o<17->row[17*i+o]? =(vd i)[o]?)/\∀i,i<4->¬0<c i->∀o,o<17->row[17*i+o]? =some (mK (17*i+o))
def KF {vd:Nat->Array Value}{c:Nat->Int}(e:∀i,i<4->0<c i->(vd i).size=17/\∀v∈(vd i).toList,jP v){row cs}(g:row.size=68)(f:cs.size=68)
 (h:∀i,i<4->0<c i->∀o,o<17->row[17*i+o]? =(vd i)[o]?)(a2:∀i,i<4->¬0<c i->∀o,o<17->row[17*i+o]? =some (mK (17*i+o)))
 (b1:∀i,i<4->0<c i->∀o,o<17->cs[17*i+o]? =(vd i)[o]?)(b2:∀i,i<4->¬0<c i->∀o,o<17->cs[17*i+o]? =some (mK (17*i+o))){st}(p:Rel st):aF (VR p) row cs:=by
 refine⟨g.trans f.symm,λx v u a hu=>?_⟩;have hx:x<68:=by have:=(ZK.1 a).1;omega
 obtain⟨i,o,b,d,rfl⟩:∃i o,i<4/\o<17/\x=17*i+o:=⟨x/17,x%17,by omega,by omega,by omega⟩
 by_cases hc:0<c i
 .rw[h i b hc o d]at a
  rw[b1 i b hc o d]at hu;rw[a]at hu;cases hu;obtain⟨s1,s2⟩:=e i b hc;exact JY (s2 v (by rw[<-Array.mem_def];exact ac5 a))
 .rw[a2 i b hc o d]at a
  rw[b2 i b hc o d]at hu;cases a;cases hu;exact JY (Gx _ (by omega))
def UH {st:Prop}(p:Rel st)(B D:Nat):Rel st:=λb c=>p b c\/(b=B/\c=D)
def WR.keep {G}{K}{st}{p:Rel st}{w u az}(h:WR G K p w u)(m:∀b c,p b c->az.heap[c]? =u.heap[c]?)(hs:u.heap.size<=az.heap.size):WR G K p w az:=by
 refine⟨h.fit,λb c d=>?_,h.qp,h.low,⟨h.BB.1,ZP h.BB.2 hs⟩⟩;obtain⟨xs,ys,e,f,g,k,j,i⟩|⟨a,a',l,k,j,i⟩|⟨a,a',l,k,j,i⟩:=h.rows b c d
 .exact .inl ⟨xs,ys,e,f,g,k,(m b c d).trans j,i⟩
 .exact .inr (.inl ⟨a,a',l,k,(m b c d).trans j,i⟩)
 .exact .inr (.inr ⟨a,a',l,k,(m b c d).trans j,i⟩)
section
variable [Payload]
def PN {K0}{st}{Iv}(ω:∀p q u u',Iv p u->dE K0 p q u u'->Iv q u')(F:Payload.ety=91)(hz:dM (patch ae prog)){C C0}{R}{vd:BD->Nat->Int->Array Value}(hC:j6 C)(Γ:42∉C0.sp)(O:∀f,f∈C0.sp->f=340\/f=341\/f=342)(φ:∀f,f∈C0.sp->f∉C.fns/\f≠C.root)(υ:C.jh=true)
 (H:∀D i n,i<4->0<n->(vd D i n).size=17/\∀v∈(vd D i n).toList,jP v)
 (Ω:∀(D:BD) (B bb M nB r:Nat) (n:Int) (w:World),aW w B D->D.ok->r<4->0<n->w.cell? ⟨bb,0,none⟩=some (ptr B)->w.cell? ⟨M,0,none⟩=some (.int .i64 r)->w.cell? ⟨nB,0,none⟩=some (.int .i64 n)->
  Calls (patch ae prog) 69 #[undef,ptr bb,ptr M,ptr nB,undef] w fun|.returned v,w'=>o9 (vd D r n) r v w'|_,_=>False)
 (Zs:∀(D:BD) (B:Nat) (c:Nat->Int) (w:World),aW w B D->D.ok->(∀j q,w.tape j q=0)->Calls (patch ae prog) 42 #[ptr B,.agg (aQ c)] w fun|.returned v,w'=>dm (λi=>vd D i (c i)) c w v w'|_,_=>False)
 {x y}{a}{fs}{b}{bs}{w u}{gs}{sl}{t}{q}{S}{p:Rel st}
 (ht:bI (patch ae prog) C0 R JJ (Frame.enter (patch ae prog) 42 x .normal) (a::fs) w)(G:aF (VR p) x y)(hx:x.size=2)(W:CR C (patch ae prog) p (a::fs) (b::bs))(hw:WR (patch ae prog).globals.size K0 p w u)(hF:ni prog S gs u.heap.size t q)
 (h0:gs[0]? =some (df (Frame.enter prog 42 y .normal) (b::bs)))(hS:∀b c,p b c->¬S c)(ψ:Iv p u):
 ∃N m' t' n s',runNT prog N (crowd gs u sl) t=(.next m',t')/\Down (patch ae prog) C0 n ⟨Frame.enter (patch ae prog) 42 x .normal,a::fs,w⟩ s'/\Om C (patch ae prog) prog K0 Iv s' m' t':=by
 obtain⟨x0,x1,rfl⟩:=array2 hx;obtain⟨j1,j2⟩:=Um Γ ht;obtain⟨B,D,Zl,e0,hb,z,σ,χ⟩:=j1.1 rfl;obtain⟨c,e1⟩:=j2.2.1 rfl;have Ψ:=e0;have Φ:=e1;subst Ψ Φ;obtain⟨y0,y1,rfl⟩:=array2 (G.1.symm.trans hx)
 obtain⟨B',rfl,hB⟩:∃B',y0=ptr B'/\p B B':=by
  obtain⟨o,m,L⟩:=(G.2 0 (ptr B) y0 rfl rfl).bV;obtain⟨a',rfl,h3⟩:=L.aO;obtain⟨b',o',s'⟩:=a';obtain⟨k1,k2,k3⟩:=h3;subst k2 k3;exact⟨b',m,k1⟩
 obtain rfl:y1=.agg (aQ c):=by
  obtain⟨ys,m,L⟩:=(G.2 1 (.agg (aQ c)) y1 rfl rfl).vQ;rw[m,Fx L λv hv=>?_];simp only[aQ,ZW,adm,or_false]at hv;rcases hv with rfl|rfl|rfl|rfl<;>exact .inl ⟨_,_,rfl⟩
 obtain⟨N,Δ,u',α,t',q',V,Wg,cs,r1,r2,r3,r4,r5,r6,r7,r8,r9,ζ,Zv,ε,δ,γ,β⟩:=Al (sl:=sl) (vd:=λi=>vd D i (c i)) F hF h0 (λi hi hc=>(H D i (c i) hi hc).1) (by
  intro bb V VV Wg aL k1 k2 k3 k4 k5 k6 k7 k8 k9 r M nB az M₀ hr hc m1 m2 YT hH hR hM;have k:∀b c,p b c->c<u.heap.size:=λb c h=>(hw.lt h).2
  have s:∀b c,p b c->c<aL.heap.size/\c≠V/\c≠Wg/\¬S c:=λb c h=>by have:=k b c h;exact⟨by omega,by omega,by omega,hS b c h⟩
  have Zx:=hR.size;have κ:=hw.keep (λb d K=>(hR.keep d (.inr (s b d K)) (s b d K).1).trans (k1 d (k b d K))) (by omega);have η:az.heap[bb]? =some (.cells #[ptr B'] 31):=(hR.keep bb (.inr ⟨by omega,by omega,by omega,λh=>by have:=hF.sh _ h;omega⟩) (by omega)).trans k7;have θ:az.heap[VV]? =some (.cells #[ko V] 87):=(hR.keep VV (.inr ⟨by omega,by omega,by omega,λh=>by have:=hF.sh _ h;omega⟩) (by omega)).trans k8;have ν:=(hH _ ZX).2.2;have ο:=(hH _ (ac1 _ ZX)).2.2;have μ:=hM M m1;obtain⟨wL,ι,τ,E,c2,c3⟩:=DY κ σ hB χ hb η ν ο (λb h=>by have:=k b _ h;omega) (λb h=>by have:=k b _ h;omega) (λb h=>by have:=k b _ h;omega) (by omega) (by omega);obtain⟨s1,s2⟩:=H D r (c r) hr hc;refine BR hz F (by omega) hr s1 s2 ?_ ⟨by omega,by omega,by omega,λh=>by have:=hF.sh _ h;omega⟩ ⟨?_,λh=>?_,?_⟩ ι ?_ ⟨rfl,.inl (.inr rfl)⟩ ⟨rfl,.inr (.inl rfl)⟩ ⟨rfl,.inr (.inr rfl)⟩ λT=>?_
  .rintro d (⟨b,hb,_⟩|rfl)
   .exact s b d hb
   .exact⟨by omega,by omega,by omega,λh=>by have:=hF.sh _ h;omega⟩
  .omega
  .have:=hM VV h;omega
  .simp[World.cell?,θ]
  .rintro b d ⟨rfl,hd⟩ I
   rcases hd with hd|rfl|rfl
   .exact absurd hd I
   .exact m1
   .exact m2
  .exact Ω D B' bb M nB r (c r) (ay wL T) (uT (w:=wL) (u:=ay wL T) rfl τ) z hr hc E c2 c3)
 have Y:∀f x fs w,f∈C0.sp->¬bI (patch ae prog) C0 R JJ (Frame.enter (patch ae prog) f x .normal) fs w:=λf x fs w hf=>by
  rcases O f hf with rfl|rfl|rfl
  .exact(ig x w).lZ fs
  .exact(gH x w).lZ fs
  .exact(gG x w).lZ fs
 have X:∀f x fs cs w n fr w',f∈C0.sp->(∀y∈fs,y.mode=.run/\y.defers=[]/\∃fn,(patch ae prog).funcs[y.fn]? =some fn)->runN (patch ae prog) n (lone (Frame.enter (patch ae prog) f x .normal) (fs++[stop (patch ae prog)]) w)=.next (lone fr cs w')->fr.mode≠.returning:=λf x fs cs w n fr w' hf z I=>by
  rcases O f hf with rfl|rfl|rfl
  .exact(ig x w).lost fs z I
  .exact(gH x w).lost fs z I
  .exact(gG x w).lost fs z I
 have U:∀v f x,f∈C0.sp->a.finish v≠Frame.enter (patch ae prog) f x .normal:=λv f x hf e=>by
  have m:=congrArg Frame.fn e;rw[(oU a v).1]at m;have Z:a.fn=f:=m;obtain⟨n1,n2⟩:=φ f hf;obtain⟨_,_,_,A⟩:=W.1
  by_cases Q:fs=[]
  .exact n2 (Z.symm.trans ((A.2 Q).2.2 υ))
  .exact n1 (Z▸(A.1 Q).2.2.1)
 obtain⟨n,v,w',⟨Vl,row,rfl,g1,g2,g3,g4,g5,g6,g7⟩,hd⟩:=yO (C0:=C0) Y X (T:=λ_ _=>0) ht rfl U (Zs D B c (ay w λ_ _=>0) (uT (w:=w) (u:=ay w λ_ _=>0) rfl hb.any) z (λ_ _=>rfl));obtain⟨⟨ρ,P,J,A⟩,hcs⟩:=W;have hp:Ext p (UH p Vl V):=λb c h=>.inl h
 have pl:∀b c,p b c->b<w.heap.size/\c<u.heap.size:=λb c h=>hw.lt h
 refine⟨N,_,t',n,_,r1,hd,UH p Vl V,b.finish (ko V),bs,Δ,u',α,q',λx=>S x\/x=Wg,rfl,r2,⟨?_,.inl ((jd _ _).trans P),hcs.ext hp,A.finish _ _⟩,?_,r3,?_,ω p _ u u' ψ ⟨r4,r5,r6,r7,λc hc _=>r8 c hc,λb c h I=>?_,hp⟩⟩
 .exact(ρ.ext hp).finish hC (VR.slice ⟨.inr ⟨rfl,rfl⟩,rfl,rfl⟩) J
 .have Ξ:w.heap.size<=Vl:=g1
  have Θ:=g3;have ZA:=(ZK.1 g4).1;refine⟨?_,?_,λc h=>.inl (hw.qp c h),?_,⟨ZP hw.BB.1 Θ,ZP hw.BB.2 r7⟩⟩
  .rintro b1 E b2 c2 (m|⟨rfl,rfl⟩) (L|⟨rfl,rfl⟩)
   .exact hw.fit _ _ _ _ m L
   .have:=pl _ _ m;omega
   .have:=pl _ _ L;omega
   .simp
  .rintro b1 E (m|⟨rfl,rfl⟩)
   .obtain⟨l1,l2⟩:=pl _ _ m
    obtain⟨xs,ys,e,f,g,m1,m2,m3,m4,m5⟩|⟨a1,a2,l,m1,m2,m3,m4⟩|⟨a1,a2,l,m1,m2,m3,m4⟩:=hw.rows b1 E m
    .exact .inl ⟨xs,ys,e,f,g,(g2 b1 l1).trans m1,(r8 E l2).trans m2,m3.mono λ_ _=>VR.ext hp,m4,m5⟩
    .exact .inr (.inl ⟨a1,a2,l,(g2 b1 l1).trans m1,(r8 E l2).trans m2,m3.mono hp,m4⟩)
    .exact .inr (.inr ⟨a1,a2,l,(g2 b1 l1).trans m1,(r8 E l2).trans m2,m3.mono hp,m4⟩)
   .exact .inl ⟨row,cs,91,(0,0),(0,0),g4,ε,KF (λi hi hc=>H D i (c i) hi hc) g5 δ g6 g7 γ β _,λh=>by have:=(pl _ _ (hw.qp _ h)).2;omega,λ_=>rfl⟩
  .rintro b1 E (m|⟨rfl,rfl⟩) ξ
   .exact hw.low _ _ m ξ
   .exact⟨ZP hw.BB.1 Ξ,ZP hw.BB.2 r9⟩
 .rintro b1 E (m|⟨rfl,rfl⟩) hs
  .rcases hs with hs|rfl
   .exact hS _ _ m hs
   .have:=(pl _ _ m).2;omega
  .rcases hs with hs|hs
   .have:=hF.sh _ hs;omega
   .exact ζ hs
 .rcases h with h|⟨_,rfl⟩
  .exact absurd h I
  .exact r9
end
end
namespace Z
open Go.RowKit
attribute [local go_sem ↓] Go.wp_at_zero Go.wp_at_succ
attribute [local go_sem] After.cell After.frozen After.const
def zF (D:BD)(i:Nat)(n:Int):Array Value:=eF (dz D i (dL D i)) (dz D i (gq D i)) n
def Ee:∀D i n,i<4->0<n->(zF D i n).size=17/\∀v∈(zF D i n).toList,jP v:=λD i n _ _=>by
 refine⟨jB _ _ _,λv a=>?_⟩;simp only[zF,eF,adz]at a;obtain⟨j,_,rfl⟩:=a;unfold jC;split
 .exact .inl ⟨_,_,rfl⟩
 .exact .inr ⟨_,rfl⟩
def KY (W):(Instr.makeSlice 87 (.int .i64 4) (.int .i64 4)).run (patch ae prog) W=.ok (.slice (some ⟨W.heap.size,0,none⟩) 4 4) (W.alloc (.cells dQ 91)):=by kernel_rfl
def ym (c:Nat->Int)(k:Nat)(a:k<4)(W):Sem.run (patch ae prog) (Instr.index 37 (.agg #[.int .i64 (c 0),.int .i64 (c 1),.int .i64 (c 2),.int .i64 (c 3)]) (.int .i64 k)) W=.ok (.int .i64 (c k)) W:=by
 obtain rfl|rfl|rfl|rfl:k=0\/k=1\/k=2\/k=3:=by omega
 all_goals kernel_rfl
def pW (D:BD)(c:Nat->Int)(k j:Nat):Value:=if j/17<k/\0<c (j/17)then jC (dz D (j/17) (dL D (j/17))) (dz D (j/17) (gq D (j/17))) (c (j/17)) 15 (j%17)else mK j
def Me {D}{c}{k}(h:0<c k)(j):pW D c (k+1) j=if k*17<=j/\j<k*17+17 then jC (dz D k (dL D k)) (dz D k (gq D k)) (c k) 15 (j-k*17)else pW D c k j:=by
 unfold pW
 by_cases b:k*17<=j/\j<k*17+17
 .have f:j/17=k:=by omega
  have e:j%17=j-k*17:=by omega
  rw[f,if_pos ⟨by omega,h⟩,if_pos b,e]
 .rw[if_neg b]
  by_cases a:j/17<k/\0<c (j/17)
  .rw[if_pos a,if_pos ⟨by omega,a.2⟩]
  .rw[if_neg a,if_neg (λd=>a ⟨by omega,d.2⟩)]
def Kk {D}{c}{k}(h:¬0<c k)(j):pW D c (k+1) j=pW D c k j:=by
 unfold pW
 by_cases a:j/17<k/\0<c (j/17)
 .rw[if_pos a,if_pos ⟨by omega,a.2⟩]
 .rw[if_neg a,if_neg (λb=>a ⟨by
   have:j/17≠k:=λe=>h (e▸b.2)
   omega,b.2⟩)]
def EY {b n}{t}:∀(vs:List Value) (o:Nat) (w:World) (f:Nat->Value),w.rowIs b t n f->(w.setCells b o vs).rowIs b t n (λj=>if o<=j/\j<o+vs.length then vs.getD (j-o) undef else f j)
 |[],o,w,f,h=>h.congr λj _=>by
  have:¬(o<=j/\j<o+([]:List Value).length):=λh=>by have a:=h.2;simp only[List.length_nil]at a;omega
  rw[if_neg this]
 |v::vs,o,w,f,h=>by
  refine(EY vs (o+1) (w.setCell ⟨b,o,none⟩ v) _ (h.set o v)).congr λj _=>?_
  by_cases c:j=o
  .subst c
   rw[if_neg (by omega),if_pos rfl,if_pos (by simp),Nat.sub_self];rfl
  .by_cases a:o+1<=j/\j<o+1+vs.length
   .have e:j-o=(j-(o+1))+1:=by omega
    rw[if_pos a,if_pos (by simp only[adt];omega),e];rfl
   .rw[if_neg a,if_neg c,if_neg (by simp only[adt];omega)]
def xX {b c}(a:c≠b):∀(vs:List Value) (o:Nat) (w:World),(w.setCells b o vs).heap[c]? =w.heap[c]?
 |[],_,_=>rfl
 |v::vs,o,w=>(xX a vs (o+1) (w.setCell ⟨b,o,none⟩ v)).trans (aad _ _ _ _ a)
def xY {B b}{a}(hb:B<=b):∀(vs:List Value) (o:Nat) (w:World),Below B a w->Below B a (w.setCells b o vs)
 |[],_,_,h=>h
 |v::vs,o,w,h=>xY hb vs (o+1) _ (h.setCell hb v)
def Bb {b}:∀(vs:List Value) (o:Nat) (w:World),(w.setCells b o vs).heap.size=w.heap.size
 |[],_,_=>rfl
 |v::vs,o,w=>(Bb vs (o+1) (w.setCell ⟨b,o,none⟩ v)).trans (by simp)
def zH {w:World}{b}(h:w.heap[b]? =some (.cells dQ 91 (0,0)))(D)(c):w.rowIs b 91 68 (pW D c 0):=by
 have hs:dQ.size=68:=by kernel_rfl
 refine⟨dQ,h,hs,λj a=>?_⟩;unfold pW;rw[if_neg (by omega)];unfold mK;rw[ZY,ZM (by omega)];rfl
def Md {w:World}{b k}{t}{D}{c}{vs}(h:w.rowIs b t 68 (pW D c k))(hc:0<c k)(a:vs=eF (dz D k (dL D k)) (dz D k (gq D k)) (c k)):(w.setCells b (k*17) vs.toList).rowIs b t 68 (pW D c (k+1)):=by
 refine(EY _ _ _ _ h).congr λj _=>?_
 rw[Me hc];have e:vs.toList.length=17:=by rw[a];simp[jB]
 rw[e]
 by_cases d:k*17<=j/\j<k*17+17
 .rw[if_pos d,if_pos d,a]
  have:j-k*17<17:=by omega
  simp[eF,this]
 .rw[if_neg d,if_neg d]
def Il {wr w2:World}{o a}{b n}{t}{f}(h:wr.rowIs b t n f)(hb:Below ((wr.alloc o).alloc a).heap.size ((wr.alloc o).alloc a) w2):w2.rowIs b t n f:=
 have c:adN wr ((wr.alloc o).alloc a):=((aab _ _).alloc (ZL _) _).alloc (by simp) _
 h.of_block ((ai c hb).block b h.lt)
def EW {w:World}{b k}{t}{f}{vs:Array Value}(h:w.rowIs b t 68 f)(d:k<4)(a:vs.size=17):w.there b (k*17) vs.size:=λj c=>by
 rw[a]at c;refine⟨?_,h.frozen _⟩;rw[h.cell (by omega)];rfl
def K8 (us fr)(n):(eF us fr n).all (·.oneCell')=true:=by
 rw[adb];intro v a;exact AL us fr n v (by simpa using a)
def uD (D)(B)(c)(t22 t23)(w)(hb:aW w B D)(C:D.ok):
 (xB ((eD 340 f42).body.getD .skip)).wp (patch ae prog) (bodyPost (patch ae prog) (eD 340 f42) (fun|.returned v,w'=>dm (λi=>zF D i (c i)) c w v w'/\adN w w'|_,_=>False))
  ⟨#[ptr B,.agg (aQ c),undef,undef,undef,undef,undef,undef,undef,undef,undef,undef,undef,undef,undef,undef,undef,undef,undef,undef,undef,undef,t22,t23,undef,undef,undef,undef],[]⟩ w:=by
 have t:(eD 340 f42).results= #[.tmp 4]:=by kernel_rfl
 generalize V:bodyPost (patch ae prog) (eD 340 f42) _=Q;simp only[eD,Ba,xB,f42,ac9,ads,aQ,bg,bX];unfold ptr;have H:Hid (aW w B D/\D.ok/\bodyPost (patch ae prog) (eD 340 f42) (fun|.returned v,w'=>dm (λi=>zF D i (c i)) c w v w'/\adN w w'|_,_=>False)=Q):=⟨hb,C,V⟩;have S:=λW:World=>KY W
 go_wp2_with fail;obtain⟨W,hW⟩:∃W,W=(((((w.alloc (.cells #[.pointer (some ⟨B,0,none⟩)] 31)).alloc (.cells #[.int .i64 (c 0),.int .i64 (c 1),.int .i64 (c 2),.int .i64 (c 3)] 37)).alloc (.cells dQ 91)).alloc (.cells #[.slice (some ⟨w.heap.size+1+1,0,none⟩) 4 4] 87)).alloc (.cells #[.int .u64 0,.int .u32 0] 130)):=⟨_,rfl⟩
 have p:Hid (W.heap[w.heap.size]? =some (.cells #[.pointer (some ⟨B,0,none⟩)] 31 (0,0))/\W.heap[w.heap.size+1+1]? =some (.cells dQ 91 (0,0))/\W.heap[w.heap.size+1+1+1]? =some (.cells #[.slice (some ⟨w.heap.size+1+1,0,none⟩) 4 4] 87 (0,0))/\adN w W/\W.heap.size=w.heap.size+5):=by
  rw[hW];refine⟨?_,?_,?_,?_,by simp⟩
  .rw[aac _ _ _ (by simp;omega),aac _ _ _ (by simp;omega),aac _ _ _ (by simp;omega),aac _ _ _ (by simp)]
   exact aae _ _
  .rw[aac _ _ _ (by simp),aac _ _ _ (by simp)]
   have:=aae ((w.alloc (.cells #[.pointer (some ⟨B,0,none⟩)] 31)).alloc (.cells #[.int .i64 (c 0),.int .i64 (c 1),.int .i64 (c 2),.int .i64 (c 3)] 37)) (.cells dQ 91);simpa using this
  .rw[aac _ _ _ (by simp)]
   have:=aae (((w.alloc (.cells #[.pointer (some ⟨B,0,none⟩)] 31)).alloc (.cells #[.int .i64 (c 0),.int .i64 (c 1),.int .i64 (c 2),.int .i64 (c 3)] 37)).alloc (.cells dQ 91)) (.cells #[.slice (some ⟨w.heap.size+1+1,0,none⟩) 4 4] 87);simpa using this
  .exact((((((aab _ _).alloc (ZL _) _).alloc (by simp) _).alloc (by simp;omega) _).alloc (by simp;omega) _).alloc (by simp;omega) _)
 rw[<-hW]
 go_loopw [11] (λi wr=>∃k:Nat,k<=4/\i=.int .i64 k/\wr.rowIs (w.heap.size+1+1) 91 68 (pW D c k)/\(∀b,b<W.heap.size->b≠w.heap.size+1+1->wr.heap[b]? =W.heap[b]?)/\adN w wr/\W.heap.size<=wr.heap.size) (λi _=>4-(intOf i).toNat)
 case atStart=>exact⟨0,by omega,rfl,zH p.out.2.1 D c,λ_ _ _=>rfl,p.out.2.2.2.1,ZL _⟩
 case round=>
  obtain⟨k,hk,rfl,s,E,hb,A⟩:=hrel;have d:Hid (wr.rowIs (w.heap.size+1+1) 91 68 (pW D c k)/\(∀b,b<W.heap.size->b≠w.heap.size+1+1->wr.heap[b]? =W.heap[b]?)/\adN w wr/\W.heap.size<=wr.heap.size):=⟨s,E,hb,A⟩
  by_cases m:k<4
  .have T:=ym c k m
   by_cases hc:0<c k
   .have x:Hid (aW ((wr.alloc (.cells #[.int .i64 (k:Int)] 3)).alloc (.cells #[.int .i64 (c k)] 3)) B D/\((wr.alloc (.cells #[.int .i64 (k:Int)] 3)).alloc (.cells #[.int .i64 (c k)] 3)).cell? ⟨w.heap.size,0,none⟩=some (ptr B)/\
     ((wr.alloc (.cells #[.int .i64 (k:Int)] 3)).alloc (.cells #[.int .i64 (c k)] 3)).cell? ⟨wr.heap.size,0,none⟩=some (.int .i64 k)/\((wr.alloc (.cells #[.int .i64 (k:Int)] 3)).alloc (.cells #[.int .i64 (c k)] 3)).cell? ⟨wr.heap.size+1,0,none⟩=some (.int .i64 (c k))):=by
     have a:adN wr ((wr.alloc (.cells #[.int .i64 (k:Int)] 3)).alloc (.cells #[.int .i64 (c k)] 3)):=((aab _ _).alloc (ZL _) _).alloc (by simp) _;have z5:=p.out.2.2.2.2;refine⟨aW.below (aW.below H.out.1 d.out.2.2.1) a,?_,?_,?_⟩
     .exact keeps a ((blk ((d.out.2.1 w.heap.size (by omega) (by omega)).trans p.out.1)).1 0)
     .exact(blk (aap wr _ _)).1 0
     .exact(blk (aam wr _ _)).1 0
    obtain⟨vs,f⟩:∃vs,vs=eF (dz D k (dL D k)) (dz D k (gq D k)) (c k):=⟨_,rfl⟩;have r:vs.size=17:=(by rw[f,jB]);have z:vs.all (·.oneCell')=true:=(by rw[f];exact K8 _ _ _);have y:((patch ae prog).info? 91).map (·.size)=some vs.size:=(by rw[r];exact iA);have g:=λx0 I=>ug D B w.heap.size wr.heap.size (wr.heap.size+1) k (c k) x0 I _ x.out.1 H.out.2.1 m hc x.out.2.1 x.out.2.2.1 x.out.2.2.2
    rw[<-f]at g;have G:Hid (vs=eF (dz D k (dL D k)) (dz D k (gq D k)) (c k)):=f;clear f x;have N:Hid (∀x0 I,_):=g
    go_wp2_with(first
     |(go_at_call 69;refine(N.out _ _).mono ?_;intro e w2 he;cases e with|panicked _=>exact he.elim|outgrown=>exact he.elim|returned v=>?_;obtain⟨K,u⟩:=he;unfold o9 at K;subst K;have R2:=Il d.out.1 u;have Y:=EW R2 m r;clear N)
     |refine wpList_store_mid rfl 91 _ _ rfl (w.heap.size+1+1) (k*17) vs rfl rfl Y y z ?_)
    have O:Hid (w2.rowIs (w.heap.size+1+1) 91 68 (pW D c k)/\Below ((wr.alloc (.cells #[.int .i64 (k:Int)] 3)).alloc (.cells #[.int .i64 (c k)] 3)).heap.size ((wr.alloc (.cells #[.int .i64 (k:Int)] 3)).alloc (.cells #[.int .i64 (c k)] 3)) w2):=⟨R2,u⟩;go_roundw
    case rel=>
     have a:adN wr ((wr.alloc (.cells #[.int .i64 (k:Int)] 3)).alloc (.cells #[.int .i64 (c k)] 3)):=((aab _ _).alloc (ZL _) _).alloc (by simp) _;have n:=ai a O.out.2;refine⟨k+1,by omega,by go_num,?_,λb hb l=>?_,?_,?_⟩
     .exact Md O.out.1 hc G.out
     .exact(xX l _ _ _).trans ((n.block b (by omega)).trans (d.out.2.1 b hb l))
     .exact xY (by omega) _ _ _ (ai d.out.2.2.1 n)
     .rw[Bb]
      have:=n.size;omega
    case measure=>simp[intOf];omega
   .have U:c k<=0:=by omega
    go_wp2_with fail;go_roundw
    case rel=>
     have a:adN wr ((wr.alloc (.cells #[.int .i64 (k:Int)] 3)).alloc (.cells #[.int .i64 (c k)] 3)):=((aab _ _).alloc (ZL _) _).alloc (by simp) _;refine⟨k+1,by omega,by go_num,?_,λb hb l=>?_,ai d.out.2.2.1 a,?_⟩
     .exact(d.out.1.of_block (a.block _ d.out.1.lt)).congr λj _=>(Kk hc j).symm
     .exact(a.block b (by omega)).trans (d.out.2.1 b hb l)
     .have:=a.size
      omega
    case measure=>simp[intOf];omega
  .have:k=4:=by omega
   subst this;obtain⟨q,Z⟩:=blk ((d.out.2.1 (w.heap.size+1+1+1) (by have:=p.out.2.2.2.2;omega) (by omega)).trans p.out.2.2.1);go_wp2_with fail;rw[<-H.out.2.2];refine bodyPost_ret (results_tmp t _ _ _) rfl ?_;obtain⟨cur,R,P,J⟩:=d.out.1;refine⟨⟨w.heap.size+1+1,cur,rfl,by omega,d.out.2.2.1.block,d.out.2.2.1.size,R,P,λi M hc o L=>?_,λi M hc o L=>?_⟩,d.out.2.2.1⟩
   .have F:(17*i+o)/17=i:=by omega
    have X:(17*i+o)%17=o:=(by omega);rw[J _ (by omega)];unfold pW;rw[F,X,if_pos ⟨M,hc⟩];simp[zF,eF,L]
   .have F:(17*i+o)/17=i:=by omega
    rw[J _ (by omega)];unfold pW;rw[F,if_neg (λh=>hc h.2)]
def Im (D)(B)(c)(t22 t23)(w)(hb:aW w B D)(b:D.ok):
 (xB ((eD 340 f42).body.getD .skip)).wp (patch ae prog) (bodyPost (patch ae prog) (eD 340 f42) (fun|.returned v,w'=>dm (λi=>zF D i (c i)) c w v w'|_,_=>False))
  ⟨#[ptr B,.agg (aQ c),undef,undef,undef,undef,undef,undef,undef,undef,undef,undef,undef,undef,undef,undef,undef,undef,undef,undef,undef,undef,t22,t23,undef,undef,undef,undef],[]⟩ w:=by
 refine Code.wp_mono ?_ (uD D B c t22 t23 w hb b);rintro e a u h;cases e with
 |normal=>exact⟨h.1,h.2.choose,h.2.choose_spec.1,h.2.choose_spec.2.1⟩
 |ret=>exact⟨h.1,h.2.choose,h.2.choose_spec.1,h.2.choose_spec.2.1⟩
 |panic ch=>exact h.2.elim
 |_=>exact h
end Z
section
open Go Go.Conc Go.ConcN
def I6 {st}{P Q}{K}{C}{R}{Iv:Rel st->World->Prop}(α:∀p u d,Iv p u->Iv p (u.at d))(Z:∀p q u u',Iv p u->dE K p q u u'->Iv q u')(hz:dM P)(hp:aH C P Q)(tw:Twin P Q)(M:C.sd=false\/¬st)(U:∀o,C.mark o=false)(O:C.sp=[]){cs}
 {a}{ZJ}{w}(ht:Tree P R a ZJ w):∀(p:Rel st) (b:Frame) (bs:List Frame) (gs:Array Goroutine) (u:World) (sl:Option (Nat×Nat)) (t:Trace) (q:Nat->Nat) (S:Nat->Prop),Live C P p a ZJ b bs->WR P.globals.size K p w u->gs[0]? =some (df b (bs++cs))->ni Q S gs u.heap.size t q->(∀b c,p b c->¬S c)->Iv p u->
  ∃(N:Nat) (i:Array Goroutine) (u':World) (j:Option (Nat×Nat)) (s:Trace) (z:Nat->Nat) (g:Rel st) (a' l:Frame) (w':World),runNT Q N (crowd gs u sl) t=(.next (crowd i u' j),s)/\i[0]? =some (df l cs)/\Live C P g a' [] l []/\WR P.globals.size K g w' u'/\ni Q S i u'.heap.size s z/\(∀b c,g b c->¬S c)/\Iv g u'/\L6 P R a' [] w'/\Ext p g:=by
 classical
 refine ht (λa ZJ w=>∀(p:Rel st) (b:Frame) (bs:List Frame) (gs:Array Goroutine) (u:World) (sl:Option (Nat×Nat)) (t:Trace) (q:Nat->Nat) (S:Nat->Prop),Live C P p a ZJ b bs->WR P.globals.size K p w u->gs[0]? =some (df b (bs++cs))->ni Q S gs u.heap.size t q->(∀b c,p b c->¬S c)->Iv p u->
  ∃(N:Nat) (i:Array Goroutine) (u':World) (j:Option (Nat×Nat)) (s:Trace) (z:Nat->Nat) (g:Rel st) (a' l:Frame) (w':World),runNT Q N (crowd gs u sl) t=(.next (crowd i u' j),s)/\i[0]? =some (df l cs)/\Live C P g a' [] l []/\WR P.globals.size K g w' u'/\ni Q S i u'.heap.size s z/\(∀b c,g b c->¬S c)/\Iv g u'/\L6 P R a' [] w'/\Ext p g) ?_
 intro a ZJ w I p b bs gs u sl t q S hl hw h0 hF hS H;rcases I with F|⟨T,I⟩
 .obtain rfl:=F.2.1
  cases bs with
  |cons x xs=>exact hl.cs.elim
  |nil=>exact⟨0,gs,u,sl,t,q,p,a,b,w,rfl,h0,hl,hw,hF,hS,H,F,Ext.refl _⟩
 have hr:a.mode=.returning->ZJ≠[]:=λh1 h2=>T ⟨h1,h2⟩
 obtain⟨N,i,a',u',j,s,z,B',r1,r2,r3,⟨hB,s1,X,g,l,r,rfl,A,v,Y,G,Lc⟩,r5⟩:=MQ (sl:=sl) (Stop:=λa' u' B'=>B'=u'.heap.size/\
  ∃s1:qC,(∀(p:Rel st) (b:Frame) (bs:List Frame) (gs:Array Goroutine) (u:World) (sl:Option (Nat×Nat)) (t:Trace) (q:Nat->Nat) (S:Nat->Prop),Live C P p s1.a s1.ZJ b bs->WR P.globals.size K p s1.w u->gs[0]? =some (df b (bs++cs))->ni Q S gs u.heap.size t q->(∀b c,p b c->¬S c)->Iv p u->
  ∃(N:Nat) (i:Array Goroutine) (u':World) (j:Option (Nat×Nat)) (s:Trace) (z:Nat->Nat) (g:Rel st) (a' l:Frame) (w':World),runNT Q N (crowd gs u sl) t=(.next (crowd i u' j),s)/\i[0]? =some (df l cs)/\Live C P g a' [] l []/\WR P.globals.size K g w' u'/\ni Q S i u'.heap.size s z/\(∀b c,g b c->¬S c)/\Iv g u'/\L6 P R a' [] w'/\Ext p g)/\
   ∃g l r,a'=df l (r++cs)/\Live C P g s1.a s1.ZJ l r/\WR P.globals.size K g s1.w u'/\(∀b c,g b c->¬S c)/\Iv g u'/\Ext p g) hF h0 rfl λd=>by
  have n:∀{g:Rel st} {u':World},dE K p g (u.at d) u'->∀b c,g b c->¬S c:=fun{g u'} B b c hb hs=>by
   by_cases E:p b c
   .exact hS b c E hs
   .have:=B.fresh b c hb E
    have:=hF.sh c hs;have e:(u.at d).heap.size=u.heap.size:=rfl;omega
  obtain⟨T',hA⟩:=uj (m:=true) (m':=true) (cs:=[stop P]) (ds:=cs) hz hp tw M hl (λ_ ⟨_,_,_,_,o,_,_,_,h⟩=>by rw[U o]at h;cases h) hr (hw.at d);rcases hA with hA|⟨g,a2,δ,l,r,w2,u',ζ,new,e2,e3,A,v,ε,B,he⟩|⟨_,f,_,_,_,_,_,_,_,_,_,_,_,D,_⟩
  .exfalso
   obtain⟨a',as',w',es,J,k,_⟩:=I T';rcases hA with⟨o,w3,γ,y⟩|⟨fr,η,w3,γ,y,ch,_,W,_⟩
   .rw[J]at y;cases y
   .rw[J]at y
    simp only[GStep.go.injEq,Goroutine.mk.injEq]at y;rw[y.1.1,W]at k;rcases k with h|h<;>cases h
  .refine⟨_,u',new,u'.heap.size,e3,B.size,λe V=>IX v (n B) (he e V),rfl,?_⟩
   obtain⟨a',as',w',es,J,k,X⟩:=I T';rw[J]at e2;simp only[GStep.go.injEq,Goroutine.mk.injEq]at e2;obtain⟨⟨y,e5,_⟩,e6,_⟩:=e2;have e7:as'=δ:=adw e5;subst y e6 e7;exact⟨⟨_,_,_⟩,X,g,l,r,rfl,A,v,n B,Z _ _ _ _ (α _ _ d H) B,B.ext⟩
  .rw[O]at D;cases D
 subst hB;obtain⟨N2,β,u2,L,t2,q2,p2,a2,b2,w2,f1,f2,f3,f4,f5,f6,f7,f8,f9⟩:=X g l r i u' j s z S A v r3 r5 Y G;refine⟨N+N2,β,u2,L,t2,q2,p2,a2,b2,w2,?_,f2,f3,f4,f5,f6,f7,f8,Lc.trans f9⟩;rw[runNT_add,r1];exact f1
end
section
open Go
def iQ:j5 prog 199 Extern.AbiNoEscape.same:=⟨_,func199,by kernel_rfl,by kernel_rfl,by kernel_rfl,by kernel_rfl⟩
def fQ:j5 prog 258 (Extern.BytealgMakeNoZero.makeNoZero (Func.params f258) (Func.resultTypes f258)):=⟨_,func258,by kernel_rfl,by kernel_rfl,by kernel_rfl,by kernel_rfl⟩
def lJ:j5 prog 145 Extern.ReflectliteType.typeOf:=⟨_,func145,by kernel_rfl,by kernel_rfl,by kernel_rfl,by kernel_rfl⟩
def mf:j5 prog 147 (Extern.SlicesOverlaps.overlaps (Func.params f147) (Func.resultTypes f147)):=⟨_,func147,by kernel_rfl,by kernel_rfl,by kernel_rfl,by kernel_rfl⟩
def Mx:qN prog:=⟨ "internal/reflectlite.rtype",by kernel_rfl⟩
def G8:qN (patch ae prog):=by
 unfold qN;rw[show(patch ae prog).cutTypes=(prog).cutTypes from congrArg Tables.cutTypes (Cw ae prog)];exact Mx
def Pt (t):typeHandle prog t=typeHandle (patch ae prog) t:=by
 unfold typeHandle;rw[zZ]
def Lp:List Nat:=[167,199,258,145]
def PE:pU Lp (patch ae prog) prog:=λg a=>by
 simp only[Lp,ZW,adm,or_false]at a;rcases a with rfl|rfl|rfl|rfl
 .exact⟨_,bL pM (by rfl),pM,λ_ _ _ _ _ h=>af.jR h⟩
 .exact⟨_,bL iQ (by rfl),iQ,λ_ _ _ _ _ h=>af.Dj h⟩
 .exact⟨_,bL fQ (by rfl),fQ,λ_ _ _ _ _ h=>af.kT _ _ h⟩
 .exact⟨_,bL lJ (by rfl),lJ,λ_ _ _ _ _ h=>af.Bn G8 Mx Pt h⟩
def NM:pU Lp (patch ae prog) (patch ae prog):=λg a=>by
 simp only[Lp,ZW,adm,or_false]at a;rcases a with rfl|rfl|rfl|rfl
 .exact⟨_,bL pM (by rfl),bL pM (by rfl),λ_ _ _ _ _ h=>af.jR h⟩
 .exact⟨_,bL iQ (by rfl),bL iQ (by rfl),λ_ _ _ _ _ h=>af.Dj h⟩
 .exact⟨_,bL fQ (by rfl),bL fQ (by rfl),λ_ _ _ _ _ h=>af.kT _ _ h⟩
 .exact⟨_,bL lJ (by rfl),bL lJ (by rfl),λ_ _ _ _ _ h=>af.Bn G8 G8 (λ_=>rfl) h⟩
def NF:dw [147] (patch ae prog) prog:=λg a=>by
 obtain rfl:=adi.1 a;exact⟨_,bL mf (by rfl),mf,λ_ _ _ _ _ b h=>af.overlaps b _ _ h,λ_ _ _ _ _ h=>bC.overlaps _ _ h⟩
def Le:dw [147] (patch ae prog) (patch ae prog):=λg a=>by
 obtain rfl:=adi.1 a;exact⟨_,bL mf (by rfl),bL mf (by rfl),λ_ _ _ _ _ b h=>af.overlaps b _ _ h,λ_ _ _ _ _ h=>bC.overlaps _ _ h⟩
def RB:List Nat:=[77,78,80,81,83,127,128,129,130,131,132,134,135,136,141,142,143,144,157,163,166,169,170,173,174,175,176,177,178,179,192,200,201,202,203,214,215,226,227,228,229,230,231,232,233,245,247,257,259,260,261,262,267,269,270,278,279,280,281,284,285]
def lX:List Nat:=88::RB
def PD:List Nat:=[167,199,258]
def QD:List Nat:=[4,5,12,13,3,7,8,9,10,11]
def LD:iG:={fns:=lX,sp:=[],mark:=λ_=>false,sg:=id,root:=1000000,rt:=0,jh:=false,dd:=[],kd:=.normal,pv:=λ_=>false,okF:=λ_ _=>True,gl:=QD,ext:=PD,hx:=[],rx:=[],ID:=true,sd:=true}
def uP:iG:={fns:=RB,sp:=[],mark:=λ_=>false,sg:=id,root:=88,rt:=1000000,jh:=true,dd:=[],kd:=.normal,pv:=λ_=>false,okF:=λ_ _=>True,gl:=QD,ext:=PD,hx:=[],rx:=[],ID:=true,sd:=true}
def NT:j6 uP:=⟨λ_ _=>rfl,λ_=>rfl,λ_=>rfl,λ_=>rfl,λ_ h=>Bool.noConfusion h,λ_ _ _ _ _=>trivial,λ_ _ _ _ _ _ _ _ _=>trivial⟩
def PU:j6 LD:=⟨λ_ _=>rfl,λ_=>rfl,λ_=>rfl,λ_=>rfl,λ_ h=>Bool.noConfusion h,λ_ _ _ _ _=>trivial,λ_ _ _ _ _ _ _ _ _=>trivial⟩
def JZ:pU PD prog prog:=λg a=>by
 simp only[PD,ZW,adm,or_false]at a;rcases a with rfl|rfl|rfl
 .exact⟨_,pM,pM,λ_ _ _ _ _ h=>af.jR h⟩
 .exact⟨_,iQ,iQ,λ_ _ _ _ _ h=>af.Dj h⟩
 .exact⟨_,fQ,fQ,λ_ _ _ _ _ h=>af.kT _ _ h⟩
def Tc:∀g∈RB,X3 LD uP prog g:=
 all_cons (bu func77 (by kernel_rfl))<|
 all_cons (bu func78 (by kernel_rfl))<|
 all_cons (bu func80 (by kernel_rfl))<|
 all_cons (bu func81 (by kernel_rfl))<|
 all_cons (bu func83 (by kernel_rfl))<|
 all_cons (bu func127 (by kernel_rfl))<|
 all_cons (bu func128 (by kernel_rfl))<|
 all_cons (bu func129 (by kernel_rfl))<|
 all_cons (bu func130 (by kernel_rfl))<|
 all_cons (bu func131 (by kernel_rfl))<|
 all_cons (bu func132 (by kernel_rfl))<|
 all_cons (bu func134 (by kernel_rfl))<|
 all_cons (bu func135 (by kernel_rfl))<|
 all_cons (bu func136 (by kernel_rfl))<|
 all_cons (bu func141 (by kernel_rfl))<|
 all_cons (bu func142 (by kernel_rfl))<|
 all_cons (bu func143 (by kernel_rfl))<|
 all_cons (bu func144 (by kernel_rfl))<|
 all_cons (bu func157 (by kernel_rfl))<|
 all_cons (bu func163 (by kernel_rfl))<|
 all_cons (bu func166 (by kernel_rfl))<|
 all_cons (bu func169 (by kernel_rfl))<|
 all_cons (bu func170 (by kernel_rfl))<|
 all_cons (bu func173 (by kernel_rfl))<|
 all_cons (bu func174 (by kernel_rfl))<|
 all_cons (bu func175 (by kernel_rfl))<|
 all_cons (bu func176 (by kernel_rfl))<|
 all_cons (bu func177 (by kernel_rfl))<|
 all_cons (bu func178 (by kernel_rfl))<|
 all_cons (bu func179 (by kernel_rfl))<|
 all_cons (bu func192 (by kernel_rfl))<|
 all_cons (bu func200 (by kernel_rfl))<|
 all_cons (bu func201 (by kernel_rfl))<|
 all_cons (bu func202 (by kernel_rfl))<|
 all_cons (bu func203 (by kernel_rfl))<|
 all_cons (bu func214 (by kernel_rfl))<|
 all_cons (bu func215 (by kernel_rfl))<|
 all_cons (bu func226 (by kernel_rfl))<|
 all_cons (bu func227 (by kernel_rfl))<|
 all_cons (bu func228 (by kernel_rfl))<|
 all_cons (bu func229 (by kernel_rfl))<|
 all_cons (bu func230 (by kernel_rfl))<|
 all_cons (bu func231 (by kernel_rfl))<|
 all_cons (bu func232 (by kernel_rfl))<|
 all_cons (bu func233 (by kernel_rfl))<|
 all_cons (bu func245 (by kernel_rfl))<|
 all_cons (bu func247 (by kernel_rfl))<|
 all_cons (bu func257 (by kernel_rfl))<|
 all_cons (bu func259 (by kernel_rfl))<|
 all_cons (bu func260 (by kernel_rfl))<|
 all_cons (bu func261 (by kernel_rfl))<|
 all_cons (bu func262 (by kernel_rfl))<|
 all_cons (bu func267 (by kernel_rfl))<|
 all_cons (bu func269 (by kernel_rfl))<|
 all_cons (bu func270 (by kernel_rfl))<|
 all_cons (bu func278 (by kernel_rfl))<|
 all_cons (bu func279 (by kernel_rfl))<|
 all_cons (bu func280 (by kernel_rfl))<|
 all_cons (bu func281 (by kernel_rfl))<|
 all_cons (bu func284 (by kernel_rfl))<|
 all_cons (bu func285 (by kernel_rfl))<|
 all_nil
def Ws:∀g∈RB,PB uP prog prog g:=λg a=>let ⟨_,h,_,k⟩:=Tc g a;KR h h k
def Ye:∀g∈lX,PB LD prog prog g:=all_cons (KR func88 func88 (by kernel_rfl)) λg a=>let ⟨_,h,k,_⟩:=Tc g a;KR h h k
def MK:aH LD prog prog:=
 aH.of PU JZ fU.nil dw.nil (λg a=>by
  have h:(dS.all λg=>lX.contains g)=true:=by kernel_rfl
  have:=ZU.1 h g a;exact adv this) lX (λg=>⟨.inl,λh=>h.elim id λh=>by cases h⟩) (λg a=>by cases a) (λg a e=>by
  subst e;exact absurd a (adj (show decide (¬1000000∈lX)=true by kernel_rfl))) Ye (λg a=>by cases a)
def Pb:aH uP prog prog:=
 aH.of NT JZ fU.nil dw.nil (λg a=>by
  have h:(dS.all λg=>RB.contains g)=true:=by kernel_rfl
  have:=ZU.1 h g a;exact adv this) RB (λg=>⟨.inl,λh=>h.elim id λh=>by cases h⟩) (λg a=>by cases a) (λg a e=>by
  have b:g=88:=e;subst b;exact absurd a (adj (show decide (¬88∈RB)=true by kernel_rfl))) Ws (λg a=>by cases a)
def Kq:∃c,Func.body f88=some c/\bA uP prog 88 c=true/\uq uP c=c/\(∃k,Func.results f88= #[.tmp k]):=⟨_,rfl,by kernel_rfl,by kernel_rfl,_,rfl⟩
def QY:Func.ntmps f88<1000:=adj (by kernel_rfl)
def Qs:Twin prog prog:=jD prog.toTables _ prog.funcs lH FV
end
section
open Go.RowKit
structure After (W:World) where
 val:World
 later:Below W.heap.size W val
def After.cell {W}(x:After W){b o}(h:b<W.heap.size):x.val.cell? ⟨b,o,none⟩=W.cell? ⟨b,o,none⟩:=x.later.cell (p:=⟨b,o,none⟩) h
def After.frozen {W}(x:After W){b o}(h:b<W.heap.size):x.val.frozen? ⟨b,o,none⟩=W.frozen? ⟨b,o,none⟩:=x.later.frozen (p:=⟨b,o,none⟩) h
def After.const {W}{p}:(After W->p)↔p:=⟨λh=>h ⟨W,Below.refl _ _⟩,λh _=>h⟩
def place (s n c:Int):Prop:=0<=s/\s<4/\0<=n/\n<4/\0<=c/\c<24
def gM (w:World)(b o n:Nat)(R:Nat->Int):Prop:=∀i,i<n->w.cell? ⟨b,o+i,none⟩=some (.int .i64 (R i))
def gM.ext {w w'}{b o n}{R}(h:gM w b o n R)(hb:Below w.heap.size w w'):gM w' b o n R:=λi d=>by
 have c:=h i d;have a:b<w.heap.size:=block_lt_of_cell c;exact(hb.cell (p:=⟨b,_,none⟩) a).trans c
attribute [local go_sem ↓] Go.wp_at_zero Go.wp_at_succ
attribute [local go_sem] After.cell After.frozen After.const
structure cz where
 ao:Option Addr
 b:Nat
 o:Nat
 n:Nat
 cap:Nat
 S:Nat->Int
 N:Nat->Int
 C:Nat->Int
 ro:Option Addr
 rb:Nat
 rp:Nat
 r:Nat
 gD:Nat
 R:Nat->Int
 p:Int
end
section
open Go.RowKit
def blk {w:World}{k}{cs}{t}(h:w.heap[k]? =some (.cells cs t (0,0))):(∀j,w.cell? ⟨k,j,none⟩=cs[j]?)/\(∀j,w.frozen? ⟨k,j,none⟩=false):=
 ⟨λj=>cell_of_row w k j cs t (0,0) h,λj=>frozen_of_row w k j cs t h⟩
attribute [local go_sem ↓] Go.wp_at_zero Go.wp_at_succ
attribute [local go_sem] After.cell After.frozen After.const
def bW (S N C:Nat->Int)(j:Nat):Value:=.int .i64 (if j%3=0 then S (j/3)else if j%3=1 then N (j/3)else C (j/3))
def hC (m:cz)(j:Nat):Value:=if j<m.n*3 then bW m.S m.N m.C j else .int .i64 (-5)
def hR (m:cz)(j:Nat):Value:=if j<m.r then .int .i64 (m.R j)else .int .i64 (-5)
def aj {w:World}{base}{e}{size}{v}{n}{xs}(h:w.ownsRow base e size v n xs):∃ao cap,v=.slice ao n cap:=by
 rcases h.2 with⟨b,rfl⟩|⟨g,cap,cur,a,_⟩
 .exact⟨_,_,b⟩
 .exact⟨_,_,a⟩
def au {w w'}{base}{e}{size}{v}{n}{xs}(h:w.ownsRow base e size v n xs)(hb:Below w.heap.size w w'):w'.ownsRow base e size v n xs:=by
 refine⟨h.1,?_⟩;rcases h.2 with d|⟨g,cap,cur,b,c,a,r⟩
 .exact .inl d
 .exact .inr ⟨g,cap,cur,b,c,by rw[hb.block g (ZK.1 a).1];exact a,r⟩
def Ints (w:World)(v:Value)(n:Nat)(R:Nat->Int):Prop:=∃ao cap,v=.slice ao n cap/\n<=cap/\n<=9223372036854775807/\(0<n->∃b o,ao=some ⟨b,o,none⟩/\gM w b o n R)
def Ints.ext {w w'}{v}{n}{R}(h:Ints w v n R)(hb:Below w.heap.size w w'):Ints w' v n R:=by
 obtain⟨ao,cap,rfl,e,d,c⟩:=h;refine⟨ao,cap,rfl,e,d,λf=>?_⟩;obtain⟨b,o,rfl,a⟩:=c f;exact⟨b,o,rfl,a.ext hb⟩
def Tryz.JS:(prog.info? 9).map (λi=>(i.zero,i.size,i.bytes))=some (some (.string ByteArray.empty),1,16):=by kernel_rfl
def BK (L:Nat)(u:Value):Prop:=∃s:ByteArray,u=.string s/\s.size<=L
def zA (w:World)(A:Nat->Option Addr)(N C:Nat->Nat)(R:Nat->Nat->Int):Prop:=∀q,q<4->Ints w (.slice (A q) (N q) (C q)) (N q) (R q)
def zA.ext {w w'}{A}{N C}{R}(h:zA w A N C R)(hb:Below w.heap.size w w'):zA w' A N C R:=λq a=>(h q a).ext hb
end
section
open Go
section
variable (T:Tables)(f g:Array Func)
def uw (t):(Program.mk T g).packed t=(Program.mk T f).packed t:=by
 unfold Program.packed Program.packedAs;rw[lU T f g];simp only[qd T f g];rfl
def ll:∀(d:Nat) (t:TypeId),(Program.mk T g).holdsPacked d t=(Program.mk T f).holdsPacked d t
 |0,_=>rfl
 |d+1,t=>by
  unfold Program.holdsPacked;rw[bz T f g,uw T f g];simp only[ll d]
end
section
variable {st:Prop}{P Q:Program}{K:Nat->Prop}{p:Rel st}
structure rX (P Q:Program):Prop where
 packed:∀t,Q.packed t=P.packed t
 holds:∀t,Q.holdsPacked Q.depth t=P.holdsPacked P.depth t
 handle:∀v,handleType Q v=handleType P v
def af.noPack (h:rX P Q)(s)(t):af P Q K p (Extern.Rtype.noPack s t) (Extern.Rtype.noPack s t) (λ_ _ _=>True):=by
 unfold Extern.Rtype.noPack;refine af.bind af.program λq a b _ e=>?_
 rw[e.1,e.2,h.packed];split
 .exact af.halt
 .exact af.pure trivial
def af.noPackHeld (h:rX P Q)(s)(t):af P Q K p (Extern.Rtype.noPackHeld s t) (Extern.Rtype.noPackHeld s t) (λ_ _ _=>True):=by
 unfold Extern.Rtype.noPackHeld;refine af.bind af.program λq a b _ e=>?_
 rw[e.1,e.2];refine af.bind af.program λq a b _ e=>?_
 rw[e.1,e.2,h.holds];split
 .exact af.halt
 .exact af.pure trivial
def af.ofRtype (h:rX P Q)(c):af P Q K p (Extern.ReflectliteType.ofRtype c) (Extern.ReflectliteType.ofRtype c) (λ_ a b=>a=b):=by
 cases c with
 |agg xs=>
  obtain⟨l⟩:=xs
  match l with
  |[]=>exact ag.bR (ag.halt _)
  |x::y::r=>exact ag.bR (ag.halt _)
  |[x]=>
   refine af.bind (s:=Extern.Rtype.ofHandle x) (t:=Extern.Rtype.ofHandle x) (A:=λ_ a b=>a=b) ?_ λq a b _ e=>?_
   .unfold Extern.Rtype.ofHandle
    refine af.bind af.program λq a b _ e=>?_
    rw[e.1,e.2,h.handle];cases handleType P x with
    |none=>exact af.halt
    |some t=>exact af.pure rfl
   .subst e
    exact af.bind (af.noPack h _ _) λq _ _ _ _=>af.pure rfl
 |_=>exact ag.bR (ag.halt _)
def af.Eu (h:rX P Q){f}(hf:∀(q:Rel st) (t:TypeId),af P Q K q (f t) (f t) (λq a b=>VR q a b))(c):af P Q K p (Extern.ReflectliteType.method f #[c]) (Extern.ReflectliteType.method f #[c]) (λq a b=>VR q a b):=by
 refine af.bind (s:=Extern.ReflectliteType.ofRtype c) (t:=Extern.ReflectliteType.ofRtype c) (A:=λ_ a b=>a=b) (af.ofRtype h c) λq a b _ e=>?_
 subst e;exact hf q a
end
def Aa (L)(P)(t):P.packed t=(patch L P).packed t:=uw P.toTables _ P.funcs t
def Cz (L)(P)(d)(t):P.holdsPacked d t=(patch L P).holdsPacked d t:=ll P.toTables _ P.funcs d t
def EB (L)(P):rX (patch L P) P:=⟨Aa L P,λt=>by rw[Ez];exact Cz L P _ t,λv=>rfl⟩
def MM:rX (patch ae prog) prog:=EB _ _
def JG:rX (patch ae prog) (patch ae prog):=⟨λ_=>rfl,λ_=>rfl,λ_=>rfl⟩
def yT:∃f,Extern.ReflectliteType.rows.lookup "(internal/reflectlite.rtype).Comparable" =some (Extern.ReflectliteType.method f)/\
 ∀(st:Prop) (P Q:Program) (K:Nat->Prop) (p:Rel st) (t:TypeId),rX P Q->af P Q K p (f t) (f t) (λq a b=>VR q a b):=by
 refine⟨_,rfl,λst P Q K p t h=>?_⟩;refine af.bind (af.noPackHeld h _ _) λq _ _ _ _=>?_
 refine af.bind (af.typeInfo t) λc i j _ e=>?_
 obtain⟨rfl,_⟩:=e;exact af.pure (VR.bool _)
def jr:∃f,j5 prog 309 (Extern.ReflectliteType.method f)/\
 ∀(st:Prop) (P Q:Program) (K:Nat->Prop) (p:Rel st) (t:TypeId),rX P Q->af P Q K p (f t) (f t) (λq a b=>VR q a b):=by
 obtain⟨f,d,c⟩:=yT;exact⟨f,⟨_,func309,by kernel_rfl,by kernel_rfl,by kernel_rfl,(show Extern.find f309=Extern.ReflectliteType.rows.lookup "(internal/reflectlite.rtype).Comparable" by kernel_rfl).trans d⟩,c⟩
def Q6:fU [309] (patch ae prog) prog:=λg b=>by
 obtain rfl:=adi.1 b;obtain⟨f,a,d⟩:=jr;exact⟨_,bL a (by rfl),a,λ_ _ _ c=>af.Eu MM (λq t=>d _ _ _ _ q t MM) c⟩
def O4:fU [309] (patch ae prog) (patch ae prog):=λg b=>by
 obtain rfl:=adi.1 b;obtain⟨f,a,d⟩:=jr;exact⟨_,bL a (by rfl),bL a (by rfl),λ_ _ _ c=>af.Eu JG (λq t=>d _ _ _ _ q t JG) c⟩
end
namespace Z
open Go.RowKit
def Nz (D)(r i)(l)(k):dz D r (i::l) k=dz D r l k+if bG D r i=(k:Int)then 1 else 0:=by
 unfold dz;rw[List.countP_cons]
 by_cases h:bG D r i=(k:Int)<;>simp[h]
def qx (D:BD)(r m:Nat)(l:List Nat):Int:=(l.countP (λi=>has m (bG D r i).toNat):Nat)
def Fg (D)(r m i)(l):qx D r m (i::l)=qx D r m l+if has m (bG D r i).toNat=true then 1 else 0:=by
 unfold qx;rw[List.countP_cons]
 by_cases h:has m (bG D r i).toNat=true<;>simp[h]
def tZ (D)(r m):∀(l:List Nat),(∀i∈l,0<=bG D r i/\bG D r i<4)->fM (dz D r l) m 4=qx D r m l
 |[],_=>by
  have a:∀k,dz D r [] k=0:=λk=>rfl
  simp[fM,a,qx]
 |i::l,h=>by
  have b:=tZ D r m l λj e=>h j (ac1 _ e)
  have f:=h i ZX;rw[Fg,<-b];obtain⟨n,d,c⟩:∃n:Nat,bG D r i=(n:Int)/\n<4:=⟨(bG D r i).toNat,by omega,by omega⟩;simp only[fM,Nz,d,acX];obtain rfl|rfl|rfl|rfl:n=0\/n=1\/n=2\/n=3:=by omega
  all_goals
   cases a:has m 0<;>cases p:has m 1<;>cases o:has m 2<;>cases g:has m 3<;>simp<;>omega
end Z
section
open Go Go.RowKit
def kL {P}(w)(p q ty elem)(g o c h)(a)(b d)(cur)(t)(cs)(k m)
 (hu:P.underlying p=some (.slice elem))(hs:(P.info? elem).map (·.size)=some k)
 (u:w.heap[g]? =some (.cells cur t (0,0)))(hm:Nat.min b c=m)(r:cs.length=m*k)
 (e:∀j v,cs[j]? =some v->w.cell? (a.add j)=some v)(f:o+cs.length<=cur.size)(x:∀v∈cs,v.oneCell'=true):
 (Builtin.copy_ #[p,q] ty #[.slice (some ⟨g,o,none⟩) c h,.slice (some a) b d]).run P w=
  .ok (goInt m) (w.setRow g (cur.toList.take o++cs++cur.toList.drop (o+cs.length)).toArray):=by
 have hl:=run_loadCells_list (P:=P) w a cs e;have l:=run_storeCells_at P g o t cs 0 cur w u (by simpa using f) x;cases n:P.info? elem with
 |none=>simp[n]at hs
 |some i=>
  have s:i.size=k:=by simpa[n] using hs
  simp[Builtin.copy_,run_underlying hu,Builtin.lenOf,Builtin.firstCells,sizeOf,typeInfo,n,s,hm,<-r,hl,l]
def jG {P}(w)(n o ty elem)(d a)(c f b e k)(hu:P.underlying n=some (.slice elem))(hs:(P.info? elem).map (·.size)=some k)(l:Nat.min b c=0):
 (Builtin.copy_ #[n,o] ty #[.slice d c f,.slice a b e]).run P w=.ok (goInt 0) w:=by
 cases g:P.info? elem with
 |none=>simp[g]at hs
 |some i=>
  have m:i.size=k:=by simpa[g] using hs
  cases a with
  |none=>cases d<;>simp[Builtin.copy_,run_underlying hu,Builtin.lenOf,Builtin.firstCells,sizeOf,typeInfo,g,m,l,storeCells]
  |some a=>
   have hl:=run_loadCells_list (P:=P) w a [] (λj v h=>by simp at h);simp only[List.length_nil]at hl;cases d<;>simp[Builtin.copy_,run_underlying hu,Builtin.lenOf,Builtin.firstCells,sizeOf,typeInfo,g,m,l,hl,storeCells]
def ky {P}{ops}{o}{a}{w}{K}{Q}{E}(x:o.guard=none)(d s)(r u)
 (D:o.op=.call {callee:=.builtin .copy,args:= #[d,s],argTypes:= #[r,u]})(elem)(k m)(hu:P.underlying r=some (.slice elem))(l:(P.info? elem).map (·.size)=some k)(G:0<k)
 (A sp)(c i b e)(hd:a.eval d=.slice A c i)(hs:a.eval s=.slice sp b e)
 (g off)(cur)(t)(y:w.heap[g]? =some (.cells cur.toArray t (0,0)))(cs)(hm:Nat.min b c=m)(F:cs.length=m*k)
 (p:0<cs.length->A=some ⟨g,off,none⟩/\∃ad,sp=some ad/\∀j v,cs[j]? =some v->w.cell? (ad.add j)=some v)
 (q:off+cs.length<=cur.length)(H:∀v∈cs,v.oneCell'=true)(B)(C)(hb:Below B C w)(z:B<=g)
 (h:∀w',Hid (w'.heap[g]? =some (.cells (splice cur off cs).toArray t (0,0)))->Below B C w'->(∀k,k≠g->w'.heap[k]? =w.heap[k]?)->K (a.put o.dst (goInt m)) w'):
 if Region.wanted o (yielded ops a.tmps)=true then Oper.wp P o a w K Q else E:=by
 have hw:Region.wanted o (yielded ops a.tmps)=true:=by simp[Region.wanted,x]
 rw[if_pos hw]
 by_cases I:cs.length=0
 .obtain rfl:cs=[]:=List.eq_nil_of_length_eq_zero I
  have m0:m=0:=by
   rcases Nat.mul_eq_zero.1 F.symm with h|h<;>omega
  subst m0;have f:=jG (P:=P) w r u o.type elem A sp c i b e k hu l hm;unfold Oper.wp;simp[execOp,D,resolve,invoke,builtin,hd,hs,f,Result.andThen];exact h w (show _=_ by simpa[splice] using y) hb λ_ _=>rfl
 .obtain⟨rfl,ad,rfl,n⟩:=p (by omega)
  have f:=kL (P:=P) w r u o.type elem g off c i ad b e cur.toArray t cs k m hu l y hm F n (by simpa using q) H;unfold Oper.wp;simp[execOp,D,resolve,invoke,builtin,hd,hs,f,Result.andThen];exact h _ (show _=_ by simpa[splice] using setRow_heap w g _ _ t _ y) (below_setRow hb z _) λk G=>setRow_other w g k _ G
end
section
open Go
def abP:∀(a b:List UInt8),Lib.compareBytes b a= -Lib.compareBytes a b
 |[],[]=>rfl
 |[],_::_=>rfl
 |_::_,[]=>rfl
 |x::a,y::b=>by
  have e:=abP a b;have h:¬(x<y/\y<x):=fun⟨d,c⟩=>by simp only[UInt8.lt_iff_toNat_lt]at d c;omega
  unfold Lib.compareBytes
  by_cases d:x<y
  .have c:¬y<x:=λc=>h ⟨d,c⟩
   simp[d,c]
  .by_cases c:y<x
   .simp[d,c]
   .simp[d,c,e]
def abQ:∀{a b:List UInt8},Lib.compareBytes a b=0->a=b
 |[],[],_=>rfl
 |[],_::_,h=>by simp[Lib.compareBytes]at h
 |_::_,[],h=>by simp[Lib.compareBytes]at h
 |x::a,y::b,h=>by
  unfold Lib.compareBytes at h
  by_cases c:x<y
  .simp[c]at h
  .by_cases e:y<x
   .simp[c,e]at h
   .simp[c,e]at h
    have d:x=y:=UInt8.toNat_inj.1 (by simp only[UInt8.lt_iff_toNat_lt]at c e;omega);rw[d,abQ h]
def aa2:∀{a b c:List UInt8},Lib.compareBytes a b<0->Lib.compareBytes b c<0->Lib.compareBytes a c<0
 |[],_,[],h,k=>by
  rename_i b;cases b with
  |nil=>simp[Lib.compareBytes]at h
  |cons y b=>simp[Lib.compareBytes]at k
 |[],_,_::_,_,_=>by simp[Lib.compareBytes]
 |_::_,[],_,h,_=>by simp[Lib.compareBytes]at h
 |_::_,_::_,[],_,k=>by simp[Lib.compareBytes]at k
 |x::a,y::b,z::c,h,k=>by
  unfold Lib.compareBytes at h k⊢
  by_cases e:x<y
  .by_cases k1:y<z
   .have:x<z:=by simp only[UInt8.lt_iff_toNat_lt]at e k1⊢;omega
    simp[this]
   .by_cases d:z<y
    .simp[k1,d]at k
    .have:y=z:=UInt8.toNat_inj.1 (by simp only[UInt8.lt_iff_toNat_lt]at k1 d;omega)
     subst this;simp[e]
  .by_cases g:y<x
   .simp[e,g]at h
   .have f:x=y:=UInt8.toNat_inj.1 (by simp only[UInt8.lt_iff_toNat_lt]at e g;omega)
    subst f;simp only[e,if_false]at h
    by_cases k1:x<z
    .simp[k1]
    .by_cases d:z<x
     .simp[k1,d]at k
     .simp only[k1,d,if_false]at k⊢
      exact aa2 h k
end
namespace Z
open Go.RowKit
attribute [local go_sem ↓] Go.wp_at_zero Go.wp_at_succ
attribute [local go_sem] After.cell After.frozen After.const
def A7 (i:Nat):Int:=if i=0 then 24 else 16
def qm (i:Nat)(w):adO 82 #[.int .i64 i] w λe w'=>e=.returned (.int .i64 (A7 i))/\w'=w:=by
 by_cases h:i=0
 .subst h
  go_enter (pf func82 (by rfl)),ntmps82
  go_wp2_with fail;go_ret;exact⟨rfl,rfl⟩
 .have hb:((i:Int)==0)=false:=acZ.2 (by omega)
  go_enter (pf func82 (by rfl)),ntmps82
  go_wp2_with fail;go_ret;exact⟨by simp[A7,h],rfl⟩
def QC (c:Nat->Int)(k:Nat):Prop:=∀i,i<k->0<=c i/\c i<=A7 i
def BC (c:Nat->Int)(k:Nat):Bool:=(List.range k).any λi=>decide (0<c i)
def zi (c)(k):BC c (k+1)=(BC c k||decide (0<c k)):=by
 unfold BC;rw[Z6,List.any_append];simp
def Ut (c:Nat->Int)(k:Nat):Decidable (QC c k):=by unfold QC;infer_instance
def qo (c:Nat->Int):Bool:= @decide (QC c 4) (Ut c 4)&&BC c 4
def vz (c)(w):adO 53 #[.agg (aQ c)] w λe w'=>e=.returned (.bool (qo c))/\adN w w':=by
 unfold aQ;have b0:adN w (w.alloc (.cells #[.int .i64 (c 0),.int .i64 (c 1),.int .i64 (c 2),.int .i64 (c 3)] 37)):=(aab _ _).alloc (ZL _) _;have m:=av b0;clear b0
 go_enter (pf func53 (by rfl)),ntmps53
 go_wp2_with fail
 go_loopw [3,7] (λa i wr=>∃k:Nat,k<=4/\i=.int .i64 k/\a=.bool (BC c k)/\QC c k/\wr=w.alloc (.cells #[.int .i64 (c 0),.int .i64 (c 1),.int .i64 (c 2),.int .i64 (c 3)] 37)) (λ_ i _=>4-(intOf i).toNat)
 case atStart=>exact⟨0,by omega,rfl,rfl,λi n=>absurd n (ZV _),rfl⟩
 case round=>
  obtain⟨k,y,rfl,rfl,j,hw⟩:=hrel;have s:=av j;have r:=av hw;rw[<-hw]at m;clear j hw
  by_cases g:k<4
  .have x:(k:Int)<4:=by omega
   have t:=λW=>ym c k g W
   by_cases v:c k<0
   .have l:=av v
    go_wp2_with fail;go_ret
    have f:qo c=false:=by
     unfold qo;have:¬QC c 4:=λh=>by have:=(h k g).1;have:=l.out;omega
     simp[this]
    exact⟨by rw[f];rfl,m.out⟩
   .by_cases q:A7 k<c k
    .have l:=av q
     have u:(c k>A7 k):=q;go_wp2_with(go_at_call 82;refine(qm k _).mono ?_;rintro e w1 ⟨rfl,b⟩;obtain rfl:=b.symm);go_ret
     have f:qo c=false:=by
      unfold qo;have:¬QC c 4:=λh=>by have:=(h k g).2;have:=l.out;omega
      simp[this]
     exact⟨by rw[f];rfl,m.out⟩
    .have l:Hid (0<=c k/\c k<=A7 k):=⟨by omega,by omega⟩
     have d:Hid (QC c (k+1)):=λi n=>by
      rcases ac7.1 n with h|rfl
      .exact s.out i h
      .exact l.out
     cases p:BC c k
     .have o:=av p
      go_wp2_with(go_at_call 82;refine(qm k _).mono ?_;rintro e w1 ⟨rfl,b⟩;obtain rfl:=b.symm);go_roundw
      case rel=>exact⟨k+1,by omega,by go_num,by rw[zi,o.out];simp,d.out,r.out⟩
      case measure=>simp[intOf];omega
     .have o:=av p
      go_wp2_with(go_at_call 82;refine(qm k _).mono ?_;rintro e w1 ⟨rfl,b⟩;obtain rfl:=b.symm);go_roundw
      case rel=>exact⟨k+1,by omega,by go_num,by rw[zi,o.out];simp,d.out,r.out⟩
      case measure=>simp[intOf];omega
  .have:k=4:=by omega
   subst this;go_wp2_with fail;go_ret;exact⟨by unfold qo;simp[s.out],m.out⟩
def aas (w:World)(v:Value)(l:List Nat):Prop:=Ints w v l.length (λj=>((l[j]?.getD 0:Nat):Int))
def aas.ext {w w':World}{v:Value}{l:List Nat}(h:aas w v l)(hb:adN w w'):aas w' v l:=Ints.ext h hb
def aas.own {w:World}{base:Nat}{v:Value}{l:List Nat}(h:w.ownsRow base 3 1 v l.length (aT l)):aas w v l:=dh h
def getD_at {l:List Nat}{j:Nat}(h:j<l.length):l[j]?.getD 0=l[j]:=by rw[ZT h];rfl
def aaB (w:World)(A:Nat->Option Addr)(C:Nat->Nat)(L:Nat->List Nat):Prop:=∀q,q<4->aas w (.slice (A q) (L q).length (C q)) (L q)
def aaI (A:Nat->Option Addr)(C:Nat->Nat)(L:Nat->List Nat):Value:=.agg #[.slice (A 0) (L 0).length (C 0),.slice (A 1) (L 1).length (C 1),.slice (A 2) (L 2).length (C 2),.slice (A 3) (L 3).length (C 3)]
def ab7 (v:Value)(k n:Nat)(R:Nat->Int)(w:World)(h:Ints w v k R)(m:o7 n R k):
 adO 27 #[v,.int .i64 n] w λe w'=>e=.returned (.bool true)/\adN w w':=by
 obtain⟨ao,cap,rfl,hc,hm,f⟩:=h;have z:=av m;clear m
 go_enter (pf func27 (by rfl)),ntmps27
 go_wp2_with fail
 go_loopw [5] (λi wr=>∃j:Nat,j<=k/\i=.int .i64 j/\adN w wr) (λi _=>k-(intOf i).toNat)
 case atStart=>exact⟨0,by omega,rfl,aab _ _⟩
 case round=>
  obtain⟨j,C,rfl,hb⟩:=hrel;have l:=av hb
  by_cases c:j<k
  .obtain⟨b,o,rfl,d⟩:=f (by omega)
   have jn:(j:Int)<k:=(by omega);have u0:=(d.ext hb) j c;obtain⟨r0,A,g⟩:=z.out j c;have x:decide (R j<0)=false:=adg (by omega);have t:decide (R j≥(n:Int))=false:=adg (by omega);have u:¬R j<0:=(by omega);have s:¬R j≥(n:Int):=(by omega)
   obtain rfl|⟨a,rfl⟩:j=0\/∃a,j=a+1:=by
        cases j with
        |zero=>exact .inl rfl
        |succ a=>exact .inr ⟨a,rfl⟩
   .clear d f hb g
    simp only[Nat.add_zero]at u0;have B:(0:Int)<k:=(by omega);clear jn;simp only[Int.natCast_zero];go_wp2_with fail;go_quiet(fail);go_wp2_with fail;go_roundw
    case rel=>exact⟨1,by omega,by go_num,l.out.drewN _⟩
    case measure=>simp[intOf];omega
   .have u1:=(d.ext hb) a (by omega)
    have r:=g (by omega);rw[acW]at r;have q:decide (R (a+1)<=R a)=false:=adg (by omega);have p:¬R (a+1)<=R a:=(by omega);have b3:(0:Int)<=a:=(by omega);have b4:(a:Int)<k:=(by omega);have b5:((a:Int)+1)>0:=(by omega);have y:IntKind.i64.wrap (a:Int)=a:=(by rw[IntKind.wrap_i64];omega);have D:IntKind.i64.wrap ((a:Int)+1-1)=a:=(by rw[Int.add_sub_cancel];exact y);clear d f hb g;go_wp2_with fail;go_quiet(fail);go_wp2_with fail;go_roundw
    case rel=>exact⟨a+1+1,by omega,by go_num,l.out.drewN _⟩
    case measure=>simp[intOf];omega
  .have jn:¬(j:Int)<k:=by omega
   clear f hb;go_wp2_with fail;go_ret;exact⟨rfl,l.out⟩
def aaW {a:List Nat}(h:a.Pairwise (· < ·)){i j:Nat}(c:j<a.length)(b:i<j):a[i]'(by omega)<a[j]:=adk.1 h i j (by omega) c b
end Z
section
open Go.ChangeShapes Go.WideShapes Go.ChangeAt Go.RowKit Go.Deep Go.Joins
end
section
def afY:(Rows.policyUptoRow.wf (OpenSpec.ofChange Rows.policySpec))=true:=by kernel_rfl
def afX:(laidOutB prog)=true:=by kernel_rfl
def afW:(mapsRowed prog)=true:=by kernel_rfl
def afV:(Tryz.f5.params.all (prog.readableRec ·))=true:=by kernel_rfl
def afU:(namedTie prog Rows.policyUptoRow.named Rows.policySpec.vars)=true:=by kernel_rfl
def afT:((Rows.policyUptoRow.stops== []))=true:=by kernel_rfl
def afS:((prog.stops== []))=true:=by kernel_rfl
def afR:((Rows.policyUptoRow.knobs== []))=true:=by kernel_rfl
def afQ:((prog.stopKnobs== []))=true:=by kernel_rfl
def afP:((Rows.policyUptoRow.inPlace==prog.inPlace 5))=true:=by kernel_rfl
def afM:((Rows.policyUptoRow.unfollowed==prog.unfollowed 5))=true:=by kernel_rfl
def afL:((Rows.policyUptoRow.recurses==prog.recurses 5))=true:=by kernel_rfl
def afK:((Rows.policyUptoRow.named==prog.varsNamed 5))=true:=by kernel_rfl
def afJ:((Rows.policyUptoRow.maps==(Tryz.f5.params.toList++Rows.policySpec.plain.varTypes prog).any (prog.mapsRec ·)))=true:=by kernel_rfl
def afI:((Rows.policyUptoRow.ifaces==(Tryz.f5.params.toList++Rows.policySpec.plain.varTypes prog).any (prog.ifacesRec ·)))=true:=by kernel_rfl
def afH:((Rows.policyUptoRow.mapsOut==prog.mapsAmong Tryz.f5.resultTypes.toList))=true:=by kernel_rfl
def afG:((Rows.policyUptoRow.loops==(Tryz.f5.params.toList++Rows.policySpec.plain.varTypes prog).any (prog.loopsFrom ·)))=true:=by kernel_rfl
def afF:((Rows.policyUptoRow.wideKeys==(Tryz.f5.params.toList++Rows.policySpec.plain.varTypes prog++Tryz.f5.resultTypes.toList).any (prog.wideKeysFrom ·)))=true:=by kernel_rfl
def afE:(Rows.policySpec.vars.all (prog.varReadable ·))=true:=by kernel_rfl
def afD:(Tryz.f5.resultTypes.all (λt=>prog.readableRec t&&decide (t<prog.types.size)))=true:=by kernel_rfl
def afC:((Rows.policyUptoRow.ifacesOut==Tryz.f5.resultTypes.toList.any (prog.ifacesRec ·)))=true:=by kernel_rfl
def afB:((Rows.policyUptoRow.loopsOut==Tryz.f5.resultTypes.toList.any (prog.loopsFrom ·)))=true:=by kernel_rfl
def afA:((Rows.policyUptoRow.plainKeys==prog.plainKeys))=true:=by kernel_rfl
def afz:(Rows.policyUptoRow.shortTexts.isNone)=true:=by kernel_rfl
def afy:(prog.stopsHeard)=true:=by kernel_rfl
def afx:(prog.mayEnter)=true:=by kernel_rfl
def afw:((Rows.policyUptoRow.lifted==prog.liftsFinal))=true:=by kernel_rfl
def afv:((prog.make==some Rows.policyUptoRow.make))=true:=by kernel_rfl
def afu:((Rows.policyUptoRow.kinds==(if Rows.policyUptoRow.domain.isEmpty then []else Tryz.f5.params.toList.map λt=>match prog.underlying t with|some (.int k)=>some k|_=>none)))=true:=by kernel_rfl
def aft:((Rows.policyUptoRow.pinned==Rows.policyUptoRow.pinnedBy))=true:=by kernel_rfl
def afs:((Rows.policyUptoRow.veiled==(Tryz.f5.params.toList++Rows.policySpec.plain.varTypes prog++Tryz.f5.resultTypes.toList).any (prog.veiledRec ·)))=true:=by kernel_rfl
def afr:(Rows.policyUptoRow.veiledFits prog Tryz.f5.params.toList (Tryz.f5.params.toList++Rows.policySpec.plain.varTypes prog++Tryz.f5.resultTypes.toList))=true:=by kernel_rfl
def afj {a b:Bool}(c:a=true)(hb:b=true):(a&&b)=true:=by rw[c,hb];rfl
def afm:joinedFacts prog 5 Tryz.f5 Rows.policySpec Rows.policyUptoRow=true:=
 afj (afj (afj (afj (afj (afj (afj (afj (afj (afj (afj (afj (afj (afj (afj (afj (afj (afj (afj (afj (afj (afj (afj (afj (afj (afj (afj (afj (afj (afj (afj (afY) afX) afW) afV) afU) afT) afS) afR) afQ) afP) afM) afL) afK) afJ) afI) afH) afG) afF) afE) afD) afC) afB) afA) afz) afy) afx) afw) afv) afu) aft) afs) afr
open Go.ChangeShapes Go.WideShapes Go.ChangeAt Go.RowKit Go.Great
def putCells (cs:Array Value):Obj->Obj
 |.cells _ t f=>.cells cs t f
 |o=>o
def Nb:DataW Unit->List Value
 |.lit (.int k n)=>[.int k n]
 |_=>[]
def Na:DataW Unit->List Value
 |.agg ps=>ps.flatMap Nb
 |d=>Nb d
def Ry:DataW Unit->List Value
 |.agg ps=>ps.flatMap Na
 |d=>Na d
def oo (d:DataW Unit):Array Value:=(Ry d).toArray
def gT (l:List Nat):List Int:=l.map fun(n:Nat)=>(n:Int)
def over (k:IntKind)(l:List Nat):Array Value:=((gT l).map (Value.int k)).toArray
def MB (b:Nat)(l:List Nat):Array Value:= #[.slice (some ⟨b,0,none⟩) (gT l).length (gT l).length]
def iJ (h:Array Obj):Array Obj:=
 (((((((((((((h.modify 0 (putCells #[.iface 345 (.pointer (some ⟨24,0,none⟩))])).modify 3 (putCells (oo Rows.laid_internal_strconv_uint64pow10))).modify 12 (putCells (oo Rows.laid_math_bits_deBruijn32tab))).modify 13 (putCells (oo Rows.laid_math_bits_deBruijn64tab))).modify 5 (putCells (oo Rows.laid_unicode_utf8_acceptRanges))).modify 4
   (putCells (oo Rows.laid_unicode_utf8_first))).modify 7 (putCells (MB 19 Pinned.isPrint16Z))).modify 8 (putCells (MB 20 Pinned.isNotPrint16Z))).modify 9 (putCells (MB 21 Pinned.isPrint32Z))).modify 10 (putCells (MB 22 Pinned.isNotPrint32Z))).modify 11 (putCells (MB 23 Pinned.isGraphicZ))).modify 2
   (putCells #[.iface 345 (.pointer (some ⟨25,0,none⟩))])).modify 6 (putCells #[.iface 345 (.pointer (some ⟨26,0,none⟩))]))++
 #[.cells (over .u16 Pinned.isPrint16Z) 337,.cells (over .u16 Pinned.isNotPrint16Z) 337,.cells (over .u32 Pinned.isPrint32Z) 128,.cells (over .u16 Pinned.isNotPrint32Z) 337,.cells (over .u16 Pinned.isGraphicZ) 337,
    .cells #[.string ⟨#[116,104,101,32,100,105,115,107,32,111,112,101,114,97,116,105,111,110,32,102,97,105,108,101,100]⟩] 347,.cells #[.string ⟨#[105,110,118,97,108,105,100,32,115,121,110,116,97,120]⟩] 347,.cells #[.string ⟨#[118,97,108,117,101,32,111,117,116,32,111,102,32,114,97,110,103,101]⟩] 347]
def qX (k)(l)(h:((gT l).all λn=>(Lit.int k n).wf)=true):∀n∈gT l,(Lit.int k n).wf=true:=λn a=>ZU.1 h n a
def Rc (os)(args):LaidIn prog (({World.settled prog os with heap:=iJ (World.settled prog os).heap}:World).forCall (λ_ _=>0) ⟨#[],args,[]⟩).memory (Rows.widthsUptoRow.laid.take 5) [12,13,3,5,0,24]:=
 LaidIn.of_run [12,13,3,5,0,24] 10 (by kernel_rfl) (by kernel_rfl) (by kernel_rfl) (by kernel_rfl)
def Rb (os)(args):LaidIn prog (({World.settled prog os with heap:=iJ (World.settled prog os).heap}:World).forCall (λ_ _=>0) ⟨#[],args,[]⟩).memory [("unicode/utf8.first",Rows.laid_unicode_utf8_first)] [4]:=
 LaidIn.of_run [4] 10 (by kernel_rfl) (by kernel_rfl) (by kernel_rfl) (by kernel_rfl)
def Pd (os)(args):LaidIn prog (({World.settled prog os with heap:=iJ (World.settled prog os).heap}:World).forCall (λ_ _=>0) ⟨#[],args,[]⟩).memory [("strconv.isGraphic",Rows.laid_strconv_isGraphic)] [11,23]:=by
 have e:Rows.laid_strconv_isGraphic=.slice ((gT Pinned.isGraphicZ).map λn=>.lit (.int .u16 n)) []:=by kernel_rfl
 rw[e];exact laidIn_ints (name:= "strconv.isGraphic") (g:=11) (R:=23) (t:=338) (e:=337) (tg:=338) (k:=.u16) (zs:=gT Pinned.isGraphicZ) (by kernel_rfl) (by kernel_rfl) (by kernel_rfl) (by kernel_rfl) (by kernel_rfl) (Nat.le_of_ble_eq_true (by kernel_rfl)) (qX _ _ (by kernel_rfl)) (by kernel_rfl) (by kernel_rfl) (Nat.ne_of_beq_eq_false (by kernel_rfl))
def Rf (os)(args):LaidIn prog (({World.settled prog os with heap:=iJ (World.settled prog os).heap}:World).forCall (λ_ _=>0) ⟨#[],args,[]⟩).memory [("strconv.isNotPrint16",Rows.laid_strconv_isNotPrint16)] [8,20]:=by
 have e:Rows.laid_strconv_isNotPrint16=.slice ((gT Pinned.isNotPrint16Z).map λn=>.lit (.int .u16 n)) []:=by kernel_rfl
 rw[e];exact laidIn_ints (name:= "strconv.isNotPrint16") (g:=8) (R:=20) (t:=338) (e:=337) (tg:=338) (k:=.u16) (zs:=gT Pinned.isNotPrint16Z) (by kernel_rfl) (by kernel_rfl) (by kernel_rfl) (by kernel_rfl) (by kernel_rfl) (Nat.le_of_ble_eq_true (by kernel_rfl)) (qX _ _ (by kernel_rfl)) (by kernel_rfl) (by kernel_rfl) (Nat.ne_of_beq_eq_false (by kernel_rfl))
def Pe (os)(args):LaidIn prog (({World.settled prog os with heap:=iJ (World.settled prog os).heap}:World).forCall (λ_ _=>0) ⟨#[],args,[]⟩).memory [("strconv.isNotPrint32",Rows.laid_strconv_isNotPrint32)] [10,22]:=by
 have e:Rows.laid_strconv_isNotPrint32=.slice ((gT Pinned.isNotPrint32Z).map λn=>.lit (.int .u16 n)) []:=by kernel_rfl
 rw[e];exact laidIn_ints (name:= "strconv.isNotPrint32") (g:=10) (R:=22) (t:=338) (e:=337) (tg:=338) (k:=.u16) (zs:=gT Pinned.isNotPrint32Z) (by kernel_rfl) (by kernel_rfl) (by kernel_rfl) (by kernel_rfl) (by kernel_rfl) (Nat.le_of_ble_eq_true (by kernel_rfl)) (qX _ _ (by kernel_rfl)) (by kernel_rfl) (by kernel_rfl) (Nat.ne_of_beq_eq_false (by kernel_rfl))
def Rh (os)(args):LaidIn prog (({World.settled prog os with heap:=iJ (World.settled prog os).heap}:World).forCall (λ_ _=>0) ⟨#[],args,[]⟩).memory [("strconv.isPrint16",Rows.laid_strconv_isPrint16)] [7,19]:=by
 have e:Rows.laid_strconv_isPrint16=.slice ((gT Pinned.isPrint16Z).map λn=>.lit (.int .u16 n)) []:=by kernel_rfl
 rw[e];exact laidIn_ints (name:= "strconv.isPrint16") (g:=7) (R:=19) (t:=338) (e:=337) (tg:=338) (k:=.u16) (zs:=gT Pinned.isPrint16Z) (by kernel_rfl) (by kernel_rfl) (by kernel_rfl) (by kernel_rfl) (by kernel_rfl) (Nat.le_of_ble_eq_true (by kernel_rfl)) (qX _ _ (by kernel_rfl)) (by kernel_rfl) (by kernel_rfl) (Nat.ne_of_beq_eq_false (by kernel_rfl))
def Re (os)(args):LaidIn prog (({World.settled prog os with heap:=iJ (World.settled prog os).heap}:World).forCall (λ_ _=>0) ⟨#[],args,[]⟩).memory [("strconv.isPrint32",Rows.laid_strconv_isPrint32)] [9,21]:=by
 have e:Rows.laid_strconv_isPrint32=.slice ((gT Pinned.isPrint32Z).map λn=>.lit (.int .u32 n)) []:=by kernel_rfl
 rw[e];exact laidIn_ints (name:= "strconv.isPrint32") (g:=9) (R:=21) (t:=340) (e:=128) (tg:=340) (k:=.u32) (zs:=gT Pinned.isPrint32Z) (by kernel_rfl) (by kernel_rfl) (by kernel_rfl) (by kernel_rfl) (by kernel_rfl) (Nat.le_of_ble_eq_true (by kernel_rfl)) (qX _ _ (by kernel_rfl)) (by kernel_rfl) (by kernel_rfl) (Nat.ne_of_beq_eq_false (by kernel_rfl))
def GU (os)(args):laidMetH prog Rows.widthsUptoRow.laid (({World.settled prog os with heap:=iJ (World.settled prog os).heap}:World).forCall (λ_ _=>0) ⟨#[],args,[]⟩).memory:=by
 rw[MakeChecks.laidMetH_plain _ _ _ (by kernel_rfl)];exact((Rc os args).append ((Pd os args).append ((Rf os args).append ((Pe os args).append ((Rh os args).append ((Re os args).append (Rb os args) (by kernel_rfl)) (by kernel_rfl)) (by kernel_rfl)) (by kernel_rfl)) (by kernel_rfl)) (by kernel_rfl)).met
def zT (os)(args):(({World.settled prog os with heap:=iJ (World.settled prog os).heap}:World).forCall (λ_ _=>0) ⟨#[],args,[]⟩).Shaped prog:=
 World.shaped_of_RefB (by kernel_rfl) (by kernel_rfl)
end
section
open Go Go.ChangeShapes Go.Conc
def mZ {p}{s}{c}(f)(fn)
 (hn:c.program=p.name)(hs:c.sum=p.sum)(R:c.spec=s.name)
 (hstart:c.start=.entering)(d:c.outside=[])(V:c.inits=[])(Q:c.under=none)(W:c.initsInPlace=[]/\c.initsUnfollowed=false/\c.initsRecurse=false/\c.initsNamed=[]/\c.initsPassed=[])(u:c.noBlocks=false)(U:c.leaving=true)(j:c.followed=none)(v:c.narrowed=s.cond.isSome)(e:c.still=false)
 (X:p.checked.prog.funcNamed c.func=some f)(hf:p.checked.prog.funcs[f]? =some fn)
 (closed:joinedFacts p.checked.prog f fn s.bare c=true)
 (i:fn.isInstance p.checked.prog c.origin c.targs)(g:fn.isWrapper p.checked.prog c.wrapper c.mainSum)
 (h:∀os:Os,os.Started->∀(H:Type) (enc:TypeId×Value->H),(∀a b,enc a=enc b->a=b)->∀F:Stop.Interp,
  ReturnsInLeavingWide c.assume p.checked os f .any (c.pre enc p.checked.prog fn s) ((s.at F).post enc p.checked.prog fn c.apart c.fresh c.handsOn c.again)):c.holds p s:=by
 simp only[joinedFacts,ZQ,beq_iff_eq,Array.all_eq_true_iff_forall_mem,ZU,decide_eq_true_eq]at closed;obtain⟨⟨⟨⟨⟨⟨⟨⟨⟨⟨⟨⟨⟨⟨⟨⟨⟨⟨⟨⟨⟨⟨⟨⟨⟨⟨⟨⟨⟨⟨⟨k1,k2⟩,k3⟩,k4⟩,k5⟩,Y⟩,k7⟩,k8⟩,w⟩,P⟩,O⟩,N⟩,M⟩,L⟩,K⟩,J⟩,I⟩,t⟩,G⟩,E⟩,D⟩,C⟩,B⟩,r⟩,q⟩,o⟩,m⟩,l⟩,A⟩,z⟩,y⟩,x⟩:=closed;have hq:∀os:Os,Stop.quiet p.checked.prog os:=λos k Z=>by rw[w]at Z;cases Z
 refine⟨k1,hn,hs,R,k2,k3,by unfold OpenClaim.startFits;rw[hstart];exact o,by unfold OpenClaim.startTold;rw[hstart];exact⟨V,Q,W⟩,f,fn,X,hf,⟨k4,E⟩,(λhb=>by rw[u]at hb;cases hb),by unfold OpenClaim.namedList;rw[j];exact k5,i,g,
  Y.trans k7.symm,⟨k8.trans w.symm,by unfold Program.envWorded;rw[w];rfl,q⟩,P,O,N,M,L,⟨K,y,x⟩,⟨J,D⟩,⟨I,C,A,z⟩,⟨B,m,l,t⟩,(by rw[d,v];cases S:c.shortTexts with|none=>simp|some _=>rw[S]at r;cases r),λn T=>varReadable_some (G n T),
  ⟨_,by unfold OpenClaim.world;rw[d,hstart];exact WideRow.started_initial,hq _⟩,[],by unfold OpenClaim.lists;rw[j],λos st _ H enc inj=>?_⟩
 have zG:os.Started:=by unfold OpenClaim.world at st;rw[d,hstart]at st;exact st
 rw[OpenClaim.post_not_still e];unfold OpenClaim.form;rw[hstart,Y];intro F;have e1:c.okInput=Input.okWide:=by unfold OpenClaim.okInput;rw[u]
 have e2:c.atReturn p.checked.prog=leavingAtReturn p.checked.prog:=by unfold OpenClaim.atReturn;rw[U]
 have e3:c.always p.checked.prog []=nothingAlways:=by unfold OpenClaim.always;rw[j]
 have e4:s.post enc p.checked.prog fn F c.outside c.apart c.fresh c.handsOn c.again=(s.at F).post enc p.checked.prog fn c.apart c.fresh c.handsOn c.again:=by rw[d];rfl
 rw[e1,e2,e3];show ReturnsInOpen _ _ _ _ _ _ _ _ (s.post enc p.checked.prog fn F c.outside c.apart c.fresh c.handsOn c.again) _ _
 rw[e4];exact h os zG H enc inj F o
end
section
open Go
def Mc:prog.laidByTextLater [("math/bits.deBruijn32tab",Rows.laid_math_bits_deBruijn32tab),("math/bits.deBruijn64tab",Rows.laid_math_bits_deBruijn64tab),("internal/strconv.uint64pow10",Rows.laid_internal_strconv_uint64pow10),("unicode/utf8.acceptRanges",Rows.laid_unicode_utf8_acceptRanges),("berth/disk.ErrFailed",Rows.laid_berth_disk_ErrFailed)] [.data,.data,.data,.data,.sentinel] true:=
 Program.laidByTextLater_by_one 91 8 65 (by kernel_rfl) (by kernel_rfl) (by kernel_rfl) (by kernel_rfl) (by kernel_rfl) (by kernel_rfl) (λ_ _=>by kernel_rfl)
def Rp:Tryz.pinned.checked.prog.headLifts.contains "ownunsafe" =false:=by kernel_rfl
def OG:Rows.widthsUptoRow.laidByTextAt .later Tryz.pinned [.data,.data,.data,.data,.sentinel,.pinned,.pinned,.pinned,.pinned,.pinned,.pinned] true:=
 OpenClaim.laidByTextAt_pinned rfl rfl Mc rfl rfl rfl rfl (λy hy e=>by
  simp only[Rows.widthsUptoRow,List.zip_cons_cons,List.zip_nil_right,ZW,List.mem_nil_iff,or_false]at hy;rcases hy with rfl|rfl|rfl|rfl|rfl|rfl|rfl|rfl|rfl|rfl|rfl<;>first|(cases e;done)|exact⟨by kernel_rfl,by kernel_rfl⟩) (by
  unfold Program.listedFits;rw[Rp]
  kernel_rfl)
end
section
open Go Go.Shelf
def AY:Lays.n189 (patch ae prog) Tryz.lays189_ren:=
 have L:=Tryz.lays189
 {mixed:=L.mixed,
  f125:=pf L.f125 (by rfl),
  f128:=pf L.f128 (by rfl),
  f129:=pf L.f129 (by rfl),
  f189:=pf L.f189 (by rfl),
  f215:=pf L.f215 (by rfl),
  f216:=pf L.f216 (by rfl),
  f257:=pf L.f257 (by rfl),
  f294:=pf L.f294 (by rfl),
  f295:=pf L.f295 (by rfl),
  f296:=pf L.f296 (by rfl),
  f297:=pf L.f297 (by rfl),
  f298:=pf L.f298 (by rfl),
  f299:=pf L.f299 (by rfl),
  f300:=pf L.f300 (by rfl),
  f301:=pf L.f301 (by rfl),
  f328:=pf L.f328 (by rfl),
  f329:=pf L.f329 (by rfl),
  f330:=pf L.f330 (by rfl),
  f331:=pf L.f331 (by rfl),
  f332:=pf L.f332 (by rfl),
  f343:=pf L.f343 (by rfl),
  t0:=L.t0,
  a0:=λw=>(aP _ _ _ w).trans (L.a0 w),
  z0:=λw=>(aM _ _ _ w).trans (L.z0 w),
  v0:=λw=>(aI _ _ _ w).trans (L.v0 w),
  t3:=L.t3,
  a3:=λw=>(aP _ _ _ w).trans (L.a3 w),
  z3:=λw=>(aM _ _ _ w).trans (L.z3 w),
  v3:=λw=>(aI _ _ _ w).trans (L.v3 w),
  t4:=L.t4,
  a4:=λw=>(aP _ _ _ w).trans (L.a4 w),
  z4:=λw=>(aM _ _ _ w).trans (L.z4 w),
  v4:=λw=>(aI _ _ _ w).trans (L.v4 w),
  t5:=L.t5,
  a5:=λw=>(aP _ _ _ w).trans (L.a5 w),
  z5:=λw=>(aM _ _ _ w).trans (L.z5 w),
  v5:=λw=>(aI _ _ _ w).trans (L.v5 w),
  t9:=L.t9,
  a9:=λw=>(aP _ _ _ w).trans (L.a9 w),
  z9:=λw=>(aM _ _ _ w).trans (L.z9 w),
  v9:=λw=>(aI _ _ _ w).trans (L.v9 w),
  t28:=L.t28,
  a28:=λw=>(aP _ _ _ w).trans (L.a28 w),
  z28:=λw=>(aM _ _ _ w).trans (L.z28 w),
  v28:=λw=>(aI _ _ _ w).trans (L.v28 w),
  t46:=L.t46,
  a46:=λw=>(aP _ _ _ w).trans (L.a46 w),
  z46:=λw=>(aM _ _ _ w).trans (L.z46 w),
  v46:=λw=>(aI _ _ _ w).trans (L.v46 w),
  t51:=L.t51,
  a51:=λw=>(aP _ _ _ w).trans (L.a51 w),
  z51:=λw=>(aM _ _ _ w).trans (L.z51 w),
  v51:=λw=>(aI _ _ _ w).trans (L.v51 w),
  t53:=L.t53,
  a53:=λw=>(aP _ _ _ w).trans (L.a53 w),
  z53:=λw=>(aM _ _ _ w).trans (L.z53 w),
  v53:=λw=>(aI _ _ _ w).trans (L.v53 w),
  t131:=L.t131,
  a131:=λw=>(aP _ _ _ w).trans (L.a131 w),
  z131:=λw=>(aM _ _ _ w).trans (L.z131 w),
  v131:=λw=>(aI _ _ _ w).trans (L.v131 w),
  t182:=L.t182,
  a182:=λw=>(aP _ _ _ w).trans (L.a182 w),
  z182:=λw=>(aM _ _ _ w).trans (L.z182 w),
  v182:=λw=>(aI _ _ _ w).trans (L.v182 w),
  t183:=L.t183,
  a183:=λw=>(aP _ _ _ w).trans (L.a183 w),
  z183:=λw=>(aM _ _ _ w).trans (L.z183 w),
  v183:=λw=>(aI _ _ _ w).trans (L.v183 w),
  t218:=L.t218,
  a218:=λw=>(aP _ _ _ w).trans (L.a218 w),
  z218:=λw=>(aM _ _ _ w).trans (L.z218 w),
  v218:=λw=>(aI _ _ _ w).trans (L.v218 w),
  t222:=L.t222,
  a222:=λw=>(aP _ _ _ w).trans (L.a222 w),
  z222:=λw=>(aM _ _ _ w).trans (L.z222 w),
  v222:=λw=>(aI _ _ _ w).trans (L.v222 w),
  t228:=L.t228,
  a228:=λw=>(aP _ _ _ w).trans (L.a228 w),
  z228:=λw=>(aM _ _ _ w).trans (L.z228 w),
  v228:=λw=>(aI _ _ _ w).trans (L.v228 w),
  t229:=L.t229,
  a229:=λw=>(aP _ _ _ w).trans (L.a229 w),
  z229:=λw=>(aM _ _ _ w).trans (L.z229 w),
  v229:=λw=>(aI _ _ _ w).trans (L.v229 w)}
end
namespace Z
open Go.RowKit
attribute [local go_sem ↓] Go.wp_at_zero Go.wp_at_succ
attribute [local go_sem] After.cell After.frozen After.const
def E9 (l):aT l=(l.map λi:Nat=>(i:Int)).map (Value.int .i64):=by unfold aT;rw[List.map_map];rfl
def SH (a b:Nat):Bool:=decide (a<=b)
def mM (l:List Nat):List Nat:=l.mergeSort SH
def KA (l):(l.map λi:Nat=>(i:Int)).mergeSort (λx y=>decide (x<=y))=(mM l).map λi:Nat=>(i:Int):=by
 unfold mM;rw[List.map_mergeSort (s:=λx y:Int=>decide (x<=y))];intro a _ b _;unfold SH;simp
def lT (l):(mM l).Perm l:=List.mergeSort_perm _ _
def Cj (l):(mM l).Pairwise (·<=·):=by
 have:=List.pairwise_mergeSort (le:=SH) (λa b c e d=>by unfold SH at*;simp at*;omega) (λa b=>by unfold SH;simp;omega) l;exact this.imp λh=>by unfold SH at h;simpa using h
def El (base B)(v)(l)(w)(h:w.ownsRow base 3 1 v l.length (aT l))(p:B<=base)(c:B<=w.heap.size)(hl:l.length<=1000):
 adO 172 #[v] w λe w'=>e=.returned (.tuple #[])/\w'.ownsRow base 3 1 v (mM l).length (aT (mM l))/\Below B w w':=by
 have hlen:(mM l).length=l.length:=(lT l).length_eq
 by_cases a:v=.slice none 0 0
 .have d:l.length=0:=by
   rcases h.2 with⟨_,d⟩|⟨g,cap,cur,e,_⟩
   .exact d
   .rw[e]at a;cases a
  subst a;refine(show adO 172 #[.slice none 0 0] w _ from Go.Proofs.Any.slices_Sort_int_none AY none 0 w).mono ?_;rintro e w' ⟨rfl,rfl⟩;have:l=[]:=List.eq_nil_of_length_eq_zero d;subst this;exact⟨rfl,by simpa[mM,aT] using h,aab _ _⟩
 .rw[E9]at h
  obtain⟨g,cap,rfl,hb,b,r,hm,m,o⟩:=Go.Lib.holds_of_ownsRow h a;have hc:=Go.Proofs.Any.slices_Sort_int AY g 0 cap (l.map λi:Nat=>(i:Int)) w o b (by simp;omega);rw[adH]at hc;refine(show adO 172 #[.slice (some ⟨g,0,none⟩) l.length cap] w _ from hc).mono ?_;rintro e w' ⟨rfl,n,os,rfl⟩;rw[KA];have j:=Go.Lib.ownsRow_putRow (q:=n) (k:=l.length) (ys:=(mM l).map λi:Nat=>(i:Int)) h (by simp[hlen]) (ZL _);rw[aah (by simp[hlen]),<-E9]at j;refine⟨rfl,?_,?_⟩
  .rw[hlen]
   exact Go.Lib.ownsRow_grow j 0 os
  .have f:Below B w (Go.Sort.putRow (Value.int .i64) (Go.Sort.ahead w n) g 0 ((mM l).map λi:Nat=>(i:Int)).toArray):=Go.Lib.below_putRow (aab B w) (ZP p hb)
   exact f.trans (Go.Lib.below_grow B _ (ZP c f.size) 0 os)
def nL:∀(a b:List Nat),a.Nodup->(∀x∈a,x∈b)->a.length<=b.length
 |[],_,_,_=>by simp
 |x::a,b,c,h=>by
  have hx:=h x ZX;obtain⟨g,f⟩:=List.nodup_cons.1 c;have:=nL a (b.erase x) f λy hy=>(List.mem_erase_of_ne (λe=>g (by rw[<-e];exact hy))).2 (h y (ac1 _ hy))
  rw[List.length_erase_of_mem hx]at this;have d:0<b.length:=List.length_pos_of_mem hx;simp;omega
def Ia (m:Nat)(N:Nat->Int)(l:List Nat)(i:Nat):Bool:=l.contains i&&bE m N i
def MV {m}{N}{l:List Nat}{j x}(h:l[j]? =some x)(i):Ia m N (l.take (j+1)) i=if i=x then bE m N x else Ia m N (l.take j) i:=by
 unfold Ia;rw[adq,h]
 by_cases he:i=x
 .subst he;simp
 .rw[if_neg he];simp[he]
def aX.OL {w}{c tb n}{vc}{op d}{j}{tk}{x}{b}(h:aX w c tb n vc op j tk)(he:∀i,d i=if i=x then b else op i):aX (w.setCell ⟨c,x,none⟩ (.bool b)) c tb n vc d j tk:=by
 obtain⟨⟨l,p,o⟩,m,k⟩:=h;have g:=k.1;refine⟨⟨l,(aad _ _ _ _ (by show tb≠c;omega)).trans p,aaf o (by show c<tb+1;omega) _⟩,(m.set x _).congr λi _=>?_,g,λe=>(adK (a:=⟨tb,3,none⟩) (aad _ _ _ _ (by show tb≠c;omega))).trans (k.2 e)⟩;unfold uR;rw[he]
 by_cases f:i=x
 .rw[if_pos f,if_pos f]
 .rw[if_neg f,if_neg f]
def aX.same {w w'}{c tb n}{vc}{op}{b}{tk}(h:aX w c tb n vc op b tk)(e:w'.heap=w.heap):aX w' c tb n vc op b tk:=by
 obtain⟨⟨g,k,f⟩,⟨cur,j,i⟩,d⟩:=h;refine⟨⟨g,by rw[e];exact k,?_⟩,⟨cur,by rw[e];exact j,i⟩,d.1,λl=>(adK (a:=⟨tb,3,none⟩) (by rw[e])).trans (d.2 l)⟩;unfold World.ownsRow at f⊢;rw[e];exact f
def Nw:((patch ae prog).info? 4).map (λi=>(i.zero,i.size,i.bytes))=some (some (.bool false),1,1):=by kernel_rfl
def KZ (n:Nat)(e:n<=24)(w):∃cs:Array Value,(Instr.makeSlice 233 (.int .i64 n) (.int .i64 n)).run (patch ae prog) w=.ok (.slice (some ⟨w.heap.size,0,none⟩) n n) (w.alloc (.cells cs 4))/\cs.size=n/\∀j,j<n->cs[j]? =some (.bool false):=by
 have hb:=Nw;cases a:(patch ae prog).info? 4 with
 |none=>rw[a]at hb;cases hb
 |some i=>
  rw[a]at hb;simp only[ads,ac2,Prod.mk.injEq]at hb;obtain⟨c,hs,b⟩:=hb;have h:=run_makeSlice w 233 4 i (.bool false) ((ax ae prog 233).trans underlying233) a c .i64 .i64 n n (by omega) (by omega) (by rw[hs];omega) (by rw[b];omega) (by omega);rw[hs,Nat.mul_one]at h;simp only[acX]at h;refine⟨_,h,size_madeCells _ _,λj d=>?_⟩;simp[madeCells,Value.cells,d,Nat.mod_one]
def Je (n k m)(S N C)(vc vl)(l:List Nat)(w)(hm:m<16)(Z:k<=1000)(hc:dO w vc n S N C)(hN:∀i,i<n->0<=N i/\N i<4)(hl:Ints w vl l.length (λj=>((l[j]?.getD 0:Nat):Int)))(L:∀i∈l,i<n)(κ:l.Nodup)(hlen:l.length<=24)(τ:k<=(l.filter (bE m N)).length):
 adO 137 #[vc,vl,.int .u64 m,.int .i64 k] w λe w'=>∃v tk,e=.returned v/\w'.ownsRow w.heap.size 3 1 v tk.length (aT tk)/\tk.length=k/\tk.Pairwise (· < ·)/\(∀i∈tk,i∈l/\bE m N i=true)/\adN w w'/\NZ v:=by
 have HC:=av hc;obtain⟨ao,cap,rfl,z,d,h3⟩:=hc;obtain⟨al,ρ,rfl,h4,h5,h6⟩:=hl;have H3:Hid (0<n->∃b o,ao=some ⟨b,o,none⟩/\∀i,i<n->w.cell? ⟨b,o+i*3,none⟩=some (.int .i64 (S i))/\w.cell? ⟨b,o+i*3+1,none⟩=some (.int .i64 (N i))/\w.cell? ⟨b,o+i*3+2,none⟩=some (.int .i64 (C i))):=h3;have H6:Hid (0<l.length->∃b o,al=some ⟨b,o,none⟩/\gM w b o l.length (λj=>((l[j]?.getD 0:Nat):Int))):=h6;clear h3 h6;obtain⟨cs,μ,hcs,P⟩:=KZ n d w
 go_enter (pf func137 (by rfl)),ntmps137
 go_wp2_with fail;obtain⟨W,hW⟩:∃W,W=(w.alloc (.cells cs 4)).alloc (.cells #[.slice ao n cap,.slice (some ⟨w.heap.size,0,none⟩) n n,.int .i64 k,.slice none 0 0] 235):=⟨_,rfl⟩
 have HT:Hid (aX W w.heap.size (w.heap.size+1) n (.slice ao n cap) (Ia m N (l.take 0)) k []/\adN w W):=by
  rw[hW];refine⟨⟨⟨.slice none 0 0,aam _ _ _,aag _ _ _ _⟩,⟨cs,aap _ _ _,hcs,λj hj=>by rw[P j hj];simp[uR,Ia]⟩,Z4 _,λ_=>by rw[(blk (aam w (.cells cs 4) (.cells #[.slice ao n cap,.slice (some ⟨w.heap.size,0,none⟩) n n,.int .i64 k,.slice none 0 0] 235))).1 3];rfl⟩,((aab _ _).alloc (ZL _) _).alloc (by simp) _⟩
 rw[<-hW];clear hW μ hcs P
 go_loopw [11,20] (λ_ i wr=>∃j:Nat,j<=l.length/\i=.int .i64 j/\aX wr w.heap.size (w.heap.size+1) n (.slice ao n cap) (Ia m N (l.take j)) k []/\adN w wr) (λ_ i _=>l.length-(intOf i).toNat)
 case atStart=>exact⟨0,by omega,rfl,HT.out.1,HT.out.2⟩
 case round=>
  obtain⟨j,hj,rfl,h,hb⟩:=hrel;have r:=av (aaa h hb)
  by_cases K:j<l.length
  .obtain⟨x,hx⟩:∃x,l[j]? =some x:=⟨_,ZT K⟩
   have g:x<n:=L x (aak hx);obtain⟨b,o,rfl,t⟩:=H3.out (by omega);obtain⟨bl,ol,rfl,O⟩:=H6.out (by omega);have q0:=(O.ext hb) j K;simp only[hx,ac9]at q0;have q1:=keeps hb (t x g).2.1;obtain⟨f,J,s⟩:∃f:Nat,f<4/\N x=(f:Int):=⟨(N x).toNat,by have:=hN x g;omega,by have:=hN x g;omega⟩;rw[s]at q1;have HX:Hid (l[j]? =some x/\bE m N x=has m f):=⟨hx,by unfold bE;rw[s];rfl⟩;obtain⟨⟨vt,k1,_⟩,B,_⟩:=h;obtain⟨t0,ε⟩:=blk k1;have q2:=B.cell g;have ζ:=B.frozen x;have jn:(j:Int)< (l.length:Int):=(by omega);have xn:(x:Int)< (n:Int):=(by omega);have d1:wr.drew.cell? ⟨b,o+x*3+1,none⟩=some (.int .i64 f):=q1;have d2:wr.drew.cell? ⟨w.heap.size,x,none⟩=some (uR (Ia m N (l.take j)) x):=q2;have υ:wr.drew.frozen? ⟨w.heap.size,x,none⟩=false:=ζ;have d3:wr.drew.cell? ⟨w.heap.size+1,1,none⟩=some (.slice (some ⟨w.heap.size,0,none⟩) n n):=t0 1;have Q:=aan (t x g).2.1;have d4:(wr.setCell ⟨w.heap.size,x,none⟩ (.bool (has m f))).drew.cell? ⟨w.heap.size+1,1,none⟩=some (.slice (some ⟨w.heap.size,0,none⟩) n n):=(adK (a:=⟨w.heap.size+1,1,none⟩) (aad wr ⟨w.heap.size,x,none⟩ _ _ (show w.heap.size+1≠w.heap.size by omega))).trans d3;have d5:(wr.setCell ⟨w.heap.size,x,none⟩ (.bool (has m f))).drew.cell? ⟨b,o+x*3+1,none⟩=some (.int .i64 f):=(adK (a:=⟨b,o+x*3+1,none⟩) (aad wr ⟨w.heap.size,x,none⟩ _ _ (Nat.ne_of_lt Q))).trans d1;clear t O hx s k1 B hb Q;go_wp2_with fail
   go_region_held3(λw'=>w'.cell? ⟨w.heap.size+1,1,none⟩=some (.slice (some ⟨w.heap.size,0,none⟩) n n)/\w'.cell? ⟨b,o+x*3+1,none⟩=some (.int .i64 f)/\(w'=wr.drew\/w'=(wr.setCell ⟨w.heap.size,x,none⟩ (.bool (has m f))).drew)) (with_reducible (first|exact⟨d3,d1,.inl rfl⟩|exact⟨d4,d5,.inr rfl⟩|assumption))
        (first|(go_at_call 164;refine(vL m f hm J _).mono ?_;rintro e w2 ⟨rfl,rfl⟩))
   all_goals
        go_wp2_with fail;go_roundw
        case rel=>exact⟨j+1,by omega,by go_num,(r.out.1.OL (b:=has m f) (λi=>by rw[MV HX.out.1,HX.out.2])).same rfl,(r.out.2.setCell (ZL _) _).drew⟩
        case measure=>simp[intOf];omega
  .have:j=l.length:=by omega
   subst this;rw[List.take_length]at h;clear r;have r:=av (aaa h hb);clear h hb;have e0:cu (Ia m N l) []=Ia m N l:=(by funext i;simp[cu]);have y:Hid (∀w1,Below w.heap.size wr w1->∀w',Below w.heap.size w1 w'->dO w' (.slice ao n cap) n S N C):=λw1 z w' V=>HC.out.below ((r.out.2.trans z).trans V)
   have ο:w.heap.size<=wr.heap.size:=r.out.2.size;go_wp2_with fail;refine(wY w.heap.size (w.heap.size+1) n k 4 _ S N C (Ia m N l) k [] wr (by rw[e0];exact r.out.1) (y.out wr (aab _ _)) ⟨List.nodup_nil,λi hi=>by simp at hi,by simp,by omega⟩ Z d (by decide)).mono ?_;rintro e w1 ⟨u1,β,δ,rfl,F,H,U⟩;have H1:=av (aaa F (aaa H U));clear F H U;go_wp2_with fail;refine(wZ w.heap.size (w.heap.size+1) n k 24 _ S N C (Ia m N l) β δ w1 H1.out.1 (y.out w1 H1.out.2.2) H1.out.2.1 Z d (by decide)).mono ?_;rintro e w2 ⟨u2,α,γ,rfl,E,G,T⟩;have H2:=av (aaa E (aaa G (H1.out.2.2.trans T)));clear E G T;go_wp2_with fail;refine(w9 w.heap.size (w.heap.size+1) n k _ S N C (Ia m N l) α γ w2 H2.out.1 (y.out w2 H2.out.2.2) H2.out.2.1 Z d).mono ?_;rintro e w3 ⟨u3,A,c,rfl,θ,p,M,R⟩
   have q:Hid (c.length=k):=by
        show c.length=k
        have ξ:=p.sum;have h0:=p.UU;rcases M with hz|hd
        .omega
        .have hle:=nL (l.filter (bE m N)) c (adx _ κ) λx hx=>by
          obtain⟨D,η⟩:=adp.1 hx;have:=hd x (L x D);unfold cu Ia at this;simp[D,η]at this;exact this
         omega
   obtain⟨⟨vt,k1,Y⟩,B,k4⟩:=θ;obtain⟨tq,tc,rfl⟩:=aj Y;obtain⟨t0,ε⟩:=blk k1
   have ν:Hid (NZ (.slice tq c.length tc)):=by
        by_cases h0:c=[]
        .have z:=(t0 3).symm.trans (k4.2 h0)
         have V:Value.slice tq c.length tc=.slice none 0 0:=adn z;show NZ _
         rw[V];trivial
        .exact NZ.Ic Y (List.length_pos_iff.2 h0)
   have X:Hid (w3.heap[w.heap.size+1]? =some (.cells #[.slice ao n cap,.slice (some ⟨w.heap.size,0,none⟩) n n,.int .i64 A,.slice tq c.length tc] 235 (0,0))/\w3.ownsRow (w.heap.size+1+1) 3 1 (.slice tq c.length tc) c.length (aT c)/\adN w w3/\gB n (Ia m N l) k A c):=⟨k1,Y,r.out.2.trans (H2.out.2.2.trans R),p⟩;have ι:w.heap.size+1+1<=w3.heap.size:=(ZK.1 k1).1;clear k1 Y B k4 p R M;go_wp2_with fail;refine(El (w.heap.size+1+1) (w.heap.size+1+1) _ c w3 X.out.2.1 (ZL _) ι (by rw[q.out];exact Z)).mono ?_;rintro e w4 ⟨rfl,I,u⟩;have HL:=av (aaa I u);obtain⟨s0,σ⟩:=blk ((u.block (w.heap.size+1) (Z4 _)).trans X.out.1);clear I u;go_wp2_with fail;go_ret;refine⟨_,mM c,rfl,?_,?_,?_,?_,?_,ν.out⟩
   .exact aB HL.out.1 (by omega)
   .rw[(lT c).length_eq];exact q.out
   .have z:=Cj c
    have V:(mM c).Nodup:=(lT c).nodup_iff.2 X.out.2.2.2.nodup;exact(z.and V).imp fun⟨a,b⟩=>by omega
   .intro i hi
    have:=(X.out.2.2.2.mem i ((lT c).mem_iff.1 hi)).2;unfold Ia at this;simpa using this
   .exact X.out.2.2.1.trans (HL.out.2.mono (by omega))
end Z
section
open Go.RowKit
attribute [local go_sem] Oper.semAt_some
end
section
open Go.RowKit
attribute [local go_sem ↓] Go.wp_at_zero Go.wp_at_succ
attribute [local go_sem] After.cell After.frozen After.const
structure gY (w:World):Prop where
 size:14<=w.heap.size
 pow:Lib.TabIs prog w "internal/strconv.uint64pow10" .u64 Lib.pow10Tab
 Mf:Lib.Utf8Tabs 4 5 w
 Ls:TabAt 13 Lib.deBruijn64tab w
def Tryz.oL:prog.globalNamed "internal/strconv.uint64pow10" =some 3:=by kernel_rfl
def gY.ext {w w'}(h:gY w)(hb:Below w.heap.size w w'):gY w':=by
 have c:∀b o,b<14->w'.cell? ⟨b,o,none⟩=w.cell? ⟨b,o,none⟩:=λb o hl=>hb.cell (p:=⟨b,o,none⟩) (ZO hl h.size)
 refine⟨ZP h.size hb.size,var?_below hb Tryz.oL (ZO (by decide) h.size) h.pow,⟨λk a=>?_,λi e=>?_⟩,λj d=>?_⟩
 .rw[c _ _ (by decide)];exact h.Mf.1 k a
 .rw[c _ _ (by decide),c _ _ (by decide)];exact h.Mf.2 i e
 .rw[c _ _ (by decide)];exact h.Ls j d
def SB (z:Int):Prop:= -9223372036854775808<=z/\z<=9223372036854775807
def E5 (z)(w)(a:SB z)(he:gY w):
 Calls prog 177 #[.int .i64 z] w λe w'=>Below w.heap.size w w'/\∃t:ByteArray,e=.returned (.string t)/\t.size<=21:=by
 refine(Tryz.strconv_Itoa z a.1 a.2 w he.pow).mono ?_;rintro e w' ⟨rfl,k,os,rfl⟩;exact⟨Lib.below_grow _ _ (ZL _) _ _,_,rfl,by have:=Lib.itoa_length_le z a.1 a.2;simpa[ByteArray.size] using this⟩
end
section
open Go.RowKit
attribute [local go_sem] Oper.semAt_some
def tL {w1 w2:World}{base}{e}{size}{v}{n}{xs}{o}(a:w1.ownsRow base e size v n xs)(d:(w1.alloc o).grownBy w2 v.ownBlock){b}{q}(hb:w1.heap[b]? =some q)(c:b<base):w2.heap[b]? =some q:=by
 have hl:=(ZK.1 hb).1;refine(d.block b (by simp;omega) (λh=>?_)).trans ((Below.heap_alloc w1 o b hl).trans hb);have:=(a.lt b h.symm).1;omega
def LU {w1 w2}{base}{e}{size}{v}{n}{xs}{o}(f:w1.ownsRow base e size v n xs)(h:(w1.alloc o).grownBy w2 v.ownBlock):KeepsOthers w1 w2:=by
 refine(KeepsOthers.alloc w1 o).trans (KeepsOthers.of_grownBy h λj q a b=>?_);rcases f.2 with⟨i,_⟩|⟨g,cap,cur,d,_,c,_⟩
 .rw[i]at a;cases a
 .rw[d]at a
  cases a;rw[Below.heap_alloc w1 o _ (ZK.1 c).1,c]at b;cases b;rfl
def lM {w1 w2}{base B}{e}{size}{v}{n}{xs}{o}(a:w1.ownsRow base e size v n xs)(c:(w1.alloc o).grownBy w2 v.ownBlock)(d:B<=base)(hs:B<=w1.heap.size):Below B w1 w2:=
 ((Below.refl B w1).alloc hs o).grown c (by simp;omega) (λk b=>by have:=(a.lt k b).1;omega)
end
section
open Go.RowKit
attribute [local go_sem ↓] Go.wp_at_zero Go.wp_at_succ
attribute [local go_sem] After.cell After.frozen After.const
def sum (l:List ByteArray):Nat:=(l.map (·.size)).sum
def sum_cons (a)(l):sum (a::l)=a.size+sum l:=by simp[sum]
def Place (n:Nat)(e:Ending):Prop:=∃z:Int,e=.returned (.int .i64 z)/\-1<=z/\z<n
def Tryz.infoByte:(prog.info? 5).map (λi=>(i.zero,i.size,i.bytes))=some (some (.int .u8 0),1,1):=by kernel_rfl
def mH (xs:List Value):Prop:=∀u∈xs,∃z,u=.int .u8 z
def mH.one {xs}(h:mH xs)(z):mH (xs++[.int .u8 z]):=λu hu=>by
 rcases abz.1 hu with hu|hu
 .exact h u hu
 .simp at hu;subst hu;exact⟨z,rfl⟩
def Q3:Value->Nat
 |.string s=>s.size
 |_=>0
end
