/- Part 34 of the proof. -/
import Derived.Test.YtfpaamhppamcoaaGreatDoorT33
import Derived.Conc.LeavingOf
import Derived.Handed
set_option linter.all false
set_option maxRecDepth 100000
set_option maxHeartbeats 60000000
namespace Go.Proofs.YtfpaamhppamcoaaGreatDoor
open Go.Proofs.Tryz
section
open Go Go.Conc Go.ConcN Go.RowKit Go.Conc.Lib
attribute [local go_sem ↓] Go.wp_at_zero Go.wp_at_succ
attribute [local go_sem] After.cell After.frozen After.const
theorem vY {P}{id}{ops}{Q}{a}{w}(c:∀j q,w.tape j q=0)
 (h:wpOps P ops Q (Region.schedule (P.follows .mixedOrders) ops 0) a w.drew):(Code.region id ops true).wp P Q a w:=λb k cs=>by
 obtain⟨e,a',w',q,r⟩:=wp_ops _ a _ h b k cs;refine⟨e,a',w',q,.of_steps (.one ?_) r⟩;have hs:=step_region_draw (P:=P) (b:=b) (a:=a) (k:=k) (cs:=cs) (id:=id) (ops:=ops) (w:=w);rw[c]at hs;exact hs
theorem BQ {P}{t}{id}(b:t=22\/t=23\/t=1){Q}{a}{w}(c:∀j q,w.tape j q=0)
 (h:Q .normal ((a.put (some t) (.bool true)).put (some t) (.bool false)) w.drew):(Code.region id (CO t) true).wp P Q a w:=by
 refine vY c ?_;have hs:Region.schedule (P.follows .mixedOrders) (CO t) 0=[0,1]:=(Ms (P.follows .mixedOrders) t b).1;rw[hs];have e:(CO t)[0]? =some (bg (some t) (.move (.const (.bool true)))):=rfl;have d:(CO t)[1]? =some (bg (some t) (.move (.const (.bool false)))):=rfl;have hw:∀(v:Value) y,Region.wanted (bg (some t) (.move (.const v))) y=true:=λ_ _=>rfl
 simp only[wpOps,e,d,hw,if_true];exact .inl (.inl h)
theorem Kr (x0)(w)(a:∀j q,w.tape j q=0):Calls (patch ae prog) 88 #[x0] w fun|.returned v,w'=>v=.nilFunc/\w'.heap=w.heap|_,_=>False:=by
 refine calls_of_wp AX lh ?_;have hp:(#[x0]:Array Value)++Array.replicate ((AQ 342 f88).ntmps-(#[x0]:Array Value).size) undef= #[x0,undef,undef]:=rfl;rw[hp];unfold J6;refine wp_seq (BQ (.inr (.inr rfl)) a ?_);simp only[Exit.then,Act.put,ZN,ZS,ZR];refine wp_seq (wp_cond_false rfl (wp_skip ?_));simp only[Exit.then];refine wp_seq (wp_region ?_);have c:(#[bg (some 2) (.move (.const .nilFunc))]:Array Oper)[0]? =some (bg (some 2) (.move (.const .nilFunc))):=rfl;have b:List.range (#[bg (some 2) (.move (.const .nilFunc))]:Array Oper).size=[0]:=rfl;have hw:∀(v:Value) y,Region.wanted (bg (some 2) (.move (.const v))) y=true:=λ_ _=>rfl
 rw[b];simp only[wpOps,c,hw,if_true];refine .inl ?_;refine wp_ret ?_;refine⟨rfl,.nilFunc,?_,rfl,rfl⟩;rw[results_tmp (t:=2) rfl];rfl
theorem WR.lone {G}{K}{st}{p:Rel st}{w a u}(h:WR G K p w u)(e:a.heap=w.heap):WR G K p a u:=
 ⟨h.fit,λb c d=>by have:=h.rows b c d;unfold Qn at this⊢;rw[e];exact this,h.qp,h.low,by rw[e];exact h.BB⟩
def Qp (u0:World)(p:Rel True)(u:World):Prop:=
 (u.tape=u0.tape/\u.os=u0.os/\u.output=u0.output/\u0.heap.size<=u.heap.size)/\(∀b c,p b c->c<u0.heap.size->b=c/\CB u0 c)/\(∀c,CB u0 c->p c c)/\∀c,c<u0.heap.size->u.heap[c]? =u0.heap[c]?
theorem RN {u0}:∀p u d,Qp u0 p u->Qp u0 p (u.at d):=λ_ _ _ h=>h
theorem EZ {u0}:∀p q u u',Qp u0 p u->dE (CB u0) p q u u'->Qp u0 q u':=by
 intro p q u u' ⟨⟨k,j,i,h⟩,a,f,e⟩ g;refine⟨⟨g.tape.trans k,g.os.trans j,g.output.trans i,ZP h g.size⟩,λb c d hc=>?_,λc hc=>g.ext _ _ (f c hc),λc hc=>?_⟩
 .by_cases hp:p b c
  .exact a b c hp hc
  .have:=g.fresh b c d hp;omega
 .exact(g.keep c (by omega) λb hb=>(a b c hb hc).2).trans (e c hc)
theorem NU {u0 u:World}(h:∀c,c<u0.heap.size->u.heap[c]? =u0.heap[c]?){a}{v}(b:u0.cell? a=some v):u.cell? a=some v:=by
 have hl:a.block<u0.heap.size:=block_lt_of_cell b;unfold World.cell? at b⊢;rw[h _ hl];exact b
theorem QH {w}{c}(h:CB w c):c<w.heap.size:=let ⟨_,_,_,h⟩:=h;(ZK.1 h).1
theorem P4 {K}{st}{p:Rel st}{w u}{G b c}(hw:WR G K p w u)(hp:p b c)(h:CB u c):CB w b:=by
 obtain⟨xs,e,g,hb⟩:=h;obtain⟨d,ys,j,f,g',i,a,_⟩|⟨_,_,_,_,a,_⟩|⟨_,_,_,_,a,_⟩:=hw.rows b c hp
 .exact⟨d,j,f,i⟩
 .rw[hb]at a;cases a
 .rw[hb]at a;cases a
theorem PL {u0 u w}{p}{K}{G}(h:Az u0 (CB u0))(q:Qp u0 p u)(hw:WR G K p w u):Az u (QP p u (CB w)):=by
 obtain⟨⟨o,i2,i3,i4⟩,i5,k,i⟩:=q;have hb:Below u0.heap.size u0 u:=⟨i2,o,i3,i4,i⟩
 have l:∀c,CB u0 c->QP p u (CB w) c:=λc hc=>by
  have d:CB u c:=by
   obtain⟨xs,e,g,m⟩:=hc;exact⟨xs,e,g,(i c (QH ⟨xs,e,g,m⟩)).trans m⟩
  exact⟨d,c,k c hc,P4 hw (k c hc) d⟩
 refine⟨h.env.ext hb,λg b=>?_,λg b=>?_,λg b=>l g (h.JV g b)⟩
 .obtain⟨t,a,k1,j,n⟩:=h.err g b
  exact⟨t,a,NU i k1,j,l _ n⟩
 .obtain⟨xs,e,f,k1,j⟩:=h.tabs g b
  exact⟨xs,e,f,(i g (QH ⟨xs,e,f,k1⟩)).trans k1,j⟩
theorem UA {u0}(O:Az u0 (CB u0)){C C0}{R}(hC:j6 C)(P:88∉C0.sp)(k:∀f,f∈C0.sp->f=340\/f=341\/f=342)(K:∀f,f∈C0.sp->f∉C.fns/\f≠C.root)(J:C.jh=true)
 {x y}{a}{fs}{b}{bs}{w u}{gs}{sl}{t}{q}{S}{p}
 (Y:bI (patch ae prog) C0 R JJ (Frame.enter (patch ae prog) 88 x .normal) (a::fs) w)(j:aF (VR p) x y)(hx:x.size=1)(r:CR C (patch ae prog) p (a::fs) (b::bs))(hw:WR (patch ae prog).globals.size (CB u0) p w u)(hF:ni prog S gs u.heap.size t q)
 (h0:gs[0]? =some (df (Frame.enter prog 88 y .normal) (b::bs)))(Z:∀b c,p b c->¬S c)(B:Qp u0 p u):
 ∃N m' F n s',runNT prog N (crowd gs u sl) t=(.next m',F)/\Down (patch ae prog) C0 n ⟨Frame.enter (patch ae prog) 88 x .normal,a::fs,w⟩ s'/\Om C (patch ae prog) prog (CB u0) (Qp u0) s' m' F:=by
 obtain⟨x0,rfl⟩:=ji hx;obtain⟨n,D,hT⟩:=(Rz P Y).2.2 rfl;have M:je w (CB w) x0 n D:=hT;obtain⟨V,rfl⟩:=ji (j.1.symm.trans hx);have L:je u (QP p u (CB w)) V n D:=M.carry hw (λ_ h=>h) (j.2 0 x0 V rfl rfl);obtain⟨N,Q,u',G,F,q',s,r1,r2,r3,r4,r5,r6,X,W⟩:=Cf (sl:=sl) (λc hc=>hc.1) (λc ⟨_,b,hb,_⟩=>Z b c hb) (PL O B hw) L hF h0
 have A:∀f x fs w,f∈C0.sp->¬bI (patch ae prog) C0 R JJ (Frame.enter (patch ae prog) f x .normal) fs w:=λf x fs w hf=>by
  rcases k f hf with rfl|rfl|rfl
  .exact(ig x w).lZ fs
  .exact(gH x w).lZ fs
  .exact(gG x w).lZ fs
 have z:∀f x fs cs w n fr w',f∈C0.sp->(∀y∈fs,y.mode=.run/\y.defers=[]/\∃fn,(patch ae prog).funcs[y.fn]? =some fn)->runN (patch ae prog) n (lone (Frame.enter (patch ae prog) f x .normal) (fs++[stop (patch ae prog)]) w)=.next (lone fr cs w')->fr.mode≠.returning:=λf x fs cs w n fr w' hf g H=>by
  rcases k f hf with rfl|rfl|rfl
  .exact(ig x w).lost fs g H
  .exact(gH x w).lost fs g H
  .exact(gG x w).lost fs g H
 have o:∀v f x,f∈C0.sp->a.finish v≠Frame.enter (patch ae prog) f x .normal:=λv f x hf e=>by
  have h1:=congrArg Frame.fn e;rw[(oU a v).1]at h1;have E:a.fn=f:=h1;obtain⟨n1,n2⟩:=K f hf;obtain⟨_,_,_,d⟩:=r.1
  by_cases m:fs=[]
  .exact n2 (E.symm.trans ((d.2 m).2.2 J))
  .exact n1 (E▸(d.1 m).2.2.1)
 obtain⟨n,v,w',⟨rfl,g1⟩,hd⟩:=yO (C0:=C0) A z (T:=λ_ _=>0) Y rfl o (Kr x0 (ay w λ_ _=>0) (λ_ _=>rfl));obtain⟨⟨I,l,i,d⟩,hcs⟩:=r;have U:w'.heap=w.heap:=g1;obtain⟨⟨i1,i2,i3,i4⟩,i5,i6,i7⟩:=B;refine⟨N,_,F,n,_,r1,hd,p,b.finish (.string s),bs,Q,u',G,q',S,rfl,r2,⟨?_,.inl ((jd _ _).trans l),hcs,d.finish _ _⟩,?_,r3,Z,⟨r4.trans i1,r5.trans i2,r6.trans i3,ZP i4 X⟩,i5,i6,λc hc=>(W c (ZO hc i4)).trans (i7 c hc)⟩
 .exact I.finish hC (VR.gU rfl) i
 .exact(hw.lone U).keep (λb c h=>W c (hw.lt h).2) X
end
namespace Z
open Go.RowKit
attribute [local go_sem ↓] Go.wp_at_zero Go.wp_at_succ
attribute [local go_sem] After.cell After.frozen After.const
theorem Io (D)(B)(c)(w)(hb:aW w B D)(a:D.ok)(b:∀j q,w.tape j q=0):
 Calls (patch ae prog) 42 #[ptr B,.agg (aQ c)] w fun|.returned v,w'=>dm (λi=>zF D i (c i)) c w v w'|_,_=>False:=by
 refine calls_of_wp sK jK ?_
 have hp:(#[ptr B,.agg (aQ c)]:Array Value)++Array.replicate ((eD 340 f42).ntmps-(#[ptr B,.agg (aQ c)]:Array Value).size) undef= #[ptr B,.agg (aQ c),undef,undef,undef,undef,undef,undef,undef,undef,undef,undef,undef,undef,undef,undef,undef,undef,undef,undef,undef,undef,undef,undef,undef,undef,undef,undef]:=by
  rw[CJ];simp only[List.size_toArray,List.length_cons,List.length_nil,Nat.reduceAdd,Nat.reduceSub,Array.replicate_succ,Array.replicate_zero,List.push_toArray,List.append_toArray,List.cons_append,List.nil_append]
 rw[hp];have d:=Im D B c (.bool false) (.bool false) w.drew.drew (hb.same (λ_ h=>h) λ_ _ h=>h) a;have e:∀v w',dm (λi=>zF D i (c i)) c w.drew.drew v w'->dm (λi=>zF D i (c i)) c w v w':=λv w' h=>h
 generalize xB ((eD 340 f42).body.getD .skip)=c4 at d⊢;refine wp_seq (BQ (.inl rfl) b ?_);simp only[Exit.then,Act.put,ZN,ZS,ZR];refine wp_seq (wp_cond_false rfl (wp_skip ?_));simp only[Exit.then];refine wp_seq (BQ (.inr (.inl rfl)) (λj q=>b j q) ?_);simp only[Exit.then,Act.put,ZN,ZS,ZR];refine wp_seq (wp_cond_false rfl (wp_skip ?_));simp only[Exit.then];exact d
end Z
section
open Go Go.Conc Go.ConcN Go.RowKit
open Go.ConcR (Payload)
theorem rU {p:Nat->Prop}{l m:List Nat}(h:∀g∈l,p g)(k:∀g∈m,p g):∀g∈l++m,p g:=λg a=>(List.mem_append.1 a).elim (h g) (k g)
theorem Lg {Q}(a)(B):ni Q (λ_=>False) #[a] B #[] (λ_=>0):=by
 refine⟨?_,by simp,λi g d=>?_,rfl,λop b=>by simp at b,λc hc=>hc.elim,λi g e d=>?_⟩
 .exact CT.lone (λop b=>by simp at b) (λop b=>by simp at b)
 .simp[Trace.g?]at d
 .have:=(ZK.1 d).1
  simp at this;omega
def AA (ch:List PanicEntry)(w:World):Prop:=
 (∃B D a,ch=raised 31 (ptr B)/\bM w a B D/\D.ok/\tX w a/\a B)\/(∃b c,ch=raised 37 (ptr b)/\w.heap[b]? =some (.cells (aQ c) 37))\/∃v n D,ch=raised 47 v/\je w (CB w) v n D
theorem SF:∀ch w,AA ch w->∃e∈ch,¬EJ e.v:=by
 rintro ch w (⟨B,D,Z,rfl,_⟩|⟨b,c,rfl,_⟩|⟨v,n,D,rfl,ao,cap,rfl,_⟩)
 .exact⟨_,ZX,λh=>absurd (show iT.contains 31=false from h) (by decide)⟩
 .exact⟨_,ZX,λh=>absurd (show iT.contains 37=false from h) (by decide)⟩
 .exact⟨_,ZX,λh=>absurd (show iT.contains 47=false from h) (by decide)⟩
theorem Sd {v:Value}{c}(h:v.cells=aQ c):v=.agg (aQ c):=by
 cases v with
 |agg xs=>
  have:xs=aQ c:=h;rw[this]
 |_=>exact absurd (congrArg Array.size h) (by simp[Value.cells,aQ])
def OD:List Nat:=[340,341,342]
theorem Ga:∀f x w,f∈OD->Calls (patch ae prog) f x w λe w'=>∃ch,e=.panicked ch/\(AA ch w'->JJ f x w):=by
 intro f x w hf
 have g:f=340\/f=341\/f=342:=by
  have:f∈[340,341,342]:=hf;simpa using this
 rcases g with rfl|rfl|rfl
 .refine(BI ae x w).mono ?_
  rintro e w' ⟨rfl,rfl⟩;refine⟨_,rfl,?_⟩;rintro(⟨B,D,Z,a,d⟩|⟨b,c,a,_⟩|⟨v,n,D,a,_⟩)
  .refine⟨λ_=>⟨B,D,Z,?_,d⟩,λh=>absurd h (by decide),λh=>absurd h (by decide)⟩
   simpa[raised] using a
  .simp[raised]at a
  .simp[raised]at a
 .refine(rV ae x w).mono ?_
  rintro e w' ⟨rfl,rfl⟩;refine⟨_,rfl,?_⟩;rintro(⟨B,D,Z,a,d⟩|⟨b,c,a,d⟩|⟨v,n,D,a,_⟩)
  .simp[raised]at a
  .refine⟨λh=>absurd h (by decide),λ_=>⟨c,Sd ?_⟩,λh=>absurd h (by decide)⟩
   have hb:b=w.heap.size:=by
        simp only[raised,ptr,List.cons.injEq,PanicEntry.mk.injEq,Value.iface.injEq,Value.pointer.injEq,Option.some.injEq,Addr.mk.injEq,and_true,true_and]at a;exact a.symm
   rw[hb,tN]at d;simp only[Option.some.injEq,Obj.cells.injEq]at d;exact d.1
  .simp[raised]at a
 .refine(zm ae x w).mono ?_
  rintro e w' ⟨rfl,rfl⟩;refine⟨_,rfl,?_⟩;rintro(⟨B,D,Z,a,d⟩|⟨b,c,a,_⟩|⟨v,n,D,a,d⟩)
  .simp[raised]at a
  .simp[raised]at a
  .refine⟨λh=>absurd h (by decide),λh=>absurd h (by decide),λ_=>⟨n,D,?_⟩⟩
   have:zk x=v:=by simpa[raised] using a
   rw[this];exact d
theorem GZ {C0}{R}{J}{g}{f}{x}{fs}{w}(h:(patch ae prog).funcs[g]? =some (shut f)):¬bI (patch ae prog) C0 R J (Frame.enter (patch ae prog) g x .normal) fs w:=by
 intro i;rw[enter_at x h (c:=.exit 0) rfl]at i;have hs:∃o w' es,stepG (patch ae prog) true (df ((base g).at ⟨x++Array.replicate ((shut f).ntmps-x.size) undef,[]⟩ [.code (.exit 0)]) (fs++[stop (patch ae prog)])) (ay w w.tape)=.ended o w' es:=⟨_,_,_,by simp only[stepG,stepG.exec,Frame.at,exitTo];rfl⟩;obtain⟨o,w',es,hs⟩:=hs;rcases i.step with b|⟨_,b⟩
 .exact absurd b.1 (by simp[Frame.at])
 .rcases b w.tape with⟨a2,e,w2,d,a,_⟩|⟨f2,x2,e,w2,d,_,a,_⟩
  .rw[hs]at a;cases a
  .rw[hs]at a;cases a
theorem pS {g}{f}(h:prog.funcs[g]? =some f)(a:(g==42||g==69||g==88)=false/\ae.contains g=true):(patch ae prog).funcs[g]? =some (shut f):=by
 rw[iO ae prog h];unfold swap;simp only[Bool.or_eq_false_iff,beq_eq_false_iff_ne]at a;rw[if_neg a.1.1.1,if_neg a.1.1.2,if_neg a.1.2,if_pos a.2]
def RD:List Nat:=42::88::ae
def RE:List Nat:=42::69::88::ae
def Uw:List Nat:=[0]
theorem Q8:PS (patch ae prog) prog 88:=⟨_,_,_,AX,by kernel_rfl,lh,func88,by kernel_rfl,by kernel_rfl⟩
theorem O':PS (patch ae prog) prog 42:=⟨_,_,_,sK,by kernel_rfl,jK,rE,Uj,by rw[xV];rfl⟩
theorem Wo:∀g∈OD,PS (patch ae prog) (patch ae prog) g:=
 all_cons ⟨_,_,_,OB ae,by kernel_rfl,rfl,OB ae,by kernel_rfl,rfl⟩<|
 all_cons ⟨_,_,_,xK ae,by kernel_rfl,rfl,xK ae,by kernel_rfl,rfl⟩<|
 all_cons ⟨_,_,_,z8 ae,by kernel_rfl,rfl,z8 ae,by kernel_rfl,rfl⟩<|
 all_nil
def Zj:Code:=.region 0 #[bg (some 1) (.makeInterface 31 (.tmp 0)),bg none (.panic (.tmp 1))] false
def Zi:Code:=.region 0 #[bg (some 1) (.box 37 (.tmp 0)),bg (some 2) (.makeInterface 37 (.tmp 1)),bg none (.panic (.tmp 2))] false
def Zh:Code:=.region 0 #[bg (some 1) (.makeInterface 47 (.tmp 0)),bg none (.panic (.tmp 1))] false
theorem xM {C}{g}{f}{c}(hf:(patch ae prog).funcs[g]? =some f)(hb:f.body=some c)(h:fB C (patch ae prog) g (.code c)=false)(x):¬aU C (patch ae prog) (Frame.enter (patch ae prog) g x .normal).fn (Frame.enter (patch ae prog) g x .normal).todo:=by
 rw[enter_at x hf hb];intro b;have a:fB C (patch ae prog) g (.code c)=true:=b.cons.1;rw[a]at h;cases h
structure QM (C C0:iG)(r:Nat)(fr:Func):Prop where
 sJ:aH C (patch ae prog) prog
 xG:aH C0 (patch ae prog) (patch ae prog)
 sp:C.sp=RD
 Qt:C0.sp=OD
 sd:C.sd=false
 root:C.root=r
 rt:C.rt=1000000
 mark:∀o,C.mark o=false
 QB:∀o,C0.mark o=false
 gl:C.gl=Uw
 XX:C0.gl=Uw
 okF:∀x y,C.okF x y
 V6:C.jh=true
 dd:C.dd=[]
 kd:C.kd=.normal
 pv:∀i,C.pv i=false
 X0:C0.jh=false
 XZ:C0.dd=[]
 XA:C0.kd=.normal
 init:prog.inits.idxOf? r=none
 Sk:(OD.all λg=> !C.fns.contains g&&g !=r)=true
 Uk:C0.fns.contains r=true
 Xv:fB C (patch ae prog) 340 (.code Zj)=false
 Xu:fB C (patch ae prog) 341 (.code Zi)=false
 Xt:fB C (patch ae prog) 342 (.code Zh)=false
 pr:(patch ae prog).funcs[r]? =some fr
 ar:prog.funcs[r]? =some fr
 body:∃c,fr.body=some c/\bA C (patch ae prog) r c=true/\uq C c=c/\(∃k,fr.results= #[.tmp k])
 ntmps:fr.ntmps<1000
theorem vX:dM (patch ae prog):=trivial
theorem Fp {C C0}{r}{fr}(L:QM C C0 r fr)(A:∀g∈ae,∃f',(patch ae prog).funcs[g]? =some (shut f')){vd:BD->Nat->Int->Array Value}(X:∀D i n,i<4->0<n->(vd D i n).size=17/\∀v∈(vd D i n).toList,jP v)
 (η:∀(D:BD) (B bb rB nB r:Nat) (n:Int) (w:World),aW w B D->D.ok->r<4->0<n->w.cell? ⟨bb,0,none⟩=some (ptr B)->w.cell? ⟨rB,0,none⟩=some (.int .i64 r)->w.cell? ⟨nB,0,none⟩=some (.int .i64 n)->
  Calls (patch ae prog) 69 #[undef,ptr bb,ptr rB,ptr nB,undef] w fun|.returned v,w'=>o9 (vd D r n) r v w'|_,_=>False)
 (θ:∀(D:BD) (B:Nat) (c:Nat->Int) (w:World),aW w B D->D.ok->(∀j q,w.tape j q=0)->Calls (patch ae prog) 42 #[ptr B,.agg (aQ c)] w fun|.returned v,w'=>dm (λi=>vd D i (c i)) c w v w'|_,_=>False)
 {args la}{w H}(ι:args.size<1000)(hE:Az w (CB w))(E:WR ((patch ae prog)).globals.size (λ_=>False) (NA (CB w)) H H)(ε:WR ((patch ae prog)).globals.size (CB w) (DV True (CB w)) H w)(δ:aF (VR (NA (CB w))) la la)(hA:aF (VR (DV True (CB w))) la args)
 (HD:∀T,Calls (patch ae prog) r la (ay H T) (RJ (λv _=>v=.bool true) AA)):
 ∃N last o w' t',runNT prog (N+1) (solo (G (Frame.enter prog r args .normal) []) w) #[]=(.ended o w',t')/\runN prog N (solo (G (Frame.enter prog r args .normal) []) w)=.next last/\
  step prog last=.ended o w'/\Conc.Good prog (λv u=>v=.bool true/\Below w.heap.size w u) last o w' t':=by
 have tw:Twin (patch ae prog) prog:=xJ ae prog lH FV;have W:=uz ae prog lH FV
 have d:∀g∈Uw,CB w g:=λg O=>by
  have:g=0:=List.mem_singleton.1 O;subst this;obtain⟨_,_,V,_⟩:=hE.err 0 (by decide);exact jY V
 have β:r∉OD:=λh=>by
  have:=ZU.1 L.Sk r h;simp at this
 have tree:bI (patch ae prog) C0 (λv _=>v=.bool true) JJ (Frame.enter (patch ae prog) r la .normal) [] H:=
  wV (K:=λ_=>False) (st:=False) vX L.xG W (.inr ⟨λ_ h=>h,λh=>h⟩) L.QB Qo SF (λf x w hf=>Ga f x w (L.Qt▸hf))
   ⟨NA (CB w),_,[],H,⟨FR.enter L.xG (List.mem_of_elem_eq_true L.Uk) (by rw[L.Qt];exact β) δ (λg O=>⟨rfl,d g (L.XX▸O)⟩),.inl rfl,trivial,⟨λh=>absurd rfl h,λ_=>⟨L.XZ.symm▸rfl,L.XA.symm▸rfl,λh=>by rw[L.X0]at h;cases h⟩⟩⟩,E⟩ HD
 obtain⟨c,hb,γ,α,k,M⟩:=L.body;have z:∀{P:Program} (a:Array Value),P.funcs[r]? =some fr->Frame.enter P r a .normal=(base r).at ⟨a++Array.replicate (fr.ntmps-a.size) undef,[]⟩ [.code c]:=λa h=>enter_at a h hb
 have F:Live C (patch ae prog) (DV True (CB w)) (Frame.enter (patch ae prog) r la .normal) [] (Frame.enter prog r args .normal) []:=by
  rw[z _ L.pr,z _ L.ar];refine⟨⟨⟨_,L.pr⟩,J'.of ?_,aU.of γ (λ_ hy=>by cases hy),rfl,rfl,rfl,?_,λ_=>?_,λ_=>L.okF _ _,(λe=>by cases e),λg O=>⟨rfl,d g (L.gl▸O)⟩⟩,.inl rfl,trivial,⟨λh=>absurd rfl h,λ_=>⟨L.dd.symm▸rfl,L.kd.symm▸rfl,λ_=>L.root.symm⟩⟩⟩
  .rw[hA.1]
   refine aF.append hA (aF.same λv Y=>?_);rw[(Array.mem_replicate.1 Y).2];exact VR.undef
  .simp only[Frame.at,List.map_cons,List.map_nil,qE,α]
  .rw[L.rt]
   show(la++Array.replicate _ undef).getD 1000000 undef=undef
   have:=L.ntmps;have:=hA.1;rw[ZY,Array.getElem?_eq_none (by rw[Array.size_append,Array.size_replicate];omega)];rfl
 have ζ:Qp w (DV True (CB w)) w:=⟨⟨rfl,rfl,rfl,ZL _⟩,λb c h _=>⟨h.1,h.1▸h.2⟩,λ_ h=>⟨rfl,h⟩,λ_ _=>rfl⟩
 letI:Payload:=⟨91⟩
 have m:∀f,f∈C0.sp->f=340\/f=341\/f=342:=λf hf=>by
  rw[L.Qt]at hf;have:f∈[340,341,342]:=hf;simpa using this
 have l:∀f,f∈C0.sp->f∉C.fns/\f≠C.root:=λf hf=>by
  rw[L.Qt]at hf;have:=ZU.1 L.Sk f hf;simp at this;exact⟨λh=>by simp[h]at this,L.root▸this.2⟩
 have:=R5 (C:=C) (C0:=C0) (Q:=prog) (K:=CB w) (Iv:=Qp w) (Post:=λv u=>v=.bool true/\Below w.heap.size w u) RN EZ vX L.sJ tw (.inl L.sd) L.mark (λf V h2=>?_) (λ_ _=>rfl) (λ_ _=>rfl) (λf x hf=>?_) L.V6 L.dd L.kd L.pv (by rw[L.root];exact L.init) (λfn h=>?_) (λp v v' w' T u hR Y hw U=>?_) (λfn h=>?_)
  (λf x y a fs b bs w' u gs sl t q S p J Z s R hw hF h0 hS U=>?_) tree (crowd #[df (Frame.enter prog r args .normal) []] w none) #[] ⟨_,_,[],_,w,none,λ_=>0,λ_=>False,rfl,rfl,F,ε,Lg _ _,λ_ _ _ h=>h,ζ⟩
 .exact this
 .rw[L.sp]at V
  rw[L.Qt]at h2;have h:(RD.all λg=> !OD.contains g)=true:=by kernel_rfl
  have:=ZU.1 h f V;simp[h2]at this
 .rcases m f hf with rfl|rfl|rfl
  .exact xM (OB ae) rfl L.Xv x
  .exact xM (xK ae) rfl L.Xu x
  .exact xM (z8 ae) rfl L.Xt x
 .rw[L.root,L.pr]at h
  cases h;exact⟨_,by rw[L.root];exact L.ar,rfl⟩
 .obtain rfl:=hR
  obtain⟨⟨i1,i2,i3,i4⟩,i5,i6,i7⟩:=U;exact⟨Y.j3,i2,i1,i3,i4,i7⟩
 .rw[L.root,L.pr]at h
  cases h;exact⟨k,M⟩
 .rw[L.sp]at J
  have I:f=42\/f=88\/f∈ae:=by
   have:f∈42::88::ae:=J;simpa only[ZW] using this
  rcases I with rfl|rfl|hf
  .exact PN (C:=C) (C0:=C0) EZ rfl vX L.sJ.cfg (by rw[L.Qt];exact of_decide_eq_true (show decide (¬42∈[340,341,342])=true by kernel_rfl)) m l L.V6 X η θ Z s.1 (s.2.1 rfl) R hw hF h0 hS U
  .exact UA (C:=C) (C0:=C0) hE L.sJ.cfg (by rw[L.Qt];exact of_decide_eq_true (show decide (¬88∈[340,341,342])=true by kernel_rfl)) m l L.V6 Z s.1 (s.2.2 rfl) R hw hF h0 hS U
  .exfalso
   obtain⟨f',h'⟩:=A f hf;exact GZ h' Z
end
namespace Z
open Go.RowKit
attribute [local go_sem ↓] Go.wp_at_zero Go.wp_at_succ
attribute [local go_sem] After.cell After.frozen After.const
def x9 (l:List Nat):Bool:=l== [0,1]||l== [1,0]
def allTwo (md:Region.Mode)(ops:Array Oper):Nat->Array Bool->List Nat->Bool
 |0,_,acc=>x9 acc.reverse
 |n+1,listed,acc=>if(Region.ready md ops listed).isEmpty then x9 acc.reverse else(Region.ready md ops listed).all λi=>allTwo md ops n (listed.setIfInBounds i true) (i::acc)
theorem BG {md}{ops}:∀(n t:Nat) (listed:Array Bool) (acc:List Nat),allTwo md ops n listed acc=true->x9 (Region.linearise.go md ops n t listed acc)=true
 |0,_,_,_,h=>h
 |n+1,t,listed,acc,h=>by
  simp only[Region.linearise.go]
  change x9 (match(Region.ready md ops listed)[t% (Region.ready md ops listed).length]? with
   |some i=>Region.linearise.go md ops n (t/ (Region.ready md ops listed).length) (listed.setIfInBounds i true) (i::acc)
   |none=>acc.reverse)=true
  unfold allTwo at h;cases d:(Region.ready md ops listed)[t% (Region.ready md ops listed).length]? with
  |none=>
   have a:Region.ready md ops listed=[]:=by
    cases b:Region.ready md ops listed with
    |nil=>rfl
    |cons x xs=>
     rw[b]at d;have e:t% (x::xs).length< (x::xs).length:=Nat.mod_lt _ (by simp);rw[List.getElem?_eq_none_iff]at d;omega
   rw[a]at h;simpa using h
  |some i=>
   have hm:=aak d
   have c:(Region.ready md ops listed).isEmpty=false:=by
    cases b:Region.ready md ops listed with
    |nil=>rw[b]at hm;cases hm
    |cons x xs=>rfl
   rw[c]at h;simp only[Z0,if_false,ZU]at h;exact BG n _ _ _ (h i hm)
theorem Uz (md)(t)(a:t=22\/t=23\/t=1):allTwo md (CO t) 2 (Array.replicate 2 false) []=true:=by
 rcases a with rfl|rfl|rfl<;>cases md<;>kernel_rfl
theorem KE (m)(t n)(b:t=22\/t=23\/t=1):x9 (Region.schedule m (CO t) n)=true:=by
 have a:(CO t).size=2:=rfl
 have key:∀md n,x9 (Region.linearise md (CO t) n)=true:=λmd n=>by
  unfold Region.linearise;rw[a];exact BG _ _ _ _ (Uz md t b)
 unfold Region.schedule;split
 .exact key _ _
 .split<;>exact key _ _
theorem enters {P}{f}{fn}{c}(hf:P.funcs[f]? =some fn)(a:(fn.name== "runtime.NumGoroutine")=false)(hb:fn.body=some c)(args)(w):Sem.run P (callFunc f args) w=.ok (.enter f args) w:=by
 have b:fn.name≠ "runtime.NumGoroutine" :=by simpa using a
 simp[callFunc,hf,b,hb]
theorem BP {t}{id}(c:t=22\/t=23\/t=1){Q}{a}{w}
 (h:∀b,Q .normal ((a.put (some t) (.bool (!b))).put (some t) (.bool b)) w.drew):(Code.region id (CO t) true).wp (patch ae prog) Q a w:=by
 refine wp_region_draw λn=>?_
 have hs:Region.schedule (((patch ae prog)).follows .mixedOrders) (CO t) n=[0,1]\/Region.schedule (((patch ae prog)).follows .mixedOrders) (CO t) n=[1,0]:=by
  have:=KE (((patch ae prog)).follows .mixedOrders) t n c;unfold x9 at this;simpa using this
 have e:(CO t)[0]? =some (bg (some t) (.move (.const (.bool true)))):=rfl;have d:(CO t)[1]? =some (bg (some t) (.move (.const (.bool false)))):=rfl;have hw:∀(v:Value) y,Region.wanted (bg (some t) (.move (.const v))) y=true:=λ_ _=>rfl
 rcases hs with hs|hs
 .rw[hs]
  simp only[wpOps,e,d,hw,if_true];exact .inl (.inl (h false))
 .rw[hs]
  simp only[wpOps,e,d,hw,if_true];exact .inl (.inl (h true))
theorem xW (D)(B)(c)(f)(w)(hb:bM w f B D)(d:D.ok)(g:tX w f)(p:f B):
 Calls (patch ae prog) 42 #[ptr B,.agg (aQ c)] w (RJ (λv w'=>dm (λi=>zF D i (c i)) c w v w'/\Below w.heap.size w w') AA):=by
 refine calls_of_wp sK jK ?_
 have hp:(#[ptr B,.agg (aQ c)]:Array Value)++Array.replicate ((eD 340 f42).ntmps-(#[ptr B,.agg (aQ c)]:Array Value).size) undef= #[ptr B,.agg (aQ c),undef,undef,undef,undef,undef,undef,undef,undef,undef,undef,undef,undef,undef,undef,undef,undef,undef,undef,undef,undef,undef,undef,undef,undef,undef,undef]:=by
  rw[CJ];simp only[List.size_toArray,List.length_cons,List.length_nil,Nat.reduceAdd,Nat.reduceSub,Array.replicate_succ,Array.replicate_zero,List.push_toArray,List.append_toArray,List.cons_append,List.nil_append]
 rw[hp]
 have n:(xB ((eD 340 f42).body.getD .skip)).wp (patch ae prog) (bodyPost (patch ae prog) (eD 340 f42) (RJ (λv w'=>dm (λi=>zF D i (c i)) c w v w'/\Below w.heap.size w w') AA)) ⟨#[ptr B,.agg (aQ c),undef,undef,undef,undef,undef,undef,undef,undef,undef,undef,undef,undef,undef,undef,undef,undef,undef,undef,undef,undef,.bool false,.bool false,undef,undef,undef,undef],[]⟩ w.drew.drew:=by
  refine Code.wp_mono ?_ (uD D B c (.bool false) (.bool false) w.drew.drew (hb.any.same (λ_ h=>h) λ_ _ h=>h) d);rintro e a u h;cases e with
  |normal=>exact⟨h.1,h.2.choose,h.2.choose_spec.1,h.2.choose_spec.2.1,(aab _ _).drew.drew.trans h.2.choose_spec.2.2⟩
  |ret=>exact⟨h.1,h.2.choose,h.2.choose_spec.1,h.2.choose_spec.2.1,(aab _ _).drew.drew.trans h.2.choose_spec.2.2⟩
  |panic ch=>exact h.2.elim
  |_=>exact h
 have j:Hid (∀u:World,Calls (patch ae prog) 341 #[.agg (aQ c)] u λe w'=>∃ch,e=.panicked ch/\AA ch w'):=λu=>by
  refine(rV ae _ _).mono ?_;rintro e w' ⟨rfl,rfl⟩;exact⟨_,rfl,.inr (.inl ⟨u.heap.size,c,rfl,aae _ _⟩)⟩
 have o:∀u:World,u.heap=w.heap->AA (raised 31 (ptr B)) u:=λu hu=>.inl ⟨B,D,f,rfl,uS hu hb,d,A9 hu g,p⟩
 have k:Hid (∀u:World,u.heap=w.heap->Calls (patch ae prog) 340 #[ptr B] u λe w'=>∃ch,e=.panicked ch/\AA ch w'):=λu hu=>by
  refine(BI ae _ _).mono ?_;rintro e w' ⟨rfl,rfl⟩;exact⟨_,rfl,o _ hu⟩
 clear o;have m:∀x u,Sem.run (patch ae prog) (callFunc 340 x) u=.ok (.enter 340 x) u:=λx u=>enters (OB ae) rfl rfl x u
 have l:∀x u,Sem.run (patch ae prog) (callFunc 341 x) u=.ok (.enter 341 x) u:=λx u=>enters (xK ae) rfl rfl x u
 generalize xB ((eD 340 f42).body.getD .skip)=c4 at n⊢;refine wp_seq (BP (.inl rfl) λb1=>?_);simp only[Exit.then,Act.put,ZN,ZS,ZR];cases b1
 .refine wp_seq (wp_cond_false rfl (wp_skip ?_))
  simp only[Exit.then];refine wp_seq (BP (.inr (.inl rfl)) λb2=>?_);simp only[Exit.then,Act.put,ZN,ZS,ZR];cases b2
  .refine wp_seq (wp_cond_false rfl (wp_skip ?_))
   simp only[Exit.then];exact n
  .refine wp_seq (wp_cond_true rfl ?_)
   simp only[bg,bX];go_wp2_with(go_at_call 341;refine(j.out _).mono ?_;rintro e w2 ⟨ch,rfl,b⟩);exact⟨rfl,b⟩
 .refine wp_seq (wp_cond_true rfl ?_)
  simp only[bg,bX];go_wp2_with(go_at_call 340;refine(k.out w.drew rfl).mono ?_;rintro e w2 ⟨ch,rfl,b⟩);exact⟨rfl,b⟩
theorem Ks (x0)(n D)(w)(h:je w (CB w) x0 n D):
 Calls (patch ae prog) 88 #[x0] w (RJ (λv w'=>v=.nilFunc/\w'.heap=w.heap/\Below w.heap.size w w') AA):=by
 refine calls_of_wp AX lh ?_;have hp:(#[x0]:Array Value)++Array.replicate ((AQ 342 f88).ntmps-(#[x0]:Array Value).size) undef= #[x0,undef,undef]:=rfl;rw[hp];unfold J6
 have j:Hid (∀u:World,u.heap=w.heap->Calls (patch ae prog) 342 #[x0] u λe w'=>∃ch,e=.panicked ch/\AA ch w'):=λu hu=>by
  refine(zm ae _ _).mono ?_;rintro e w' ⟨rfl,rfl⟩;exact⟨_,rfl,.inr (.inr ⟨x0,n,D,rfl,h.same (λ_ ⟨xs,e,g,hb⟩=>⟨xs,e,g,by rw[hu];exact hb⟩) λa v d _=>mE hu a v d⟩)⟩
 have c:∀x u,Sem.run (patch ae prog) (callFunc 342 x) u=.ok (.enter 342 x) u:=λx u=>enters (z8 ae) rfl rfl x u
 refine wp_seq (BP (.inr (.inr rfl)) λb1=>?_);simp only[Exit.then,Act.put,ZN,ZS,ZR];cases b1
 .refine wp_seq (wp_cond_false rfl (wp_skip ?_))
  simp only[Exit.then];refine wp_seq (wp_region ?_);have i:(#[bg (some 2) (.move (.const .nilFunc))]:Array Oper)[0]? =some (bg (some 2) (.move (.const .nilFunc))):=rfl;have f:List.range (#[bg (some 2) (.move (.const .nilFunc))]:Array Oper).size=[0]:=rfl;have hw:∀(v:Value) y,Region.wanted (bg (some 2) (.move (.const v))) y=true:=λ_ _=>rfl
  rw[f];simp only[wpOps,i,hw,if_true];refine .inl ?_;refine wp_ret ?_;refine⟨rfl,.nilFunc,?_,rfl,rfl,(aab _ _).drew⟩;rw[results_tmp (t:=2) rfl];rfl
 .refine wp_seq (wp_cond_true rfl ?_)
  simp only[bg,bX];go_wp2_with(go_at_call 342;refine(j.out w.drew rfl).mono ?_;rintro e w2 ⟨ch,rfl,b⟩);exact⟨rfl,b⟩
theorem D3 (D)(B bb a b r:Nat)(n)(w)(hb:aW w B D)(c:D.ok)(d:r<4)(f:0<n)(j:w.cell? ⟨bb,0,none⟩=some (ptr B))(i:w.cell? ⟨a,0,none⟩=some (.int .i64 r))(g:w.cell? ⟨b,0,none⟩=some (.int .i64 n)):
 Calls (patch ae prog) 69 #[undef,ptr bb,ptr a,ptr b,undef] w fun|.returned v,w'=>o9 (zF D r n) r v w'|_,_=>False:=
 (ug D B bb a b r n undef undef w hb c d f j i g).mono λe w' h=>by
  cases e with
  |returned v=>exact h.1
  |panicked _=>exact h
  |outgrown=>exact h
theorem RH (c:Nat->Int)(W):Sem.run (patch ae prog) (Instr.index 27 (.agg #[.int .i64 (c 1),.int .i64 (c 2),.int .i64 (c 3)]) (.int .i64 0)) W=.ok (.int .i64 (c 1)) W:=by kernel_rfl
theorem RG (c:Nat->Int)(W):Sem.run (patch ae prog) (Instr.index 27 (.agg #[.int .i64 (c 1),.int .i64 (c 2),.int .i64 (c 3)]) (.int .i64 1)) W=.ok (.int .i64 (c 2)) W:=by kernel_rfl
theorem RF (c:Nat->Int)(W):Sem.run (patch ae prog) (Instr.index 27 (.agg #[.int .i64 (c 1),.int .i64 (c 2),.int .i64 (c 3)]) (.int .i64 2)) W=.ok (.int .i64 (c 3)) W:=by kernel_rfl
theorem info4:((patch ae prog).info? 37).map (·.size)=some 4:=by kernel_rfl
theorem qJ (c)(w):
 Calls (patch ae prog) 43 #[.agg (aQ c)] w λe w'=>e=.returned (.agg (aQ c))/\Below w.heap.size w w':=by
 unfold aQ
 go_enter (pf func43 (by rfl)),ntmps43
 have b:=RH c;have k1:=RG c;have a:=RF c;go_wp2_with fail;refine wp_loop_rounds 4 ?_;rw[aal];go_wp2_with fail;rw[aal];go_wp2_with fail;rw[aal];go_wp2_with fail;rw[aal];go_wp2_with fail;refine bodyPost_ret_by (results_cell_row rfl _ _ (w.heap.size+1) 37 _ (0,0) _ rfl ((aac _ _ _ (by simp)).trans (aam _ _ _)) ((ax ae prog 37).trans underlying37) rfl info4) rfl ⟨rfl,?_⟩;exact((((aab _ _).alloc (ZL _) _).alloc (by simp) _).alloc (by simp;omega) _)
theorem zy {w w'}{Z}(h:tX w Z)(hb:Below w.heap.size w w'):tX w' Z:=λb c=>by
 obtain⟨xs,e,a⟩:=h b c;exact⟨xs,e,(hb.block b (ZK.1 a).1).trans a⟩
end Z
