/- Part 34 of the proof. -/
import Derived.Test.YtfpaamhppamcoaaGreatDoorSp33
import Derived.Handed
set_option linter.all false
set_option maxRecDepth 100000
set_option maxHeartbeats 60000000
namespace Go.Proofs.YtfpaamhppamcoaaGreatDoor
open Go.Proofs.Tryz
section
open Go Go.Conc Go.ConcN Go.RowKit
open Go.ConcR (Payload)
theorem all_app {p:Nat->Prop}{l m:List Nat}(h:∀g∈l,p g)(k:∀g∈m,p g):∀g∈l++m,p g:=λg a=>(aaz.1 a).elim (h g) (k g)
theorem fr0_start {Q}(a)(B):ni Q (λ_=>False) #[a] B #[] (λ_=>0):=by
 refine⟨?_,by simp,λi g d=>?_,rfl,λop b=>by simp at b,λc hc=>hc.elim,λi g e d=>?_⟩
 .exact CT.lone (λop b=>by simp at b) (λop b=>by simp at b)
 .simp[Trace.g?]at d
 .have:=(ZK.1 d).1
  simp at this;omega
def AA (ch:List PanicEntry)(w:World):Prop:=
 (∃B D a,ch=raised 31 (ptr B)/\bM w a B D/\D.ok/\Lies w a/\a B)\/(∃b c,ch=raised 37 (ptr b)/\w.heap[b]? =some (.cells (aQ c) 37))\/∃v n D,ch=raised 47 v/\je w (CB w) v n D
theorem AA_ptr:∀ch w,AA ch w->∃e∈ch,¬noPtr e.v:=by
 rintro ch w (⟨B,D,Z,rfl,_⟩|⟨b,c,rfl,_⟩|⟨v,n,D,rfl,ao,cap,rfl,_⟩)
 .exact⟨_,ZX,λh=>absurd (show iT.contains 31=false from h) (by decide)⟩
 .exact⟨_,ZX,λh=>absurd (show iT.contains 37=false from h) (by decide)⟩
 .exact⟨_,ZX,λh=>absurd (show iT.contains 47=false from h) (by decide)⟩
theorem cells4 {v:Value}{c}(h:v.cells=aQ c):v=.agg (aQ c):=by
 cases v with
 |agg xs=>
  have:xs=aQ c:=h;rw[this]
 |_=>exact absurd (congrArg Array.size h) (by simp[Value.cells,aQ])
def lAl:List Nat:=[340,341,342]
theorem alarms_tell:∀f x w,f∈lAl->Calls (patch ae prog) f x w λe w'=>∃ch,e=.panicked ch/\(AA ch w'->JJ f x w):=by
 intro f x w hf
 have g:f=340\/f=341\/f=342:=by
  have:f∈[340,341,342]:=hf;simpa using this
 rcases g with rfl|rfl|rfl
 .refine(alarm_any ae x w).mono ?_
  rintro e w' ⟨rfl,rfl⟩;refine⟨_,rfl,?_⟩;rintro(⟨B,D,Z,a,d⟩|⟨b,c,a,_⟩|⟨v,n,D,a,_⟩)
  .refine⟨λ_=>⟨B,D,Z,?_,d⟩,λh=>absurd h (by decide),λh=>absurd h (by decide)⟩
   simpa[raised] using a
  .simp[raised]at a
  .simp[raised]at a
 .refine(alarmBox_any ae x w).mono ?_
  rintro e w' ⟨rfl,rfl⟩;refine⟨_,rfl,?_⟩;rintro(⟨B,D,Z,a,d⟩|⟨b,c,a,d⟩|⟨v,n,D,a,_⟩)
  .simp[raised]at a
  .refine⟨λh=>absurd h (by decide),λ_=>⟨c,cells4 ?_⟩,λh=>absurd h (by decide)⟩
   have hb:b=w.heap.size:=by
        simp only[raised,ptr,List.cons.injEq,PanicEntry.mk.injEq,Value.iface.injEq,Value.pointer.injEq,Option.some.injEq,Addr.mk.injEq,and_true,true_and]at a;exact a.symm
   rw[hb,alloc_new]at d;simp only[Option.some.injEq,Obj.cells.injEq]at d;exact d.1
  .simp[raised]at a
 .refine(alarm3_any ae x w).mono ?_
  rintro e w' ⟨rfl,rfl⟩;refine⟨_,rfl,?_⟩;rintro(⟨B,D,Z,a,d⟩|⟨b,c,a,_⟩|⟨v,n,D,a,d⟩)
  .simp[raised]at a
  .simp[raised]at a
  .refine⟨λh=>absurd h (by decide),λh=>absurd h (by decide),λ_=>⟨n,D,?_⟩⟩
   have:arg0 x=v:=by simpa[raised] using a
   rw[this];exact d
theorem shut_stuck {C0}{R}{J}{g}{f}{x}{fs}{w}(h:(patch ae prog).funcs[g]? =some (shut f)):¬bI (patch ae prog) C0 R J (Frame.enter (patch ae prog) g x .normal) fs w:=by
 intro i;rw[enter_at x h (c:=.exit 0) rfl]at i;have hs:∃o w' es,stepG (patch ae prog) true (df ((base g).at ⟨x++Array.replicate ((shut f).ntmps-x.size) undef,[]⟩ [.code (.exit 0)]) (fs++[stop (patch ae prog)])) (ay w w.tape)=.ended o w' es:=⟨_,_,_,by simp only[stepG,stepG.exec,Frame.at,exitTo];rfl⟩;obtain⟨o,w',es,hs⟩:=hs;rcases i.step with b|⟨_,b⟩
 .exact absurd b.1 (by simp[Frame.at])
 .rcases b w.tape with⟨a2,e,w2,d,a,_⟩|⟨f2,x2,e,w2,d,_,a,_⟩
  .rw[hs]at a;cases a
  .rw[hs]at a;cases a
theorem pS {g}{f}(h:prog.funcs[g]? =some f)(a:(g==42||g==69||g==88)=false/\ae.contains g=true):(patch ae prog).funcs[g]? =some (shut f):=by
 rw[iO ae prog h];unfold swap;simp only[Bool.or_eq_false_iff,beq_eq_false_iff_ne]at a;rw[if_neg a.1.1.1,if_neg a.1.1.2,if_neg a.1.2,if_pos a.2]
def lSp:List Nat:=42::88::ae
def lS4:List Nat:=42::69::88::ae
def glL:List Nat:=[0]
theorem psText:PS (patch ae prog) prog 88:=⟨_,_,_,ptext,by kernel_rfl,lh,func88,by kernel_rfl,by kernel_rfl⟩
theorem psJudge:PS (patch ae prog) prog 42:=⟨_,_,_,pjudge,by kernel_rfl,jK,fn_judge,nameJ,by rw[judge_code];rfl⟩
theorem psAl:∀g∈lAl,PS (patch ae prog) (patch ae prog) g:=
 all_cons ⟨_,_,_,pal ae,by kernel_rfl,rfl,pal ae,by kernel_rfl,rfl⟩<|
 all_cons ⟨_,_,_,pal2 ae,by kernel_rfl,rfl,pal2 ae,by kernel_rfl,rfl⟩<|
 all_cons ⟨_,_,_,pal3 ae,by kernel_rfl,rfl,pal3 ae,by kernel_rfl,rfl⟩<|
 all_nil
def al1:Code:=.region 0 #[bg (some 1) (.makeInterface 31 (.tmp 0)),bg none (.panic (.tmp 1))] false
def al2:Code:=.region 0 #[bg (some 1) (.box 37 (.tmp 0)),bg (some 2) (.makeInterface 37 (.tmp 1)),bg none (.panic (.tmp 2))] false
def al3:Code:=.region 0 #[bg (some 1) (.makeInterface 47 (.tmp 0)),bg none (.panic (.tmp 1))] false
theorem notPlain {C}{g}{f}{c}(hf:(patch ae prog).funcs[g]? =some f)(hb:f.body=some c)(h:fB C (patch ae prog) g (.code c)=false)(x):¬aU C (patch ae prog) (Frame.enter (patch ae prog) g x .normal).fn (Frame.enter (patch ae prog) g x .normal).todo:=by
 rw[enter_at x hf hb];intro b;have a:fB C (patch ae prog) g (.code c)=true:=b.cons.1;rw[a]at h;cases h
structure LawOk (C C0:iG)(r:Nat)(fr:Func):Prop where
 plainD:aH C (patch ae prog) prog
 plainA:aH C0 (patch ae prog) (patch ae prog)
 sp:C.sp=lSp
 sp0:C0.sp=lAl
 sd:C.sd=false
 root:C.root=r
 rt:C.rt=1000000
 mark:∀o,C.mark o=false
 mark0:∀o,C0.mark o=false
 gl:C.gl=glL
 gl0:C0.gl=glL
 okF:∀x y,C.okF x y
 at1:C.jh=true
 dd:C.dd=[]
 kd:C.kd=.normal
 pv:∀i,C.pv i=false
 at0:C0.jh=false
 dd0:C0.dd=[]
 kd0:C0.kd=.normal
 init:prog.inits.idxOf? r=none
 away:(lAl.all λg=> !C.fns.contains g&&g !=r)=true
 mem0:C0.fns.contains r=true
 np1:fB C (patch ae prog) 340 (.code al1)=false
 np2:fB C (patch ae prog) 341 (.code al2)=false
 np3:fB C (patch ae prog) 342 (.code al3)=false
 pr:(patch ae prog).funcs[r]? =some fr
 ar:prog.funcs[r]? =some fr
 body:∃c,fr.body=some c/\bA C (patch ae prog) r c=true/\sgC C c=c/\(∃k,fr.results= #[.tmp k])
 ntmps:fr.ntmps<1000
theorem zeroOkPP:dM (patch ae prog):=trivial
theorem good_of_law {C C0}{r}{fr}(L:LawOk C C0 r fr)(A:∀g∈ae,∃f',(patch ae prog).funcs[g]? =some (shut f')){vd:BD->Nat->Int->Array Value}(X:∀D i n,i<4->0<n->(vd D i n).size=17/\∀v∈(vd D i n).toList,jP v)
 (η:∀(D:BD) (B bb rB nB r:Nat) (n:Int) (w:World),aW w B D->D.ok->r<4->0<n->w.cell? ⟨bb,0,none⟩=some (ptr B)->w.cell? ⟨rB,0,none⟩=some (.int .i64 r)->w.cell? ⟨nB,0,none⟩=some (.int .i64 n)->
  Calls (patch ae prog) 69 #[undef,ptr bb,ptr rB,ptr nB,undef] w fun|.returned v,w'=>o9 (vd D r n) r v w'|_,_=>False)
 (θ:∀(D:BD) (B:Nat) (c:Nat->Int) (w:World),aW w B D->D.ok->(∀j q,w.tape j q=0)->Calls (patch ae prog) 42 #[ptr B,.agg (aQ c)] w fun|.returned v,w'=>dm (λi=>vd D i (c i)) c w v w'|_,_=>False)
 {args la}{w H}(ι:args.size<1000)(hE:EnvX w (CB w))(E:WR ((patch ae prog)).globals.size (λ_=>False) (idS (CB w)) H H)(ε:WR ((patch ae prog)).globals.size (CB w) (idQ True (CB w)) H w)(δ:aF (VR (idS (CB w))) la la)(hA:aF (VR (idQ True (CB w))) la args)
 (HD:∀T,Calls (patch ae prog) r la (ay H T) (RJ (λv _=>v=.bool true) AA)):
 ∃N last o w' t',runNT prog (N+1) (solo (G (Frame.enter prog r args .normal) []) w) #[]=(.ended o w',t')/\runN prog N (solo (G (Frame.enter prog r args .normal) []) w)=.next last/\
  step prog last=.ended o w'/\Conc.Good prog (λv u=>v=.bool true/\Below w.heap.size w u) last o w' t':=by
 have tw:Twin (patch ae prog) prog:=patch_twin ae prog lH calmA;have W:=patch_twin' ae prog lH calmA
 have d:∀g∈glL,CB w g:=λg O=>by
  have:g=0:=List.mem_singleton.1 O;subst this;obtain⟨_,_,V,_⟩:=hE.err 0 (by decide);exact jY V
 have β:r∉lAl:=λh=>by
  have:=ZU.1 L.away r h;simp at this
 have tree:bI (patch ae prog) C0 (λv _=>v=.bool true) JJ (Frame.enter (patch ae prog) r la .normal) [] H:=
  treeJ_of_calls (K:=λ_=>False) (st:=False) zeroOkPP L.plainA W (.inr ⟨λ_ h=>h,λh=>h⟩) L.mark0 JJ_tape AA_ptr (λf x w hf=>alarms_tell f x w (L.sp0▸hf))
   ⟨idS (CB w),_,[],H,⟨FR.enter L.plainA (List.mem_of_elem_eq_true L.mem0) (by rw[L.sp0];exact β) δ (λg O=>⟨rfl,d g (L.gl0▸O)⟩),.inl rfl,trivial,⟨λh=>absurd rfl h,λ_=>⟨L.dd0.symm▸rfl,L.kd0.symm▸rfl,λh=>by rw[L.at0]at h;cases h⟩⟩⟩,E⟩ HD
 obtain⟨c,hb,γ,α,k,M⟩:=L.body;have z:∀{P:Program} (a:Array Value),P.funcs[r]? =some fr->Frame.enter P r a .normal=(base r).at ⟨a++Array.replicate (fr.ntmps-a.size) undef,[]⟩ [.code c]:=λa h=>enter_at a h hb
 have F:Live C (patch ae prog) (idQ True (CB w)) (Frame.enter (patch ae prog) r la .normal) [] (Frame.enter prog r args .normal) []:=by
  rw[z _ L.pr,z _ L.ar];refine⟨⟨⟨_,L.pr⟩,TmR.of ?_,aU.of γ (λ_ hy=>by cases hy),rfl,rfl,rfl,?_,λ_=>?_,λ_=>L.okF _ _,(λe=>by cases e),λg O=>⟨rfl,d g (L.gl▸O)⟩⟩,.inl rfl,trivial,⟨λh=>absurd rfl h,λ_=>⟨L.dd.symm▸rfl,L.kd.symm▸rfl,λ_=>L.root.symm⟩⟩⟩
  .rw[hA.1]
   refine aF.append hA (aF.same λv Y=>?_);rw[(Array.mem_replicate.1 Y).2];exact VR.undef
  .simp only[Frame.at,List.map_cons,List.map_nil,sgI,α]
  .rw[L.rt]
   show(la++Array.replicate _ undef).getD 1000000 undef=undef
   have:=L.ntmps;have:=hA.1;rw[ZY,Array.getElem?_eq_none (by rw[Array.size_append,Array.size_replicate];omega)];rfl
 have ζ:IvX w (idQ True (CB w)) w:=⟨⟨rfl,rfl,rfl,ZL _⟩,λb c h _=>⟨h.1,h.1▸h.2⟩,λ_ h=>⟨rfl,h⟩,λ_ _=>rfl⟩
 letI:Payload:=⟨91⟩
 have m:∀f,f∈C0.sp->f=340\/f=341\/f=342:=λf hf=>by
  rw[L.sp0]at hf;have:f∈[340,341,342]:=hf;simpa using this
 have l:∀f,f∈C0.sp->f∉C.fns/\f≠C.root:=λf hf=>by
  rw[L.sp0]at hf;have:=ZU.1 L.away f hf;simp at this;exact⟨λh=>by simp[h]at this,L.root▸this.2⟩
 have:=driver (C:=C) (C0:=C0) (Q:=prog) (K:=CB w) (Iv:=IvX w) (Post:=λv u=>v=.bool true/\Below w.heap.size w u) ivX_at ivX_step zeroOkPP L.plainD tw (.inl L.sd) L.mark (λf V h2=>?_) (λ_ _=>rfl) (λ_ _=>rfl) (λf x hf=>?_) L.at1 L.dd L.kd L.pv (by rw[L.root];exact L.init) (λfn h=>?_) (λp v v' w' T u hR Y hw U=>?_) (λfn h=>?_)
  (λf x y a fs b bs w' u gs sl t q S p J Z s R hw hF h0 hS U=>?_) tree (crowd #[df (Frame.enter prog r args .normal) []] w none) #[] ⟨_,_,[],_,w,none,λ_=>0,λ_=>False,rfl,rfl,F,ε,fr0_start _ _,λ_ _ _ h=>h,ζ⟩
 .exact this
 .rw[L.sp]at V
  rw[L.sp0]at h2;have h:(lSp.all λg=> !lAl.contains g)=true:=by kernel_rfl
  have:=ZU.1 h f V;simp[h2]at this
 .rcases m f hf with rfl|rfl|rfl
  .exact notPlain (pal ae) rfl L.np1 x
  .exact notPlain (pal2 ae) rfl L.np2 x
  .exact notPlain (pal3 ae) rfl L.np3 x
 .rw[L.root,L.pr]at h
  cases h;exact⟨_,by rw[L.root];exact L.ar,rfl⟩
 .obtain rfl:=hR
  obtain⟨⟨i1,i2,i3,i4⟩,i5,i6,i7⟩:=U;exact⟨Y.j3,i2,i1,i3,i4,i7⟩
 .rw[L.root,L.pr]at h
  cases h;exact⟨k,M⟩
 .rw[L.sp]at J
  have I:f=42\/f=88\/f∈ae:=by
   have:f∈42::88::ae:=J;simpa only[ZW] using this
  rcases I with rfl|rfl|hf
  .exact edge (C:=C) (C0:=C0) ivX_step rfl zeroOkPP L.plainD.cfg (by rw[L.sp0];exact of_decide_eq_true (show decide (¬42∈[340,341,342])=true by kernel_rfl)) m l L.at1 X η θ Z s.1 (s.2.1 rfl) R hw hF h0 hS U
  .exact edgeT (C:=C) (C0:=C0) hE L.plainD.cfg (by rw[L.sp0];exact of_decide_eq_true (show decide (¬88∈[340,341,342])=true by kernel_rfl)) m l L.at1 Z s.1 (s.2.2 rfl) R hw hF h0 hS U
  .exfalso
   obtain⟨f',h'⟩:=A f hf;exact shut_stuck h' Z
end
namespace Z
open Go.RowKit
attribute [local go_sem ↓] Go.wp_at_zero Go.wp_at_succ
attribute [local go_sem] After.cell After.frozen After.const
def isTwo (l:List Nat):Bool:=l== [0,1]||l== [1,0]
def allTwo (md:Region.Mode)(ops:Array Oper):Nat->Array Bool->List Nat->Bool
 |0,_,acc=>isTwo acc.reverse
 |n+1,listed,acc=>if(Region.ready md ops listed).isEmpty then isTwo acc.reverse else(Region.ready md ops listed).all λi=>allTwo md ops n (listed.setIfInBounds i true) (i::acc)
theorem allTwo_ok {md}{ops}:∀(n t:Nat) (listed:Array Bool) (acc:List Nat),allTwo md ops n listed acc=true->isTwo (Region.linearise.go md ops n t listed acc)=true
 |0,_,_,_,h=>h
 |n+1,t,listed,acc,h=>by
  simp only[Region.linearise.go]
  change isTwo (match(Region.ready md ops listed)[t% (Region.ready md ops listed).length]? with
   |some i=>Region.linearise.go md ops n (t/ (Region.ready md ops listed).length) (listed.setIfInBounds i true) (i::acc)
   |none=>acc.reverse)=true
  unfold allTwo at h;cases d:(Region.ready md ops listed)[t% (Region.ready md ops listed).length]? with
  |none=>
   have a:Region.ready md ops listed=[]:=by
    cases b:Region.ready md ops listed with
    |nil=>rfl
    |cons x xs=>
     rw[b]at d;have e:t% (x::xs).length< (x::xs).length:=Nat.mod_lt _ (by simp);rw[List.getElem?_eq_none_iff]at d;omega
   rw[a]at h;simpa using h
  |some i=>
   have hm:=aak d
   have c:(Region.ready md ops listed).isEmpty=false:=by
    cases b:Region.ready md ops listed with
    |nil=>rw[b]at hm;cases hm
    |cons x xs=>rfl
   rw[c]at h;simp only[Z0,if_false,ZU]at h;exact allTwo_ok n _ _ _ (h i hm)
theorem ends2 (md)(t)(a:t=22\/t=23\/t=1):allTwo md (CO t) 2 (Array.replicate 2 false) []=true:=by
 rcases a with rfl|rfl|rfl<;>cases md<;>kernel_rfl
theorem sched_two (m)(t n)(b:t=22\/t=23\/t=1):isTwo (Region.schedule m (CO t) n)=true:=by
 have a:(CO t).size=2:=rfl
 have key:∀md n,isTwo (Region.linearise md (CO t) n)=true:=λmd n=>by
  unfold Region.linearise;rw[a];exact allTwo_ok _ _ _ _ (ends2 md t b)
 unfold Region.schedule;split
 .exact key _ _
 .split<;>exact key _ _
theorem enters {P}{f}{fn}{c}(hf:P.funcs[f]? =some fn)(a:(fn.name== "runtime.NumGoroutine")=false)(hb:fn.body=some c)(args)(w):Sem.run P (callFunc f args) w=.ok (.enter f args) w:=by
 have b:fn.name≠ "runtime.NumGoroutine" :=by simpa using a
 simp[callFunc,hf,b,hb]
theorem wp_toss {t}{id}(c:t=22\/t=23\/t=1){Q}{a}{w}
 (h:∀b,Q .normal ((a.put (some t) (.bool (!b))).put (some t) (.bool b)) w.drew):(Code.region id (CO t) true).wp (patch ae prog) Q a w:=by
 refine wp_region_draw λn=>?_
 have hs:Region.schedule (((patch ae prog)).follows .mixedOrders) (CO t) n=[0,1]\/Region.schedule (((patch ae prog)).follows .mixedOrders) (CO t) n=[1,0]:=by
  have:=sched_two (((patch ae prog)).follows .mixedOrders) t n c;unfold isTwo at this;simpa using this
 have e:(CO t)[0]? =some (bg (some t) (.move (.const (.bool true)))):=rfl;have d:(CO t)[1]? =some (bg (some t) (.move (.const (.bool false)))):=rfl;have hw:∀(v:Value) y,Region.wanted (bg (some t) (.move (.const v))) y=true:=λ_ _=>rfl
 rcases hs with hs|hs
 .rw[hs]
  simp only[wpOps,e,d,hw,if_true];exact .inl (.inl (h false))
 .rw[hs]
  simp only[wpOps,e,d,hw,if_true];exact .inl (.inl (h true))
theorem judgeD_any (D)(B)(c)(f)(w)(hb:bM w f B D)(d:D.ok)(g:Lies w f)(p:f B):
 Calls (patch ae prog) 42 #[ptr B,.agg (aQ c)] w (RJ (λv w'=>dm (λi=>vdB D i (c i)) c w v w'/\Below w.heap.size w w') AA):=by
 refine calls_of_wp pjudge jK ?_
 have hp:(#[ptr B,.agg (aQ c)]:Array Value)++Array.replicate ((eD 340 f42).ntmps-(#[ptr B,.agg (aQ c)]:Array Value).size) undef= #[ptr B,.agg (aQ c),undef,undef,undef,undef,undef,undef,undef,undef,undef,undef,undef,undef,undef,undef,undef,undef,undef,undef,undef,undef,undef,undef,undef,undef,undef,undef]:=by
  rw[ntmpsJL];simp only[List.size_toArray,List.length_cons,List.length_nil,Nat.reduceAdd,Nat.reduceSub,Array.replicate_succ,Array.replicate_zero,List.push_toArray,List.append_toArray,List.cons_append,List.nil_append]
 rw[hp]
 have n:(rest4 ((eD 340 f42).body.getD .skip)).wp (patch ae prog) (bodyPost (patch ae prog) (eD 340 f42) (RJ (λv w'=>dm (λi=>vdB D i (c i)) c w v w'/\Below w.heap.size w w') AA)) ⟨#[ptr B,.agg (aQ c),undef,undef,undef,undef,undef,undef,undef,undef,undef,undef,undef,undef,undef,undef,undef,undef,undef,undef,undef,undef,.bool false,.bool false,undef,undef,undef,undef],[]⟩ w.drew.drew:=by
  refine Code.wp_mono ?_ (judgeRB_any D B c (.bool false) (.bool false) w.drew.drew (hb.any.same (λ_ h=>h) λ_ _ h=>h) d);rintro e a u h;cases e with
  |normal=>exact⟨h.1,h.2.choose,h.2.choose_spec.1,h.2.choose_spec.2.1,(aab _ _).drew.drew.trans h.2.choose_spec.2.2⟩
  |ret=>exact⟨h.1,h.2.choose,h.2.choose_spec.1,h.2.choose_spec.2.1,(aab _ _).drew.drew.trans h.2.choose_spec.2.2⟩
  |panic ch=>exact h.2.elim
  |_=>exact h
 have j:Hid (∀u:World,Calls (patch ae prog) 341 #[.agg (aQ c)] u λe w'=>∃ch,e=.panicked ch/\AA ch w'):=λu=>by
  refine(alarmBox_any ae _ _).mono ?_;rintro e w' ⟨rfl,rfl⟩;exact⟨_,rfl,.inr (.inl ⟨u.heap.size,c,rfl,aae _ _⟩)⟩
 have o:∀u:World,u.heap=w.heap->AA (raised 31 (ptr B)) u:=λu hu=>.inl ⟨B,D,f,rfl,berthZ_heap hu hb,d,lies_heap hu g,p⟩
 have k:Hid (∀u:World,u.heap=w.heap->Calls (patch ae prog) 340 #[ptr B] u λe w'=>∃ch,e=.panicked ch/\AA ch w'):=λu hu=>by
  refine(alarm_any ae _ _).mono ?_;rintro e w' ⟨rfl,rfl⟩;exact⟨_,rfl,o _ hu⟩
 clear o;have m:∀x u,Sem.run (patch ae prog) (callFunc 340 x) u=.ok (.enter 340 x) u:=λx u=>enters (pal ae) rfl rfl x u
 have l:∀x u,Sem.run (patch ae prog) (callFunc 341 x) u=.ok (.enter 341 x) u:=λx u=>enters (pal2 ae) rfl rfl x u
 generalize rest4 ((eD 340 f42).body.getD .skip)=c4 at n⊢;refine wp_seq (wp_toss (.inl rfl) λb1=>?_);simp only[Exit.then,Act.put,ZN,ZS,ZR];cases b1
 .refine wp_seq (wp_cond_false rfl (wp_skip ?_))
  simp only[Exit.then];refine wp_seq (wp_toss (.inr (.inl rfl)) λb2=>?_);simp only[Exit.then,Act.put,ZN,ZS,ZR];cases b2
  .refine wp_seq (wp_cond_false rfl (wp_skip ?_))
   simp only[Exit.then];exact n
  .refine wp_seq (wp_cond_true rfl ?_)
   simp only[bg,bX];go_wp2_with(go_at_call 341;refine(j.out _).mono ?_;rintro e w2 ⟨ch,rfl,b⟩);exact⟨rfl,b⟩
 .refine wp_seq (wp_cond_true rfl ?_)
  simp only[bg,bX];go_wp2_with(go_at_call 340;refine(k.out w.drew rfl).mono ?_;rintro e w2 ⟨ch,rfl,b⟩);exact⟨rfl,b⟩
theorem textD_any (x0)(n D)(w)(h:je w (CB w) x0 n D):
 Calls (patch ae prog) 88 #[x0] w (RJ (λv w'=>v=.nilFunc/\w'.heap=w.heap/\Below w.heap.size w w') AA):=by
 refine calls_of_wp ptext lh ?_;have hp:(#[x0]:Array Value)++Array.replicate ((textS 342 f88).ntmps-(#[x0]:Array Value).size) undef= #[x0,undef,undef]:=rfl;rw[hp];unfold bodyT
 have j:Hid (∀u:World,u.heap=w.heap->Calls (patch ae prog) 342 #[x0] u λe w'=>∃ch,e=.panicked ch/\AA ch w'):=λu hu=>by
  refine(alarm3_any ae _ _).mono ?_;rintro e w' ⟨rfl,rfl⟩;exact⟨_,rfl,.inr (.inr ⟨x0,n,D,rfl,h.same (λ_ ⟨xs,e,g,hb⟩=>⟨xs,e,g,by rw[hu];exact hb⟩) λa v d _=>mE hu a v d⟩)⟩
 have c:∀x u,Sem.run (patch ae prog) (callFunc 342 x) u=.ok (.enter 342 x) u:=λx u=>enters (pal3 ae) rfl rfl x u
 refine wp_seq (wp_toss (.inr (.inr rfl)) λb1=>?_);simp only[Exit.then,Act.put,ZN,ZS,ZR];cases b1
 .refine wp_seq (wp_cond_false rfl (wp_skip ?_))
  simp only[Exit.then];refine wp_seq (wp_region ?_);have i:(#[bg (some 2) (.move (.const .nilFunc))]:Array Oper)[0]? =some (bg (some 2) (.move (.const .nilFunc))):=rfl;have f:List.range (#[bg (some 2) (.move (.const .nilFunc))]:Array Oper).size=[0]:=rfl;have hw:∀(v:Value) y,Region.wanted (bg (some 2) (.move (.const v))) y=true:=λ_ _=>rfl
  rw[f];simp only[wpOps,i,hw,if_true];refine .inl ?_;refine wp_ret ?_;refine⟨rfl,.nilFunc,?_,rfl,rfl,(aab _ _).drew⟩;rw[results_tmp (t:=2) rfl];rfl
 .refine wp_seq (wp_cond_true rfl ?_)
  simp only[bg,bX];go_wp2_with(go_at_call 342;refine(j.out w.drew rfl).mono ?_;rintro e w2 ⟨ch,rfl,b⟩);exact⟨rfl,b⟩
theorem workerL_any (D)(B bb a b r:Nat)(n)(w)(hb:aW w B D)(c:D.ok)(d:r<4)(f:0<n)(j:w.cell? ⟨bb,0,none⟩=some (ptr B))(i:w.cell? ⟨a,0,none⟩=some (.int .i64 r))(g:w.cell? ⟨b,0,none⟩=some (.int .i64 n)):
 Calls (patch ae prog) 69 #[undef,ptr bb,ptr a,ptr b,undef] w fun|.returned v,w'=>o9 (vdB D r n) r v w'|_,_=>False:=
 (workerB_any D B bb a b r n undef undef w hb c d f j i g).mono λe w' h=>by
  cases e with
  |returned v=>exact h.1
  |panicked _=>exact h
  |outgrown=>exact h
theorem kinds0 (c:Nat->Int)(W):Sem.run (patch ae prog) (Instr.index 27 (.agg #[.int .i64 (c 1),.int .i64 (c 2),.int .i64 (c 3)]) (.int .i64 0)) W=.ok (.int .i64 (c 1)) W:=by kernel_rfl
theorem kinds1 (c:Nat->Int)(W):Sem.run (patch ae prog) (Instr.index 27 (.agg #[.int .i64 (c 1),.int .i64 (c 2),.int .i64 (c 3)]) (.int .i64 1)) W=.ok (.int .i64 (c 2)) W:=by kernel_rfl
theorem kinds2 (c:Nat->Int)(W):Sem.run (patch ae prog) (Instr.index 27 (.agg #[.int .i64 (c 1),.int .i64 (c 2),.int .i64 (c 3)]) (.int .i64 2)) W=.ok (.int .i64 (c 3)) W:=by kernel_rfl
theorem info4:((patch ae prog).info? 37).map (·.size)=some 4:=by kernel_rfl
theorem wantedOf_any (c)(w):
 Calls (patch ae prog) 43 #[.agg (aQ c)] w λe w'=>e=.returned (.agg (aQ c))/\Below w.heap.size w w':=by
 unfold aQ
 go_enter (pf func43 (by rfl)),ntmps43
 have b:=kinds0 c;have k1:=kinds1 c;have a:=kinds2 c;go_wp2_with fail;refine wp_loop_rounds 4 ?_;rw[aal];go_wp2_with fail;rw[aal];go_wp2_with fail;rw[aal];go_wp2_with fail;rw[aal];go_wp2_with fail;refine bodyPost_ret_by (results_cell_row rfl _ _ (w.heap.size+1) 37 _ (0,0) _ rfl ((aac _ _ _ (by simp)).trans (aam _ _ _)) ((ax ae prog 37).trans underlying37) rfl info4) rfl ⟨rfl,?_⟩;exact((((aab _ _).alloc (ZL _) _).alloc (by simp) _).alloc (by simp;omega) _)
theorem Lies_below {w w'}{Z}(h:Lies w Z)(hb:Below w.heap.size w w'):Lies w' Z:=λb c=>by
 obtain⟨xs,e,a⟩:=h b c;exact⟨xs,e,(hb.block b (ZK.1 a).1).trans a⟩
def eG (D:BD)(c:Nat->Int)(i:Nat):Int:=if 0<c i then leastW (dz D i (dL D i)) (c i)else 0
end Z
