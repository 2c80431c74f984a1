/- Part 47 of the proof. -/
import Derived.Test.YtfpaamhppamcoaaGreatDoorT46
import Derived.Laws.IdiomArrays
import Derived.LaidMore
import Derived.LaidHandle
import Derived.Test.YtfpaamhppamcoaaGreatDoorCards
import Derived.Lib.LaidU8T
import Derived.PinnedBridge
import Derived.Stop.LaidErr
set_option linter.all false
set_option maxRecDepth 100000
namespace Go.Proofs.YtfpaamhppamcoaaGreatDoor
open Go.Proofs.Tryz
section
open Go.RowKit Go.Conc Go.ConcN
theorem PT {α}{R:Nat->α->Prop}(h:∀i,∃v,R i v):∃V:Nat->α,∀i,R i (V i):=
 ⟨λi=>(h i).choose,λi=>(h i).choose_spec⟩
theorem mD {Z}{lv}(hl:DT True Z lv)(ao)(n cap)(h:∀x,ao=some x->Z x.block\/(n=0/\cap=0)):∃a',lv (.slice ao n cap)=.slice a' n cap/\(0<cap->a'=ao):=by
 cases ao with
 |none=>exact⟨none,hl.same _ trivial,λ_=>rfl⟩
 |some x=>
  rcases h x rfl with a|⟨rfl,rfl⟩
  .exact⟨some x,hl.same _ a,λ_=>rfl⟩
  .obtain⟨a',b,_⟩:=hl.none trivial x
   exact⟨some a',b,λh=>absurd h (Nat.lt_irrefl _)⟩
def Qq (f:Nat)(args:Array Value)(w:World):Prop:=∃N last o w' a,runNT prog (N+1) (solo (G (Frame.enter prog f args .normal) []) w) #[]=(.ended o w',a)/\runN prog N (solo (G (Frame.enter prog f args .normal) []) w)=.next last/\
 step prog last=.ended o w'/\Conc.Good prog (λv u=>v=.bool true/\Below w.heap.size w u) last o w' a
theorem Eb (M:Z.cz)(so)(n cap)(T)(r:Nat->Int)(a)(w)(hE:Az w (CB w))(g:M.At w)(K:∀i,i<M.n->Z.In64 (M.S i)/\Z.In64 (M.C i))(hp:Z.In64 M.p)(G:Z.DL w so n cap T)(hr:∀i,i<4->Z.In64 (r i))
 (hF:w.cell? ⟨0,0,none⟩=some (.iface 345 (.pointer (some a))))(N:CB w a.block)(hG:prog.globals.size<=w.heap.size)
 (ha:∀x,M.ao=some x->CB w x.block\/(M.n=0/\M.cap=0))(hb:∀x,M.ro=some x->CB w x.block\/(M.r=0/\M.gD=0))(hc:∀x,so=some x->CB w x.block\/(n=0/\cap=0))
 (hd:∀i,i<n->∀x,(T i).ao=some x->CB w x.block\/((T i).n=0/\(T i).cap=0)):
 Qq 3 #[M.val,.slice so n cap,.agg #[.int .i64 (r 0),.int .i64 (r 1),.int .i64 (r 2),.int .i64 (r 3)]] w:=by
 have h0:CB w 0:=jY hF;obtain⟨t,lv,hl,y,z,hs,_,_,hcell⟩:=wU True ((patch ae prog)).globals.size (λ_=>False) (CB w) w hG (λb h=>h) h0 (λ_ h=>h.elim)
 have L:WR ((patch ae prog)).globals.size (CB w) (DV True (CB w)) t w:=by
  have e:(λc=>CB w c/\¬False)=CB w:=by funext c;simp
  rw[e]at y;exact y
 have cell:∀{a v},w.cell? a=some v->t.cell? a=some (lv v):=λh=>(hcell _ _ h).2 (λh=>h)
 have same:∀{a v},w.cell? a=some v->jH (CB w) v->t.cell? a=some v:=λh q=>by rw[cell h,hl.same _ q]
 obtain⟨m,W,ka⟩:=mD hl M.ao M.n M.cap ha;obtain⟨l,V,kb⟩:=mD hl M.ro M.r M.gD hb;obtain⟨s,U,kc⟩:=mD hl so n cap hc
 obtain⟨A,hA⟩:=PT (R:=λi x=>i<n->lv (.slice (T i).ao (T i).n (T i).cap)=.slice x (T i).n (T i).cap/\(0< (T i).cap->x=(T i).ao)) (λi=>by
  by_cases d:i<n
  .obtain⟨x,D,P⟩:=mD hl (T i).ao (T i).n (T i).cap (hd i d)
   exact⟨x,λ_=>⟨D,P⟩⟩
  .exact⟨none,λh=>absurd h d⟩)
 have J:∀f,Z.cz.At {M with ao:=m,ro:=l} (ay t f):=λf=>⟨g.qW,g.Ig,λh=>(ka (ZO h g.qW)).trans (g.addr h),λi d=>⟨same (g.dA i d).1 trivial,same (g.dA i d).2.1 trivial,same (g.dA i d).2.2 trivial⟩,g.rc,g.Hg,λh=>(kb (ZO h g.rc)).trans (g.mQ h),λi d=>same (g.ints i d) trivial⟩
 have I:∀f,Z.DL (ay t f) s n cap (λi=>{T i with ao:=A i}):=λf=>by
  refine⟨G.room,G.many,λE=>?_,λi d=>?_⟩
  .obtain⟨b,o,e,hcs⟩:=G.cells E
   refine⟨b,o,(kc (ZO E G.room)).trans e,λi d j u hu=>?_⟩
   have key:∀u',(T i).cells[j]? =some u'->jH (CB w) u'->(Z.eU.cells {T i with ao:=A i})[j]? =some u'->t.cell? ⟨b,o+i*9+j,none⟩=some u:=λu' D P h3=>by
        rw[h3]at hu;cases hu;exact same (hcs i d j _ D) P
   have hj:j<9:=by
        have:=(ZK.1 hu).1;simpa[Z.eU.cells] using this
   obtain rfl|rfl|rfl|rfl|rfl|rfl|rfl|rfl|rfl:j=0\/j=1\/j=2\/j=3\/j=4\/j=5\/j=6\/j=7\/j=8:=by omega
   .exact key _ rfl trivial rfl
   .exact key _ rfl trivial rfl
   .exact key _ rfl trivial rfl
   .exact key _ rfl trivial rfl
   .exact key _ rfl trivial rfl
   .exact key _ rfl trivial rfl
   .exact key _ rfl trivial rfl
   .have D:=cell (hcs i d 7 (.slice (T i).ao (T i).n (T i).cap) rfl)
    rw[(hA i d).1]at D;have H:=hu;cases H;exact D
   .exact key _ rfl trivial rfl
  .have h:=G.steps i d
   obtain⟨ao,cp,e,d1,d2,d3⟩:=h.dC;cases e;refine⟨h.kind,h.A,h.B,h.r,⟨A i,(T i).cap,rfl,d1,d2,λE=>?_⟩,h.qF⟩;obtain⟨b,o,e,F⟩:=d3 E;exact⟨b,o,((hA i d).2 (ZO E d1)).trans e,λk Q=>⟨same (F k Q).1 trivial,same (F k Q).2 trivial⟩⟩
 have O:∀f,(ay t f).cell? ⟨0,0,none⟩=some (.iface 345 (.pointer (some a))):=λf=>same hF ⟨by decide,N⟩
 refine Fp Jp.Us Jp.OU (vd:=Z.zF) Z.Ee Z.D3 Z.Io (la:= #[.agg #[.slice m M.n M.cap,.slice l M.r M.gD,.int .i64 M.p],.slice s n cap,.agg #[.int .i64 (r 0),.int .i64 (r 1),.int .i64 (r 2),.int .i64 (r 3)]]) (by show 3<1000;omega) hE z L ?_ ?_ λf=>?_
 .refine aF.same λv q=>?_
  simp at q;rcases q with rfl|rfl|rfl
  .refine VR.agg (aF.same λv q=>?_)
   simp at q;rcases q with rfl|rfl|rfl
   .rw[<-W];exact hl.self _
   .rw[<-V];exact hl.self _
   .exact VR.int _ _
  .rw[<-U];exact hl.self _
  .refine VR.agg (aF.same λv q=>?_)
   simp at q;rcases q with rfl|rfl|rfl|rfl
   all_goals exact VR.int _ _
 .have k1:VR (DV True (CB w)) (.slice m M.n M.cap) (.slice M.ao M.n M.cap):=by rw[<-W];exact hl.alike _
  have k2:VR (DV True (CB w)) (.slice l M.r M.gD) (.slice M.ro M.r M.gD):=by rw[<-V];exact hl.alike _
  have k3:VR (DV True (CB w)) (.slice s n cap) (.slice so n cap):=by rw[<-U];exact hl.alike _
  have Y:VR (DV True (CB w)) (.agg #[.slice m M.n M.cap,.slice l M.r M.gD,.int .i64 M.p]) M.val:=VR.agg (((aF.empty.push k1).push k2).push (VR.int _ _));have X:VR (DV True (CB w)) (.agg #[.int .i64 (r 0),.int .i64 (r 1),.int .i64 (r 2),.int .i64 (r 3)]) (.agg #[.int .i64 (r 0),.int .i64 (r 1),.int .i64 (r 2),.int .i64 (r 3)]):=VR.agg ((((aF.empty.push (VR.int _ _)).push (VR.int _ _)).push (VR.int _ _)).push (VR.int _ _));exact((aF.empty.push Y).push k3).push X
 .exact Z.GK {M with ao:=m,ro:=l} s n cap (λi=>{T i with ao:=A i}) r a (ay t f) (J f) K hp (I f) hr (O f)
end
section
open Go.ChangeShapes Go.WideShapes Go.ChangeAt Go.RowKit Go.Conc Go.ConcN Go.Deep Go.Joins
theorem eZ {n}(h:(Lit.int .i64 n).wf=true):Z.In64 n:=by
 simp only[Lit.wf,IntKind.min,IntKind.max,IntKind.signed,IntKind.bits,ZQ,decide_eq_true_eq,if_true]at h;unfold Z.In64;omega
theorem FU {w}{b}{x}(h:w.shape? b=some x):CB w b:=by
 unfold World.shape? at h;cases a:w.heap[b]? with
 |none=>rw[a]at h;cases h
 |some o=>
  rw[a]at h;cases o with
  |cells xs t g=>exact⟨_,_,_,a⟩
  |_=>cases h
theorem mF {P}{w}{r}{base}{t e}{a}{l c}(hu:P.underlying t=some (.slice e))(h:Cell.okWide P w r base t (.slice (some a) l c)):CB w a.block:=by
 unfold Cell.okWide at h;rw[hu]at h;simp only[Cell.ok,hu]at h;obtain⟨_,_,_,_,row,cells,b,_⟩:=h;exact FU b
theorem N7 {H}(d:DataW H):1<=Rows.uptoBulk d:=by
 cases d with
 |lit l=>cases l<;>simp[Rows.uptoBulk]
 |nil=>simp[Rows.uptoBulk]
 |ptr d=>simp[Rows.uptoBulk]
 |slice elems spare=>simp[Rows.uptoBulk]
 |agg parts=>simp[Rows.uptoBulk]
 |iface t d=>simp[Rows.uptoBulk]
 |map entries=>simp[Rows.uptoBulk]
 |held h=>simp[Rows.uptoBulk]
theorem By {H}{d}{l:List (DataW H)}(h:d∈l):Rows.uptoBulk d<=Rows.uptoBulkAll l:=by
 induction l with
 |nil=>cases h
 |cons x r a=>
  simp only[Rows.uptoBulkAll];cases ZW.1 h with
  |inl e=>subst e;omega
  |inr e=>have:=a e;omega
theorem uQ {H}(l:List (DataW H)):l.length<=Rows.uptoBulkAll l:=by
 induction l with
 |nil=>simp[Rows.uptoBulkAll]
 |cons x r a=>have:=N7 x;simp only[Rows.uptoBulkAll,List.length_cons];omega
theorem Ji {H}(elems spare:List (DataW H)):elems.length<=Rows.uptoBulk (.slice elems spare):=by
 have a:=uQ elems;simp only[Rows.uptoBulk];omega
theorem Dr {H}{enc}{W}{n}{a}{cs}{x:DataW H×List MemPlace}{sp}(hc:W.cells? 0 a 3=some cs)(h:DataW.trod enc prog W 0 sp true n 81 cs=some x):
 ∃z:Int×Int×Int,W.cell? a=some (.int .i64 z.1)/\W.cell? (a.add 1)=some (.int .i64 z.2.1)/\W.cell? (a.add 2)=some (.int .i64 z.2.2)/\Z.In64 z.1/\Z.In64 z.2.2:=by
 obtain⟨q,p,o,k,rfl,hl,e,d,c⟩:=trod_struct3 underlying81 h;obtain⟨_,hlen,b⟩:=World.cells?_some hc
 match cs,hlen with
 |[c0,r,c2],_=>
  have m:prog.cellsOf 3=1:=by kernel_rfl
  simp only[m,List.drop,List.take]at e d c;obtain⟨z0,i,_,l⟩:=DataW.trod_int underlying3 e;obtain⟨j,g,_,_⟩:=DataW.trod_int underlying3 d;obtain⟨z2,f,_,w2⟩:=DataW.trod_int underlying3 c;simp only[List.cons.injEq,and_true]at i g f;subst i g f;exact⟨(z0,j,z2),by simpa[Addr.add] using b 0 (by omega),b 1 (by omega),b 2 (by omega),eZ l,eZ w2⟩
theorem Ak {H:Type}{enc:TypeId×Value->H}{W:World}{base:Nat}{v0:Value}{d0:DataW H}{A:List MemPlace}(E:Value.okWide prog W .any base 25 v0)
 (h:DataW.Trod enc prog W 0 (λ_=>true) true 25 v0 d0 A)(e:∀x∈d0.weights prog 25,x<=reachBytes):∃m:Z.cz,v0=m.val/\m.At W/\(∀i,i<m.n->Z.In64 (m.S i)/\Z.In64 (m.C i))/\Z.In64 m.p:=by
 obtain⟨c0,L,c2,Q,P,O,n,rfl,rfl,rfl,J,I,G⟩:=open_agg3 underlying25 (by kernel_rfl) (by kernel_rfl) E h;obtain⟨p,v,_,wp⟩:=DataW.trod_int underlying3 G;simp only[List.cons.injEq,and_true]at v;subst v;have b3:prog.bytesOf 3=8:=by kernel_rfl
 have M:prog.bytesOf 81=24:=by kernel_rfl
 have F:∃(ro:Option Addr) (rb rp r gD:Nat) (R:Nat->Int),L=.slice ro r gD/\r<=gD/\r*8<=140737488355328/\(0<r->ro=some ⟨rb,rp,none⟩)/\Z.gM W rb rp r R:=by
  rcases open_ints underlying23 underlying3 (by kernel_rfl) I with⟨hcs,hx⟩|⟨a,len,cap,zs,hcs,_,hl,hm,u,hx,hcell,B⟩
  .simp only[List.cons.injEq,and_true]at hcs
   subst hcs;exact⟨none,0,0,0,0,λ_=>0,rfl,ZL _,by omega,λh=>absurd h (by omega),λi d=>absurd d (by omega)⟩
  .simp only[List.cons.injEq,and_true]at hcs
   subst hcs;subst hx;simp only[if_true]at u
   have hs:(len+(cap-len))*8<=reachBytes:=by
        have:=e ((len+(cap-len))*8) (by simp[DataW.weights,DataW.weightsEach,underlying25,underlying23,b3,lits,u,Nat.min_eq_left hl]);exact this
   obtain⟨rb,rp,spot⟩:=a;refine⟨_,rb,rp,len,cap,λi=>zs.getD i 0,rfl,hl,by simp only[reachBytes]at hs;omega,λf=>?_,λi d=>?_⟩
   .have c:spot=none:=by simpa[Addr.add] using World.cell?_spot (hcell 0 (by omega))
    rw[c]
   .have hc:=hcell i (by omega)
    have c:spot=none:=by simpa[Addr.add] using World.cell?_spot (hcell 0 (by omega))
    subst c;rw[Go.WideShapes.add_plain]at hc;exact hc
 have t:∃(ao:Option Addr) (b o k cap:Nat) (S N C:Nat->Int),c0=.slice ao k cap/\k<=cap/\k*24<=140737488355328/\(0<k->ao=some ⟨b,o,none⟩)/\Z.dK W b o k S N C/\∀i,i<k->Z.In64 (S i)/\Z.In64 (C i):=by
  rcases open_slice underlying22 J with⟨hcs,hx⟩|⟨a,len,cap,m,T,D,U,hcs,_,hl,hm,g,hx,j⟩
  .simp only[List.cons.injEq,and_true]at hcs
   subst hcs;exact⟨none,0,0,0,0,λ_=>0,λ_=>0,λ_=>0,rfl,ZL _,by omega,λh=>absurd h (by omega),λi d=>absurd d (by omega),λi d=>absurd d (by omega)⟩
  .simp only[List.cons.injEq,and_true]at hcs
   subst hcs;subst hx;simp only[if_true]at g;subst g;have K:prog.cellsOf 81=3:=(by kernel_rfl);rw[K]at j
   have hs:(len+(m-len))*24<=reachBytes:=by
        have:=e ((len+(m-len))*24) (by simp[DataW.weights,DataW.weightsEach,underlying25,underlying22,M]);exact this
   obtain⟨Z,l⟩:=choose_lt (α:=Int×Int×Int) (p:=λi z=>W.cell? (a.add (i*3))=some (.int .i64 z.1)/\W.cell? ((a.add (i*3)).add 1)=some (.int .i64 z.2.1)/\W.cell? ((a.add (i*3)).add 2)=some (.int .i64 z.2.2)/\Z.In64 z.1/\Z.In64 z.2.2) (λi d=>by
        obtain⟨cs,s,q⟩:=j i d;exact Dr s q)
   obtain⟨b,o,spot⟩:=a;refine⟨_,b,o,len,m,λi=>(Z i).1,λi=>(Z i).2.1,λi=>(Z i).2.2,rfl,hl,by simp only[reachBytes]at hs;omega,λf=>?_,λi d=>?_,λi d=>(l i (by omega)).2.2.2⟩
   .have c:spot=none:=by simpa[Addr.add] using World.cell?_spot (l 0 (by omega)).1
    rw[c]
   .have hc:=l i (by omega)
    have c:spot=none:=by simpa[Addr.add] using World.cell?_spot (l 0 (by omega)).1
    subst c;simp only[Go.WideShapes.add_plain]at hc;exact⟨hc.1,hc.2.1,hc.2.2.1⟩
 obtain⟨ro,rb,rp,r,gD,R,rfl,s,q,y,w⟩:=F;obtain⟨ao,b,o,k,cap,S,N,C,rfl,u1,u2,u3,u4,u5⟩:=t;exact⟨⟨ao,b,o,k,cap,S,N,C,ro,rb,rp,r,gD,R,p⟩,rfl,⟨u1,u2,u3,u4,s,q,y,w⟩,u5,eZ wp⟩
section
variable {H:Type}{enc:TypeId×Value->H}{W:World}
theorem FL {n}{a}{cs}{x}{sp}(hc:W.cells? 0 a 2=some cs)(h:DataW.trod enc prog W 0 sp true n 75 cs=some x):
 ∃z:Int×Bool,W.cell? a=some (.int .i64 z.1)/\W.cell? (a.add 1)=some (.bool z.2)/\Z.In64 z.1:=by
 obtain⟨m,l,k,rfl,hl,d,c⟩:=trod_struct2 underlying75 h;obtain⟨_,hlen,b⟩:=World.cells?_some hc
 match cs,hlen with
 |[c0,o],_=>
  have j:prog.cellsOf 3=1:=by kernel_rfl
  have i2:prog.cellsOf 4=1:=by kernel_rfl
  simp only[j,i2,List.drop,List.take]at d c;obtain⟨z0,f,_,i⟩:=DataW.trod_int underlying3 d;obtain⟨g,e,_⟩:=DataW.trod_bool underlying4 c;simp only[List.cons.injEq,and_true]at f e;subst f e;exact⟨(z0,g),by simpa[Addr.add] using b 0 (by omega),b 1 (by omega),eZ i⟩
theorem Dp {n}{c}{y}(h:DataW.trod enc prog W 0 (λ_=>true) true n 33 [c]=some y):
 ∃(k:Option Addr) (dn d u e:Nat) (v:Nat->Int) (C:Nat->Bool),c=.slice k dn d/\dn<=d/\dn<=Rows.uptoBulk y.1/\(0<dn->k=some ⟨u,e,none⟩)/\Z.rZ W u e dn v C/\(∀x,k=some x->CB W x.block\/(dn=0/\d=0))/\∀i,i<dn->Z.In64 (v i):=by
 rcases open_slice underlying33 h with⟨hcs,hx⟩|⟨a,len,cap,m,E,D,F,hcs,_,hl,hm,l,hx,q⟩
 .simp only[List.cons.injEq,and_true]at hcs
  subst hcs;exact⟨none,0,0,0,0,λ_=>0,λ_=>false,rfl,ZL _,Nat.zero_le _,λh=>absurd h (by omega),λi g=>absurd g (by omega),λx hx=>(by cases hx),λi g=>absurd g (by omega)⟩
 .simp only[List.cons.injEq,and_true]at hcs
  subst hcs;subst hx;simp only[if_true]at l;subst l;have B:prog.cellsOf 75=2:=by kernel_rfl
  rw[B]at q
  obtain⟨Z,r⟩:=choose_lt (α:=Int×Bool) (p:=λi z=>W.cell? (a.add (i*2))=some (.int .i64 z.1)/\W.cell? ((a.add (i*2)).add 1)=some (.bool z.2)/\Z.In64 z.1) (λi g=>by
   obtain⟨cs,A,w⟩:=q i g;exact FL A w)
  obtain⟨b,o,spot⟩:=a;refine⟨_,len,m,b,o,λi=>(Z i).1,λi=>(Z i).2,rfl,hl,?_,λt=>?_,λi g=>?_,λx hx=>?_,λi g=>(r i (by omega)).2.2⟩
  .have:=Ji ((List.range len).map D) ((List.range (m-len)).map λj=>D (len+j))
   simpa using this
  .have f:spot=none:=by simpa[Addr.add] using World.cell?_spot (r 0 (by omega)).1
   rw[f]
  .have hc:=r i (by omega)
   have f:spot=none:=by simpa[Addr.add] using World.cell?_spot (r 0 (by omega)).1
   subst f;simp only[Go.WideShapes.add_plain]at hc;exact⟨hc.1,hc.2.1⟩
  .cases hx
   rcases Nat.eq_zero_or_pos m with s|s
   .exact .inr ⟨by omega,s⟩
   .exact .inl (jY (a:=(⟨b,o,spot⟩:Addr).add (0*2)) (r 0 s).1)
theorem Cc {P}{t}{f0 f1 f2 f3 f4 f5}{base fuel}{sp}{held}{cs}{x}(e:P.underlying t=some (.struct #[f0,f1,f2,f3,f4,f5]))(h:DataW.trod enc P W base sp held fuel t cs=some x):
 ∃d c b y3 y4 a n q,x=(.agg [d.1,c.1,b.1,y3.1,y4.1,a.1],q)/\DataW.trod enc P W base sp held n f0.type ((cs.drop f0.offset).take (P.cellsOf f0.type))=some d/\DataW.trod enc P W base sp held n f1.type ((cs.drop f1.offset).take (P.cellsOf f1.type))=some c/\DataW.trod enc P W base sp held n f2.type ((cs.drop f2.offset).take (P.cellsOf f2.type))=some b/\DataW.trod enc P W base sp held n f3.type ((cs.drop f3.offset).take (P.cellsOf f3.type))=some y3/\DataW.trod enc P W base sp held n f4.type ((cs.drop f4.offset).take (P.cellsOf f4.type))=some y4/\DataW.trod enc P W base sp held n f5.type ((cs.drop f5.offset).take (P.cellsOf f5.type))=some a:=by
 obtain⟨xs,n,_,rfl,hl,hlen,hf⟩:=DataW.trod_struct e h
 match xs,hlen with
 |[d,c,b,y3,y4,a],_=>exact⟨d,c,b,y3,y4,a,n,_,rfl,by simpa using hf 0 f0 rfl,by simpa using hf 1 f1 rfl,by simpa using hf 2 f2 rfl,by simpa using hf 3 f3 rfl,by simpa using hf 4 f4 rfl,by simpa using hf 5 f5 rfl⟩
structure DK (W:World)(a:Addr)(s:Z.eU)(Se:Nat):Prop where
 cells:∀j u,s.cells[j]? =some u->W.cell? (a.add j)=some u
 at_:s.n<=Se->Se<=1048576->s.at W
 qF:s.n<=Se
 cb:∀x,s.ao=some x->CB W x.block\/(s.n=0/\s.cap=0)
theorem zU {n}{a}{cs}{x}(hc:W.cells? 0 a 9=some cs)(h:DataW.trod enc prog W 0 (λ_=>true) true n 84 cs=some x):
 ∃s:Z.eU,DK W a s (Rows.uptoBulk x.1):=by
 obtain⟨A,z,y,y3,y4,w,m,q,rfl,f0,f1,f2,f3,f4,f5⟩:=Cc underlying84 h;obtain⟨_,c,p⟩:=World.cells?_some hc
 match cs,c with
 |[c0,c1,c2,c3,c4,c5,c6,c7,c8],_=>
  have o:prog.cellsOf 3=1:=by kernel_rfl
  have i2:prog.cellsOf 4=1:=by kernel_rfl
  have i4:prog.cellsOf 29=4:=by kernel_rfl
  have i5:prog.cellsOf 33=1:=by kernel_rfl
  have i8:prog.cellsOf 27=3:=by kernel_rfl
  simp only[o,i2,i4,i5,List.drop,List.take]at f0 f1 f2 f3 f4 f5;obtain⟨z0,J,_,Q⟩:=DataW.trod_int underlying3 f0;obtain⟨M,I,_,w1⟩:=DataW.trod_int underlying3 f1;obtain⟨z2,H,_,w2⟩:=DataW.trod_int underlying3 f2;obtain⟨g0,g1,k4,_,_,f,e⟩:=trod_struct2 underlying29 f3;simp only[o,i8,List.drop,List.take]at f e;obtain⟨z4,G,_,w4⟩:=DataW.trod_int underlying3 f;obtain⟨g5,g6,g7,Y,_,v,t,r⟩:=trod_array3 underlying27 o e;obtain⟨z5,F,_,P⟩:=DataW.trod_int underlying3 v;obtain⟨L,E,_,O⟩:=DataW.trod_int underlying3 t;obtain⟨K,D,_,N⟩:=DataW.trod_int underlying3 r;obtain⟨l,dn,b,U,g,V,X,rfl,d1,d2,d3,d4,d5,d6⟩:=Dp f4;obtain⟨z9,C,_⟩:=DataW.trod_bool underlying4 f5;simp only[List.cons.injEq,and_true]at J I H G F E D C;subst J I H G F E D C
  have d:dn<=Rows.uptoBulk (DataW.agg [A.1,z.1,y.1,y3.1,y4.1,w.1]):=by
        refine ZP d2 ?_;have B:Rows.uptoBulk y4.1<=Rows.uptoBulkAll [A.1,z.1,y.1,y3.1,y4.1,w.1]:=By (by simp);simp only[Rows.uptoBulk];omega
  refine⟨⟨z0,M,z2,λk=>match k with|0=>z4|1=>z5|2=>L|_=>K,l,dn,b,V,X,z9⟩,⟨λj u hu=>?_,λB T=>⟨eZ Q,eZ w1,eZ w2,λi hi=>?_,⟨l,b,rfl,d1,d6,λR=>⟨U,g,d3 R,d4⟩⟩,ZP (ZP B T) (by omega)⟩,d,d5⟩⟩
  .have S:j<9:=by
    have:=(ZK.1 hu).1;simpa[Z.eU.cells] using this
   rw[p j S,<-hu];obtain rfl|rfl|rfl|rfl|rfl|rfl|rfl|rfl|rfl:j=0\/j=1\/j=2\/j=3\/j=4\/j=5\/j=6\/j=7\/j=8:=by omega
   all_goals rfl
  .obtain rfl|rfl|rfl|rfl:i=0\/i=1\/i=2\/i=3:=by omega
   .exact eZ w4
   .exact eZ P
   .exact eZ O
   .exact eZ N
end
theorem xU:laidOutB prog=true:=by kernel_rfl
section
variable {H:Type}{enc:TypeId×Value->H}{W:World}
theorem vg {base:Nat}{v1:Value}{d1:DataW H}{B:List MemPlace}(g:Value.okWide prog W .any base 26 v1)
 (h:DataW.Trod enc prog W 0 (λ_=>true) true 26 v1 d1 B)(y:Rows.uptoBulk d1<=1048576):
 ∃(so:Option Addr) (n cap:Nat) (T:Nat->Z.eU),v1=.slice so n cap/\Z.DL W so n cap T/\(∀x,so=some x->CB W x.block\/(n=0/\cap=0))/\(∀i,i<n->∀x,(T i).ao=some x->CB W x.block\/((T i).n=0/\(T i).cap=0)):=by
 obtain⟨fuel,h⟩:=h
 have hcell:v1.cells.toList=[v1]:=by
  unfold Value.okWide at g;rw[underlying26]at g;simp only[Cell.okWide,underlying26]at g;cases v1<;>first|rfl|(simp[Cell.ok,underlying26]at g)
 rw[hcell]at h;rcases open_slice underlying26 h with⟨hcs,hx⟩|⟨a,len,cap,m,I,D,J,hcs,_,hl,hm,l,hx,q⟩
 .simp only[List.cons.injEq,and_true]at hcs
  subst hcs;exact⟨none,0,0,λ_=>⟨0,0,0,λ_=>0,none,0,0,λ_=>0,λ_=>false,false⟩,rfl,⟨ZL _,by omega,λh=>absurd h (by omega),λi d=>absurd d (by omega)⟩,λx hx=>(by cases hx),λi d=>absurd d (by omega)⟩
 .simp only[List.cons.injEq,and_true]at hcs
  subst hcs;simp only[if_true]at l;subst l;have G:prog.cellsOf 84=9:=by kernel_rfl
  rw[G]at q;have v:d1=.slice ((List.range len).map D) ((List.range (m-len)).map λj=>D (len+j)):=congrArg Prod.fst hx
  have e:Rows.uptoBulkAll ((List.range len).map D)<=1048576:=by
   rw[v]at y;simp only[Rows.uptoBulk]at y;omega
  have hlen:len<=1048576:=by
   have:=uQ ((List.range len).map D);simp only[List.length_map,List.length_range]at this;omega
  haveI:Inhabited Z.eU:=⟨⟨0,0,0,λ_=>0,none,0,0,λ_=>0,λ_=>false,false⟩⟩
  obtain⟨S,C⟩:=choose_lt (α:=Z.eU) (p:=λi s=>i<len->DK W (a.add (i*9)) s 1048576) (n:=m) (λi d=>by
   obtain⟨cs,A,z⟩:=q i d;obtain⟨s,hs⟩:=zU A z;refine⟨s,λt=>?_⟩;have r:Rows.uptoBulk (D i)<=Rows.uptoBulkAll ((List.range len).map D):=By (List.mem_map.2 ⟨i,Z9.2 t,rfl⟩);exact⟨hs.cells,λ_ _=>hs.at_ hs.qF (ZP r e),ZP hs.qF (ZP r e),hs.cb⟩)
  have f:∀i,i<len->DK W (a.add (i*9)) (S i) 1048576:=λi d=>C i (by omega) d
  obtain⟨b,o,spot⟩:=a
  have k:0<len->spot=none:=λc=>by
   have F:=(f 0 c).cells 0 _ rfl;simpa[Addr.add] using World.cell?_spot F
  have w:CB W b:=by
   unfold Value.okWide at g;rw[underlying26]at g;exact mF (a:=⟨b,o,spot⟩) underlying26 g
  refine⟨some ⟨b,o,spot⟩,len,m,S,rfl,⟨hl,by omega,λc=>⟨b,o,by rw[k c],λi d j u hu=>?_⟩,λi d=>(f i d).at_ (f i d).qF (ZL _)⟩,λx hx=>?_,λi d=>(f i d).cb⟩
  .have r:=(f i d).cells j u hu
   have E:=k c;subst E;rw[Go.WideShapes.add_plain,Go.WideShapes.add_plain]at r;exact r
  .cases hx
   exact .inl w
theorem Ah {base:Nat}{v2:Value}{d2:DataW H}{p2:List MemPlace}(v:Value.okWide prog W .any base 29 v2)
 (h:DataW.Trod enc prog W 0 (λ_=>true) true 29 v2 d2 p2):∃r:Nat->Int,v2=.agg #[.int .i64 (r 0),.int .i64 (r 1),.int .i64 (r 2),.int .i64 (r 3)]/\∀i,i<4->Z.In64 (r i):=by
 obtain⟨cs,rfl,c⟩:=okWide_struct underlying29 v;have hC:prog.cellsOf 29=4:=by kernel_rfl
 obtain⟨c0,w,c2,c3,rfl⟩:=array4 (c.trans hC);obtain⟨fuel,hf⟩:=h;have d:DataW.trod enc prog W 0 (λ_=>true) true fuel 29 [c0,w,c2,c3]=some (d2,p2):=hf;have j:prog.cellsOf 3=1:=by kernel_rfl
 have i8:prog.cellsOf 27=3:=by kernel_rfl
 obtain⟨g0,g1,y,_,_,b,a⟩:=trod_struct2 underlying29 d;simp only[j,i8,List.drop,List.take]at b a;obtain⟨z4,o,_,w4⟩:=DataW.trod_int underlying3 b;obtain⟨g5,g6,g7,x,_,g,f,e⟩:=trod_array3 underlying27 j a;obtain⟨z5,n,_,u⟩:=DataW.trod_int underlying3 g;obtain⟨q,m,_,t⟩:=DataW.trod_int underlying3 f;obtain⟨p,l,_,s⟩:=DataW.trod_int underlying3 e;simp only[List.cons.injEq,and_true]at o n m l;subst o n m l;refine⟨λk=>match k with|0=>z4|1=>z5|2=>q|_=>p,rfl,λi z=>?_⟩;obtain rfl|rfl|rfl|rfl:i=0\/i=1\/i=2\/i=3:=by omega
 .exact eZ w4
 .exact eZ u
 .exact eZ t
 .exact eZ s
theorem M7 {base:Nat}{m:Z.cz}(a:Value.okWide prog W .any base 25 m.val):(∀x,m.ao=some x->CB W x.block)/\(∀x,m.ro=some x->CB W x.block):=by
 obtain⟨ao,b,o,n,cap,S,N,C,ro,rb,rp,r,gD,R,p⟩:=m;unfold Value.okWide at a;rw[underlying25]at a;obtain⟨cs,e,_,ts,g,_,f⟩:=a;cases e;have h:prog.cellTypes prog.depth 25=some [22,23,3]:=by kernel_rfl
 rw[h]at g;cases g;refine⟨λx hx=>?_,λx hx=>?_⟩
 .simp only at hx
  subst hx;obtain⟨u,d,c⟩:=f 0 _ rfl;cases d;exact mF underlying22 c
 .simp only at hx
  subst hx;obtain⟨u,d,c⟩:=f 1 _ rfl;cases d;exact mF underlying23 c
end
theorem ve (H)(enc)(W)(base)(args)(ds gs)(before)(M:Az W (CB W))(a)(hF:W.cell? ⟨0,0,none⟩=some (.iface 345 (.pointer (some a))))(w:CB W a.block)(L:prog.globals.size<=W.heap.size)
 (b:∀(j:Nat) t v,Tryz.f3.params[j]? =some t->args[j]? =some v->Value.okWide prog W .any base t v)
 (hW:DataW.Whole enc prog Tryz.f3.params.toList Rows.widthsSpec.vars false W args.toList ds gs before)
 (f:(DataW.weightsEach prog (Tryz.f3.params.toList++Rows.widthsSpec.plain.varTypes prog) (ds++gs)).all (·<=reachBytes)=true)
 (F:Rows.uptoSmall H (ds++gs)=true):
 ∃N last o w' i,runNT prog (N+1) (solo (G (Frame.enter prog 3 args .normal) []) W) #[]=(.ended o w',i)/\runN prog N (solo (G (Frame.enter prog 3 args .normal) []) W)=.next last/\
  step prog last=.ended o w'/\Conc.Good prog (λv O=>Rows.widthsSpec.post enc prog Tryz.f3 false true false false W args v O) last o w' i:=by
 have e:=hW;obtain⟨p,q,g,J,rfl,_,_⟩:=hW;have hA:DataW.TrodAll enc prog W 0 (λ_=>true) true Tryz.f3.params.toList args.toList ds p:=g;have hval:=b;rw[params3]at hA hval f;obtain⟨v0,v1,v2,d0,d1,d2,z,y,p2,rfl,rfl,rfl,C,B,A⟩:=trodAll_three hA;obtain⟨rfl,rfl⟩:=trodVars_none J;have k:∀x∈d0.weights prog 25,x<=reachBytes:=λx hx=>of_decide_eq_true (ZU.1 f x (DataW.weights_mem_each (j:=0) rfl rfl x hx))
 obtain⟨m,rfl,hm,s,hp⟩:=Ak (hval 0 25 v0 rfl rfl) C k
 have u:Rows.uptoBulk d1<=1048576:=by
  have h:=of_decide_eq_true F;simp only[List.append_nil,Rows.uptoBulkAll]at h;omega
 obtain⟨so,n,cap,T,rfl,K,hc,hd⟩:=vg (hval 1 26 v1 rfl rfl) B u;obtain⟨r,rfl,E⟩:=Ah (hval 2 29 v2 rfl rfl) A;obtain⟨I,hb⟩:=M7 (hval 0 25 m.val rfl rfl);clear g b;simp only[List.append_nil]at e;have d:∀x∈z++y++p2,x.block<W.heap.size:=λx hx=>by simpa using e.lt x hx
 obtain⟨N,last,o,w',i,g1,g2,g3,g4⟩:=Eb m so n cap T r a W M hm s hp K E hF w L (λx hx=>.inl (I x hx)) (λx hx=>.inl (hb x hx)) hc hd;refine⟨N,last,o,w',i,g1,g2,g3,?_⟩;obtain⟨v,D,⟨l,hb⟩,c⟩:=g4;refine⟨v,D,?_,c⟩;subst l;refine⟨_,_,_,[],z++y++p2,[],e,?_,?_,rfl,hb.frame _,λh=>by cases h⟩
 .exact trodAll_mk1 (shut_bool underlying4 true)
 .rw[List.append_assoc]
  exact trodAll_cons_mk (Below.trod xU (by kernel_rfl) (of_decide_eq_true (by kernel_rfl)) C hb λx hx=>d x (List.mem_append_left _ (List.mem_append_left _ hx)))
   (trodAll_cons_mk (Below.trod xU (by kernel_rfl) (of_decide_eq_true (by kernel_rfl)) B hb λx hx=>d x (List.mem_append_left _ (List.mem_append_right _ hx)))
     (trodAll_mk1 (Below.trod xU (by kernel_rfl) (of_decide_eq_true (by kernel_rfl)) A hb λx hx=>d x (List.mem_append_right _ hx))))
end
section
open Go.Lib Go.RowKit
theorem gZ {w}{n}{g t e N}{k}{zs}(j:prog.globalNamed n=some g)(i:(prog.globals[g]?).map (·.type)=some t)(hu:prog.underlying t=some (.array N e))(he:prog.underlying e=some (.int k))(d:prog.cellsOf e=1)(c:prog.cellsOf t=N)
 (h:VarReads prog w n (tabData k zs)):TabIs prog w n k zs:=by
 obtain⟨g0,t0,cs,fuel,p,b,a,f,hd⟩:=h;obtain rfl:=Option.some.inj (j.symm.trans b);obtain rfl:=Option.some.inj (i.symm.trans a);have hcs:=cells_of_tab hu he d c hd;unfold TabIs;rw[f];obtain⟨l⟩:=cs;exact congrArg (λl=>some (Array.mk l)) hcs
def Tk:Go.Shelf.Ren:=⟨λx=>x,λn=>if n=5 then 5 else if n=119 then 316 else if n=138 then 318 else 319,λn=>if n=3 then 4 else 5⟩
theorem OJ:U8Types prog Tk:=⟨by kernel_rfl,by kernel_rfl,by kernel_rfl,by kernel_rfl⟩
theorem OK:U8Extra prog Tk:=⟨by kernel_rfl,by kernel_rfl,by kernel_rfl,by kernel_rfl,by kernel_rfl,by kernel_rfl,by kernel_rfl⟩
theorem Hq:(Rows.laid_internal_strconv_uint64pow10:DataW Unit)=tabData .u64 Lib.pow10Tab:=by kernel_rfl
theorem Bq:(Rows.laid_math_bits_deBruijn64tab:DataW Unit)=tabData .u8 (Lib.deBruijn64tab.map λn=>((n:Nat):Int)):=by kernel_rfl
theorem Gb:(Rows.laid_unicode_utf8_acceptRanges:DataW Unit)=acceptData:=by kernel_rfl
theorem yC:Rows.laid_unicode_utf8_first=firstData:=Pinned.utf8First_eq
theorem Dl {w}(hs:prog.globals.size<=w.heap.size)
 (f:VarReads prog w "internal/strconv.uint64pow10" Rows.laid_internal_strconv_uint64pow10)(d:VarReads prog w "unicode/utf8.first" Rows.laid_unicode_utf8_first)(c:VarReads prog w "unicode/utf8.acceptRanges" Rows.laid_unicode_utf8_acceptRanges)
 (b:VarReads prog w "math/bits.deBruijn64tab" Rows.laid_math_bits_deBruijn64tab):gY w:=by
 rw[Hq]at f;rw[yC]at d;rw[Gb]at c;rw[Bq]at b;have i:prog.globals.size=14:=by kernel_rfl
 refine⟨by omega,
  gZ (g:=3) (t:=310) (e:=125) (N:=20) (by kernel_rfl) (by kernel_rfl) (by kernel_rfl) (by kernel_rfl) (by kernel_rfl) (by kernel_rfl) f,utf8Tabs_of_readsT OJ OK d c,λj a=>?_⟩
 have h:=gZ (g:=13) (t:=343) (e:=5) (N:=64) (by kernel_rfl) (by kernel_rfl) (by kernel_rfl) (by kernel_rfl) (by kernel_rfl) (by kernel_rfl) b;have:=h.cell (g:=13) (by kernel_rfl) j (by simpa using a);rw[this];simp[List.getD,a]
end
section
open Go.Lib Go.RowKit Go.ChangeShapes
theorem Ej: "*errors.errorString" = "*" ++ "errors.errorString" :=by decide
theorem O6 (u)(h:prog.typeName? 3 u=some "*errors.errorString"):u=345:=
 typeName_ptr_named (nm:= "errors.errorString") (by rw[<-Ej];kernel_rfl) (by kernel_rfl) (by decide) u (by rw[<-Ej];exact h)
theorem rM {W}(h:laidMet prog Rows.widthsUptoRow.laid W):∃a,W.cell? ⟨0,0,none⟩=some (.iface 345 (.pointer (some a)))/\CB W a.block:=by
 obtain⟨a,s,b,hc,_⟩:=laid_sentinel (n:= "berth/disk.ErrFailed") (g:=0) (ti:=148) (te:=347) (ts:=9) (laidMet.tail (laidMet.tail (laidMet.tail (laidMet.tail h)))) (by kernel_rfl) (by kernel_rfl) underlying148 O6 underlying345 underlying347 rfl rfl underlying9 (by kernel_rfl) (by kernel_rfl);refine⟨a,?_,jY hc⟩;rw[World.var?_cell (show prog.globalNamed "berth/disk.ErrFailed" =some 0 by kernel_rfl) b 0];rfl
theorem IE {w}(h:w.ShapedOpen prog){g}(b:g<prog.globals.size)(a:(((begin prog (λ_ _=>0) default).world.heap[g]?).bind Obj.row?).isSome=true):CB w g:=by
 obtain⟨⟨zero,t⟩,e⟩:=Option.isSome_iff_exists.1 a;obtain⟨cs,hc,_⟩:=h.1 g zero t b e;exact⟨_,_,_,hc⟩
theorem Sn {w}(h:w.ShapedOpen prog):∀g,g∈QD->CB w g:=λg a=>by
 have key:(QD.all λg=>decide (g<14)&&(((begin prog (λ_ _=>0) default).world.heap[g]?).bind Obj.row?).isSome)=true:=by kernel_rfl
 have:=ZU.1 key g a;simp only[ZQ,decide_eq_true_eq]at this;exact IE h (by rw[show prog.globals.size=14 by kernel_rfl];exact this.1) this.2
def Rx (d:DataW Unit):List Int:=match d with
 |.agg ps=>ps.map λp=>match p with|.lit (.int _ z)=>z|_=>0
 |_=>[]
theorem Lt:(Rows.laid_math_bits_deBruijn32tab:DataW Unit)=tabData .u8 (Rx Rows.laid_math_bits_deBruijn32tab):=by kernel_rfl
theorem xc {w}{n}{g}{k}{zs}(c:prog.globalNamed n=some g)(h:TabIs prog w n k zs):∃xs e f,w.heap[g]? =some (.cells xs e f)/\∀v∈xs.toList,∃k n,v=.int k n:=by
 unfold TabIs World.var? at h;rw[c]at h;simp only[Option.bind_some]at h;cases b:w.heap[g]? with
 |none=>rw[b]at h;cases h
 |some o=>
  rw[b]at h;cases o with
  |cells cs e f=>
   simp only[Option.some.injEq]at h;refine⟨cs,e,f,rfl,λv a=>?_⟩;rw[h]at a;simp only[List.mem_map]at a;obtain⟨z,_,rfl⟩:=a;exact⟨_,_,rfl⟩
  |_=>cases h
theorem Gc {w}(b:w.ShapedOpen prog)(h:Utf8Tabs 4 5 w):∃xs e f,w.heap[(5:Nat)]? =some (.cells xs e f)/\∀v∈xs.toList,∃k n,v=.int k n:=by
 have a:((((begin prog (λ_ _=>0) default).world.heap[(5:Nat)]?).bind Obj.row?).map λx=>x.1.size)=some 32:=by kernel_rfl
 cases e:((begin prog (λ_ _=>0) default).world.heap[(5:Nat)]?).bind Obj.row? with
 |none=>rw[e]at a;cases a
 |some x=>
  obtain⟨zero,t⟩:=x;rw[e]at a;have l:zero.size=32:=Option.some.inj a;obtain⟨cs,hc,hs,_⟩:=b.1 _ zero t (by rw[show prog.globals.size=14 by kernel_rfl];decide) e;refine⟨cs,_,_,hc,λv g=>?_⟩;obtain⟨i,d,c⟩:=List.getElem_of_mem g;have j:i<32:=by rw[Array.length_toList]at d;omega
  have hcell:w.cell? ⟨5,i,none⟩=some v:=by
   rw[(blk hc).1 i,<-Array.getElem?_toList,ZT d,c]
  have hu:=h.2 (i/2) (by omega);rcases(show i=2*(i/2)\/i=2*(i/2)+1 by omega)with e|e
  .rw[e,hu.1]at hcell
   exact⟨_,_,(Option.some.inj hcell).symm⟩
  .rw[e,hu.2]at hcell
   exact⟨_,_,(Option.some.inj hcell).symm⟩
end
section
open Go Go.ChangeShapes Go.WideShapes Go.ChangeAt Go.RowKit Go.Conc Go.Lib
theorem MO:ownKnob prog.godebug=none:=by kernel_rfl
theorem uI {w:World}(h:w.ShapedOpen prog):prog.globals.size<=w.heap.size:=by
 obtain⟨b,_⟩:=h;have a:prog.globals.size=14:=by kernel_rfl
 have hs:(((begin prog (λ_ _=>0) default).world.heap[13]?).bind Obj.row?).isSome=true:=by kernel_rfl
 obtain⟨⟨zero,t⟩,e⟩:=Option.isSome_iff_exists.1 hs;obtain⟨cs,hc,_⟩:=b 13 zero t (by rw[a];omega) e;have:=(ZK.1 hc).1;omega
theorem FJ {w}(hs:prog.globals.size<=w.heap.size)(f:w.ShapedOpen prog)(h:laidMet prog Rows.widthsUptoRow.laid w.memory):Az w (CB w)/\∃a,w.cell? ⟨0,0,none⟩=some (.iface 345 (.pointer (some a)))/\CB w a.block:=by
 have q:VarReads prog w.memory "internal/strconv.uint64pow10" Rows.laid_internal_strconv_uint64pow10:=laidMet.reads h (by simp[Rows.widthsUptoRow]);have l:VarReads prog w.memory "unicode/utf8.first" Rows.laid_unicode_utf8_first:=laidMet.reads h (by simp[Rows.widthsUptoRow])
 have p:VarReads prog w.memory "unicode/utf8.acceptRanges" Rows.laid_unicode_utf8_acceptRanges:=laidMet.reads h (by simp[Rows.widthsUptoRow]);have k:VarReads prog w.memory "math/bits.deBruijn64tab" Rows.laid_math_bits_deBruijn64tab:=laidMet.reads h (by simp[Rows.widthsUptoRow]);have m:VarReads prog w.memory "math/bits.deBruijn32tab" Rows.laid_math_bits_deBruijn32tab:=laidMet.reads h (by simp[Rows.widthsUptoRow]);have b:=Dl (w:=w.memory) hs q l p k;have env:gY w:=⟨b.size,b.pow,b.Mf,b.Ls⟩;obtain⟨a,k1,o⟩:=rM h;have d:w.cell? ⟨0,0,none⟩=some (.iface 345 (.pointer (some a))):=k1;have c:CB w a.block:=o;refine⟨⟨env,λg j=>?_,λg j=>?_,Sn f⟩,a,d,c⟩
 .have e:g=0:=List.mem_singleton.1 j
  subst e;exact⟨_,a,d,by decide,c⟩
 .have i:g=4\/g=5\/g=12\/g=13:=by
   have:g∈[4,5,12,13]:=j;simpa using this
  rcases i with rfl|rfl|rfl|rfl
  .rw[yC]at l
   have t:=xc (w:=w.memory) (n:= "unicode/utf8.first") (g:=4) (by kernel_rfl) (gZ (g:=4) (t:=316) (e:=5) (N:=256) (by kernel_rfl) (by kernel_rfl) (by kernel_rfl) (by kernel_rfl) (by kernel_rfl) (by kernel_rfl) l);exact t
  .exact Gc f env.Mf
  .rw[Lt]at m
   have t:=xc (w:=w.memory) (n:= "math/bits.deBruijn32tab") (g:=12) (by kernel_rfl) (gZ (g:=12) (t:=342) (e:=5) (N:=32) (by kernel_rfl) (by kernel_rfl) (by kernel_rfl) (by kernel_rfl) (by kernel_rfl) (by kernel_rfl) m);exact t
  .rw[Bq]at k
   have t:=xc (w:=w.memory) (n:= "math/bits.deBruijn64tab") (g:=13) (by kernel_rfl) (gZ (g:=13) (t:=343) (e:=5) (N:=64) (by kernel_rfl) (by kernel_rfl) (by kernel_rfl) (by kernel_rfl) (by kernel_rfl) (by kernel_rfl) k);exact t
def uW (os:Os)(H:Type)(enc:TypeId×Value->H):Prop:=
    ∃(w:World) (tape:Tape) (i:Input),w.os=os/\(w.forCall tape i).Shaped Tryz.checked.prog/\i.vars=[]/\Input.okWide Tryz.checked.prog (w.forCall tape i) .any w.heap.size 3 i/\
     (((Rows.OpenSpec.upto Rows.widthsSpec).pre enc Tryz.checked.prog Tryz.f3 [] false (w.forCall tape i).memory i.args/\laidMetH prog Rows.widthsUptoRow.laid (w.forCall tape i).memory)/\sizedMet enc Tryz.checked.prog Tryz.f3 (Rows.OpenSpec.upto Rows.widthsSpec) false (w.forCall tape i).memory i.args)/\
     ({}:Assume).holds Tryz.checked.prog (lone (Frame.enter Tryz.checked.prog 3 i.args .normal) [] (w.forCall tape i))
theorem zI (os)(started:os.Started)(H)(enc)(F)(d:uW os H enc):
 ReturnsInLeavingWide {} Tryz.checked os 3 .any (λw args=>((Rows.OpenSpec.upto Rows.widthsSpec).pre enc prog Tryz.f3 [] false w args/\laidMetH prog Rows.widthsUptoRow.laid w)/\sizedMet enc prog Tryz.f3 (Rows.OpenSpec.upto Rows.widthsSpec) false w args)
  (((Rows.OpenSpec.upto Rows.widthsSpec).at F).post enc prog Tryz.f3 false true false false):=by
 refine returnsInLeavingWide_of_good (C:=Tryz.checked) MO started d ?_;intro w tape i _ b _ l f _;obtain⟨_,_,_,m,g,_,_,_,_,hval⟩:=l;have e:m=Tryz.f3:=Option.some.inj (g.symm.trans func3);subst e;obtain⟨⟨j,n⟩,r⟩:=f;rw[MakeChecks.laidMetH_plain _ _ _ (by kernel_rfl)]at n;obtain⟨x,a,k1,q⟩:=FJ (uI b) b n;obtain⟨ds,gs,before,hw,_,u⟩:=(OpenSpec.pre_some (s:=Rows.OpenSpec.upto Rows.widthsSpec) (k:=Rows.uptoSmall) rfl _ _ _ _).1 j;have h:=DataW.Whole.of_heap (w':=w.forCall tape i) (by rfl) hw;obtain⟨N,last,o,w',p,g1,g2,g3,g4⟩:=ve H enc (w.forCall tape i) w.heap.size i.args ds gs before x a k1 q (uI b) hval h (r.weights hw) u;refine⟨N,last,o,w',p,g1,g2,g3,?_⟩;obtain⟨v,t,hp,c⟩:=g4;exact⟨v,t,ChangeSpec.post_blind hp,c⟩
end
