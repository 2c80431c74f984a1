/- Part 29 of the proof. -/
import Derived.Test.YtfpaamhppamcoaaGreatDoorT28
set_option linter.all false
set_option maxRecDepth 100000
set_option maxHeartbeats 60000000
namespace Go.Proofs.YtfpaamhppamcoaaGreatDoor
open Go.Proofs.Tryz
namespace Z
open Go.RowKit
attribute [local go_sem ↓] Go.wp_at_zero Go.wp_at_succ
attribute [local go_sem] After.cell After.frozen After.const
theorem uD (D)(B)(c)(t22 t23)(w)(hb:aW w B D)(C:D.ok):
 (xB ((eD 340 f42).body.getD .skip)).wp (patch ae prog) (bodyPost (patch ae prog) (eD 340 f42) (fun|.returned v,w'=>dm (λi=>zF D i (c i)) c w v w'/\Below w.heap.size w w'|_,_=>False))
  ⟨#[ptr B,.agg (aQ c),undef,undef,undef,undef,undef,undef,undef,undef,undef,undef,undef,undef,undef,undef,undef,undef,undef,undef,undef,undef,t22,t23,undef,undef,undef,undef],[]⟩ w:=by
 have t:(eD 340 f42).results= #[.tmp 4]:=by kernel_rfl
 generalize V:bodyPost (patch ae prog) (eD 340 f42) _=Q;simp only[eD,Ba,xB,f42,Option.getD_some,Option.map_some,aQ,bg,bX];unfold ptr;have H:Hid (aW w B D/\D.ok/\bodyPost (patch ae prog) (eD 340 f42) (fun|.returned v,w'=>dm (λi=>zF D i (c i)) c w v w'/\Below w.heap.size w w'|_,_=>False)=Q):=⟨hb,C,V⟩;have S:=λW:World=>KY W
 go_wp2_with fail;obtain⟨W,hW⟩:∃W,W=(((((w.alloc (.cells #[.pointer (some ⟨B,0,none⟩)] 31)).alloc (.cells #[.int .i64 (c 0),.int .i64 (c 1),.int .i64 (c 2),.int .i64 (c 3)] 37)).alloc (.cells dQ 91)).alloc (.cells #[.slice (some ⟨w.heap.size+1+1,0,none⟩) 4 4] 87)).alloc (.cells #[.int .u64 0,.int .u32 0] 130)):=⟨_,rfl⟩
 have p:Hid (W.heap[w.heap.size]? =some (.cells #[.pointer (some ⟨B,0,none⟩)] 31 (0,0))/\W.heap[w.heap.size+1+1]? =some (.cells dQ 91 (0,0))/\W.heap[w.heap.size+1+1+1]? =some (.cells #[.slice (some ⟨w.heap.size+1+1,0,none⟩) 4 4] 87 (0,0))/\Below w.heap.size w W/\W.heap.size=w.heap.size+5):=by
  rw[hW];refine⟨?_,?_,?_,?_,by simp⟩
  .rw[aac _ _ _ (by simp;omega),aac _ _ _ (by simp;omega),aac _ _ _ (by simp;omega),aac _ _ _ (by simp)]
   exact aae _ _
  .rw[aac _ _ _ (by simp),aac _ _ _ (by simp)]
   have:=aae ((w.alloc (.cells #[.pointer (some ⟨B,0,none⟩)] 31)).alloc (.cells #[.int .i64 (c 0),.int .i64 (c 1),.int .i64 (c 2),.int .i64 (c 3)] 37)) (.cells dQ 91);simpa using this
  .rw[aac _ _ _ (by simp)]
   have:=aae (((w.alloc (.cells #[.pointer (some ⟨B,0,none⟩)] 31)).alloc (.cells #[.int .i64 (c 0),.int .i64 (c 1),.int .i64 (c 2),.int .i64 (c 3)] 37)).alloc (.cells dQ 91)) (.cells #[.slice (some ⟨w.heap.size+1+1,0,none⟩) 4 4] 87);simpa using this
  .exact((((((aab _ _).alloc (ZL _) _).alloc (by simp) _).alloc (by simp;omega) _).alloc (by simp;omega) _).alloc (by simp;omega) _)
 rw[<-hW]
 go_loopw [11] (λi wr=>∃k:Nat,k<=4/\i=.int .i64 k/\wr.rowIs (w.heap.size+1+1) 91 68 (pW D c k)/\(∀b,b<W.heap.size->b≠w.heap.size+1+1->wr.heap[b]? =W.heap[b]?)/\Below w.heap.size w wr/\W.heap.size<=wr.heap.size) (λi _=>4-(intOf i).toNat)
 case atStart=>exact⟨0,by omega,rfl,zH p.out.2.1 D c,λ_ _ _=>rfl,p.out.2.2.2.1,ZL _⟩
 case round=>
  obtain⟨k,hk,rfl,s,E,hb,A⟩:=hrel;have d:Hid (wr.rowIs (w.heap.size+1+1) 91 68 (pW D c k)/\(∀b,b<W.heap.size->b≠w.heap.size+1+1->wr.heap[b]? =W.heap[b]?)/\Below w.heap.size w wr/\W.heap.size<=wr.heap.size):=⟨s,E,hb,A⟩
  by_cases m:k<4
  .have T:=ym c k m
   by_cases hc:0<c k
   .have x:Hid (aW ((wr.alloc (.cells #[.int .i64 (k:Int)] 3)).alloc (.cells #[.int .i64 (c k)] 3)) B D/\((wr.alloc (.cells #[.int .i64 (k:Int)] 3)).alloc (.cells #[.int .i64 (c k)] 3)).cell? ⟨w.heap.size,0,none⟩=some (ptr B)/\
     ((wr.alloc (.cells #[.int .i64 (k:Int)] 3)).alloc (.cells #[.int .i64 (c k)] 3)).cell? ⟨wr.heap.size,0,none⟩=some (.int .i64 k)/\((wr.alloc (.cells #[.int .i64 (k:Int)] 3)).alloc (.cells #[.int .i64 (c k)] 3)).cell? ⟨wr.heap.size+1,0,none⟩=some (.int .i64 (c k))):=by
     have a:Below wr.heap.size wr ((wr.alloc (.cells #[.int .i64 (k:Int)] 3)).alloc (.cells #[.int .i64 (c k)] 3)):=((aab _ _).alloc (ZL _) _).alloc (by simp) _;have z5:=p.out.2.2.2.2;refine⟨aW.below (aW.below H.out.1 d.out.2.2.1) a,?_,?_,?_⟩
     .exact keeps a ((blk ((d.out.2.1 w.heap.size (by omega) (by omega)).trans p.out.1)).1 0)
     .exact(blk (aap wr _ _)).1 0
     .exact(blk (aam wr _ _)).1 0
    obtain⟨vs,f⟩:∃vs,vs=eF (dz D k (dL D k)) (dz D k (gq D k)) (c k):=⟨_,rfl⟩;have r:vs.size=17:=(by rw[f,jB]);have z:vs.all (·.oneCell')=true:=(by rw[f];exact K8 _ _ _);have y:((patch ae prog).info? 91).map (·.size)=some vs.size:=(by rw[r];exact iA);have g:=λx0 I=>ug D B w.heap.size wr.heap.size (wr.heap.size+1) k (c k) x0 I _ x.out.1 H.out.2.1 m hc x.out.2.1 x.out.2.2.1 x.out.2.2.2
    rw[<-f]at g;have G:Hid (vs=eF (dz D k (dL D k)) (dz D k (gq D k)) (c k)):=f;clear f x;have N:Hid (∀x0 I,_):=g
    go_wp2_with(first
     |(go_at_call 69;refine(N.out _ _).mono ?_;intro e w2 he;cases e with|panicked _=>exact he.elim|outgrown=>exact he.elim|returned v=>?_;obtain⟨K,u⟩:=he;unfold o9 at K;subst K;have R2:=Il d.out.1 u;have Y:=EW R2 m r;clear N)
     |refine wpList_store_mid rfl 91 _ _ rfl (w.heap.size+1+1) (k*17) vs rfl rfl Y y z ?_)
    have O:Hid (w2.rowIs (w.heap.size+1+1) 91 68 (pW D c k)/\Below ((wr.alloc (.cells #[.int .i64 (k:Int)] 3)).alloc (.cells #[.int .i64 (c k)] 3)).heap.size ((wr.alloc (.cells #[.int .i64 (k:Int)] 3)).alloc (.cells #[.int .i64 (c k)] 3)) w2):=⟨R2,u⟩;go_roundw
    case rel=>
     have a:Below wr.heap.size wr ((wr.alloc (.cells #[.int .i64 (k:Int)] 3)).alloc (.cells #[.int .i64 (c k)] 3)):=((aab _ _).alloc (ZL _) _).alloc (by simp) _;have n:=ai a O.out.2;refine⟨k+1,by omega,by go_num,?_,λb hb l=>?_,?_,?_⟩
     .exact Md O.out.1 hc G.out
     .exact(xX l _ _ _).trans ((n.block b (by omega)).trans (d.out.2.1 b hb l))
     .exact xY (by omega) _ _ _ (ai d.out.2.2.1 n)
     .rw[Bb]
      have:=n.size;omega
    case measure=>simp[intOf];omega
   .have U:c k<=0:=by omega
    go_wp2_with fail;go_roundw
    case rel=>
     have a:Below wr.heap.size wr ((wr.alloc (.cells #[.int .i64 (k:Int)] 3)).alloc (.cells #[.int .i64 (c k)] 3)):=((aab _ _).alloc (ZL _) _).alloc (by simp) _;refine⟨k+1,by omega,by go_num,?_,λb hb l=>?_,ai d.out.2.2.1 a,?_⟩
     .exact(d.out.1.of_block (a.block _ d.out.1.lt)).congr λj _=>(Kk hc j).symm
     .exact(a.block b (by omega)).trans (d.out.2.1 b hb l)
     .have:=a.size
      omega
    case measure=>simp[intOf];omega
  .have:k=4:=by omega
   subst this;obtain⟨q,Z⟩:=blk ((d.out.2.1 (w.heap.size+1+1+1) (by have:=p.out.2.2.2.2;omega) (by omega)).trans p.out.2.2.1);go_wp2_with fail;rw[<-H.out.2.2];refine bodyPost_ret (results_tmp t _ _ _) rfl ?_;obtain⟨cur,R,P,J⟩:=d.out.1;refine⟨⟨w.heap.size+1+1,cur,rfl,by omega,d.out.2.2.1.block,d.out.2.2.1.size,R,P,λi M hc o L=>?_,λi M hc o L=>?_⟩,d.out.2.2.1⟩
   .have F:(17*i+o)/17=i:=by omega
    have X:(17*i+o)%17=o:=(by omega);rw[J _ (by omega)];unfold pW;rw[F,X,if_pos ⟨M,hc⟩];simp[zF,eF,L]
   .have F:(17*i+o)/17=i:=by omega
    rw[J _ (by omega)];unfold pW;rw[F,if_neg (λh=>hc h.2)]
theorem Im (D)(B)(c)(t22 t23)(w)(hb:aW w B D)(b:D.ok):
 (xB ((eD 340 f42).body.getD .skip)).wp (patch ae prog) (bodyPost (patch ae prog) (eD 340 f42) (fun|.returned v,w'=>dm (λi=>zF D i (c i)) c w v w'|_,_=>False))
  ⟨#[ptr B,.agg (aQ c),undef,undef,undef,undef,undef,undef,undef,undef,undef,undef,undef,undef,undef,undef,undef,undef,undef,undef,undef,undef,t22,t23,undef,undef,undef,undef],[]⟩ w:=by
 refine Code.wp_mono ?_ (uD D B c t22 t23 w hb b);rintro e a u h;cases e with
 |normal=>exact⟨h.1,h.2.choose,h.2.choose_spec.1,h.2.choose_spec.2.1⟩
 |ret=>exact⟨h.1,h.2.choose,h.2.choose_spec.1,h.2.choose_spec.2.1⟩
 |panic ch=>exact h.2.elim
 |_=>exact h
end Z
section
open Go Go.Conc Go.ConcN
theorem I6 {st}{P Q}{K}{C}{R}{Iv:Rel st->World->Prop}(α:∀p u d,Iv p u->Iv p (u.at d))(Z:∀p q u u',Iv p u->dE K p q u u'->Iv q u')(hz:dM P)(hp:aH C P Q)(tw:Twin P Q)(M:C.sd=false\/¬st)(U:∀o,C.mark o=false)(O:C.sp=[]){cs}
 {a}{ZJ}{w}(ht:Tree P R a ZJ w):∀(p:Rel st) (b:Frame) (bs:List Frame) (gs:Array Goroutine) (u:World) (sl:Option (Nat×Nat)) (t:Trace) (q:Nat->Nat) (S:Nat->Prop),Live C P p a ZJ b bs->WR P.globals.size K p w u->gs[0]? =some (df b (bs++cs))->ni Q S gs u.heap.size t q->(∀b c,p b c->¬S c)->Iv p u->
  ∃(N:Nat) (i:Array Goroutine) (u':World) (j:Option (Nat×Nat)) (s:Trace) (z:Nat->Nat) (g:Rel st) (a' l:Frame) (w':World),runNT Q N (crowd gs u sl) t=(.next (crowd i u' j),s)/\i[0]? =some (df l cs)/\Live C P g a' [] l []/\WR P.globals.size K g w' u'/\ni Q S i u'.heap.size s z/\(∀b c,g b c->¬S c)/\Iv g u'/\L6 P R a' [] w'/\Ext p g:=by
 classical
 refine ht (λa ZJ w=>∀(p:Rel st) (b:Frame) (bs:List Frame) (gs:Array Goroutine) (u:World) (sl:Option (Nat×Nat)) (t:Trace) (q:Nat->Nat) (S:Nat->Prop),Live C P p a ZJ b bs->WR P.globals.size K p w u->gs[0]? =some (df b (bs++cs))->ni Q S gs u.heap.size t q->(∀b c,p b c->¬S c)->Iv p u->
  ∃(N:Nat) (i:Array Goroutine) (u':World) (j:Option (Nat×Nat)) (s:Trace) (z:Nat->Nat) (g:Rel st) (a' l:Frame) (w':World),runNT Q N (crowd gs u sl) t=(.next (crowd i u' j),s)/\i[0]? =some (df l cs)/\Live C P g a' [] l []/\WR P.globals.size K g w' u'/\ni Q S i u'.heap.size s z/\(∀b c,g b c->¬S c)/\Iv g u'/\L6 P R a' [] w'/\Ext p g) ?_
 intro a ZJ w I p b bs gs u sl t q S hl hw h0 hF hS H;rcases I with F|⟨T,I⟩
 .obtain rfl:=F.2.1
  cases bs with
  |cons x xs=>exact hl.cs.elim
  |nil=>exact⟨0,gs,u,sl,t,q,p,a,b,w,rfl,h0,hl,hw,hF,hS,H,F,Ext.refl _⟩
 have hr:a.mode=.returning->ZJ≠[]:=λh1 h2=>T ⟨h1,h2⟩
 obtain⟨N,i,a',u',j,s,z,B',r1,r2,r3,⟨hB,s1,X,g,l,r,rfl,A,v,Y,G,Lc⟩,r5⟩:=MQ (sl:=sl) (Stop:=λa' u' B'=>B'=u'.heap.size/\
  ∃s1:qC,(∀(p:Rel st) (b:Frame) (bs:List Frame) (gs:Array Goroutine) (u:World) (sl:Option (Nat×Nat)) (t:Trace) (q:Nat->Nat) (S:Nat->Prop),Live C P p s1.a s1.ZJ b bs->WR P.globals.size K p s1.w u->gs[0]? =some (df b (bs++cs))->ni Q S gs u.heap.size t q->(∀b c,p b c->¬S c)->Iv p u->
  ∃(N:Nat) (i:Array Goroutine) (u':World) (j:Option (Nat×Nat)) (s:Trace) (z:Nat->Nat) (g:Rel st) (a' l:Frame) (w':World),runNT Q N (crowd gs u sl) t=(.next (crowd i u' j),s)/\i[0]? =some (df l cs)/\Live C P g a' [] l []/\WR P.globals.size K g w' u'/\ni Q S i u'.heap.size s z/\(∀b c,g b c->¬S c)/\Iv g u'/\L6 P R a' [] w'/\Ext p g)/\
   ∃g l r,a'=df l (r++cs)/\Live C P g s1.a s1.ZJ l r/\WR P.globals.size K g s1.w u'/\(∀b c,g b c->¬S c)/\Iv g u'/\Ext p g) hF h0 rfl λd=>by
  have n:∀{g:Rel st} {u':World},dE K p g (u.at d) u'->∀b c,g b c->¬S c:=fun{g u'} B b c hb hs=>by
   by_cases E:p b c
   .exact hS b c E hs
   .have:=B.fresh b c hb E
    have:=hF.sh c hs;have e:(u.at d).heap.size=u.heap.size:=rfl;omega
  obtain⟨T',hA⟩:=uj (m:=true) (m':=true) (cs:=[stop P]) (ds:=cs) hz hp tw M hl (λ_ ⟨_,_,_,_,o,_,_,_,h⟩=>by rw[U o]at h;cases h) hr (hw.at d);rcases hA with hA|⟨g,a2,δ,l,r,w2,u',ζ,new,e2,e3,A,v,ε,B,he⟩|⟨_,f,_,_,_,_,_,_,_,_,_,_,_,D,_⟩
  .exfalso
   obtain⟨a',as',w',es,J,k,_⟩:=I T';rcases hA with⟨o,w3,γ,y⟩|⟨fr,η,w3,γ,y,ch,_,W,_⟩
   .rw[J]at y;cases y
   .rw[J]at y
    simp only[GStep.go.injEq,Goroutine.mk.injEq]at y;rw[y.1.1,W]at k;rcases k with h|h<;>cases h
  .refine⟨_,u',new,u'.heap.size,e3,B.size,λe V=>IX v (n B) (he e V),rfl,?_⟩
   obtain⟨a',as',w',es,J,k,X⟩:=I T';rw[J]at e2;simp only[GStep.go.injEq,Goroutine.mk.injEq]at e2;obtain⟨⟨y,e5,_⟩,e6,_⟩:=e2;have e7:as'=δ:=List.append_cancel_right e5;subst y e6 e7;exact⟨⟨_,_,_⟩,X,g,l,r,rfl,A,v,n B,Z _ _ _ _ (α _ _ d H) B,B.ext⟩
  .rw[O]at D;cases D
 subst hB;obtain⟨N2,β,u2,L,t2,q2,p2,a2,b2,w2,f1,f2,f3,f4,f5,f6,f7,f8,f9⟩:=X g l r i u' j s z S A v r3 r5 Y G;refine⟨N+N2,β,u2,L,t2,q2,p2,a2,b2,w2,?_,f2,f3,f4,f5,f6,f7,f8,Lc.trans f9⟩;rw[runNT_add,r1];exact f1
end
section
open Go
theorem iQ:j5 prog 199 Extern.AbiNoEscape.same:=⟨_,func199,by kernel_rfl,by kernel_rfl,by kernel_rfl,by kernel_rfl⟩
theorem fQ:j5 prog 258 (Extern.BytealgMakeNoZero.makeNoZero (Func.params f258) (Func.resultTypes f258)):=⟨_,func258,by kernel_rfl,by kernel_rfl,by kernel_rfl,by kernel_rfl⟩
theorem lJ:j5 prog 145 Extern.ReflectliteType.typeOf:=⟨_,func145,by kernel_rfl,by kernel_rfl,by kernel_rfl,by kernel_rfl⟩
theorem mf:j5 prog 147 (Extern.SlicesOverlaps.overlaps (Func.params f147) (Func.resultTypes f147)):=⟨_,func147,by kernel_rfl,by kernel_rfl,by kernel_rfl,by kernel_rfl⟩
theorem Mx:qN prog:=⟨ "internal/reflectlite.rtype",by kernel_rfl⟩
theorem G8:qN (patch ae prog):=by
 unfold qN;rw[show(patch ae prog).cutTypes=(prog).cutTypes from congrArg Tables.cutTypes (Cw ae prog)];exact Mx
theorem Pt (t):typeHandle prog t=typeHandle (patch ae prog) t:=by
 unfold typeHandle;rw[zZ]
def Lp:List Nat:=[167,199,258,145]
theorem PE:pU Lp (patch ae prog) prog:=λg a=>by
 simp only[Lp,ZW,List.not_mem_nil,or_false]at a;rcases a with rfl|rfl|rfl|rfl
 .exact⟨_,bL pM (by rfl),pM,λ_ _ _ _ _ h=>af.jR h⟩
 .exact⟨_,bL iQ (by rfl),iQ,λ_ _ _ _ _ h=>af.Dj h⟩
 .exact⟨_,bL fQ (by rfl),fQ,λ_ _ _ _ _ h=>af.kT _ _ h⟩
 .exact⟨_,bL lJ (by rfl),lJ,λ_ _ _ _ _ h=>af.Bn G8 Mx Pt h⟩
theorem NM:pU Lp (patch ae prog) (patch ae prog):=λg a=>by
 simp only[Lp,ZW,List.not_mem_nil,or_false]at a;rcases a with rfl|rfl|rfl|rfl
 .exact⟨_,bL pM (by rfl),bL pM (by rfl),λ_ _ _ _ _ h=>af.jR h⟩
 .exact⟨_,bL iQ (by rfl),bL iQ (by rfl),λ_ _ _ _ _ h=>af.Dj h⟩
 .exact⟨_,bL fQ (by rfl),bL fQ (by rfl),λ_ _ _ _ _ h=>af.kT _ _ h⟩
 .exact⟨_,bL lJ (by rfl),bL lJ (by rfl),λ_ _ _ _ _ h=>af.Bn G8 G8 (λ_=>rfl) h⟩
theorem NF:dw [147] (patch ae prog) prog:=λg a=>by
 obtain rfl:=List.mem_singleton.1 a;exact⟨_,bL mf (by rfl),mf,λ_ _ _ _ _ b h=>af.overlaps b _ _ h,λ_ _ _ _ _ h=>bC.overlaps _ _ h⟩
theorem Le:dw [147] (patch ae prog) (patch ae prog):=λg a=>by
 obtain rfl:=List.mem_singleton.1 a;exact⟨_,bL mf (by rfl),bL mf (by rfl),λ_ _ _ _ _ b h=>af.overlaps b _ _ h,λ_ _ _ _ _ h=>bC.overlaps _ _ h⟩
def RB:List Nat:=[77,78,80,81,83,127,128,129,130,131,132,134,135,136,141,142,143,144,157,163,166,169,170,173,174,175,176,177,178,179,192,200,201,202,203,214,215,226,227,228,229,230,231,232,233,245,247,257,259,260,261,262,267,269,270,278,279,280,281,284,285]
def lX:List Nat:=88::RB
def PD:List Nat:=[167,199,258]
def QD:List Nat:=[4,5,12,13,3,7,8,9,10,11]
def LD:iG:={fns:=lX,sp:=[],mark:=λ_=>false,sg:=id,root:=1000000,rt:=0,jh:=false,dd:=[],kd:=.normal,pv:=λ_=>false,okF:=λ_ _=>True,gl:=QD,ext:=PD,hx:=[],rx:=[],ID:=true,sd:=true}
def uP:iG:={fns:=RB,sp:=[],mark:=λ_=>false,sg:=id,root:=88,rt:=1000000,jh:=true,dd:=[],kd:=.normal,pv:=λ_=>false,okF:=λ_ _=>True,gl:=QD,ext:=PD,hx:=[],rx:=[],ID:=true,sd:=true}
theorem NT:j6 uP:=⟨λ_ _=>rfl,λ_=>rfl,λ_=>rfl,λ_=>rfl,λ_ h=>Bool.noConfusion h,λ_ _ _ _ _=>trivial,λ_ _ _ _ _ _ _ _ _=>trivial⟩
theorem PU:j6 LD:=⟨λ_ _=>rfl,λ_=>rfl,λ_=>rfl,λ_=>rfl,λ_ h=>Bool.noConfusion h,λ_ _ _ _ _=>trivial,λ_ _ _ _ _ _ _ _ _=>trivial⟩
theorem JZ:pU PD prog prog:=λg a=>by
 simp only[PD,ZW,List.not_mem_nil,or_false]at a;rcases a with rfl|rfl|rfl
 .exact⟨_,pM,pM,λ_ _ _ _ _ h=>af.jR h⟩
 .exact⟨_,iQ,iQ,λ_ _ _ _ _ h=>af.Dj h⟩
 .exact⟨_,fQ,fQ,λ_ _ _ _ _ h=>af.kT _ _ h⟩
theorem Tc:∀g∈RB,X3 LD uP prog g:=
 all_cons (bu func77 (by kernel_rfl))<|
 all_cons (bu func78 (by kernel_rfl))<|
 all_cons (bu func80 (by kernel_rfl))<|
 all_cons (bu func81 (by kernel_rfl))<|
 all_cons (bu func83 (by kernel_rfl))<|
 all_cons (bu func127 (by kernel_rfl))<|
 all_cons (bu func128 (by kernel_rfl))<|
 all_cons (bu func129 (by kernel_rfl))<|
 all_cons (bu func130 (by kernel_rfl))<|
 all_cons (bu func131 (by kernel_rfl))<|
 all_cons (bu func132 (by kernel_rfl))<|
 all_cons (bu func134 (by kernel_rfl))<|
 all_cons (bu func135 (by kernel_rfl))<|
 all_cons (bu func136 (by kernel_rfl))<|
 all_cons (bu func141 (by kernel_rfl))<|
 all_cons (bu func142 (by kernel_rfl))<|
 all_cons (bu func143 (by kernel_rfl))<|
 all_cons (bu func144 (by kernel_rfl))<|
 all_cons (bu func157 (by kernel_rfl))<|
 all_cons (bu func163 (by kernel_rfl))<|
 all_cons (bu func166 (by kernel_rfl))<|
 all_cons (bu func169 (by kernel_rfl))<|
 all_cons (bu func170 (by kernel_rfl))<|
 all_cons (bu func173 (by kernel_rfl))<|
 all_cons (bu func174 (by kernel_rfl))<|
 all_cons (bu func175 (by kernel_rfl))<|
 all_cons (bu func176 (by kernel_rfl))<|
 all_cons (bu func177 (by kernel_rfl))<|
 all_cons (bu func178 (by kernel_rfl))<|
 all_cons (bu func179 (by kernel_rfl))<|
 all_cons (bu func192 (by kernel_rfl))<|
 all_cons (bu func200 (by kernel_rfl))<|
 all_cons (bu func201 (by kernel_rfl))<|
 all_cons (bu func202 (by kernel_rfl))<|
 all_cons (bu func203 (by kernel_rfl))<|
 all_cons (bu func214 (by kernel_rfl))<|
 all_cons (bu func215 (by kernel_rfl))<|
 all_cons (bu func226 (by kernel_rfl))<|
 all_cons (bu func227 (by kernel_rfl))<|
 all_cons (bu func228 (by kernel_rfl))<|
 all_cons (bu func229 (by kernel_rfl))<|
 all_cons (bu func230 (by kernel_rfl))<|
 all_cons (bu func231 (by kernel_rfl))<|
 all_cons (bu func232 (by kernel_rfl))<|
 all_cons (bu func233 (by kernel_rfl))<|
 all_cons (bu func245 (by kernel_rfl))<|
 all_cons (bu func247 (by kernel_rfl))<|
 all_cons (bu func257 (by kernel_rfl))<|
 all_cons (bu func259 (by kernel_rfl))<|
 all_cons (bu func260 (by kernel_rfl))<|
 all_cons (bu func261 (by kernel_rfl))<|
 all_cons (bu func262 (by kernel_rfl))<|
 all_cons (bu func267 (by kernel_rfl))<|
 all_cons (bu func269 (by kernel_rfl))<|
 all_cons (bu func270 (by kernel_rfl))<|
 all_cons (bu func278 (by kernel_rfl))<|
 all_cons (bu func279 (by kernel_rfl))<|
 all_cons (bu func280 (by kernel_rfl))<|
 all_cons (bu func281 (by kernel_rfl))<|
 all_cons (bu func284 (by kernel_rfl))<|
 all_cons (bu func285 (by kernel_rfl))<|
 all_nil
theorem Ws:∀g∈RB,PB uP prog prog g:=λg a=>let ⟨_,h,_,k⟩:=Tc g a;KR h h k
theorem Ye:∀g∈lX,PB LD prog prog g:=all_cons (KR func88 func88 (by kernel_rfl)) λg a=>let ⟨_,h,k,_⟩:=Tc g a;KR h h k
theorem MK:aH LD prog prog:=
 aH.of PU JZ fU.nil dw.nil (λg a=>by
  have h:(dS.all λg=>lX.contains g)=true:=by kernel_rfl
  have:=ZU.1 h g a;exact List.mem_of_elem_eq_true this) lX (λg=>⟨.inl,λh=>h.elim id λh=>by cases h⟩) (λg a=>by cases a) (λg a e=>by
  subst e;exact absurd a (of_decide_eq_true (show decide (¬1000000∈lX)=true by kernel_rfl))) Ye (λg a=>by cases a)
theorem Pb:aH uP prog prog:=
 aH.of NT JZ fU.nil dw.nil (λg a=>by
  have h:(dS.all λg=>RB.contains g)=true:=by kernel_rfl
  have:=ZU.1 h g a;exact List.mem_of_elem_eq_true this) RB (λg=>⟨.inl,λh=>h.elim id λh=>by cases h⟩) (λg a=>by cases a) (λg a e=>by
  have b:g=88:=e;subst b;exact absurd a (of_decide_eq_true (show decide (¬88∈RB)=true by kernel_rfl))) Ws (λg a=>by cases a)
theorem Kq:∃c,Func.body f88=some c/\bA uP prog 88 c=true/\uq uP c=c/\(∃k,Func.results f88= #[.tmp k]):=⟨_,rfl,by kernel_rfl,by kernel_rfl,_,rfl⟩
theorem QY:Func.ntmps f88<1000:=of_decide_eq_true (by kernel_rfl)
theorem Qs:Twin prog prog:=jD prog.toTables _ prog.funcs lH FV
end
section
open Go.RowKit
structure After (W:World) where
 val:World
 later:Below W.heap.size W val
theorem After.cell {W}(x:After W){b o}(h:b<W.heap.size):x.val.cell? ⟨b,o,none⟩=W.cell? ⟨b,o,none⟩:=x.later.cell (p:=⟨b,o,none⟩) h
theorem After.frozen {W}(x:After W){b o}(h:b<W.heap.size):x.val.frozen? ⟨b,o,none⟩=W.frozen? ⟨b,o,none⟩:=x.later.frozen (p:=⟨b,o,none⟩) h
theorem After.const {W}{p}:(After W->p)↔p:=⟨λh=>h ⟨W,Below.refl _ _⟩,λh _=>h⟩
theorem rR {W w1}(hb:Below W.heap.size W w1):(∀b o,b<W.heap.size->w1.cell? ⟨b,o,none⟩=W.cell? ⟨b,o,none⟩)/\(∀b o,b<W.heap.size->w1.frozen? ⟨b,o,none⟩=W.frozen? ⟨b,o,none⟩):=
 ⟨λb o h=>hb.cell (p:=⟨b,o,none⟩) h,λb o h=>hb.frozen (p:=⟨b,o,none⟩) h⟩
theorem ai {a b c}(h:Below a.heap.size a b)(k:Below b.heap.size b c):Below a.heap.size a c:=h.trans (k.mono h.size)
theorem dx {P}{id}{Q}{a}{w}{l}(hm:P.follows .mixedOrders=true)(b:Region.lexB .any l.toArray=true)
 (h:wpQuiet P l.toArray (λw'=>∃x:After w,w'=x.val) (λa'=>∀w',(∃x:After w,w'=x.val)->Q .normal a' w') l a):(Code.region id l.toArray true).wp P Q a w:=
 wp_region_quiet (C:=λw'=>∃x:After w,w'=x.val) hm b ⟨⟨w.drew,(Below.refl _ _).drew⟩,rfl⟩ (by simpa using h)
theorem Calls.after {P}{f}{args}{W}{x:After W}{v}
 (h:Calls P f args x.val λe w'=>e=.returned v/\Below x.val.heap.size x.val w'):Calls P f args x.val λe a=>e=.returned v/\∃y:After W,a=y.val:=
 h.mono λ_ w' ⟨he,hm⟩=>⟨he,⟨w',ai x.later hm⟩,rfl⟩
def lg (P:Prop)(e:Ending):Prop:=∃r:Bool,e=.returned (.bool r)/\(r=true↔P)
theorem lg.yes {P}(h:P):lg P (.returned (.bool true)):=⟨true,rfl,by simp[h]⟩
theorem lg.no {P}(h:¬P):lg P (.returned (.bool false)):=⟨false,rfl,by simp[h]⟩
theorem lg.fP {P}{e}(h:lg P e)(hp:P):e=.returned (.bool true):=by
 obtain⟨r,rfl,a⟩:=h;rw[a.2 hp]
theorem lg.gJ {P}{e}(h:lg P e)(hp:¬P):e=.returned (.bool false):=by
 obtain⟨r,rfl,a⟩:=h;cases r
 .rfl
 .exact absurd (a.1 rfl) hp
theorem Calls.iU {P}{f}{args}{W}{x:After W}{A}(hA:A)
 (h:Calls P f args x.val λe w'=>lg A e/\Below x.val.heap.size x.val w'):Calls P f args x.val λe a=>e=.returned (.bool true)/\∃y:After W,a=y.val:=
 Calls.after (h.mono λ_ _ ⟨he,hm⟩=>⟨he.fP hA,hm⟩)
theorem Calls.oC {P}{f}{args}{W}{x:After W}{A}(hA:¬A)
 (h:Calls P f args x.val λe w'=>lg A e/\Below x.val.heap.size x.val w'):Calls P f args x.val λe a=>e=.returned (.bool false)/\∃y:After W,a=y.val:=
 Calls.after (h.mono λ_ _ ⟨he,hm⟩=>⟨he.gJ hA,hm⟩)
def place (s n c:Int):Prop:=0<=s/\s<4/\0<=n/\n<4/\0<=c/\c<24
def zn (s n c s' a b:Int):Prop:=¬(c=b/\n≠a)/\(n≠a\/s=s')
def nI (S N C:Nat->Int)(n:Nat):Prop:=∀i,i<n->place (S i) (N i) (C i)/\∀j,j<i->zn (S i) (N i) (C i) (S j) (N j) (C j)
def o7 (n:Nat)(R:Nat->Int)(r:Nat):Prop:=∀i,i<r->0<=R i/\R i<n/\(0<i->R (i-1)<R i)
def Uf (n:Nat)(S N C:Nat->Int)(r:Nat)(R:Nat->Int)(p:Int):Prop:=1<=n/\n<=24/\nI S N C n/\o7 n R r/\0<=p/\p<=3
def dK (w:World)(b o n:Nat)(S N C:Nat->Int):Prop:=
 ∀i,i<n->w.cell? ⟨b,o+i*3,none⟩=some (.int .i64 (S i))/\w.cell? ⟨b,o+i*3+1,none⟩=some (.int .i64 (N i))/\w.cell? ⟨b,o+i*3+2,none⟩=some (.int .i64 (C i))
def gM (w:World)(b o n:Nat)(R:Nat->Int):Prop:=∀i,i<n->w.cell? ⟨b,o+i,none⟩=some (.int .i64 (R i))
theorem dK.ext {w w'}{b o n}{S N C}(h:dK w b o n S N C)(hb:Below w.heap.size w w'):dK w' b o n S N C:=λi d=>by
 obtain⟨c,f,e⟩:=h i d;have a:b<w.heap.size:=block_lt_of_cell c;exact⟨(hb.cell (p:=⟨b,_,none⟩) a).trans c,(hb.cell (p:=⟨b,_,none⟩) a).trans f,(hb.cell (p:=⟨b,_,none⟩) a).trans e⟩
theorem gM.ext {w w'}{b o n}{R}(h:gM w b o n R)(hb:Below w.heap.size w w'):gM w' b o n R:=λi d=>by
 have c:=h i d;have a:b<w.heap.size:=block_lt_of_cell c;exact(hb.cell (p:=⟨b,_,none⟩) a).trans c
theorem dK.after {w W}{b o n}{S N C}(h:dK w b o n S N C)(hb:Below w.heap.size w W)(x:After W):dK x.val b o n S N C:=h.ext (ai hb x.later)
theorem dK.mono {w}{b o n m}{S N C}(h:dK w b o n S N C)(hm:m<=n):dK w b o m S N C:=λi a=>h i (by omega)
theorem tO (s n c s' a b)(w):
 Calls prog 181 #[.agg #[.int .i64 s,.int .i64 n,.int .i64 c],.agg #[.int .i64 s',.int .i64 a,.int .i64 b]] w λe w'=>
  lg (zn s n c s' a b) e/\Below w.heap.size w w':=by
 by_cases hc:c=b<;>by_cases d:n=a<;>by_cases hs:s=s'<;>(
  go_enter func181,ntmps181
  go_wp2;go_ret;exact⟨⟨_,rfl,by simp[zn,hc,d,hs]⟩,((Below.refl _ _).alloc (ZL _) _).alloc (by simp) _⟩)
theorem eu (s n c)(b o k cap)(S N C)(w)(E:k<=9223372036854775807)(hcell:dK w b o k S N C):
 Calls prog 150 #[.agg #[.int .i64 s,.int .i64 n,.int .i64 c],.slice (some ⟨b,o,none⟩) k cap] w λe w'=>
  lg ((∀i,i<k->zn s n c (S i) (N i) (C i))) e/\Below w.heap.size w w':=by
 go_enter func150,ntmps150
 go_wp2
 go_loopw [9] (λi wr=>∃j:Nat,j<=k/\i=.int .i64 j/\Below w.heap.size w wr/\wr.cell? ⟨w.heap.size,0,none⟩=some (.int .i64 s)/\wr.cell? ⟨w.heap.size,1,none⟩=some (.int .i64 n)/\wr.cell? ⟨w.heap.size,2,none⟩=some (.int .i64 c)/\∀i,i<j->zn s n c (S i) (N i) (C i))
  (λi _=>k-(intOf i).toNat)
 case atStart=>exact⟨0,Nat.zero_le _,rfl,(Below.refl _ _).alloc (ZL _) _,by simp,by simp,by simp,λi v=>absurd v (ZV _)⟩
 case round=>
  obtain⟨j,F,rfl,hb,x,D,B,d⟩:=hrel;have z:Hid (∀i,i<j->zn s n c (S i) (N i) (C i)):=d;clear d;have l:w.heap.size<wr.heap.size:=block_lt_of_cell x
  by_cases q:j<k
  .obtain⟨c0,y,c2⟩:=hcell j q
   have m:b<w.heap.size:=block_lt_of_cell c0;have c0:=(hb.cell (p:=⟨b,o+j*3,none⟩) m).trans c0;have y:=(hb.cell (p:=⟨b,o+j*3+1,none⟩) m).trans y;have c2:=(hb.cell (p:=⟨b,o+j*3+2,none⟩) m).trans c2;go_wp2_with fail;refine(tO s n c (S j) (N j) (C j) _).mono ?_;rintro e w1 ⟨⟨r,rfl,u⟩,t⟩;have a:Below w.heap.size w w1:=(hb.alloc (by omega) _).trans (t.mono (by simp;omega));obtain⟨g,A⟩:=rR t;cases r
   .have f:Hid (¬zn s n c (S j) (N j) (C j)):=λh=>by simp[h]at u
    clear u;go_wp2;go_ret;exact⟨.no (λh=>f.out (h j q)),a⟩
   .have f:Hid (zn s n c (S j) (N j) (C j)):=u.1 rfl
    clear u;go_wp2;go_roundw
    case rel=>exact⟨j+1,by omega,by go_num,a,by rw[g _ _ (by simp;omega)];simpa[World.cell?_alloc_past _ _ _ l] using x,by rw[g _ _ (by simp;omega)];simpa[World.cell?_alloc_past _ _ _ l] using D,by rw[g _ _ (by simp;omega)];simpa[World.cell?_alloc_past _ _ _ l] using B,λi v=>by
     rcases Nat.lt_succ_iff_lt_or_eq.1 v with h|h
     .exact z.out i h
     .subst h;exact f.out⟩
    case measure=>simp[intOf];omega
  .have:j=k:=by omega
   subst this;go_wp2;go_ret;exact⟨.yes z.out,hb⟩
theorem dF (s n c)(w):
 Calls prog 149 #[.agg #[.int .i64 s,.int .i64 n,.int .i64 c]] w λe w'=>
  lg (place s n c) e/\Below w.heap.size w w':=by
 go_enter func149,ntmps149
 go_wp2
 all_goals(go_ret;exact⟨⟨_,rfl,by simp only[place];simp;omega⟩,(Below.refl _ _).alloc (ZL _) _⟩)
theorem dR (ao)(b o k cap n:Nat)(R)(w)(x:k<=9223372036854775807)(v:n<=24)(u:0<k->ao=some ⟨b,o,none⟩)(hcell:gM w b o k R):
 Calls prog 94 #[.slice ao k cap,.int .i64 n] w λe w'=>
  lg (o7 n R k) e/\w'=w:=by
 go_enter func94,ntmps94
 go_wp2
 go_loop [5,10] (λl i=>∃j:Nat,∃last:Int,j<=k/\i=.int .i64 j/\l=.int .i64 last/\-1<=last/\last<24/\(last=if j=0 then -1 else R (j-1))/\o7 n R j)
  (λ_ i=>k-(intOf i).toNat)
 case atStart=>exact⟨0,-1,Nat.zero_le _,rfl,rfl,by omega,by omega,rfl,λi p=>absurd p (ZV _)⟩
 case round=>
  obtain⟨j,last,y,rfl,rfl,t,s,f,d⟩:=hrel;have g:Hid (o7 n R j/\last=if j=0 then -1 else R (j-1)):=⟨d,f⟩;clear d f
  by_cases c:j<k
  .have c0:=hcell j c
   have q:=u (by omega);subst q
   by_cases A:R j<=last
   .go_wp2
    go_ret;refine⟨.no λh=>?_,rfl⟩;have r:=h j c;have a:=g.out.2
    by_cases m:j=0
    .subst m;simp at a;omega
    .rw[if_neg m]at a;have:=r.2.2 (by omega);omega
   .by_cases z:(n:Int)<=R j
    .go_wp2
     go_ret;refine⟨.no λh=>?_,rfl⟩;have r:=h j c;omega
    .go_wp2
     go_round
     case rel=>exact⟨j+1,R j,by omega,by go_num,rfl,by omega,by omega,by simp,λi p=>by
      rcases Nat.lt_succ_iff_lt_or_eq.1 p with h|h
      .exact g.out.1 i h
      .subst h
       refine⟨by omega,by omega,λm=>?_⟩;have a:=g.out.2;rw[if_neg (by omega)]at a;omega⟩
     case measure=>simp[intOf];omega
  .have:j=k:=by omega
   subst this;go_wp2;go_ret;exact⟨.yes g.out.1,rfl⟩
attribute [local go_sem ↓] Go.wp_at_zero Go.wp_at_succ
attribute [local go_sem] After.cell After.frozen After.const
theorem eB (ao)(b o n cap)(S N C)(w)(A:n<=9223372036854775807)(hc:n<=cap)(x:0<n->ao=some ⟨b,o,none⟩)(hcell:dK w b o n S N C):
 Calls prog 93 #[.slice ao n cap] w λe w'=>
  lg (1<=n/\n<=24/\nI S N C n) e/\Below w.heap.size w w':=by
 by_cases v:n<1
 .have:n=0:=by omega
  subst this
  go_enter func93,ntmps93
  go_wp2;go_ret;exact⟨.no (by omega),Below.refl _ _⟩
 have m:=x (by omega);subst m
 by_cases r:24<n
 .go_enter func93,ntmps93
  go_wp2;go_ret;exact⟨.no (by omega),Below.refl _ _⟩
 go_enter func93,ntmps93
 go_wp2
 go_loopw [15] (λi wr=>∃j:Nat,j<=n/\i=.int .i64 j/\Below w.heap.size w wr/\nI S N C j) (λi _=>n-(intOf i).toNat)
 case atStart=>exact⟨0,Nat.zero_le _,rfl,Below.refl _ _,λi l=>absurd l (ZV _)⟩
 case round=>
  obtain⟨j,B,rfl,hb,g⟩:=hrel;have u:Hid (nI S N C j):=g;clear g;have z:=hb.size
  by_cases d:j<n
  .obtain⟨c0,s,c2⟩:=hcell j d
   have f:b<w.heap.size:=block_lt_of_cell c0;have t:Hid (dK wr b o j S N C):=(hcell.mono (by omega)).ext hb;have c0:=(hb.cell (p:=⟨b,o+j*3,none⟩) f).trans c0;have s:=(hb.cell (p:=⟨b,o+j*3+1,none⟩) f).trans s;have c2:=(hb.cell (p:=⟨b,o+j*3+2,none⟩) f).trans c2;have i0:(0:Int)<=(j:Int):=(by omega);have y:(j:Int)<=(cap:Int):=(by omega);clear hcell;have q:Hid (Below w.heap.size w wr):=hb
   by_cases hp:place (S j) (N j) (C j)
   .by_cases k:∀i,i<j->zn (S j) (N j) (C j) (S i) (N i) (C i)
    .have c:Hid (place (S j) (N j) (C j)/\∀i,i<j->zn (S j) (N j) (C j) (S i) (N i) (C i)):=⟨hp,k⟩
     clear hp k;go_wp2;refine dx (by kernel_rfl) (by kernel_rfl) ?_
     repeat(go_big_quiet_step (first
      |(go_at_call 149;exact Calls.iU c.out.1 (dF _ _ _ _))
      |(go_at_call 150;exact Calls.iU c.out.2 (eu (S j) (N j) (C j) b o j cap S N C _ (by omega) (t.out.after ((Below.refl _ _).alloc (ZL _) _) _)))))
     refine wpQuiet_nil ?_;rintro _ ⟨⟨w1,a⟩,rfl⟩;go_wp2;go_roundw
     case rel=>exact⟨j+1,by omega,by go_num,ai q.out (ai ((Below.refl _ _).alloc (ZL _) _) a),λi l=>by
      rcases Nat.lt_succ_iff_lt_or_eq.1 l with h|h
      .exact u.out i h
      .subst h;exact c.out⟩
     case measure=>simp[intOf];omega
    .have c:Hid (place (S j) (N j) (C j)/\¬∀i,i<j->zn (S j) (N j) (C j) (S i) (N i) (C i)):=⟨hp,k⟩
     clear hp k;go_wp2;refine dx (by kernel_rfl) (by kernel_rfl) ?_
     repeat(go_big_quiet_step (first
      |(go_at_call 149;exact Calls.iU c.out.1 (dF _ _ _ _))
      |(go_at_call 150;exact Calls.oC c.out.2 (eu (S j) (N j) (C j) b o j cap S N C _ (by omega) (t.out.after ((Below.refl _ _).alloc (ZL _) _) _)))))
     refine wpQuiet_nil ?_;rintro _ ⟨⟨w1,a⟩,rfl⟩;go_wp2;go_ret;exact⟨.no λh=>c.out.2 (h.2.2 j d).2,ai q.out (ai ((Below.refl _ _).alloc (ZL _) _) a)⟩
   .have c:Hid (¬place (S j) (N j) (C j)):=hp
    clear hp;go_wp2;refine dx (by kernel_rfl) (by kernel_rfl) ?_
    repeat(go_big_quiet_step (first
     |(go_at_call 149;exact Calls.oC c.out (dF _ _ _ _))))
    refine wpQuiet_nil ?_;rintro _ ⟨⟨w1,a⟩,rfl⟩;go_wp2;go_ret;exact⟨.no λh=>c.out (h.2.2 j d).1,ai q.out (ai ((Below.refl _ _).alloc (ZL _) _) a)⟩
  .have:j=n:=by omega
   subst this;go_wp2;go_ret;exact⟨.yes ⟨by omega,by omega,u.out⟩,hb⟩
structure cz where
 ao:Option Addr
 b:Nat
 o:Nat
 n:Nat
 cap:Nat
 S:Nat->Int
 N:Nat->Int
 C:Nat->Int
 ro:Option Addr
 rb:Nat
 rp:Nat
 r:Nat
 gD:Nat
 R:Nat->Int
 p:Int
def cz.val (m:cz):Value:=.agg #[.slice m.ao m.n m.cap,.slice m.ro m.r m.gD,.int .i64 m.p]
structure cz.At (m:cz)(w:World):Prop where
 qW:m.n<=m.cap
 Ig:m.n*24<=140737488355328
 addr:0<m.n->m.ao=some ⟨m.b,m.o,none⟩
 dA:dK w m.b m.o m.n m.S m.N m.C
 rc:m.r<=m.gD
 Hg:m.r*8<=140737488355328
 mQ:0<m.r->m.ro=some ⟨m.rb,m.rp,none⟩
 ints:gM w m.rb m.rp m.r m.R
theorem cz.At.ext {m:cz}{w w'}(h:m.At w)(hb:Below w.heap.size w w'):m.At w':=⟨h.qW,h.Ig,h.addr,h.dA.ext hb,h.rc,h.Hg,h.mQ,h.ints.ext hb⟩
def cz.ok (m:cz):Prop:=Uf m.n m.S m.N m.C m.r m.R m.p
theorem AM (m:cz)(w)(hm:m.At w):
 Calls prog 60 #[m.val] w λe w'=>lg m.ok e/\Below w.heap.size w w':=by
 obtain⟨ao,b,o,n,cap,S,N,C,ro,rb,rp,r,gD,R,p⟩:=m;obtain⟨qW,Ig,addr,dA,rc,Hg,mQ,ints⟩:=hm;simp only[cz.val,cz.ok]at*;have f:Hid (gM w rb rp r R):=ints;have d:Hid (dK w b o n S N C):=dA;clear ints dA
 by_cases i:1<=n/\n<=24/\nI S N C n
 .have q:n<=24:=i.2.1
  by_cases l:o7 n R r
  .have g:Hid ((1<=n/\n<=24/\nI S N C n)/\o7 n R r):=⟨i,l⟩
   clear i l
   go_enter func60,ntmps60
   go_wp2_with(first
        |(go_at_call 93;refine(eB ao b o n cap S N C _ (by omega) qW addr (d.out.ext ((Below.refl _ _).alloc (ZL _) _))).mono ?_;rintro e w1 ⟨he,c⟩;obtain rfl:=he.fP g.out.1;clear he;obtain⟨k,j⟩:=rR c;have a:=ai ((Below.refl _ _).alloc (ZL _) _) c)
        |(go_at_call 94;refine(dR ro rb rp r gD n R _ (by omega) q mQ (f.out.ext a)).mono ?_;rintro e w2 ⟨he,rfl⟩;obtain rfl:=he.fP g.out.2;clear he))
   all_goals(go_ret;refine⟨⟨_,rfl,?_⟩,a⟩;simp only[Uf];simp[g.out.1,g.out.2];omega)
  .have g:Hid ((1<=n/\n<=24/\nI S N C n)/\¬o7 n R r):=⟨i,l⟩
   clear i l
   go_enter func60,ntmps60
   go_wp2_with(first
        |(go_at_call 93;refine(eB ao b o n cap S N C _ (by omega) qW addr (d.out.ext ((Below.refl _ _).alloc (ZL _) _))).mono ?_;rintro e w1 ⟨he,c⟩;obtain rfl:=he.fP g.out.1;clear he;obtain⟨k,j⟩:=rR c;have a:=ai ((Below.refl _ _).alloc (ZL _) _) c)
        |(go_at_call 94;refine(dR ro rb rp r gD n R _ (by omega) q mQ (f.out.ext a)).mono ?_;rintro e w2 ⟨he,rfl⟩;obtain rfl:=he.gJ g.out.2;clear he))
   go_ret;exact⟨.no λh=>g.out.2 h.2.2.2.1,a⟩
 .have g:Hid (¬(1<=n/\n<=24/\nI S N C n)):=i
  clear i
  go_enter func60,ntmps60
  go_wp2_with(go_at_call 93;refine(eB ao b o n cap S N C _ (by omega) qW addr (d.out.ext ((Below.refl _ _).alloc (ZL _) _))).mono ?_;rintro e w1 ⟨he,c⟩;obtain rfl:=he.gJ g.out;clear he;obtain⟨k,j⟩:=rR c;have a:=ai ((Below.refl _ _).alloc (ZL _) _) c);go_ret;exact⟨.no λh=>g.out ⟨h.1,h.2.1,h.2.2.1⟩,a⟩
def among (R:Nat->Int)(k:Nat)(x:Int):Prop:=∃i,i<k/\R i=x
end
