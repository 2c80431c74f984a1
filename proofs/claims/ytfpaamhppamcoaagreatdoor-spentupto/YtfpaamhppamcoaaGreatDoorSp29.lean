/- Part 29 of the proof. -/
import Derived.Test.YtfpaamhppamcoaaGreatDoorSp28
set_option linter.all false
set_option maxRecDepth 100000
set_option maxHeartbeats 60000000
namespace Go.Proofs.YtfpaamhppamcoaaGreatDoor
open Go.Proofs.Tryz
namespace Z
open Go.RowKit
attribute [local go_sem ↓] Go.wp_at_zero Go.wp_at_succ
attribute [local go_sem] After.cell After.frozen After.const
theorem judgeRB_any (D)(B)(c)(t22 t23)(w)(hb:aW w B D)(C:D.ok):
 (rest4 ((eD 340 f42).body.getD .skip)).wp (patch ae prog) (bodyPost (patch ae prog) (eD 340 f42) (fun|.returned v,w'=>dm (λi=>vdB D i (c i)) c w v w'/\Below w.heap.size w w'|_,_=>False))
  ⟨#[ptr B,.agg (aQ c),undef,undef,undef,undef,undef,undef,undef,undef,undef,undef,undef,undef,undef,undef,undef,undef,undef,undef,undef,undef,t22,t23,undef,undef,undef,undef],[]⟩ w:=by
 have t:(eD 340 f42).results= #[.tmp 4]:=by kernel_rfl
 generalize V:bodyPost (patch ae prog) (eD 340 f42) _=Q;simp only[eD,judgeBody,rest4,f42,Option.getD_some,Option.map_some,aQ,bg,bX];unfold ptr;have H:Hid (aW w B D/\D.ok/\bodyPost (patch ae prog) (eD 340 f42) (fun|.returned v,w'=>dm (λi=>vdB D i (c i)) c w v w'/\Below w.heap.size w w'|_,_=>False)=Q):=⟨hb,C,V⟩;have S:=λW:World=>make_verd W
 go_wp2_with fail;obtain⟨W,hW⟩:∃W,W=(((((w.alloc (.cells #[.pointer (some ⟨B,0,none⟩)] 31)).alloc (.cells #[.int .i64 (c 0),.int .i64 (c 1),.int .i64 (c 2),.int .i64 (c 3)] 37)).alloc (.cells dQ 91)).alloc (.cells #[.slice (some ⟨w.heap.size+1+1,0,none⟩) 4 4] 87)).alloc (.cells #[.int .u64 0,.int .u32 0] 130)):=⟨_,rfl⟩
 have p:Hid (W.heap[w.heap.size]? =some (.cells #[.pointer (some ⟨B,0,none⟩)] 31 (0,0))/\W.heap[w.heap.size+1+1]? =some (.cells dQ 91 (0,0))/\W.heap[w.heap.size+1+1+1]? =some (.cells #[.slice (some ⟨w.heap.size+1+1,0,none⟩) 4 4] 87 (0,0))/\Below w.heap.size w W/\W.heap.size=w.heap.size+5):=by
  rw[hW];refine⟨?_,?_,?_,?_,by simp⟩
  .rw[aac _ _ _ (by simp;omega),aac _ _ _ (by simp;omega),aac _ _ _ (by simp;omega),aac _ _ _ (by simp)]
   exact aae _ _
  .rw[aac _ _ _ (by simp),aac _ _ _ (by simp)]
   have:=aae ((w.alloc (.cells #[.pointer (some ⟨B,0,none⟩)] 31)).alloc (.cells #[.int .i64 (c 0),.int .i64 (c 1),.int .i64 (c 2),.int .i64 (c 3)] 37)) (.cells dQ 91);simpa using this
  .rw[aac _ _ _ (by simp)]
   have:=aae (((w.alloc (.cells #[.pointer (some ⟨B,0,none⟩)] 31)).alloc (.cells #[.int .i64 (c 0),.int .i64 (c 1),.int .i64 (c 2),.int .i64 (c 3)] 37)).alloc (.cells dQ 91)) (.cells #[.slice (some ⟨w.heap.size+1+1,0,none⟩) 4 4] 87);simpa using this
  .exact((((((aab _ _).alloc (ZL _) _).alloc (by simp) _).alloc (by simp;omega) _).alloc (by simp;omega) _).alloc (by simp;omega) _)
 rw[<-hW]
 go_loopw [11] (λi wr=>∃k:Nat,k<=4/\i=.int .i64 k/\wr.rowIs (w.heap.size+1+1) 91 68 (vrow D c k)/\(∀b,b<W.heap.size->b≠w.heap.size+1+1->wr.heap[b]? =W.heap[b]?)/\Below w.heap.size w wr/\W.heap.size<=wr.heap.size) (λi _=>4-(intOf i).toNat)
 case atStart=>exact⟨0,by omega,rfl,zeroRow_rowIs p.out.2.1 D c,λ_ _ _=>rfl,p.out.2.2.2.1,ZL _⟩
 case round=>
  obtain⟨k,hk,rfl,s,E,hb,A⟩:=hrel;have d:Hid (wr.rowIs (w.heap.size+1+1) 91 68 (vrow D c k)/\(∀b,b<W.heap.size->b≠w.heap.size+1+1->wr.heap[b]? =W.heap[b]?)/\Below w.heap.size w wr/\W.heap.size<=wr.heap.size):=⟨s,E,hb,A⟩
  by_cases m:k<4
  .have T:=index_ints c k m
   by_cases hc:0<c k
   .have x:Hid (aW ((wr.alloc (.cells #[.int .i64 (k:Int)] 3)).alloc (.cells #[.int .i64 (c k)] 3)) B D/\((wr.alloc (.cells #[.int .i64 (k:Int)] 3)).alloc (.cells #[.int .i64 (c k)] 3)).cell? ⟨w.heap.size,0,none⟩=some (ptr B)/\
     ((wr.alloc (.cells #[.int .i64 (k:Int)] 3)).alloc (.cells #[.int .i64 (c k)] 3)).cell? ⟨wr.heap.size,0,none⟩=some (.int .i64 k)/\((wr.alloc (.cells #[.int .i64 (k:Int)] 3)).alloc (.cells #[.int .i64 (c k)] 3)).cell? ⟨wr.heap.size+1,0,none⟩=some (.int .i64 (c k))):=by
     have a:Below wr.heap.size wr ((wr.alloc (.cells #[.int .i64 (k:Int)] 3)).alloc (.cells #[.int .i64 (c k)] 3)):=((aab _ _).alloc (ZL _) _).alloc (by simp) _;have z5:=p.out.2.2.2.2;refine⟨aW.below (aW.below H.out.1 d.out.2.2.1) a,?_,?_,?_⟩
     .exact keeps a ((blk ((d.out.2.1 w.heap.size (by omega) (by omega)).trans p.out.1)).1 0)
     .exact(blk (aap wr _ _)).1 0
     .exact(blk (aam wr _ _)).1 0
    obtain⟨vs,f⟩:∃vs,vs=eF (dz D k (dL D k)) (dz D k (gq D k)) (c k):=⟨_,rfl⟩;have r:vs.size=17:=(by rw[f,jB]);have z:vs.all (·.oneCell')=true:=(by rw[f];exact judge_all _ _ _);have y:((patch ae prog).info? 91).map (·.size)=some vs.size:=(by rw[r];exact iA);have g:=λx0 I=>workerB_any D B w.heap.size wr.heap.size (wr.heap.size+1) k (c k) x0 I _ x.out.1 H.out.2.1 m hc x.out.2.1 x.out.2.2.1 x.out.2.2.2
    rw[<-f]at g;have G:Hid (vs=eF (dz D k (dL D k)) (dz D k (gq D k)) (c k)):=f;clear f x;have N:Hid (∀x0 I,_):=g
    go_wp2_with(first
     |(go_at_call 69;refine(N.out _ _).mono ?_;intro e w2 he;cases e with|panicked _=>exact he.elim|outgrown=>exact he.elim|returned v=>?_;obtain⟨K,u⟩:=he;unfold o9 at K;subst K;have R2:=judge_kept d.out.1 u;have Y:=judge_there R2 m r;clear N)
     |refine wpList_store_mid rfl 91 _ _ rfl (w.heap.size+1+1) (k*17) vs rfl rfl Y y z ?_)
    have O:Hid (w2.rowIs (w.heap.size+1+1) 91 68 (vrow D c k)/\Below ((wr.alloc (.cells #[.int .i64 (k:Int)] 3)).alloc (.cells #[.int .i64 (c k)] 3)).heap.size ((wr.alloc (.cells #[.int .i64 (k:Int)] 3)).alloc (.cells #[.int .i64 (c k)] 3)) w2):=⟨R2,u⟩;go_roundw
    case rel=>
     have a:Below wr.heap.size wr ((wr.alloc (.cells #[.int .i64 (k:Int)] 3)).alloc (.cells #[.int .i64 (c k)] 3)):=((aab _ _).alloc (ZL _) _).alloc (by simp) _;have n:=ai a O.out.2;refine⟨k+1,by omega,by go_num,?_,λb hb l=>?_,?_,?_⟩
     .exact vrow_set O.out.1 hc G.out
     .exact(jset_other l _ _ _).trans ((n.block b (by omega)).trans (d.out.2.1 b hb l))
     .exact jset_below (by omega) _ _ _ (ai d.out.2.2.1 n)
     .rw[jset_size]
      have:=n.size;omega
    case measure=>simp[intOf];omega
   .have U:c k<=0:=by omega
    go_wp2_with fail;go_roundw
    case rel=>
     have a:Below wr.heap.size wr ((wr.alloc (.cells #[.int .i64 (k:Int)] 3)).alloc (.cells #[.int .i64 (c k)] 3)):=((aab _ _).alloc (ZL _) _).alloc (by simp) _;refine⟨k+1,by omega,by go_num,?_,λb hb l=>?_,ai d.out.2.2.1 a,?_⟩
     .exact(d.out.1.of_block (a.block _ d.out.1.lt)).congr λj _=>(vrow_miss hc j).symm
     .exact(a.block b (by omega)).trans (d.out.2.1 b hb l)
     .have:=a.size
      omega
    case measure=>simp[intOf];omega
  .have:k=4:=by omega
   subst this;obtain⟨q,Z⟩:=blk ((d.out.2.1 (w.heap.size+1+1+1) (by have:=p.out.2.2.2.2;omega) (by omega)).trans p.out.2.2.1);go_wp2_with fail;rw[<-H.out.2.2];refine bodyPost_ret (results_tmp t _ _ _) rfl ?_;obtain⟨cur,R,P,J⟩:=d.out.1;refine⟨⟨w.heap.size+1+1,cur,rfl,by omega,d.out.2.2.1.block,d.out.2.2.1.size,R,P,λi M hc o L=>?_,λi M hc o L=>?_⟩,d.out.2.2.1⟩
   .have F:(17*i+o)/17=i:=by omega
    have X:(17*i+o)%17=o:=(by omega);rw[J _ (by omega)];unfold vrow;rw[F,X,if_pos ⟨M,hc⟩];simp[vdB,eF,L]
   .have F:(17*i+o)/17=i:=by omega
    rw[J _ (by omega)];unfold vrow;rw[F,if_neg (λh=>hc h.2)]
theorem judgeR_any (D)(B)(c)(t22 t23)(w)(hb:aW w B D)(b:D.ok):
 (rest4 ((eD 340 f42).body.getD .skip)).wp (patch ae prog) (bodyPost (patch ae prog) (eD 340 f42) (fun|.returned v,w'=>dm (λi=>vdB D i (c i)) c w v w'|_,_=>False))
  ⟨#[ptr B,.agg (aQ c),undef,undef,undef,undef,undef,undef,undef,undef,undef,undef,undef,undef,undef,undef,undef,undef,undef,undef,undef,undef,t22,t23,undef,undef,undef,undef],[]⟩ w:=by
 refine Code.wp_mono ?_ (judgeRB_any D B c t22 t23 w hb b);rintro e a u h;cases e with
 |normal=>exact⟨h.1,h.2.choose,h.2.choose_spec.1,h.2.choose_spec.2.1⟩
 |ret=>exact⟨h.1,h.2.choose,h.2.choose_spec.1,h.2.choose_spec.2.1⟩
 |panic ch=>exact h.2.elim
 |_=>exact h
end Z
section
open Go Go.Conc Go.ConcN
theorem drive_leaf {st}{P Q}{K}{C}{R}{Iv:Rel st->World->Prop}(α:∀p u d,Iv p u->Iv p (u.at d))(Z:∀p q u u',Iv p u->dE K p q u u'->Iv q u')(hz:dM P)(hp:aH C P Q)(tw:Twin P Q)(M:C.sd=false\/¬st)(U:∀o,C.mark o=false)(O:C.sp=[]){cs}
 {a}{ZJ}{w}(ht:Tree P R a ZJ w):∀(p:Rel st) (b:Frame) (bs:List Frame) (gs:Array Goroutine) (u:World) (sl:Option (Nat×Nat)) (t:Trace) (q:Nat->Nat) (S:Nat->Prop),Live C P p a ZJ b bs->WR P.globals.size K p w u->gs[0]? =some (df b (bs++cs))->ni Q S gs u.heap.size t q->(∀b c,p b c->¬S c)->Iv p u->
  ∃(N:Nat) (i:Array Goroutine) (u':World) (j:Option (Nat×Nat)) (s:Trace) (z:Nat->Nat) (g:Rel st) (a' l:Frame) (w':World),runNT Q N (crowd gs u sl) t=(.next (crowd i u' j),s)/\i[0]? =some (df l cs)/\Live C P g a' [] l []/\WR P.globals.size K g w' u'/\ni Q S i u'.heap.size s z/\(∀b c,g b c->¬S c)/\Iv g u'/\Leaf P R a' [] w'/\Ext p g:=by
 classical
 refine ht (λa ZJ w=>∀(p:Rel st) (b:Frame) (bs:List Frame) (gs:Array Goroutine) (u:World) (sl:Option (Nat×Nat)) (t:Trace) (q:Nat->Nat) (S:Nat->Prop),Live C P p a ZJ b bs->WR P.globals.size K p w u->gs[0]? =some (df b (bs++cs))->ni Q S gs u.heap.size t q->(∀b c,p b c->¬S c)->Iv p u->
  ∃(N:Nat) (i:Array Goroutine) (u':World) (j:Option (Nat×Nat)) (s:Trace) (z:Nat->Nat) (g:Rel st) (a' l:Frame) (w':World),runNT Q N (crowd gs u sl) t=(.next (crowd i u' j),s)/\i[0]? =some (df l cs)/\Live C P g a' [] l []/\WR P.globals.size K g w' u'/\ni Q S i u'.heap.size s z/\(∀b c,g b c->¬S c)/\Iv g u'/\Leaf P R a' [] w'/\Ext p g) ?_
 intro a ZJ w I p b bs gs u sl t q S hl hw h0 hF hS H;rcases I with F|⟨T,I⟩
 .obtain rfl:=F.2.1
  cases bs with
  |cons x xs=>exact hl.cs.elim
  |nil=>exact⟨0,gs,u,sl,t,q,p,a,b,w,rfl,h0,hl,hw,hF,hS,H,F,Ext.refl _⟩
 have hr:a.mode=.returning->ZJ≠[]:=λh1 h2=>T ⟨h1,h2⟩
 obtain⟨N,i,a',u',j,s,z,B',r1,r2,r3,⟨hB,s1,X,g,l,r,rfl,A,v,Y,G,hext⟩,r5⟩:=own0 (sl:=sl) (Stop:=λa' u' B'=>B'=u'.heap.size/\
  ∃s1:StG,(∀(p:Rel st) (b:Frame) (bs:List Frame) (gs:Array Goroutine) (u:World) (sl:Option (Nat×Nat)) (t:Trace) (q:Nat->Nat) (S:Nat->Prop),Live C P p s1.a s1.ZJ b bs->WR P.globals.size K p s1.w u->gs[0]? =some (df b (bs++cs))->ni Q S gs u.heap.size t q->(∀b c,p b c->¬S c)->Iv p u->
  ∃(N:Nat) (i:Array Goroutine) (u':World) (j:Option (Nat×Nat)) (s:Trace) (z:Nat->Nat) (g:Rel st) (a' l:Frame) (w':World),runNT Q N (crowd gs u sl) t=(.next (crowd i u' j),s)/\i[0]? =some (df l cs)/\Live C P g a' [] l []/\WR P.globals.size K g w' u'/\ni Q S i u'.heap.size s z/\(∀b c,g b c->¬S c)/\Iv g u'/\Leaf P R a' [] w'/\Ext p g)/\
   ∃g l r,a'=df l (r++cs)/\Live C P g s1.a s1.ZJ l r/\WR P.globals.size K g s1.w u'/\(∀b c,g b c->¬S c)/\Iv g u'/\Ext p g) hF h0 rfl λd=>by
  have n:∀{g:Rel st} {u':World},dE K p g (u.at d) u'->∀b c,g b c->¬S c:=fun{g u'} B b c hb hs=>by
   by_cases E:p b c
   .exact hS b c E hs
   .have:=B.fresh b c hb E
    have:=hF.sh c hs;have e:(u.at d).heap.size=u.heap.size:=rfl;omega
  obtain⟨T',hA⟩:=step_alikeE (m:=true) (m':=true) (cs:=[stop P]) (ds:=cs) hz hp tw M hl (λ_ ⟨_,_,_,_,o,_,_,_,h⟩=>by rw[U o]at h;cases h) hr (hw.at d);rcases hA with hA|⟨g,a2,δ,l,r,w2,u',ζ,new,e2,e3,A,v,ε,B,he⟩|⟨_,f,_,_,_,_,_,_,_,_,_,_,_,D,_⟩
  .exfalso
   obtain⟨a',as',w',es,J,k,_⟩:=I T';rcases hA with⟨o,w3,γ,y⟩|⟨fr,η,w3,γ,y,ch,_,W,_⟩
   .rw[J]at y;cases y
   .rw[J]at y
    simp only[GStep.go.injEq,Goroutine.mk.injEq]at y;rw[y.1.1,W]at k;rcases k with h|h<;>cases h
  .refine⟨_,u',new,u'.heap.size,e3,B.size,λe V=>evP_of v (n B) (he e V),rfl,?_⟩
   obtain⟨a',as',w',es,J,k,X⟩:=I T';rw[J]at e2;simp only[GStep.go.injEq,Goroutine.mk.injEq]at e2;obtain⟨⟨y,e5,_⟩,e6,_⟩:=e2;have e7:as'=δ:=List.append_cancel_right e5;subst y e6 e7;exact⟨⟨_,_,_⟩,X,g,l,r,rfl,A,v,n B,Z _ _ _ _ (α _ _ d H) B,B.ext⟩
  .rw[O]at D;cases D
 subst hB;obtain⟨N2,β,u2,L,t2,q2,p2,a2,b2,w2,f1,f2,f3,f4,f5,f6,f7,f8,f9⟩:=X g l r i u' j s z S A v r3 r5 Y G;refine⟨N+N2,β,u2,L,t2,q2,p2,a2,b2,w2,?_,f2,f3,f4,f5,f6,f7,f8,hext.trans f9⟩;rw[runNT_add,r1];exact f1
end
section
open Go
theorem iQ:j5 prog 199 Extern.AbiNoEscape.same:=⟨_,func199,by kernel_rfl,by kernel_rfl,by kernel_rfl,by kernel_rfl⟩
theorem fQ:j5 prog 258 (Extern.BytealgMakeNoZero.makeNoZero (Func.params f258) (Func.resultTypes f258)):=⟨_,func258,by kernel_rfl,by kernel_rfl,by kernel_rfl,by kernel_rfl⟩
theorem lJ:j5 prog 145 Extern.ReflectliteType.typeOf:=⟨_,func145,by kernel_rfl,by kernel_rfl,by kernel_rfl,by kernel_rfl⟩
theorem mf:j5 prog 147 (Extern.SlicesOverlaps.overlaps (Func.params f147) (Func.resultTypes f147)):=⟨_,func147,by kernel_rfl,by kernel_rfl,by kernel_rfl,by kernel_rfl⟩
theorem rtypeA:rtypeIs prog:=⟨ "internal/reflectlite.rtype",by kernel_rfl⟩
theorem rtypeP:rtypeIs (patch ae prog):=by
 unfold rtypeIs;rw[show(patch ae prog).cutTypes=(prog).cutTypes from congrArg Tables.cutTypes (patch_tables ae prog)];exact rtypeA
theorem handleP (t):typeHandle prog t=typeHandle (patch ae prog) t:=by
 unfold typeHandle;rw[patch_globals]
def extL:List Nat:=[167,199,258,145]
theorem extL_ok:ExtOk extL (patch ae prog) prog:=λg a=>by
 simp only[extL,ZW,List.not_mem_nil,or_false]at a;rcases a with rfl|rfl|rfl|rfl
 .exact⟨_,bL pM (by rfl),pM,λ_ _ _ _ _ h=>af.jR h⟩
 .exact⟨_,bL iQ (by rfl),iQ,λ_ _ _ _ _ h=>af.extSame h⟩
 .exact⟨_,bL fQ (by rfl),fQ,λ_ _ _ _ _ h=>af.kT _ _ h⟩
 .exact⟨_,bL lJ (by rfl),lJ,λ_ _ _ _ _ h=>af.extTypeOf rtypeP rtypeA handleP h⟩
theorem extL_okP:ExtOk extL (patch ae prog) (patch ae prog):=λg a=>by
 simp only[extL,ZW,List.not_mem_nil,or_false]at a;rcases a with rfl|rfl|rfl|rfl
 .exact⟨_,bL pM (by rfl),bL pM (by rfl),λ_ _ _ _ _ h=>af.jR h⟩
 .exact⟨_,bL iQ (by rfl),bL iQ (by rfl),λ_ _ _ _ _ h=>af.extSame h⟩
 .exact⟨_,bL fQ (by rfl),bL fQ (by rfl),λ_ _ _ _ _ h=>af.kT _ _ h⟩
 .exact⟨_,bL lJ (by rfl),bL lJ (by rfl),λ_ _ _ _ _ h=>af.extTypeOf rtypeP rtypeP (λ_=>rfl) h⟩
theorem hardL_ok:dw [147] (patch ae prog) prog:=λg a=>by
 obtain rfl:=List.mem_singleton.1 a;exact⟨_,bL mf (by rfl),mf,λ_ _ _ _ _ b h=>af.overlaps b _ _ h,λ_ _ _ _ _ h=>bC.overlaps _ _ h⟩
theorem hardL_okP:dw [147] (patch ae prog) (patch ae prog):=λg a=>by
 obtain rfl:=List.mem_singleton.1 a;exact⟨_,bL mf (by rfl),bL mf (by rfl),λ_ _ _ _ _ b h=>af.overlaps b _ _ h,λ_ _ _ _ _ h=>bC.overlaps _ _ h⟩
def lXr:List Nat:=[77,78,80,81,83,127,128,129,130,131,132,134,135,136,141,142,143,144,157,163,166,169,170,173,174,175,176,177,178,179,192,200,201,202,203,214,215,226,227,228,229,230,231,232,233,245,247,257,259,260,261,262,267,269,270,278,279,280,281,284,285]
def lX:List Nat:=88::lXr
def extX:List Nat:=[167,199,258]
def glX:List Nat:=[4,5,12,13,3,7,8,9,10,11]
def cfgX:iG:={fns:=lX,sp:=[],mark:=λ_=>false,sg:=id,root:=1000000,rt:=0,jh:=false,dd:=[],kd:=.normal,pv:=λ_=>false,okF:=λ_ _=>True,gl:=glX,ext:=extX,hx:=[],rx:=[],hard:=true,sd:=true}
def cfgXr:iG:={fns:=lXr,sp:=[],mark:=λ_=>false,sg:=id,root:=88,rt:=1000000,jh:=true,dd:=[],kd:=.normal,pv:=λ_=>false,okF:=λ_ _=>True,gl:=glX,ext:=extX,hx:=[],rx:=[],hard:=true,sd:=true}
theorem cfgXr_ok:j6 cfgXr:=⟨λ_ _=>rfl,λ_=>rfl,λ_=>rfl,λ_=>rfl,λ_ h=>Bool.noConfusion h,λ_ _ _ _ _=>trivial,λ_ _ _ _ _ _ _ _ _=>trivial⟩
theorem cfgX_ok:j6 cfgX:=⟨λ_ _=>rfl,λ_=>rfl,λ_=>rfl,λ_=>rfl,λ_ h=>Bool.noConfusion h,λ_ _ _ _ _=>trivial,λ_ _ _ _ _ _ _ _ _=>trivial⟩
theorem extX_ok:ExtOk extX prog prog:=λg a=>by
 simp only[extX,ZW,List.not_mem_nil,or_false]at a;rcases a with rfl|rfl|rfl
 .exact⟨_,pM,pM,λ_ _ _ _ _ h=>af.jR h⟩
 .exact⟨_,iQ,iQ,λ_ _ _ _ _ h=>af.extSame h⟩
 .exact⟨_,fQ,fQ,λ_ _ _ _ _ h=>af.kT _ _ h⟩
theorem twoX:∀g∈lXr,Two cfgX cfgXr prog g:=
 all_cons (bu func77 (by kernel_rfl))<|
 all_cons (bu func78 (by kernel_rfl))<|
 all_cons (bu func80 (by kernel_rfl))<|
 all_cons (bu func81 (by kernel_rfl))<|
 all_cons (bu func83 (by kernel_rfl))<|
 all_cons (bu func127 (by kernel_rfl))<|
 all_cons (bu func128 (by kernel_rfl))<|
 all_cons (bu func129 (by kernel_rfl))<|
 all_cons (bu func130 (by kernel_rfl))<|
 all_cons (bu func131 (by kernel_rfl))<|
 all_cons (bu func132 (by kernel_rfl))<|
 all_cons (bu func134 (by kernel_rfl))<|
 all_cons (bu func135 (by kernel_rfl))<|
 all_cons (bu func136 (by kernel_rfl))<|
 all_cons (bu func141 (by kernel_rfl))<|
 all_cons (bu func142 (by kernel_rfl))<|
 all_cons (bu func143 (by kernel_rfl))<|
 all_cons (bu func144 (by kernel_rfl))<|
 all_cons (bu func157 (by kernel_rfl))<|
 all_cons (bu func163 (by kernel_rfl))<|
 all_cons (bu func166 (by kernel_rfl))<|
 all_cons (bu func169 (by kernel_rfl))<|
 all_cons (bu func170 (by kernel_rfl))<|
 all_cons (bu func173 (by kernel_rfl))<|
 all_cons (bu func174 (by kernel_rfl))<|
 all_cons (bu func175 (by kernel_rfl))<|
 all_cons (bu func176 (by kernel_rfl))<|
 all_cons (bu func177 (by kernel_rfl))<|
 all_cons (bu func178 (by kernel_rfl))<|
 all_cons (bu func179 (by kernel_rfl))<|
 all_cons (bu func192 (by kernel_rfl))<|
 all_cons (bu func200 (by kernel_rfl))<|
 all_cons (bu func201 (by kernel_rfl))<|
 all_cons (bu func202 (by kernel_rfl))<|
 all_cons (bu func203 (by kernel_rfl))<|
 all_cons (bu func214 (by kernel_rfl))<|
 all_cons (bu func215 (by kernel_rfl))<|
 all_cons (bu func226 (by kernel_rfl))<|
 all_cons (bu func227 (by kernel_rfl))<|
 all_cons (bu func228 (by kernel_rfl))<|
 all_cons (bu func229 (by kernel_rfl))<|
 all_cons (bu func230 (by kernel_rfl))<|
 all_cons (bu func231 (by kernel_rfl))<|
 all_cons (bu func232 (by kernel_rfl))<|
 all_cons (bu func233 (by kernel_rfl))<|
 all_cons (bu func245 (by kernel_rfl))<|
 all_cons (bu func247 (by kernel_rfl))<|
 all_cons (bu func257 (by kernel_rfl))<|
 all_cons (bu func259 (by kernel_rfl))<|
 all_cons (bu func260 (by kernel_rfl))<|
 all_cons (bu func261 (by kernel_rfl))<|
 all_cons (bu func262 (by kernel_rfl))<|
 all_cons (bu func267 (by kernel_rfl))<|
 all_cons (bu func269 (by kernel_rfl))<|
 all_cons (bu func270 (by kernel_rfl))<|
 all_cons (bu func278 (by kernel_rfl))<|
 all_cons (bu func279 (by kernel_rfl))<|
 all_cons (bu func280 (by kernel_rfl))<|
 all_cons (bu func281 (by kernel_rfl))<|
 all_cons (bu func284 (by kernel_rfl))<|
 all_cons (bu func285 (by kernel_rfl))<|
 all_nil
theorem pbXr:∀g∈lXr,PB cfgXr prog prog g:=λg a=>let ⟨_,h,_,k⟩:=twoX g a;pbOf h h k
theorem pbX:∀g∈lX,PB cfgX prog prog g:=all_cons (pbOf func88 func88 (by kernel_rfl)) λg a=>let ⟨_,h,k,_⟩:=twoX g a;pbOf h h k
theorem plainX:aH cfgX prog prog:=
 aH.of cfgX_ok extX_ok fU.nil dw.nil (λg a=>by
  have h:(dS.all λg=>lX.contains g)=true:=by kernel_rfl
  have:=ZU.1 h g a;exact List.mem_of_elem_eq_true this) lX (λg=>⟨.inl,λh=>h.elim id λh=>by cases h⟩) (λg a=>by cases a) (λg a e=>by
  subst e;exact absurd a (of_decide_eq_true (show decide (¬1000000∈lX)=true by kernel_rfl))) pbX (λg a=>by cases a)
theorem plainXr:aH cfgXr prog prog:=
 aH.of cfgXr_ok extX_ok fU.nil dw.nil (λg a=>by
  have h:(dS.all λg=>lXr.contains g)=true:=by kernel_rfl
  have:=ZU.1 h g a;exact List.mem_of_elem_eq_true this) lXr (λg=>⟨.inl,λh=>h.elim id λh=>by cases h⟩) (λg a=>by cases a) (λg a e=>by
  have b:g=88:=e;subst b;exact absurd a (of_decide_eq_true (show decide (¬88∈lXr)=true by kernel_rfl))) pbXr (λg a=>by cases a)
theorem text_body:∃c,Func.body f88=some c/\bA cfgXr prog 88 c=true/\sgC cfgXr c=c/\(∃k,Func.results f88= #[.tmp k]):=⟨_,rfl,by kernel_rfl,by kernel_rfl,_,rfl⟩
theorem text_ntmps:Func.ntmps f88<1000:=of_decide_eq_true (by kernel_rfl)
theorem twinX:Twin prog prog:=jD prog.toTables _ prog.funcs lH calmA
end
section
open Go.RowKit
structure After (W:World) where
 val:World
 later:Below W.heap.size W val
theorem After.cell {W}(x:After W){b o}(h:b<W.heap.size):x.val.cell? ⟨b,o,none⟩=W.cell? ⟨b,o,none⟩:=x.later.cell (p:=⟨b,o,none⟩) h
theorem After.frozen {W}(x:After W){b o}(h:b<W.heap.size):x.val.frozen? ⟨b,o,none⟩=W.frozen? ⟨b,o,none⟩:=x.later.frozen (p:=⟨b,o,none⟩) h
theorem After.const {W}{p}:(After W->p)↔p:=⟨λh=>h ⟨W,Below.refl _ _⟩,λh _=>h⟩
def place (s n c:Int):Prop:=0<=s/\s<4/\0<=n/\n<4/\0<=c/\c<24
def gM (w:World)(b o n:Nat)(R:Nat->Int):Prop:=∀i,i<n->w.cell? ⟨b,o+i,none⟩=some (.int .i64 (R i))
theorem gM.ext {w w'}{b o n}{R}(h:gM w b o n R)(hb:Below w.heap.size w w'):gM w' b o n R:=λi d=>by
 have c:=h i d;have a:b<w.heap.size:=block_lt_of_cell c;exact(hb.cell (p:=⟨b,_,none⟩) a).trans c
attribute [local go_sem ↓] Go.wp_at_zero Go.wp_at_succ
attribute [local go_sem] After.cell After.frozen After.const
structure cz where
 ao:Option Addr
 b:Nat
 o:Nat
 n:Nat
 cap:Nat
 S:Nat->Int
 N:Nat->Int
 C:Nat->Int
 ro:Option Addr
 rb:Nat
 rp:Nat
 r:Nat
 gD:Nat
 R:Nat->Int
 p:Int
end
section
open Go.RowKit
theorem blk {w:World}{k}{cs}{t}(h:w.heap[k]? =some (.cells cs t (0,0))):(∀j,w.cell? ⟨k,j,none⟩=cs[j]?)/\(∀j,w.frozen? ⟨k,j,none⟩=false):=
 ⟨λj=>cell_of_row w k j cs t (0,0) h,λj=>frozen_of_row w k j cs t h⟩
attribute [local go_sem ↓] Go.wp_at_zero Go.wp_at_succ
attribute [local go_sem] After.cell After.frozen After.const
def bW (S N C:Nat->Int)(j:Nat):Value:=.int .i64 (if j%3=0 then S (j/3)else if j%3=1 then N (j/3)else C (j/3))
def hC (m:cz)(j:Nat):Value:=if j<m.n*3 then bW m.S m.N m.C j else .int .i64 (-5)
def hR (m:cz)(j:Nat):Value:=if j<m.r then .int .i64 (m.R j)else .int .i64 (-5)
theorem aj {w:World}{base}{e}{size}{v}{n}{xs}(h:w.ownsRow base e size v n xs):∃ao cap,v=.slice ao n cap:=by
 rcases h.2 with⟨b,rfl⟩|⟨g,cap,cur,a,_⟩
 .exact⟨_,_,b⟩
 .exact⟨_,_,a⟩
theorem au {w w'}{base}{e}{size}{v}{n}{xs}(h:w.ownsRow base e size v n xs)(hb:Below w.heap.size w w'):w'.ownsRow base e size v n xs:=by
 refine⟨h.1,?_⟩;rcases h.2 with d|⟨g,cap,cur,b,c,a,r⟩
 .exact .inl d
 .exact .inr ⟨g,cap,cur,b,c,by rw[hb.block g (ZK.1 a).1];exact a,r⟩
def Ints (w:World)(v:Value)(n:Nat)(R:Nat->Int):Prop:=∃ao cap,v=.slice ao n cap/\n<=cap/\n<=9223372036854775807/\(0<n->∃b o,ao=some ⟨b,o,none⟩/\gM w b o n R)
theorem Ints.ext {w w'}{v}{n}{R}(h:Ints w v n R)(hb:Below w.heap.size w w'):Ints w' v n R:=by
 obtain⟨ao,cap,rfl,e,d,c⟩:=h;refine⟨ao,cap,rfl,e,d,λf=>?_⟩;obtain⟨b,o,rfl,a⟩:=c f;exact⟨b,o,rfl,a.ext hb⟩
theorem Tryz.infoStr:(prog.info? 9).map (λi=>(i.zero,i.size,i.bytes))=some (some (.string ByteArray.empty),1,16):=by kernel_rfl
def Short (L:Nat)(u:Value):Prop:=∃s:ByteArray,u=.string s/\s.size<=L
def zA (w:World)(A:Nat->Option Addr)(N C:Nat->Nat)(R:Nat->Nat->Int):Prop:=∀q,q<4->Ints w (.slice (A q) (N q) (C q)) (N q) (R q)
theorem zA.ext {w w'}{A}{N C}{R}(h:zA w A N C R)(hb:Below w.heap.size w w'):zA w' A N C R:=λq a=>(h q a).ext hb
end
section
open Go
section
variable (T:Tables)(f g:Array Func)
theorem same_packed (t):(Program.mk T g).packed t=(Program.mk T f).packed t:=by
 unfold Program.packed Program.packedAs;rw[lU T f g];simp only[same_alike T f g];rfl
theorem ll:∀(d:Nat) (t:TypeId),(Program.mk T g).holdsPacked d t=(Program.mk T f).holdsPacked d t
 |0,_=>rfl
 |d+1,t=>by
  unfold Program.holdsPacked;rw[bz T f g,same_packed T f g];simp only[ll d]
end
section
variable {st:Prop}{P Q:Program}{K:Nat->Prop}{p:Rel st}
structure Packs (P Q:Program):Prop where
 packed:∀t,Q.packed t=P.packed t
 holds:∀t,Q.holdsPacked Q.depth t=P.holdsPacked P.depth t
 handle:∀v,handleType Q v=handleType P v
theorem af.noPack (h:Packs P Q)(s)(t):af P Q K p (Extern.Rtype.noPack s t) (Extern.Rtype.noPack s t) (λ_ _ _=>True):=by
 unfold Extern.Rtype.noPack;refine af.bind af.program λq a b _ e=>?_
 rw[e.1,e.2,h.packed];split
 .exact af.halt
 .exact af.pure trivial
theorem af.noPackHeld (h:Packs P Q)(s)(t):af P Q K p (Extern.Rtype.noPackHeld s t) (Extern.Rtype.noPackHeld s t) (λ_ _ _=>True):=by
 unfold Extern.Rtype.noPackHeld;refine af.bind af.program λq a b _ e=>?_
 rw[e.1,e.2];refine af.bind af.program λq a b _ e=>?_
 rw[e.1,e.2,h.holds];split
 .exact af.halt
 .exact af.pure trivial
theorem af.ofRtype (h:Packs P Q)(c):af P Q K p (Extern.ReflectliteType.ofRtype c) (Extern.ReflectliteType.ofRtype c) (λ_ a b=>a=b):=by
 cases c with
 |agg xs=>
  obtain⟨l⟩:=xs
  match l with
  |[]=>exact ag.bR (ag.halt _)
  |x::y::r=>exact ag.bR (ag.halt _)
  |[x]=>
   refine af.bind (s:=Extern.Rtype.ofHandle x) (t:=Extern.Rtype.ofHandle x) (A:=λ_ a b=>a=b) ?_ λq a b _ e=>?_
   .unfold Extern.Rtype.ofHandle
    refine af.bind af.program λq a b _ e=>?_
    rw[e.1,e.2,h.handle];cases handleType P x with
    |none=>exact af.halt
    |some t=>exact af.pure rfl
   .subst e
    exact af.bind (af.noPack h _ _) λq _ _ _ _=>af.pure rfl
 |_=>exact ag.bR (ag.halt _)
theorem af.rtMethod (h:Packs P Q){f}(hf:∀(q:Rel st) (t:TypeId),af P Q K q (f t) (f t) (λq a b=>VR q a b))(c):af P Q K p (Extern.ReflectliteType.method f #[c]) (Extern.ReflectliteType.method f #[c]) (λq a b=>VR q a b):=by
 refine af.bind (s:=Extern.ReflectliteType.ofRtype c) (t:=Extern.ReflectliteType.ofRtype c) (A:=λ_ a b=>a=b) (af.ofRtype h c) λq a b _ e=>?_
 subst e;exact hf q a
end
theorem packsA_packed (L)(P)(t):P.packed t=(patch L P).packed t:=same_packed P.toTables _ P.funcs t
theorem packsA_holds (L)(P)(d)(t):P.holdsPacked d t=(patch L P).holdsPacked d t:=ll P.toTables _ P.funcs d t
theorem packs_patch (L)(P):Packs (patch L P) P:=⟨packsA_packed L P,λt=>by rw[patch_depth];exact packsA_holds L P _ t,λv=>rfl⟩
theorem packsP:Packs (patch ae prog) prog:=packs_patch _ _
theorem packsPP:Packs (patch ae prog) (patch ae prog):=⟨λ_=>rfl,λ_=>rfl,λ_=>rfl⟩
theorem comparable_row:∃f,Extern.ReflectliteType.rows.lookup "(internal/reflectlite.rtype).Comparable" =some (Extern.ReflectliteType.method f)/\
 ∀(st:Prop) (P Q:Program) (K:Nat->Prop) (p:Rel st) (t:TypeId),Packs P Q->af P Q K p (f t) (f t) (λq a b=>VR q a b):=by
 refine⟨_,rfl,λst P Q K p t h=>?_⟩;refine af.bind (af.noPackHeld h _ _) λq _ _ _ _=>?_
 refine af.bind (af.typeInfo t) λc i j _ e=>?_
 obtain⟨rfl,_⟩:=e;exact af.pure (VR.bool _)
theorem jr:∃f,j5 prog 309 (Extern.ReflectliteType.method f)/\
 ∀(st:Prop) (P Q:Program) (K:Nat->Prop) (p:Rel st) (t:TypeId),Packs P Q->af P Q K p (f t) (f t) (λq a b=>VR q a b):=by
 obtain⟨f,d,c⟩:=comparable_row;exact⟨f,⟨_,func309,by kernel_rfl,by kernel_rfl,by kernel_rfl,(show Extern.find f309=Extern.ReflectliteType.rows.lookup "(internal/reflectlite.rtype).Comparable" by kernel_rfl).trans d⟩,c⟩
theorem rtL_ok:fU [309] (patch ae prog) prog:=λg b=>by
 obtain rfl:=List.mem_singleton.1 b;obtain⟨f,a,d⟩:=jr;exact⟨_,bL a (by rfl),a,λ_ _ _ c=>af.rtMethod packsP (λq t=>d _ _ _ _ q t packsP) c⟩
theorem rtL_okP:fU [309] (patch ae prog) (patch ae prog):=λg b=>by
 obtain rfl:=List.mem_singleton.1 b;obtain⟨f,a,d⟩:=jr;exact⟨_,bL a (by rfl),bL a (by rfl),λ_ _ _ c=>af.rtMethod packsPP (λq t=>d _ _ _ _ q t packsPP) c⟩
end
namespace Z
open Go.RowKit
theorem inN_cons (D)(r i)(l)(k):dz D r (i::l) k=dz D r l k+if bG D r i=(k:Int)then 1 else 0:=by
 unfold dz;rw[List.countP_cons]
 by_cases h:bG D r i=(k:Int)<;>simp[h]
def qx (D:BD)(r m:Nat)(l:List Nat):Int:=(l.countP (λi=>has m (bG D r i).toNat):Nat)
theorem inMask_cons (D)(r m i)(l):qx D r m (i::l)=qx D r m l+if has m (bG D r i).toNat=true then 1 else 0:=by
 unfold qx;rw[List.countP_cons]
 by_cases h:has m (bG D r i).toNat=true<;>simp[h]
theorem tZ (D)(r m):∀(l:List Nat),(∀i∈l,0<=bG D r i/\bG D r i<4)->fM (dz D r l) m 4=qx D r m l
 |[],_=>by
  have a:∀k,dz D r [] k=0:=λk=>rfl
  simp[fM,a,qx]
 |i::l,h=>by
  have b:=tZ D r m l λj e=>h j (List.mem_cons_of_mem _ e)
  have f:=h i ZX;rw[inMask_cons,<-b];obtain⟨n,d,c⟩:∃n:Nat,bG D r i=(n:Int)/\n<4:=⟨(bG D r i).toNat,by omega,by omega⟩;simp only[fM,inN_cons,d,Int.toNat_natCast];obtain rfl|rfl|rfl|rfl:n=0\/n=1\/n=2\/n=3:=by omega
  all_goals
   cases a:has m 0<;>cases p:has m 1<;>cases o:has m 2<;>cases g:has m 3<;>simp<;>omega
end Z
