/- Part 37 of the proof. -/
import Derived.Test.YtfpaamhppamcoaaGreatDoorSp36
import Derived.Shelf.Slices.Clone
import Derived.Shelf.Strconv.Clone
import Derived.Shelf.Small.Strs
set_option linter.all false
set_option maxRecDepth 100000
set_option maxHeartbeats 60000000
namespace Go.Proofs.YtfpaamhppamcoaaGreatDoor
open Go.Proofs.Tryz
section
open Go Go.Shelf
theorem pplays15:Lays2.n15 (patch ae prog) Tryz.laysNm215_ren:=
 have L:=Tryz.laysNm215
 {mixed:=L.mixed,
  f15:=pf L.f15 (by rfl),
  t3:=L.t3,
  a3:=λw=>(aP _ _ _ w).trans (L.a3 w),
  z3:=λw=>(aM _ _ _ w).trans (L.z3 w),
  v3:=λw=>(aI _ _ _ w).trans (L.v3 w),
  t4:=L.t4,
  a4:=λw=>(aP _ _ _ w).trans (L.a4 w),
  z4:=λw=>(aM _ _ _ w).trans (L.z4 w),
  v4:=λw=>(aI _ _ _ w).trans (L.v4 w),
  t22:=L.t22,
  a22:=λw=>(aP _ _ _ w).trans (L.a22 w),
  z22:=λw=>(aM _ _ _ w).trans (L.z22 w),
  v22:=λw=>(aI _ _ _ w).trans (L.v22 w),
  i3:=L.i3}
theorem pplays316:LaysM.n316 (patch ae prog) Tryz.laysM316_ren:=
 have L:=Tryz.laysM316
 {mixed:=L.mixed,
  f316:=pf L.f316 (by rfl),
  t0:=L.t0,
  a0:=λw=>(aP _ _ _ w).trans (L.a0 w),
  z0:=λw=>(aM _ _ _ w).trans (L.z0 w),
  v0:=λw=>(aI _ _ _ w).trans (L.v0 w),
  t3:=L.t3,
  a3:=λw=>(aP _ _ _ w).trans (L.a3 w),
  z3:=λw=>(aM _ _ _ w).trans (L.z3 w),
  v3:=λw=>(aI _ _ _ w).trans (L.v3 w),
  t4:=L.t4,
  a4:=λw=>(aP _ _ _ w).trans (L.a4 w),
  z4:=λw=>(aM _ _ _ w).trans (L.z4 w),
  v4:=λw=>(aI _ _ _ w).trans (L.v4 w),
  t9:=L.t9,
  a9:=λw=>(aP _ _ _ w).trans (L.a9 w),
  z9:=λw=>(aM _ _ _ w).trans (L.z9 w),
  v9:=λw=>(aI _ _ _ w).trans (L.v9 w),
  t37:=L.t37,
  a37:=λw=>(aP _ _ _ w).trans (L.a37 w),
  z37:=λw=>(aM _ _ _ w).trans (L.z37 w),
  v37:=λw=>(aI _ _ _ w).trans (L.v37 w),
  t127:=L.t127,
  a127:=λw=>(aP _ _ _ w).trans (L.a127 w),
  z127:=λw=>(aM _ _ _ w).trans (L.z127 w),
  v127:=λw=>(aI _ _ _ w).trans (L.v127 w),
  t5:=L.t5,
  a5:=λw=>(aP _ _ _ w).trans (L.a5 w),
  z5:=λw=>(aM _ _ _ w).trans (L.z5 w),
  v5:=λw=>(aI _ _ _ w).trans (L.v5 w),
  i0:=L.i0,
  i3:=L.i3,
  i4:=L.i4,
  i5:=L.i5,
  i9:=L.i9,
  i37:=L.i37,
  i127:=L.i127}
end
namespace Z
open Go.RowKit
attribute [local go_sem ↓] Go.wp_at_zero Go.wp_at_succ
attribute [local go_sem] After.cell After.frozen After.const
def intR (R:Nat->Int)(n:Nat):List Value:=(List.range n).map λj=>.int .i64 (R j)
theorem jW (a)(n c)(R)(w)(h:Ints w (.slice a n c) n R)(p:n<=1000000):
 Calls (patch ae prog) 75 #[.slice a n c] w λe w'=>∃a' g,e=.returned (.slice a' n g)/\w'.ownsRow w.heap.size 3 1 (.slice a' n g) n (intR R n)/\Below w.heap.size w w':=by
 by_cases l:n=0
 .subst l
  cases a with
  |none=>
   refine(show Calls (patch ae prog) 75 #[.slice none 0 c] w _ from Go.Proofs.Any.slices_Clone_int_nil pplays15 0 c w).mono ?_;rintro e w' ⟨rfl,rfl⟩;exact⟨none,0,rfl,aag _ _ _ _,aab _ _⟩
  |some a=>
   refine(show Calls (patch ae prog) 75 #[.slice (some a) 0 c] w _ from Go.Proofs.Any.slices_Clone_int_zero pplays15 a c w).mono ?_;rintro e w' ⟨v',rfl,d,_,hb⟩;obtain⟨x,y,rfl⟩:=aj d;exact⟨x,y,rfl,d,hb⟩
 .obtain⟨ao,cap,e,_,_,k⟩:=h
  cases e;obtain⟨b,o,rfl,hc⟩:=k (by omega)
  refine(show Calls (patch ae prog) 75 #[.slice (some ⟨b,o,none⟩) n c] w _ from Go.Proofs.Any.slices_Clone_int pplays15 b o n c ((List.range n).map R) w (by simp) (by omega) (λj i=>by
   have f:j<n:=by simpa using i
   rw[hc j f];simp[List.getD,f])).mono ?_
  rintro e w' ⟨v',rfl,d,_,hb⟩;obtain⟨x,y,rfl⟩:=aj d
  have m:(((List.range n).map R).take n).map (Value.int .i64)=intR R n:=by
   rw[aah (by simp),List.map_map];rfl
  rw[m]at d;exact⟨x,y,rfl,d,hb⟩
theorem cloneS_any (s)(w)(hl:s.size<=281474976710656):Calls (patch ae prog) 55 #[.string s] w λe w'=>e=.returned (.string s)/\Below w.heap.size w w':=by
 have b:Hid (∀u,Calls (patch ae prog) 86 #[.string s] u λe w'=>e=.returned (.string s)/\Below u.heap.size u w'):=λu=>Go.Proofs.Any.stringslite_Clone pplays316 s u hl
 go_enter (pf func55 (by rfl)),ntmps55
 go_wp2_with(go_at_call 86;refine(b.out _).mono ?_;rintro e w1 ⟨rfl,a⟩);go_ret;exact⟨rfl,a⟩
theorem ixG0 (a b c)(w):Sem.run (patch ae prog) (Instr.index 39 (.agg #[a,b,c]) (.int .i64 0)) w=.ok a w:=by kernel_rfl
theorem ixG1 (a b c)(w):Sem.run (patch ae prog) (Instr.index 39 (.agg #[a,b,c]) (.int .i64 1)) w=.ok b w:=by kernel_rfl
theorem ixG2 (a b c)(w):Sem.run (patch ae prog) (Instr.index 39 (.agg #[a,b,c]) (.int .i64 2)) w=.ok c w:=by kernel_rfl
def CopyPost (w:World)(N:Nat->Nat)(R:Nat->Nat->Int)(e:Ending)(w':World):Prop:=∃(A:Nat->Option Addr) (C:Nat->Nat),e=.returned (.agg #[.slice (A 0) (N 0) (C 0),.slice (A 1) (N 1) (C 1),.slice (A 2) (N 2) (C 2),.slice (A 3) (N 3) (C 3)])/\(∀q,q<4->w'.ownsRow w.heap.size 3 1 (.slice (A q) (N q) (C q)) (N q) (intR (R q) (N q)))/\Below w.heap.size w w'
theorem copyX_any (A:Nat->Option Addr)(N C:Nat->Nat)(R)(w)(h:∀q,q<4->Ints w (.slice (A q) (N q) (C q)) (N q) (R q)/\N q<=1000000):
 Calls (patch ae prog) 47 #[.agg #[.slice (A 0) (N 0) (C 0),.slice (A 1) (N 1) (C 1),.slice (A 2) (N 2) (C 2),.slice (A 3) (N 3) (C 3)]] w (CopyPost w N R):=by
 have j:=av h;clear h;have t:Func.results f47= #[.cell 2 41]:=by kernel_rfl
 have i0:=ixG0 (.slice (A 1) (N 1) (C 1)) (.slice (A 2) (N 2) (C 2)) (.slice (A 3) (N 3) (C 3));have i1:=ixG1 (.slice (A 1) (N 1) (C 1)) (.slice (A 2) (N 2) (C 2)) (.slice (A 3) (N 3) (C 3));have i2:=ixG2 (.slice (A 1) (N 1) (C 1)) (.slice (A 2) (N 2) (C 2)) (.slice (A 3) (N 3) (C 3))
 go_enter (pf func47 (by rfl)),ntmps47
 go_wp2_with fail;obtain⟨W,hW⟩:∃W,W=(w.alloc (.cells #[.slice (A 0) (N 0) (C 0),.slice (A 1) (N 1) (C 1),.slice (A 2) (N 2) (C 2),.slice (A 3) (N 3) (C 3)] 41)).alloc (.cells #[.slice none 0 0,.slice none 0 0,.slice none 0 0,.slice none 0 0] 41):=⟨_,rfl⟩
 have k:Hid (Below w.heap.size w W/\W.heap[w.heap.size]? =some (.cells #[.slice (A 0) (N 0) (C 0),.slice (A 1) (N 1) (C 1),.slice (A 2) (N 2) (C 2),.slice (A 3) (N 3) (C 3)] 41 (0,0))/\W.heap[w.heap.size+1]? =some (.cells #[.slice none 0 0,.slice none 0 0,.slice none 0 0,.slice none 0 0] 41 (0,0))/\w.heap.size+2<=W.heap.size):=by
  rw[hW];exact⟨((aab _ _).alloc (ZL _) _).alloc (by simp) _,aap _ _ _,aam _ _ _,by simp⟩
 rw[<-hW];clear hW;refine(jW (A 0) (N 0) (C 0) (R 0) W ((j.out 0 (by omega)).1.ext k.out.1) (j.out 0 (by omega)).2).mono ?_;rintro e s ⟨a0,c0,rfl,E,o⟩;have G:=av (aaa E o);have V:=av ((o.block w.heap.size (ZK.1 k.out.2.1).1).trans k.out.2.1);obtain⟨b0,Q⟩:=blk V.out;obtain⟨g0,L⟩:=blk (aD (i:=0) (.slice a0 (N 0) c0) V.out);clear E o;go_wp2_with fail;clear b0 Q g0 L
 have g:Hid (Below w.heap.size w (s.setCell ⟨w.heap.size,0,none⟩ (.slice a0 (N 0) c0))/\((s.setCell ⟨w.heap.size,0,none⟩ (.slice a0 (N 0) c0))).heap[w.heap.size]? =some (.cells #[.slice a0 (N 0) c0,.slice (A 1) (N 1) (C 1),.slice (A 2) (N 2) (C 2),.slice (A 3) (N 3) (C 3)] 41 (0,0))/\((s.setCell ⟨w.heap.size,0,none⟩ (.slice a0 (N 0) c0))).heap[w.heap.size+1]? =some (.cells #[.slice none 0 0,.slice none 0 0,.slice none 0 0,.slice none 0 0] 41 (0,0))/\w.heap.size+2<=((s.setCell ⟨w.heap.size,0,none⟩ (.slice a0 (N 0) c0))).heap.size):=by
  have bb:=ai k.out.1 G.out.2;refine⟨bb.setCell (by show w.heap.size<=w.heap.size;omega) _,?_,?_,?_⟩
  .have:=aD (i:=0) (.slice a0 (N 0) c0) V.out
   simpa only[ZN,ZS,ZR] using this
  .have hl:=(ZK.1 k.out.2.2.1).1
   exact(aad _ _ _ _ (by show w.heap.size+1≠w.heap.size;omega)).trans ((G.out.2.block _ hl).trans k.out.2.2.1)
  .have:=k.out.2.2.2;have:=G.out.2.size;simp;omega
 refine wp_loop_rounds 4 ?_;rw[aal];go_wp2_with fail;refine(jW (A 1) (N 1) (C 1) (R 1) (s.setCell ⟨w.heap.size,0,none⟩ (.slice a0 (N 0) c0)) ((j.out 1 (by omega)).1.ext g.out.1) (j.out 1 (by omega)).2).mono ?_;rintro e w1 ⟨c,a,rfl,D,n⟩;have F:=av (aaa D n);have U:=av ((n.block w.heap.size (ZK.1 g.out.2.1).1).trans g.out.2.1);obtain⟨b1,P⟩:=blk U.out;obtain⟨g1,K⟩:=blk (aD (i:=1) (.slice c (N 1) a) U.out);clear D n;go_wp2_with fail;clear b1 P g1 K
 have f:Hid (Below w.heap.size w (w1.setCell ⟨w.heap.size,1,none⟩ (.slice c (N 1) a))/\((w1.setCell ⟨w.heap.size,1,none⟩ (.slice c (N 1) a))).heap[w.heap.size]? =some (.cells #[.slice a0 (N 0) c0,.slice c (N 1) a,.slice (A 2) (N 2) (C 2),.slice (A 3) (N 3) (C 3)] 41 (0,0))/\((w1.setCell ⟨w.heap.size,1,none⟩ (.slice c (N 1) a))).heap[w.heap.size+1]? =some (.cells #[.slice none 0 0,.slice none 0 0,.slice none 0 0,.slice none 0 0] 41 (0,0))/\w.heap.size+2<=((w1.setCell ⟨w.heap.size,1,none⟩ (.slice c (N 1) a))).heap.size):=by
  have bb:=ai g.out.1 F.out.2;refine⟨bb.setCell (by show w.heap.size<=w.heap.size;omega) _,?_,?_,?_⟩
  .have:=aD (i:=1) (.slice c (N 1) a) U.out
   simpa only[ZN,ZS,ZR] using this
  .have hl:=(ZK.1 g.out.2.2.1).1
   exact(aad _ _ _ _ (by show w.heap.size+1≠w.heap.size;omega)).trans ((F.out.2.block _ hl).trans g.out.2.2.1)
  .have:=g.out.2.2.2;have:=F.out.2.size;simp;omega
 rw[aal];go_wp2_with fail;refine(jW (A 2) (N 2) (C 2) (R 2) (w1.setCell ⟨w.heap.size,1,none⟩ (.slice c (N 1) a)) ((j.out 2 (by omega)).1.ext f.out.1) (j.out 2 (by omega)).2).mono ?_;rintro e w2 ⟨a2,c2,rfl,B,m⟩;have r:=av (aaa B m);have T:=av ((m.block w.heap.size (ZK.1 f.out.2.1).1).trans f.out.2.1);obtain⟨b2,O⟩:=blk T.out;obtain⟨g2,J⟩:=blk (aD (i:=2) (.slice a2 (N 2) c2) T.out);clear B m;go_wp2_with fail;clear b2 O g2 J
 have d:Hid (Below w.heap.size w (w2.setCell ⟨w.heap.size,2,none⟩ (.slice a2 (N 2) c2))/\((w2.setCell ⟨w.heap.size,2,none⟩ (.slice a2 (N 2) c2))).heap[w.heap.size]? =some (.cells #[.slice a0 (N 0) c0,.slice c (N 1) a,.slice a2 (N 2) c2,.slice (A 3) (N 3) (C 3)] 41 (0,0))/\((w2.setCell ⟨w.heap.size,2,none⟩ (.slice a2 (N 2) c2))).heap[w.heap.size+1]? =some (.cells #[.slice none 0 0,.slice none 0 0,.slice none 0 0,.slice none 0 0] 41 (0,0))/\w.heap.size+2<=((w2.setCell ⟨w.heap.size,2,none⟩ (.slice a2 (N 2) c2))).heap.size):=by
  have bb:=ai f.out.1 r.out.2;refine⟨bb.setCell (by show w.heap.size<=w.heap.size;omega) _,?_,?_,?_⟩
  .have:=aD (i:=2) (.slice a2 (N 2) c2) T.out
   simpa only[ZN,ZS,ZR] using this
  .have hl:=(ZK.1 f.out.2.2.1).1
   exact(aad _ _ _ _ (by show w.heap.size+1≠w.heap.size;omega)).trans ((r.out.2.block _ hl).trans f.out.2.2.1)
  .have:=f.out.2.2.2;have:=r.out.2.size;simp;omega
 rw[aal];go_wp2_with fail;refine(jW (A 3) (N 3) (C 3) (R 3) (w2.setCell ⟨w.heap.size,2,none⟩ (.slice a2 (N 2) c2)) ((j.out 3 (by omega)).1.ext d.out.1) (j.out 3 (by omega)).2).mono ?_;rintro e w3 ⟨a3,c3,rfl,x,l⟩;have p:=av (aaa x l);have S:=av ((l.block w.heap.size (ZK.1 d.out.2.1).1).trans d.out.2.1);obtain⟨b3,M⟩:=blk S.out;obtain⟨g3,I⟩:=blk (aD (i:=3) (.slice a3 (N 3) c3) S.out);clear x l;go_wp2_with fail;clear b3 M g3 I
 have H:Hid (Below w.heap.size w (w3.setCell ⟨w.heap.size,3,none⟩ (.slice a3 (N 3) c3))/\((w3.setCell ⟨w.heap.size,3,none⟩ (.slice a3 (N 3) c3))).heap[w.heap.size]? =some (.cells #[.slice a0 (N 0) c0,.slice c (N 1) a,.slice a2 (N 2) c2,.slice a3 (N 3) c3] 41 (0,0))/\((w3.setCell ⟨w.heap.size,3,none⟩ (.slice a3 (N 3) c3))).heap[w.heap.size+1]? =some (.cells #[.slice none 0 0,.slice none 0 0,.slice none 0 0,.slice none 0 0] 41 (0,0))/\w.heap.size+2<=((w3.setCell ⟨w.heap.size,3,none⟩ (.slice a3 (N 3) c3))).heap.size):=by
  have bb:=ai d.out.1 p.out.2;refine⟨bb.setCell (by show w.heap.size<=w.heap.size;omega) _,?_,?_,?_⟩
  .have:=aD (i:=3) (.slice a3 (N 3) c3) S.out
   simpa only[ZN,ZS,ZR] using this
  .have hl:=(ZK.1 d.out.2.2.1).1
   exact(aad _ _ _ _ (by show w.heap.size+1≠w.heap.size;omega)).trans ((p.out.2.block _ hl).trans d.out.2.2.1)
  .have:=d.out.2.2.2;have:=p.out.2.size;simp;omega
 obtain⟨z,zf⟩:=blk H.out.2.1;obtain⟨y,yf⟩:=blk H.out.2.2.1;rw[aal];go_wp2_with fail;have z3:=aD (i:=3) (.slice a3 (N 3) c3) (aD (i:=2) (.slice a2 (N 2) c2) (aD (i:=1) (.slice c (N 1) a) (aD (i:=0) (.slice a0 (N 0) c0) H.out.2.2.1)));simp only[ZN,ZR,ZS]at z3;obtain⟨X,_⟩:=blk z3;refine bodyPost_ret (v:=.agg #[.slice a0 (N 0) c0,.slice c (N 1) a,.slice a2 (N 2) c2,.slice a3 (N 3) c3]) (by simp[results,t,go_sem,X]) rfl ?_;have l0:=k.out.2.2.2;have l1:=g.out.2.2.2;have l2:=f.out.2.2.2;have l3:=d.out.2.2.2;have r0:=aB G.out.1 l0;have r1:=aB F.out.1 l1;have Z:=aB r.out.1 l2;have Y:=aB p.out.1 l3;have f0:=eQ (b:=w.heap.size+1) (x0:=.slice a0 (N 0) c0) (x1:=.slice c (N 1) a) (x2:=.slice a2 (N 2) c2) (x3:=.slice a3 (N 3) c3) (aS (b:=w.heap.size) (i:=3) (u:=.slice a3 (N 3) c3) (au (aS (b:=w.heap.size) (i:=2) (u:=.slice a2 (N 2) c2) (au (aS (b:=w.heap.size) (i:=1) (u:=.slice c (N 1) a) (au (aS (b:=w.heap.size) (i:=0) (u:=.slice a0 (N 0) c0) r0 (by omega)) F.out.2) (by omega)) r.out.2) (by omega)) p.out.2) (by omega)) (by omega);have f1:=eQ (b:=w.heap.size+1) (x0:=.slice a0 (N 0) c0) (x1:=.slice c (N 1) a) (x2:=.slice a2 (N 2) c2) (x3:=.slice a3 (N 3) c3) (aS (b:=w.heap.size) (i:=3) (u:=.slice a3 (N 3) c3) (au (aS (b:=w.heap.size) (i:=2) (u:=.slice a2 (N 2) c2) (au (aS (b:=w.heap.size) (i:=1) (u:=.slice c (N 1) a) r1 (by omega)) r.out.2) (by omega)) p.out.2) (by omega)) (by omega);have f2:=eQ (b:=w.heap.size+1) (x0:=.slice a0 (N 0) c0) (x1:=.slice c (N 1) a) (x2:=.slice a2 (N 2) c2) (x3:=.slice a3 (N 3) c3) (aS (b:=w.heap.size) (i:=3) (u:=.slice a3 (N 3) c3) (au (aS (b:=w.heap.size) (i:=2) (u:=.slice a2 (N 2) c2) Z (by omega)) p.out.2) (by omega)) (by omega);have f3:=eQ (b:=w.heap.size+1) (x0:=.slice a0 (N 0) c0) (x1:=.slice c (N 1) a) (x2:=.slice a2 (N 2) c2) (x3:=.slice a3 (N 3) c3) (aS (b:=w.heap.size) (i:=3) (u:=.slice a3 (N 3) c3) Y (by omega)) (by omega);refine⟨λq=>match q with|0=>a0|1=>c|2=>a2|_=>a3,λq=>match q with|0=>c0|1=>a|2=>c2|_=>c3,rfl,λq hq=>?_,?_⟩
 .obtain rfl|rfl|rfl|rfl:q=0\/q=1\/q=2\/q=3:=by omega
  .exact aB f0 (by omega)
  .exact aB f1 (by omega)
  .exact aB f2 (by omega)
  .exact aB f3 (by omega)
 .exact(((H.out.1.setCell (by show w.heap.size<=w.heap.size+1;omega) _).setCell (by show w.heap.size<=w.heap.size+1;omega) _).setCell (by show w.heap.size<=w.heap.size+1;omega) _).setCell (by show w.heap.size<=w.heap.size+1;omega) _
end Z
section
open Go Go.Shelf
theorem pplays106:Lays.n106 (patch ae prog) Tryz.lays106_ren:=
 have L:=Tryz.lays106
 {mixed:=L.mixed,
  f106:=pf L.f106 (by rfl),
  f213:=pf L.f213 (by rfl),
  f265:=pf L.f265 (by rfl),
  t3:=L.t3,
  a3:=λw=>(aP _ _ _ w).trans (L.a3 w),
  z3:=λw=>(aM _ _ _ w).trans (L.z3 w),
  v3:=λw=>(aI _ _ _ w).trans (L.v3 w),
  t9:=L.t9,
  a9:=λw=>(aP _ _ _ w).trans (L.a9 w),
  z9:=λw=>(aM _ _ _ w).trans (L.z9 w),
  v9:=λw=>(aI _ _ _ w).trans (L.v9 w)}
end
namespace Z
open Go.RowKit
attribute [local go_sem ↓] Go.wp_at_zero Go.wp_at_succ
attribute [local go_sem] After.cell After.frozen After.const
def Dv (a b:ByteArray):Int:=Lib.compareBytes a.data.toList b.data.toList
theorem compareN_any (a b)(w):Calls (patch ae prog) 81 #[.string a,.string b] w λe w'=>e=.returned (.int .i64 (Dv a b))/\w'=w:=Go.Proofs.Any.strings_Compare pplays106 a b w
theorem isNameX_any (s)(w):Calls (patch ae prog) 52 #[.string s] w λe w'=>e=.returned (.bool (decide ((1:Int)<=s.size)&&decide ((s.size:Int)<=20)))/\w'=w:=by
 by_cases a:(1:Int)<=s.size
 .go_enter (pf func52 (by rfl)),ntmps52
  go_wp2_with fail;go_ret;exact⟨by simp[a],rfl⟩
 .go_enter (pf func52 (by rfl)),ntmps52
  go_wp2_with fail;go_ret
  exact⟨by
   have hd:decide ((1:Int)<=s.size)=false:=decide_eq_false (by omega);rw[hd];rfl,rfl⟩
theorem oV (nm s)(a0 h a2 a3)(c b a n3 g k1 f d)(w):
 Calls (patch ae prog) 80 #[.agg #[.string nm,.slice a0 c g,.slice h b k1,.slice a2 a f,.slice a3 n3 d],.string s] w λe w'=>e=.returned (.int .i64 (Dv nm s))/\Below w.heap.size w w':=by
 go_enter (pf func80 (by rfl)),ntmps80
 go_wp2_with(go_at_call 81;refine(compareN_any _ _ _).mono ?_;rintro e w' ⟨rfl,rfl⟩);go_ret;exact⟨rfl,(aab _ _).alloc (ZL _) _⟩
def boxM (D:BD)(Z:Nat->Prop)(nm:Nat->ByteArray)(b o:Nat)(w:World):Prop:=boxC D Z b o w/\∀i,i<D.bn->w.cell? ⟨b,o+5*i,none⟩=some (.string (nm i))
theorem box_row {D}{Z}{nm}{b o}{w}(h:boxM D Z nm b o w){i}(c:i<D.bn):∃(A:Nat->Option Addr) (K:Nat->Nat),w.cell? ⟨b,o+i*5,none⟩=some (.string (nm i))/\w.cell? ⟨b,o+i*5+1+0,none⟩=some (.slice (A 0) (D.oN i 0) (K 0))/\w.cell? ⟨b,o+i*5+1+1,none⟩=some (.slice (A 1) (D.oN i 1) (K 1))/\w.cell? ⟨b,o+i*5+1+2,none⟩=some (.slice (A 2) (D.oN i 2) (K 2))/\w.cell? ⟨b,o+i*5+1+3,none⟩=some (.slice (A 3) (D.oN i 3) (K 3)):=by
 have a:=(h.1 i c).2;obtain⟨v0,d,a0,g,rfl,_⟩:=a 0 (by omega);obtain⟨v1,c2,j,k1,rfl,_⟩:=a 1 (by omega);obtain⟨v2,c3,a2,f,rfl,_⟩:=a 2 (by omega);obtain⟨v3,c4,a3,e,rfl,_⟩:=a 3 (by omega);have c0:=h.2 i c;rw[Nat.mul_comm 5 i]at c0 d c2 c3 c4;exact⟨λq=>match q with|0=>a0|1=>j|2=>a2|_=>a3,λq=>match q with|0=>g|1=>k1|2=>f|_=>e,c0,d,c2,c3,c4⟩
def jw (n:Nat)(nm:Nat->ByteArray)(s:ByteArray)(p:Nat)(t:Bool):Prop:=p<=n/\(0<p->Dv (nm (p-1)) s<0)/\(p<n->0<=Dv (nm p) s)/\(t=true↔p<n/\Dv (nm p) s=0)
theorem searchBox_any (D)(Z)(nm)(v f)(s)(w)(h:bZ w Z v D.bn (boxM D Z nm))(hf:f=.func (.func 80) #[] #[]):
 Calls (patch ae prog) 79 #[v,.string s,f] w λe w'=>(∃p t,e=.returned (.tuple #[.int .i64 (p:Nat),.bool t])/\jw D.bn nm s p t)/\Below w.heap.size w w':=by
 obtain⟨ao,cap,rfl,hc,hm,y,_⟩:=h;subst hf;have z:Hid (0<D.bn->∃b o,ao=some ⟨b,o,none⟩/\boxM D Z nm b o w):=y;clear y
 go_enter (pf func79 (by rfl)),ntmps79
 go_wp2_with fail
 go_loopg [9,10] D.bn (λC B r wr=>∃d a:Nat,B=.int .i64 d/\r=.int .i64 a/\d<=a/\a<=D.bn/\a-d<=C/\Below w.heap.size w wr/\(0<d->Dv (nm (d-1)) s<0)/\(a<D.bn->0<=Dv (nm a) s))
 case atStart=>exact⟨0,D.bn,rfl,rfl,by omega,by omega,by omega,aab _ _,λh=>absurd h (by omega),λh=>absurd h (by omega)⟩
 case round=>
  obtain⟨d,a,rfl,rfl,F,l,M,hb,m,n⟩:=hrel;have g:=av (aaa hb (aaa m n));clear m n
  by_cases E:d<a
  .obtain⟨b,o,rfl,k⟩:=z.out (by omega)
   obtain⟨A,K,c0,q,c2,c3,c4⟩:=box_row k (i:=(d+a)/2) (by omega);have L:=keeps hb c0;have J:=keeps hb q;have I:=keeps hb c2;have H:=keeps hb c3;have G:=keeps hb c4;clear k c0 q c2 c3 c4 hb
   by_cases j:Dv (nm ((d+a)/2)) s<0
   .go_wp2_with(go_at_call 80;refine(oV _ _ _ _ _ _ _ _ _ _ _ _ _ _ _).mono ?_;rintro e w1 ⟨rfl,c⟩;have H1:=av (g.out.1.trans (c.mono g.out.1.size));clear c)
    go_roundg (a-((d+a)/2+1))
    case measure=>omega
    case rel=>exact⟨(d+a)/2+1,a,by rw[show((d:Int)+(a:Int))/2+1=(((d+a)/2+1:Nat):Int) by omega],rfl,by omega,l,by omega,H1.out,λ_=>by simpa using j,g.out.2.2⟩
   .go_wp2_with(go_at_call 80;refine(oV _ _ _ _ _ _ _ _ _ _ _ _ _ _ _).mono ?_;rintro e w1 ⟨rfl,c⟩;have H1:=av (g.out.1.trans (c.mono g.out.1.size));clear c)
    go_roundg ((d+a)/2-d)
    case measure=>omega
    case rel=>exact⟨d,(d+a)/2,rfl,by rw[show((d:Int)+(a:Int))/2=(((d+a)/2:Nat):Int) by omega],by omega,by omega,by omega,H1.out,g.out.2.1,λ_=>by omega⟩
  .obtain rfl:a=d:=by omega
   by_cases x:a<D.bn
   .have u:(a:Int)<D.bn:=by omega
    obtain⟨b,o,rfl,k⟩:=z.out (by omega);obtain⟨A,K,c0,q,c2,c3,c4⟩:=box_row k x;have L:=keeps hb c0;have J:=keeps hb q;have I:=keeps hb c2;have H:=keeps hb c3;have G:=keeps hb c4;clear k c0 q c2 c3 c4 hb
    by_cases j:Dv (nm a) s=0
    .go_wp2_with(go_at_call 80;refine(oV _ _ _ _ _ _ _ _ _ _ _ _ _ _ _).mono ?_;rintro e w1 ⟨rfl,c⟩;have H1:=av (g.out.1.trans (c.mono g.out.1.size));clear c)
     go_ret2;exact⟨⟨a,true,by simp[j],l,g.out.2.1,g.out.2.2,by simp[x,j]⟩,H1.out⟩
    .go_wp2_with(go_at_call 80;refine(oV _ _ _ _ _ _ _ _ _ _ _ _ _ _ _).mono ?_;rintro e w1 ⟨rfl,c⟩;have H1:=av (g.out.1.trans (c.mono g.out.1.size));clear c)
     go_ret2;exact⟨⟨a,false,by simp[j],l,g.out.2.1,g.out.2.2,by simp[j]⟩,H1.out⟩
   .have u:¬(a:Int)<D.bn:=by omega
    clear hb;go_wp2_with fail;go_ret2;exact⟨⟨a,.inl ⟨rfl,l,g.out.2.1,g.out.2.2,by simp[x]⟩⟩,g.out.1⟩
theorem findB_any (D)(Z)(nm)(B)(v)(s)(w)(hc:w.cell? ⟨B,6,none⟩=some v)(h:bZ w Z v D.bn (boxM D Z nm)):
 Calls (patch ae prog) 51 #[.pointer (some ⟨B,0,none⟩),.string s] w λe w'=>(∃p t,e=.returned (.tuple #[.int .i64 (p:Nat),.bool t])/\jw D.bn nm s p t)/\Below w.heap.size w w':=by
 have b:=av h;obtain⟨ao,cap,rfl,_⟩:=h
 go_enter (pf func51 (by rfl)),ntmps51
 go_wp2_with(go_at_call 79;refine(searchBox_any D Z nm _ _ s w b.out rfl).mono ?_;rintro e w1 ⟨⟨p,t,rfl,hp⟩,a⟩);go_ret2;exact⟨⟨p,t,rfl,hp⟩,a⟩
theorem jM:((patch ae prog).info? 98).map (λi=>(i.zero,i.size,i.bytes))=some (some (.agg #[.string ⟨#[]⟩,.slice none 0 0,.slice none 0 0,.slice none 0 0,.slice none 0 0]),5,112):=by kernel_rfl
theorem fA:(patch ae prog).underlying 47=some (.slice 98):=by kernel_rfl
def fG (w:World)(b o:Nat)(xs:List Value):Prop:=∀j u,xs[j]? =some u->w.cell? ⟨b,o+j,none⟩=some u
theorem uM (ao)(n cap)(xs)(w)(E:n<=1000000)(hx:xs.length=n*5)(t:∀u∈xs,u.oneCell'=true)(z:n<=cap)(s:0<n->∃b o,ao=some ⟨b,o,none⟩/\fG w b o xs):
 Calls (patch ae prog) 46 #[.slice ao n cap] w λe w'=>∃a' v,e=.returned (.slice a' n v)/\w'.ownsRow w.heap.size 98 5 (.slice a' n v) n xs/\Below w.heap.size w w':=by
 cases ao with
 |none=>
  have D:n=0:=by
   by_cases h:0<n
   .obtain⟨b,o,e,_⟩:=s h
    cases e
   .omega
  subst D;have r:xs=[]:=List.eq_nil_of_length_eq_zero (by omega);subst r;have heq:=fun(W:World)=>Lib.run_eql_slice_nil (P:=(patch ae prog)) W 47 98 none 0 cap 0 0 fA
  go_enter (pf func46 (by rfl)),ntmps46
  go_wp2_with fail;go_ret;exact⟨none,0,rfl,aag _ _ _ _,aab _ _⟩
 |some a=>
  have heq:=fun(W:World)=>Lib.run_eql_slice_nil (P:=(patch ae prog)) W 47 98 (some a) n cap 0 0 fA
  obtain⟨i,C,q,p,m⟩:=info_parts jM;have hu:=fA
  have hcell:∀j u,xs[j]? =some u->w.cell? (a.add j)=some u:=λj u g=>by
   have A:=(ZZ.1 g).1;obtain⟨b,o,e,hc⟩:=s (by omega);cases e;rw[Addr.add_lit];exact hc j u g
  have l:Hid ((∀j u,xs[j]? =some u->(w.alloc (.cells #[] 98)).cell? (a.add j)=some u)/\(∀u∈xs,u.oneCell'=true)/\xs.length=n*5/\(w.alloc (.cells #[] 98)).ownsRow w.heap.size 98 5 (.slice (some ⟨w.heap.size,0,none⟩) 0 0) 0 []):=
   ⟨λj u g=>keeps ((aab _ _).alloc (ZL _) _) (hcell j u g),t,hx,by simp,.inr ⟨w.heap.size,0,#[],rfl,ZL _,aae _ _,ZL _,by unfold maxLen;omega,by simp,by simp⟩⟩
  clear s hx t hcell
  go_enter (pf func46 (by rfl)),ntmps46
  go_wp2_with(at_builtin;go_loud(refine wpList_append_own _ rfl _ _ _ rfl w.heap.size 98 i _ 5 112 hu C q p m rfl (by omega) _ 0 [] rfl l.out.2.2.2 a n cap xs (by rfl) l.out.2.2.1 l.out.1 l.out.2.1 (by unfold maxLen;omega) (by omega) (by simp) ?_);intro v' w1 f d _);go_ret;have c:w1.ownsRow w.heap.size 98 5 v' n xs:=by simpa using f
  obtain⟨x,y,rfl⟩:=aj c;exact⟨x,y,rfl,c,((aab _ _).alloc (ZL _) _).grown d (by simp) (λk B=>by cases B;exact ZL _)⟩
def In64 (z:Int):Prop:= -9223372036854775808<=z/\z<=9223372036854775807
def aK (c:Int)(n:Nat):Nat:=((if c<0 then-(c+1)else c)% (n:Int)).toNat
theorem ik (c){n}(a:0<n):aK c n<n:=by
 unfold aK;have d:=Int.emod_lt_of_pos (if c<0 then-(c+1)else c) (show(0:Int)<n by omega);have b:=Int.emod_nonneg (if c<0 then-(c+1)else c) (show(n:Int)≠0 by omega);omega
theorem dG (c)(n:Nat)(w)(hc:In64 c)(d:0<n/\n<=1000):
 Calls (patch ae prog) 39 #[.int .i64 c,.int .i64 n] w λe w'=>e=.returned (.int .i64 (aK c n))/\w'=w:=by
 obtain⟨i,c2⟩:=hc;obtain⟨g,f⟩:=d;have a:(n:Int)≠0:=by omega
 have b:((n:Int)==0)=false:=beq_eq_false_iff_ne.2 a
 by_cases h:c<0
 .have e:(aK c n:Int)=(-(c+1))% (n:Int):=by
   unfold aK;rw[if_pos h];exact Int.toNat_of_nonneg (Int.emod_nonneg _ a)
  have t:(-(c+1)).tmod (n:Int)=(-(c+1))% (n:Int):=Int.tmod_eq_emod_of_nonneg (by omega)
  go_enter (pf func39 (by rfl)),ntmps39
  go_wp2_with fail;go_ret;exact⟨by first|rfl|(rw[e,<-t];rfl)|(rw[e];rfl)|rw[e,<-t],rfl⟩
 .have e:(aK c n:Int)=c% (n:Int):=by
   unfold aK;rw[if_neg h];exact Int.toNat_of_nonneg (Int.emod_nonneg _ a)
  have t:c.tmod (n:Int)=c% (n:Int):=Int.tmod_eq_emod_of_nonneg (by omega)
  go_enter (pf func39 (by rfl)),ntmps39
  go_wp2_with fail;go_ret;exact⟨by first|rfl|(rw[e,<-t];rfl)|(rw[e];rfl)|rw[e,<-t],rfl⟩
theorem diskFail_any (b)(n)(x y)(w)(c:w.cell? ⟨b,8,none⟩=some x)(a:w.cell? ⟨b,9,none⟩=some y)(f8:w.frozen? ⟨b,8,none⟩=false)(f9:w.frozen? ⟨b,9,none⟩=false):
 Calls (patch ae prog) 45 #[.pointer (some ⟨b,7,none⟩),.int .i64 n] w λe w'=>e=.returned (.tuple #[])/\w'=(w.setCell ⟨b,8,none⟩ (.bool (decide (0<=n)))).setCell ⟨b,9,none⟩ (.int .i64 n):=by
 by_cases h:0<=n
 .go_enter (pf func45 (by rfl)),ntmps45
  go_wp2_with fail;refine bodyPost_end (results_none rfl _ _ _) rfl ?_;exact⟨rfl,by simp[h]⟩
 .go_enter (pf func45 (by rfl)),ntmps45
  go_wp2_with fail;refine bodyPost_end (results_none rfl _ _ _) rfl ?_;exact⟨rfl,by first|rfl|(rw[show decide (0<=n)=false from decide_eq_false (by omega)])⟩
theorem failAtB_any (b)(n)(x y)(w)(c:w.cell? ⟨b,8,none⟩=some x)(a:w.cell? ⟨b,9,none⟩=some y)(f8:w.frozen? ⟨b,8,none⟩=false)(f9:w.frozen? ⟨b,9,none⟩=false):
 Calls (patch ae prog) 16 #[.pointer (some ⟨b,0,none⟩),.int .i64 n] w λe w'=>e=.returned (.tuple #[])/\w'=(w.setCell ⟨b,8,none⟩ (.bool (decide (0<=n)))).setCell ⟨b,9,none⟩ (.int .i64 n):=by
 have d:=av (diskFail_any b n x y w c a f8 f9);clear c a f8 f9
 go_enter (pf func16 (by rfl)),ntmps16
 go_wp2_with(go_at_call 45;refine d.out.mono ?_;rintro e w1 ⟨rfl,hw⟩);refine bodyPost_end (results_none rfl _ _ _) rfl ?_;exact⟨rfl,by first|rfl|exact hw⟩
end Z
