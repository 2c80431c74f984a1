/- Part 44 of the proof. -/
import Derived.Test.YtfpaamhppamcoaaGreatDoorSp43
set_option linter.all false
set_option maxRecDepth 100000
set_option maxHeartbeats 60000000
namespace Go.Proofs.YtfpaamhppamcoaaGreatDoor
open Go.Proofs.Tryz
namespace Z
open Go.RowKit
attribute [local go_sem ↓] Go.wp_at_zero Go.wp_at_succ
attribute [local go_sem] After.cell After.frozen After.const
def pN (X:Nat->Int)(i:Nat):Int:=(aK (X i) 24:Nat)
def pJ (X:Nat->Int)(i:Nat):Int:=(aK (X i) 24%4:Nat)
def pF (X:Nat->Int)(i:Nat):Int:=(aK (X i) 24%4/2:Nat)
def mkM (X:Nat->Int)(p:Int)(j:Nat)(R:List Nat):cz:=⟨none,0,0,j,0,pF X,pJ X,pN X,none,0,0,R.length,0,λi=>(R[i]?.getD 0:Nat),p⟩
theorem cpuL_succ (X)(p)(j)(R d):oq (mkM X p (j+1) d)=oq (mkM X p j R)++[.int .i64 (pF X j),.int .i64 (pJ X j),.int .i64 (pN X j)]:=by
 show(List.range ((j+1)*3)).map (bW (pF X) (pJ X) (pN X))=(List.range (j*3)).map (bW (pF X) (pJ X) (pN X))++_
 rw[show(j+1)*3=j*3+1+1+1 by omega,Z6,Z6,Z6];have c:=cpuCell_0 (pF X) (pJ X) (pN X) j;have b:=cpuCell_1 (pF X) (pJ X) (pN X) j;have a:=cpuCell_2 (pF X) (pJ X) (pN X) j;simp[c,b,a]
theorem resL_mk (X)(p)(j)(R):resL (mkM X p j R)=aT R:=by
 show(List.range R.length).map (λi=>Value.int .i64 ((R[i]?.getD 0:Nat):Int))=aT R
 refine List.ext_getElem (by simp[aT]) λi b c=>?_
 have a:i<R.length:=by simpa using b
 simp[aT,a]
theorem nodeSock (a b):¬(((a:Nat):Int)=(b:Nat)/\((a%4:Nat):Int)≠((b%4:Nat):Int))/\(((a%4:Nat):Int)≠((b%4:Nat):Int)\/((a%4/2:Nat):Int)=((b%4/2:Nat):Int)):=by omega
def jm (R:List Nat)(n:Nat):Prop:=R.Pairwise (· < ·)/\∀x∈R,x<n
theorem jm.snoc {R}{n}(h:jm R n):jm (R++[n]) (n+1):=
 ⟨List.pairwise_append.2 ⟨h.1,List.pairwise_singleton _ _,λa c b hb=>by rw[List.mem_singleton.1 hb];exact h.2 a c⟩,λx hx=>by
  rcases aaz.1 hx with hx|hx
  .exact Nat.lt_succ_of_lt (h.2 x hx)
  .rw[List.mem_singleton.1 hx];exact Z4 n⟩
theorem jm.up {R}{n m}(h:jm R n)(hm:n<=m):jm R m:=⟨h.1,λx hx=>ZO (h.2 x hx) hm⟩
theorem mkM_ok {X}{p}{j}{R}(c:1<=j)(b:j<=24)(hp:0<=p/\p<=3)(hR:jm R j):(mkM X p j R).ok:=by
 refine⟨c,b,λi a=>⟨⟨?_,?_,?_,?_,?_,?_⟩,λk f=>?_⟩,λi a=>?_,hp.1,hp.2⟩
 .show 0<=((aK (X i) 24%4/2:Nat):Int);omega
 .show((aK (X i) 24%4/2:Nat):Int)<4;omega
 .show 0<=((aK (X i) 24%4:Nat):Int);omega
 .show((aK (X i) 24%4:Nat):Int)<4;omega
 .show 0<=((aK (X i) 24:Nat):Int);omega
 .have:=ik (X i) (show 0<24 by omega)
  show((aK (X i) 24:Nat):Int)<24;omega
 .exact nodeSock _ _
 .have a:i<R.length:=a
  have e:R[i]?.getD 0=R[i]:=by rw[ZT a];rfl
  show 0<=((R[i]?.getD 0:Nat):Int)/\((R[i]?.getD 0:Nat):Int)< (j:Nat)/\(0<i->((R[i-1]?.getD 0:Nat):Int)< ((R[i]?.getD 0:Nat):Int))
  rw[e];have g:=hR.2 _ (List.getElem_mem a);refine⟨by omega,by omega,λh=>?_⟩;have d:R[i-1]?.getD 0=R[i-1]:=by rw[ZT (by omega)];rfl
  rw[d];have:=List.pairwise_iff_getElem.1 hR.1 (i-1) i (by omega) a (by omega);omega
structure fZ (w:World)(raw:Array Value)(X:Nat->Int)(p:Int)(j:Nat)(R:List Nat)(vc vr:Value)(wr:World):Prop where
 b0:wr.heap[w.heap.size]? =some (.cells raw 25 (0,0))
 b1:wr.heap[w.heap.size+1]? =some (.cells #[.slice none 0 0,.slice none 0 0,.int .i64 0] 25 (0,0))
 b2:wr.heap[w.heap.size+1+1]? =some (.cells #[vc,vr,.int .i64 p] 25 (0,0))
 dA:wr.ownsRow (w.heap.size+3) 81 3 vc j (oq (mkM X p j R))
 res:wr.ownsRow (w.heap.size+3) 3 1 vr R.length (aT R)
 below:Below w.heap.size w wr
 size:w.heap.size+3<=wr.heap.size
theorem heap_alloc3_0 (w:World)(a b c):(((w.alloc a).alloc b).alloc c).heap[w.heap.size]? =some a:=by
 rw[aac _ _ _ (by simp;omega),aac _ _ _ (by simp)];exact aae _ _
theorem heap_alloc3_1 (w:World)(a b c):(((w.alloc a).alloc b).alloc c).heap[w.heap.size+1]? =some b:=by
 rw[aac _ _ _ (by simp),show w.heap.size+1=(w.alloc a).heap.size by simp];exact aae _ _
theorem heap_alloc3_2 (w:World)(a b c):(((w.alloc a).alloc b).alloc c).heap[w.heap.size+1+1]? =some c:=by
 rw[show w.heap.size+1+1=((w.alloc a).alloc b).heap.size by simp];exact aae _ _
theorem own_typed {w:World}{base e size n}{v}{xs}(h:w.ownsRow base e size v n xs){b}(hb:v.ownBlock=some b):∃cur,w.heap[b]? =some (.cells cur e (0,0)):=by
 rcases h.2 with⟨rfl,_⟩|⟨g,cap,cur,rfl,_,a,_⟩
 .cases hb
 .cases hb;exact⟨_,a⟩
section
variable {w wr w2:World}{raw:Array Value}{X:Nat->Int}{p:Int}{j:Nat}{R:List Nat}{vc vr v':Value}
theorem fZ.alloc (h:fZ w raw X p j R vc vr wr)(o):fZ w raw X p j R vc vr (wr.alloc o):=
 have k:∀{b a},wr.heap[b]? =some a->(wr.alloc o).heap[b]? =some a:=λhb=>(aac _ _ _ (ZK.1 hb).1).trans hb
 ⟨k h.b0,k h.b1,k h.b2,h.dA.alloc _,h.res.alloc _,h.below.alloc h.below.size _,by have:=h.size;rw[aao];omega⟩
theorem fZ.apart (h:fZ w raw X p j R vc vr wr){b}(e:vc.ownBlock=some b):vr.ownBlock≠some b:=λd=>by
 obtain⟨g,f⟩:=own_typed h.dA e;obtain⟨c2,a⟩:=own_typed h.res d;rw[f]at a;have:=Option.some.inj a
 injection this with _ c _
 revert c
 decide
theorem fZ.cpu (h:fZ w raw X p j R vc vr wr)(c:wr.grownBy w2 vc.ownBlock)(a:w2.ownsRow (w.heap.size+3) 81 3 v' (j+1) (oq (mkM X p j R)++[.int .i64 (pF X j),.int .i64 (pJ X j),.int .i64 (pN X j)])):fZ w raw X p (j+1) R v' vr (w2.setCell ⟨w.heap.size+1+1,0,none⟩ v'):=by
 have hs:=h.size;have hb:∀b,vc.ownBlock=some b->w.heap.size+3<=b:=λb e=>(h.dA.lt b e).1
 have k:∀b,b<w.heap.size+3->w2.heap[b]? =wr.heap[b]?:=λb f=>c.block b (by omega) (λe=>by have:=hb b e.symm;omega)
 have B:Below w.heap.size w w2:=h.below.grown c (by omega) (λq d=>by have:=hb q d;omega);refine⟨?_,?_,?_,?_,?_,B.setCell (by show w.heap.size<=w.heap.size+1+1;omega) _,?_⟩
 .exact dP _ ((k _ (by omega)).trans h.b0) (by show w.heap.size≠w.heap.size+1+1;omega)
 .exact dP _ ((k _ (by omega)).trans h.b1) (by show w.heap.size+1≠w.heap.size+1+1;omega)
 .have:=aD (i:=0) v' ((k _ (by omega)).trans h.b2)
  simpa only[ZN,ZR] using this
 .rw[cpuL_succ X p j R R]
  exact aaf a (by show w.heap.size+1+1<w.heap.size+3;omega) _
 .exact aaf (aJ h.res λb e=>c.block b (h.res.lt b e).2 (λg=>h.apart g.symm e)) (by show w.heap.size+1+1<w.heap.size+3;omega) _
 .have:=c.size
  simp;omega
theorem intV_snoc (l)(x):aT (l++[x])=aT l++[.int .i64 x]:=by simp[aT]
theorem fZ.resv {x:Nat}(h:fZ w raw X p j R vc vr wr)(c:wr.grownBy w2 vr.ownBlock)(a:w2.ownsRow (w.heap.size+3) 3 1 v' (R.length+1) (aT R++[.int .i64 x])):fZ w raw X p j (R++[x]) vc v' (w2.setCell ⟨w.heap.size+1+1,1,none⟩ v'):=by
 have hs:=h.size;have hb:∀b,vr.ownBlock=some b->w.heap.size+3<=b:=λb e=>(h.res.lt b e).1
 have k:∀b,b<w.heap.size+3->w2.heap[b]? =wr.heap[b]?:=λb f=>c.block b (by omega) (λe=>by have:=hb b e.symm;omega)
 have B:Below w.heap.size w w2:=h.below.grown c (by omega) (λq d=>by have:=hb q d;omega);refine⟨?_,?_,?_,?_,?_,B.setCell (by show w.heap.size<=w.heap.size+1+1;omega) _,?_⟩
 .exact dP _ ((k _ (by omega)).trans h.b0) (by show w.heap.size≠w.heap.size+1+1;omega)
 .exact dP _ ((k _ (by omega)).trans h.b1) (by show w.heap.size+1≠w.heap.size+1+1;omega)
 .have:=aD (i:=1) v' ((k _ (by omega)).trans h.b2)
  simpa only[ZN,ZR,ZS] using this
 .exact aaf (aJ h.dA λb e=>c.block b (h.dA.lt b e).2 (λg=>h.apart e g.symm)) (by show w.heap.size+1+1<w.heap.size+3;omega) _
 .rw[intV_snoc,Z7]
  exact aaf a (by show w.heap.size+1+1<w.heap.size+3;omega) _
 .have:=c.size
  simp;omega
theorem cells3_new (w:World)(a b c)(t):∀j u,[a,b,c][j]? =some u->(w.alloc (.cells #[a,b,c] t)).cell? ((⟨w.heap.size,0,none⟩:Addr).add j)=some u:=λj u d=>by
 rw[Addr.add_lit,Z8,(blk (aae w (.cells #[a,b,c] t))).1 j];simpa using d
theorem fZ.fin (h:fZ w raw X p j R vc vr wr)(b:1<=j)(a:j<=24)(hp:0<=p/\p<=3)(hR:jm R j):kX (((wr.setCell ⟨w.heap.size+1,0,none⟩ vc).setCell ⟨w.heap.size+1,1,none⟩ vr).setCell ⟨w.heap.size+1,2,none⟩ (.int .i64 p)) w.heap.size (mkM X p j R) vc vr/\Below w.heap.size w (((wr.setCell ⟨w.heap.size+1,0,none⟩ vc).setCell ⟨w.heap.size+1,1,none⟩ vr).setCell ⟨w.heap.size+1,2,none⟩ (.int .i64 p)):=by
 have k:∀i,(⟨w.heap.size+1,i,none⟩:Addr).block<w.heap.size+3:=λ_=>by show w.heap.size+1<w.heap.size+3;omega
 have l:∀i,w.heap.size<=(⟨w.heap.size+1,i,none⟩:Addr).block:=λ_=>by show w.heap.size<=w.heap.size+1;omega
 refine⟨⟨mkM_ok b a hp hR,aB (aaf (aaf (aaf h.dA (k 0) _) (k 1) _) (k 2) _) (by omega),?_⟩,((h.below.setCell (l 0) _).setCell (l 1) _).setCell (l 2) _⟩;rw[resL_mk];exact aB (aaf (aaf (aaf h.res (k 0) _) (k 1) _) (k 2) _) (by omega)
theorem fZ.other (h:fZ w raw X p 0 R vc vr wr):fZ w raw (λ_=>0) p 0 R vc vr wr:=⟨h.b0,h.b1,h.b2,h.dA,h.res,h.below,h.size⟩
theorem jm.zero (h:jm R 0):R=[]:=by
 cases R with
 |nil=>rfl
 |cons a l=>exact absurd (h.2 a (ZX ..)) (ZV _)
end
theorem machineK_any (M:cz)(w)(hM:M.At w)(Y:∀i,i<M.n->In64 (M.S i)/\In64 (M.C i))(hp:In64 M.p):
 Calls (patch ae prog) 8 #[M.val] w λe w'=>∃m ca cc ra rc,e=.returned (.agg #[.slice ca m.n cc,.slice ra m.r rc,.int .i64 m.p])/\kX w' w.heap.size m (.slice ca m.n cc) (.slice ra m.r rc)/\Below w.heap.size w w':=by
 obtain⟨ao,b,o,n,cap,S,N,X,ro,rb,rp,r,gD,R0,p⟩:=M;obtain⟨ncap,nmax,addr,dA,ο,rmax,raddr,ints⟩:=hM;simp only[cz.val]at*;obtain⟨i0,Z,U,T,Q⟩:=info_parts Tryz.info22;obtain⟨i1,ι,ζ,ε,δ⟩:=info_parts Tryz.gQ;have hu:=((ax ae prog 22).trans underlying22);have η:=((ax ae prog 23).trans underlying23);have K:=av (aaa dA (aaa Y addr));clear dA ints Y addr raddr;have φ:=ik p (show 0<4 by omega)
 go_enter (pf func8 (by rfl)),ntmps8
 go_wp2_with fail;refine(dG p 4 _ hp (by omega)).mono ?_;rintro e w1 ⟨rfl,hw⟩;obtain rfl:=hw.symm;go_wp2_with fail
 go_loopw [4,5] (λc i wr=>∃(j:Nat) (R:List Nat) (vc vr:Value),j<=min n 24/\R.length<=4/\jm R j/\c=.int .i64 R.length/\i=.int .i64 j/\fZ w #[.slice ao n cap,.slice ro r gD,.int .i64 p] X (aK p 4:Nat) j R vc vr wr) (λ_ i _=>min n 24-(intOf i).toNat)
 case atStart=>
  exact⟨0,[],_,_,by omega,by simp,⟨.nil,λx hx=>by cases hx⟩,rfl,rfl,heap_alloc3_0 _ _ _ _,heap_alloc3_1 _ _ _ _,heap_alloc3_2 _ _ _ _,aag _ _ _ _,aag _ _ _ _,(((aab _ _).alloc (ZL _) _).alloc (by simp) _).alloc (by simp;omega) _,by simp⟩
 case round=>
  obtain⟨j,R,vc,vr,hj,z,t,rfl,rfl,k⟩:=hrel;obtain⟨D,l,rfl⟩:=aj k.dA;obtain⟨ra,rcc,rfl⟩:=aj k.res;have I:=av k;have H:=av (aaa z t);have hz:w.heap.size+1+1<wr.heap.size:=by have:=k.size;omega
  obtain⟨q0,α⟩:=blk k.b0
  by_cases y:j<n
  .by_cases χ:j<24
   .have jn:(j:Int)<n:=by omega
    have γ:(j:Int)<24:=(by omega);have c0:=keeps k.below (K.out.1 j y).1;have c1:=keeps k.below (K.out.1 j y).2.1;have c2:=keeps k.below (K.out.1 j y).2.2;obtain rfl:=K.out.2.2 (by omega);have hS:=(K.out.2.1 j y).1;have hX:=(K.out.2.1 j y).2;clear k z t;go_wp2_with fail;obtain⟨J,G⟩:∃W,W=wr.alloc (.cells #[.int .i64 (S j),.int .i64 (N j),.int .i64 (X j)] 81):=⟨_,rfl⟩
    have H1:Hid (fZ w #[.slice (some ⟨b,o,none⟩) n cap,.slice ro r gD,.int .i64 p] X (aK p 4:Nat) j R (.slice D j l) (.slice ra R.length rcc) J/\J.heap[wr.heap.size]? =some (.cells #[.int .i64 (S j),.int .i64 (N j),.int .i64 (X j)] 81 (0,0))/\J.heap.size=wr.heap.size+1):=by
     rw[G];exact⟨I.out.alloc _,aae _ _,aao _ _⟩
    rw[<-G];clear G;refine(dG (X j) 24 J hX (by omega)).mono ?_;rintro e w1 ⟨rfl,hw⟩;obtain rfl:=hw.symm;have e4:((aK (X j) 24:Nat):Int).tmod 4=((aK (X j) 24%4:Nat):Int):=(by rw[Int.tmod_eq_emod_of_nonneg (by omega)];omega);have e2:((aK (X j) 24%4:Nat):Int).tdiv 2=((aK (X j) 24%4/2:Nat):Int):=(by rw[Int.tdiv_eq_ediv_of_nonneg (by omega)];omega);obtain⟨m2,E⟩:=blk H1.out.1.b2;clear q0 α c0 c1 c2;have HA:Hid (fZ w #[.slice (some ⟨b,o,none⟩) n cap,.slice ro r gD,.int .i64 p] X (aK p 4:Nat) j R (.slice D j l) (.slice ra R.length rcc) (J.alloc (.cells #[.int .i64 (pF X j),.int .i64 (pJ X j),.int .i64 (pN X j)] 81))):=H1.out.1.alloc _;have κ:=av hS;go_wp2_with(at_builtin;refine wpList_append_own _ rfl _ _ _ rfl (w.heap.size+3) 81 i0 _ 3 24 hu Z U T Q rfl (by omega) _ j (oq (mkM X (aK p 4:Nat) j R)) rfl HA.out.dA ⟨J.heap.size,0,none⟩ 1 1 [.int .i64 (pF X j),.int .i64 (pJ X j),.int .i64 (pN X j)] rfl rfl (cells3_new _ _ _ _ _) (by intro u hu;simp at hu;rcases hu with rfl|rfl|rfl<;>rfl) (by unfold maxLen;omega) (by omega) HA.out.size ?_;intro v' w2 f d _;obtain⟨s,q,rfl⟩:=aj f;have H2:=av (HA.out.cpu d f);have hK:=av (d.block wr.heap.size (by have:=H1.out.2.2;simp;omega) (λe=>by have:=(I.out.dA.lt _ e.symm).2;omega));have μ:=av ((dP (a:=⟨w.heap.size+1+1,0,none⟩) (.slice s (j+1) q) (hK.out.trans ((aac _ _ _ (by have:=H1.out.2.2;omega)).trans H1.out.2.1)) (by show wr.heap.size≠w.heap.size+1+1;omega)));obtain⟨d0,ν⟩:=blk μ.out;obtain⟨m3,O⟩:=blk ((d.block (w.heap.size+1+1) (by have:=H1.out.2.2;rw[aao];omega) (λe=>by have:=(I.out.dA.lt _ e.symm).1;omega)).trans HA.out.b2);clear f d);obtain⟨W2,F⟩:∃W,W=w2.setCell ⟨w.heap.size+1+1,0,none⟩ (.slice s (j+1) q):=⟨_,rfl⟩;have H3:=av (show fZ w #[.slice (some ⟨b,o,none⟩) n cap,.slice ro r gD,.int .i64 p] X (aK p 4:Nat) (j+1) R (.slice s (j+1) q) (.slice ra R.length rcc) W2 from F▸H2.out);rw[<-F];clear F d0 ν m3 O;refine(dG (S j) 6 W2 κ.out (by omega)).mono ?_;rintro e w3 ⟨rfl,hw⟩;obtain rfl:=hw.symm;obtain⟨m4,β⟩:=blk H3.out.b2
    by_cases θ:aK (S j) 6=0
    .rw[θ]
     by_cases υ:R.length<4
     .have r4:(R.length:Int)<4:=by omega
      have B:Hid (fZ w #[.slice (some ⟨b,o,none⟩) n cap,.slice ro r gD,.int .i64 p] X (aK p 4:Nat) (j+1) R (.slice s (j+1) q) (.slice ra R.length rcc) (W2.alloc (.cells #[.int .i64 j] 3))):=H3.out.alloc _;go_wp2_with(at_builtin;refine wpList_append_own _ rfl _ _ _ rfl (w.heap.size+3) 3 i1 _ 1 8 η ι ζ ε δ rfl (by omega) _ R.length (aT R) rfl B.out.res ⟨W2.heap.size,0,none⟩ 1 1 [.int .i64 j] rfl rfl (cell_one_new _ _ _) (by intro u hu;simp at hu;subst hu;rfl) (by unfold maxLen;omega) (by omega) B.out.size ?_;intro v' w4 f d _;obtain⟨σ,ρ,rfl⟩:=aj f;have H4:=av (B.out.resv d f);obtain⟨m5,τ⟩:=blk ((d.block (w.heap.size+1+1) (by have:=H3.out.size;rw[aao];omega) (λe=>by have:=(H3.out.res.lt _ e.symm).1;omega)).trans B.out.b2);clear f d);go_roundw
      case rel=>exact⟨j+1,R++[j],_,_,by omega,by simp only[Z7,List.length_cons,List.length_nil];omega,H.out.2.snoc,by simp,by go_num,H4.out⟩
      case measure=>simp[intOf];omega
     .have r4:¬(R.length:Int)<4:=by omega
      go_wp2_with fail;go_roundw
      case rel=>exact⟨j+1,R,_,_,by omega,H.out.1,H.out.2.up (by omega),rfl,by go_num,H3.out⟩
      case measure=>simp[intOf];omega
    .have s6:((aK (S j) 6:Nat):Int)≠0:=by omega
     have ξ:(((aK (S j) 6:Nat):Int)==0)=false:=beq_eq_false_iff_ne.2 s6;go_wp2_with fail;go_roundw
     case rel=>exact⟨j+1,R,_,_,by omega,H.out.1,H.out.2.up (by omega),rfl,by go_num,H3.out⟩
     case measure=>simp[intOf];omega
   .have jn:(j:Int)<n:=by omega
    have γ:¬(j:Int)<24:=(by omega);obtain⟨m2,E⟩:=blk k.b2;obtain⟨m1,P⟩:=blk k.b1;have V:j≠0:=(by omega);clear k z t;go_wp2_with fail;obtain⟨z0,L,z2⟩:=set3 (.slice D j l) (.slice ra R.length rcc) (.int .i64 (aK p 4:Nat)) (m1 0) (m1 1) (m1 2);obtain⟨g,h⟩:=I.out.fin (by omega) (by omega) (by omega) H.out.2;refine bodyPost_ret (v:=.agg #[.slice D j l,.slice ra R.length rcc,.int .i64 (aK p 4:Nat)]) ?_ rfl ⟨_,_,_,_,_,rfl,g,h⟩;simp[results,results8,go_sem,z0,L,z2]
  .have jn:¬(j:Int)<n:=by omega
   by_cases V:j=0
   .subst V
    obtain rfl:=t.zero;have A:Hid (fZ w #[.slice ao n cap,.slice ro r gD,.int .i64 p] (λ_=>0) (aK p 4:Nat) 0 [] (.slice D 0 l) (.slice ra 0 rcc) (wr.alloc (.cells #[.int .i64 0,.int .i64 0,.int .i64 0] 81))):=(I.out.other).alloc _;obtain⟨m2,E⟩:=blk k.b2;clear k z t;go_wp2_with(at_builtin;refine wpList_append_own _ rfl _ _ _ rfl (w.heap.size+3) 81 i0 _ 3 24 hu Z U T Q rfl (by omega) _ 0 [] rfl A.out.dA ⟨wr.heap.size,0,none⟩ 1 1 [.int .i64 0,.int .i64 0,.int .i64 0] rfl rfl (cells3_new _ _ _ _ _) (by intro u hu;simp at hu;subst hu;rfl) (by unfold maxLen;omega) (by omega) A.out.size ?_;intro v' w2 f d _;obtain⟨s,q,rfl⟩:=aj f;have H2:=av (A.out.cpu d f);obtain⟨m3,O⟩:=blk ((d.block (w.heap.size+1+1) (by rw[aao];omega) (λe=>by have:=(I.out.dA.lt _ e.symm).1;omega)).trans A.out.b2);obtain⟨m4,β⟩:=blk H2.out.b2;obtain⟨m1,P⟩:=blk H2.out.b1;clear f d);obtain⟨z0,L,z2⟩:=set3 (.slice s 1 q) (.slice ra 0 rcc) (.int .i64 (aK p 4:Nat)) (m1 0) (m1 1) (m1 2);obtain⟨g,h⟩:=H2.out.fin (by omega) (by omega) (by omega) (show jm [] 1 from⟨.nil,λx hx=>by cases hx⟩);refine bodyPost_ret (v:=.agg #[.slice s 1 q,.slice ra 0 rcc,.int .i64 (aK p 4:Nat)]) ?_ rfl ⟨_,_,_,_,_,rfl,g,h⟩;simp[results,results8,go_sem,z0,L,z2]
   .obtain⟨m2,E⟩:=blk k.b2
    obtain⟨m1,P⟩:=blk k.b1;clear k z t;go_wp2_with fail;obtain⟨z0,L,z2⟩:=set3 (.slice D j l) (.slice ra R.length rcc) (.int .i64 (aK p 4:Nat)) (m1 0) (m1 1) (m1 2);obtain⟨g,h⟩:=I.out.fin (by omega) (by omega) (by omega) H.out.2;refine bodyPost_ret (v:=.agg #[.slice D j l,.slice ra R.length rcc,.int .i64 (aK p 4:Nat)]) ?_ rfl ⟨_,_,_,_,_,rfl,g,h⟩;simp[results,results8,go_sem,z0,L,z2]
theorem changeEnd_did {s s'}{l}{r}(h:ChangeEnd s l r s')(a:s.jQ->s.ah<4):s'.m=s.m/\s'.no<=s.no+4:=by
 rcases h with⟨hf,_,rfl⟩|⟨_,_,rfl⟩
 .have:=a hf
  refine⟨rfl,?_⟩;show s.no+s.ah.toNat<=s.no+4
  omega
 .exact⟨rfl,ZL _⟩
theorem stepDid_keeps {s s'}{t}(h:StepDid s t s'):s'.m=s.m/\s'.no<=s.no+4:=by
 rcases h with⟨_,h⟩|⟨_,r,h⟩|⟨_,rfl⟩|⟨_,r,h⟩|⟨_,rfl⟩
 .rcases h with⟨rfl,_⟩|⟨m,p,x,_,hf,rfl⟩|⟨m,p,x,_,hf,rfl⟩
  .exact⟨rfl,by omega⟩
  .refine⟨rfl,?_⟩
   have:=hf.2;show s.no+s.ah.toNat<=s.no+4
   omega
  .exact⟨rfl,ZL _⟩
 .rcases h with⟨_,_,rfl⟩|⟨p,_,h⟩
  .exact⟨rfl,by omega⟩
  .exact changeEnd_did h (λh=>h.2)
 .exact⟨rfl,Nat.le_add_right _ _⟩
 .rcases h with⟨_,_,rfl⟩|⟨_,_,_,rfl⟩|⟨_,_,_,rfl⟩
  .exact⟨rfl,by omega⟩
  .exact⟨rfl,by omega⟩
  .exact⟨rfl,Nat.le_add_right _ _⟩
 .exact⟨rfl,Nat.le_add_right _ _⟩
def Ran (m:cz)(T:Nat->eU):Nat->BS->Prop
 |0,s=>s=BS.new m
 |n+1,s'=>∃s,Ran m T n s/\StepDid s (T n) s'
theorem Ran.keeps {m}{T}{n}{s}(h:Ran m T n s):s.m=m/\s.no<=4*n:=by
 induction n generalizing s with
 |zero=>cases h;exact⟨rfl,ZL _⟩
 |succ n a=>
  obtain⟨s1,b,hd⟩:=h;have a:=a b;obtain⟨c,d⟩:=stepDid_keeps hd;exact⟨c.trans a.1,by have:=a.2;omega⟩
structure ScrS (w:World)(so:Option Addr)(n cap:Nat)(T:Nat->eU):Prop where
 room:n<=cap
 many:n<=100000000
 cells:0<n->∃b o,so=some ⟨b,o,none⟩/\∀i,i<n->∀j u,(T i).cells[j]? =some u->w.cell? ⟨b,o+i*9+j,none⟩=some u
 steps:∀i,i<n->(T i).at w
theorem ScrS.below {w w'}{so}{n cap}{T}(h:ScrS w so n cap T)(hb:Below w.heap.size w w'):ScrS w' so n cap T:=
 ⟨h.room,h.many,λc=>let ⟨b,o,e,hc⟩:=h.cells c;⟨b,o,e,λi a j u hu=>keeps hb (hc i a j u hu)⟩,λi a=>(h.steps i a).below hb⟩
theorem dJ.below {w w'}{K c}(h:dJ w w' K c){B}(d:B<=w.heap.size)(a:∀b,b<B->K b=0):Below B w w':=⟨h.os,h.tape,h.output,h.size,λb hb=>h.block b (by omega) (.inl (a b hb))⟩
theorem Bd.zero {w}{base bb}{s}{K}(h:Bd w base bb s K){b}(hb:b<base):K b=0:=by
 obtain⟨_,_,_,_,_,_,h⟩:=h
 by_cases a:K b=0
 .exact a
 .have:=(h.tk b a).1;omega
theorem eU.cell {t:eU}{w:World}{b o}(h:∀j u,t.cells[j]? =some u->w.cell? ⟨b,o+j,none⟩=some u):
 w.cell? ⟨b,o,none⟩=some (.int .i64 t.kind)/\w.cell? ⟨b,o+1,none⟩=some (.int .i64 t.A)/\w.cell? ⟨b,o+2,none⟩=some (.int .i64 t.B)/\w.cell? ⟨b,o+3,none⟩=some (.int .i64 (t.r 0))/\w.cell? ⟨b,o+4,none⟩=some (.int .i64 (t.r 1))/\
 w.cell? ⟨b,o+5,none⟩=some (.int .i64 (t.r 2))/\w.cell? ⟨b,o+6,none⟩=some (.int .i64 (t.r 3))/\w.cell? ⟨b,o+7,none⟩=some (.slice t.ao t.n t.cap)/\w.cell? ⟨b,o+8,none⟩=some (.bool t.yes):=
 ⟨h 0 _ rfl,h 1 _ rfl,h 2 _ rfl,h 3 _ rfl,h 4 _ rfl,h 5 _ rfl,h 6 _ rfl,h 7 _ rfl,h 8 _ rfl⟩
def PlayedPost (w:World)(m:cz)(n:Nat)(T:Nat->eU)(v:Value)(w':World):Prop:=∃base bb s K,v=.pointer (some ⟨bb,0,none⟩)/\w.heap.size<=base/\Bd w' base bb s K/\Ran m T n s/\Below w.heap.size w w'
theorem played_any (m)(B ra so)(A rc base n cap)(T)(a)(w)(h:kX w base m (.slice B m.n A) (.slice ra m.r rc))(E:ScrS w so n cap T)
 (G:w.cell? ⟨0,0,none⟩=some (.iface 345 (.pointer (some a)))):
 Calls (patch ae prog) 9 #[.agg #[.slice B m.n A,.slice ra m.r rc,.int .i64 m.p],.slice so n cap] w (RJ (PlayedPost w m n T) AA):=by
 have C:=av (aaa E G);have O:Hid (∀u,Below w.heap.size w u->Calls (patch ae prog) 33 #[.agg #[.slice B m.n A,.slice ra m.r rc,.int .i64 m.p]] u λe w'=>∃bb K,e=.returned (.tuple #[.pointer (some ⟨bb,0,none⟩),.int .i64 0])/\Bd w' u.heap.size bb (BS.new m) K/\Below u.heap.size u w'):=λu hu=>startM_any m B ra A rc base u (h.below hu)
 have D:=E.many;clear h E G
 go_enter (pf func9 (by rfl)),ntmps9
 go_wp2_with fail;refine(O.out _ ((aab _ _).alloc (ZL _) _)).mono ?_;rintro e w1 ⟨bb,K,rfl,c,q⟩;have v:=q.size;have H1:=av (aaa c (aaa (ai ((aab w.heap.size w).alloc (ZL _) _) q) (show w.heap.size+1<=w1.heap.size by simpa using v)));rw[aao]at H1;clear c q v;go_wp2_with fail
 go_loopw [7] (λi wr=>∃(j:Nat) (s:BS) (y:Nat->Nat),j<=n/\i=.int .i64 j/\Ran m T j s/\Bd wr (w.heap.size+1) bb s y/\dJ w1 wr K y) (λi _=>n-(intOf i).toNat)
 case atStart=>exact⟨0,BS.new m,K,Nat.zero_le _,rfl,rfl,H1.out.1,dJ.refl _ _⟩
 case round=>
  obtain⟨j,s,y,P,rfl,g,c,d⟩:=hrel;have l:Below w.heap.size w wr:=H1.out.2.1.trans (d.below (by have:=H1.out.2.2;omega) (λb hb=>H1.out.1.zero (by omega)));have f:=av (aaa g (aaa c (aaa d l)));clear g c d l
  by_cases x:j<n
  .have jn:(j:Int)<n:=by omega
   obtain⟨b,o,rfl,hc⟩:=C.out.1.cells (by omega);obtain⟨c0,M,c2,c3,c4,c5,L,J,I⟩:=eU.cell (t:=T j) (w:=wr) (b:=b) (o:=o+j*9) (λk u hu=>keeps f.out.2.2.2 (hc j x k u hu));clear hc;go_wp2_with fail;have H:=f.out.1.keeps.2;refine(do_any (w.heap.size+1) bb s y (T j) a wr f.out.2.1 ((C.out.1.steps j x).below f.out.2.2.2) (by omega) (keeps f.out.2.2.2 C.out.2) (by have:=aan C.out.2;simp only at this;omega)).mono ?_;intro e w4 he;cases e with
   |outgrown=>exact he.elim
   |panicked ch=>exact⟨rfl,he⟩
   |returned r=>
    obtain⟨⟨z,rfl⟩,s',N,hd,c,d⟩:=he;have F:=av (aaa hd (aaa c d));clear hd c d c0 M c2 c3 c4 c5 L J I;go_wp2_with fail;go_roundw
    case rel=>exact⟨j+1,s',N,by omega,by go_num,⟨s,f.out.1,F.out.1⟩,F.out.2.1,f.out.2.2.1.trans F.out.2.2⟩
    case measure=>simp[intOf];omega
  .have jn:¬(j:Int)<n:=by omega
   obtain rfl:j=n:=(by omega);go_wp2_with fail;go_ret;exact⟨_,bb,s,y,rfl,by omega,f.out.2.1,f.out.1,f.out.2.2.2⟩
section
variable {w wr W2:World}{s:BS}{d:Nat->Value}
end
def updV (G:Nat->Value)(q:Nat)(v:Value):Nat->Value:=λa=>if a=q then v else G a
theorem four_get (f:Nat->Value){k}(a:k<4):(#[f 0,f 1,f 2,f 3]:Array Value)[k]? =some (f k):=by
 obtain rfl|rfl|rfl|rfl:k=0\/k=1\/k=2\/k=3:=by omega
 all_goals rfl
section
variable {w wr w2:World}{mc lc:Array Value}{L:Nat->List Nat}{G:Nat->Value}
end
section
variable {w wr:World}{mc lc gc:Array Value}{c:Nat->Nat}
end
end Z
section
open Go Go.Conc
namespace Widths
end Widths
end
section
open Go.RowKit Go.Conc Go.ConcN
theorem choose1 {α}{R:Nat->α->Prop}(h:∀i,∃v,R i v):∃V:Nat->α,∀i,R i (V i):=
 ⟨λi=>(h i).choose,λi=>(h i).choose_spec⟩
theorem mD {Z}{lv}(hl:Copies True Z lv)(ao)(n cap)(h:∀x,ao=some x->Z x.block\/(n=0/\cap=0)):∃a',lv (.slice ao n cap)=.slice a' n cap/\(0<cap->a'=ao):=by
 cases ao with
 |none=>exact⟨none,hl.same _ trivial,λ_=>rfl⟩
 |some x=>
  rcases h x rfl with a|⟨rfl,rfl⟩
  .exact⟨some x,hl.same _ a,λ_=>rfl⟩
  .obtain⟨a',b,_⟩:=hl.none trivial x
   exact⟨some a',b,λh=>absurd h (Nat.lt_irrefl _)⟩
def GoodRun (f:Nat)(args:Array Value)(w:World):Prop:=∃N last o w' a,runNT prog (N+1) (solo (G (Frame.enter prog f args .normal) []) w) #[]=(.ended o w',a)/\runN prog N (solo (G (Frame.enter prog f args .normal) []) w)=.next last/\
 step prog last=.ended o w'/\Conc.Good prog (λv u=>v=.bool true/\Below w.heap.size w u) last o w' a
end
namespace Z
open Go.RowKit
structure BS.inv (s:BS):Prop where
 d:s.D.ok
 fine:s.fine
 many:s.bs.length<=12
 nm:∀x∈s.bs,x.nm.size=1
theorem BS.fine.ZJ {s s':BS}(h:s.fine)(hb:s'.bs=s.bs)(hm:s'.m=s.m):s'.fine:=⟨by rw[hb,hm];exact h.box,by rw[hb];exact h.rises,by rw[hb];exact h.apart⟩
theorem BS.inv.new {m:cz}(h:m.ok):(BS.new m).inv:=⟨(BS.new_ok h).d,⟨λx hx=>(by cases hx),List.Pairwise.nil,List.Pairwise.nil⟩,Nat.zero_le _,λx hx=>(by cases hx)⟩
theorem sj.asks {s:BS}{nm:ByteArray}{c:Nat->Int}{m p:Nat}{x:fH}(h:sj s nm c m p x):∃q,q<4/\0<aN c q:=by
 have hm:=h.may;unfold qo asksB at hm;simp only[ZQ,List.any_eq_true,Z9,decide_eq_true_eq]at hm;obtain⟨_,q,a,hc⟩:=hm;exact⟨q,a,by unfold aN;omega⟩
theorem sj.fine {s:BS}{nm:ByteArray}{c:Nat->Int}{m p:Nat}{x:fH}(h:sj s nm c m p x)(hs:s.fine)(hd:s.D.ok):(s.ins p x).fine:=
 BS.fine.ins (m:=m) (c:=aN c) hs (by rw[h.nm];exact h.name) (by rw[h.nm];exact h.at_) h.given h.asks hd
theorem BS.inv.step {s s':BS}{t:eU}(h:s.inv)(hd:StepDid s t s'):s'.inv:=by
 rcases hd with⟨_,hA⟩|⟨_,r,hR⟩|⟨_,rfl⟩|⟨_,r,c⟩|⟨_,rfl⟩
 .rcases hA with⟨rfl,_⟩|⟨m,p,x,_,_,rfl⟩|⟨m,p,x,hy,_,rfl⟩
  .exact h
  .exact⟨BS.D_ok h.d rfl rfl rfl rfl,h.fine.ZJ rfl rfl,h.many,h.nm⟩
  .refine⟨BS.D_ok h.d rfl rfl rfl rfl,(hy.fine h.fine h.d).ZJ rfl rfl,?_,λy a=>?_⟩
   .have f:=hy.room
    show(s.bs.take p++x::s.bs.drop p).length<=12
    simp;omega
   .rcases qZ a with rfl|a
    .rw[hy.nm];rfl
    .exact h.nm y a
 .rcases hR with⟨_,_,rfl⟩|⟨p,_,⟨_,_,rfl⟩|⟨_,_,rfl⟩⟩
  .exact h
  .exact⟨BS.D_ok h.d rfl rfl rfl rfl,h.fine.ZJ rfl rfl,h.many,h.nm⟩
  .refine⟨BS.D_ok h.d rfl rfl rfl rfl,(h.fine.del (p:=p)).ZJ rfl rfl,?_,λy hy=>h.nm y (List.mem_of_mem_eraseIdx hy)⟩
   have f:=h.many;have g:=List.length_eraseIdx_le s.bs p;show(s.bs.eraseIdx p).length<=12
   omega
 .refine⟨⟨h.d.few,h.d.nodes,h.d.res,λk' b=>?_⟩,h.fine.ZJ rfl rfl,h.many,h.nm⟩
  show(if k'=aK t.A 3 then min t.n 16 else s.dn k')<=16/\∀i,i< (if k'=aK t.A 3 then min t.n 16 else s.dn k')->0<=(if k'=aK t.A 3 then il t.X else s.dN k') i/\(if k'=aK t.A 3 then il t.X else s.dN k') i<4
  by_cases e:k'=aK t.A 3
  .simp only[if_pos e];exact⟨by omega,λi _=>nodeP_in t.X i⟩
  .simp only[if_neg e];exact h.d.dC k' b
 .rcases c with⟨_,_,rfl⟩|⟨_,_,_,rfl⟩|⟨_,_,_,rfl⟩
  .exact h
  .exact h
  .exact⟨⟨h.d.few,h.d.nodes,h.d.res,h.d.dC⟩,h.fine.ZJ rfl rfl,h.many,h.nm⟩
 .exact⟨BS.D_ok h.d rfl rfl rfl rfl,h.fine.ZJ rfl rfl,h.many,h.nm⟩
theorem Ran.inv {m:cz}{T:Nat->eU}{n:Nat}{s:BS}(h:Ran m T n s)(hm:m.ok):s.inv:=by
 induction n generalizing s with
 |zero=>cases h;exact .new hm
 |succ n a=>
  obtain⟨s1,b,hd⟩:=h;exact(a b).step hd
theorem rising_eq {l l':List Nat}(h:l.Pairwise (· < ·))(m:l'.Pairwise (· < ·))(hs:∀x∈l,x∈l')(hl:l.length=l'.length):l=l':=by
 induction l' generalizing l with
 |nil=>exact List.length_eq_zero_iff.1 hl
 |cons y ys i=>
  cases l with
  |nil=>cases hl
  |cons x xs=>
   obtain⟨f,k⟩:=List.pairwise_cons.1 h;obtain⟨k1,g⟩:=List.pairwise_cons.1 m
   have c:x=y:=by
        rcases ZW.1 (hs x (ZX ..))with e|hx
        .exact e
        .have j:=k1 x hx
         have d:∀z∈x::xs,z∈ys:=λz b=>by
          rcases ZW.1 (hs z b)with e|a
          .subst e
           rcases ZW.1 b with e|b
           .omega
           .have:=f z b;omega
          .exact a
         have:=nL (x::xs) ys (h.imp λh=>by omega) d;rw[hl]at this;simp only[List.length_cons]at this;omega
   subst c
   rw[i k g (λz b=>by
        rcases ZW.1 (hs z (List.mem_cons_of_mem _ b))with e|a
        .have:=f z b;omega
        .exact a) (by simpa using hl)]
def AlikeB (l l':List fH):Prop:=l.length=l'.length/\∀i (h:i<l.length) (a:i<l'.length),l[i].nm=l'[i].nm/\∀q,q<4->l[i].T q=l'[i].T q
theorem AlikeB.refl (l:List fH):AlikeB l l:=⟨rfl,λ_ _ _=>⟨rfl,λ_ _=>rfl⟩⟩
attribute [local go_sem ↓] Go.wp_at_zero Go.wp_at_succ
attribute [local go_sem] After.cell After.frozen After.const
theorem mem_frN_iff {D:BD}{r i:Nat}:i∈gq D r↔i∈dL D r/\¬ownd D r i:=by
 refine⟨mem_frN,λh=>?_⟩;unfold gq kept;exact List.mem_filter.2 ⟨h.1,by simpa using h.2⟩
end Z
