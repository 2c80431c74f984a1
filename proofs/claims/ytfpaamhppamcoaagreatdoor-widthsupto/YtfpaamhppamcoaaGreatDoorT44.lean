/- Part 44 of the proof. -/
import Derived.Test.YtfpaamhppamcoaaGreatDoorT43
set_option linter.all false
set_option maxRecDepth 100000
set_option maxHeartbeats 60000000
namespace Go.Proofs.YtfpaamhppamcoaaGreatDoor
open Go.Proofs.Tryz
namespace Z
open Go.RowKit
attribute [local go_sem ↓] Go.wp_at_zero Go.wp_at_succ
attribute [local go_sem] After.cell After.frozen After.const
def pN (X:Nat->Int)(i:Nat):Int:=(aK (X i) 24:Nat)
def pJ (X:Nat->Int)(i:Nat):Int:=(aK (X i) 24%4:Nat)
def pF (X:Nat->Int)(i:Nat):Int:=(aK (X i) 24%4/2:Nat)
def Qz (X:Nat->Int)(p:Int)(j:Nat)(R:List Nat):cz:=⟨none,0,0,j,0,pF X,pJ X,pN X,none,0,0,R.length,0,λi=>(R[i]?.getD 0:Nat),p⟩
theorem Lu (X)(p)(j)(R d):oq (Qz X p (j+1) d)=oq (Qz X p j R)++[.int .i64 (pF X j),.int .i64 (pJ X j),.int .i64 (pN X j)]:=by
 show(List.range ((j+1)*3)).map (bW (pF X) (pJ X) (pN X))=(List.range (j*3)).map (bW (pF X) (pJ X) (pN X))++_
 rw[show(j+1)*3=j*3+1+1+1 by omega,Z6,Z6,Z6];have c:=Bu (pF X) (pJ X) (pN X) j;have b:=Bt (pF X) (pJ X) (pN X) j;have a:=Br (pF X) (pJ X) (pN X) j;simp[c,b,a]
theorem O8 (X)(p)(j)(R):vk (Qz X p j R)=aT R:=by
 show(List.range R.length).map (λi=>Value.int .i64 ((R[i]?.getD 0:Nat):Int))=aT R
 refine List.ext_getElem (by simp[aT]) λi b c=>?_
 have a:i<R.length:=by simpa using b
 simp[aT,a]
theorem MZ (a b):¬(((a:Nat):Int)=(b:Nat)/\((a%4:Nat):Int)≠((b%4:Nat):Int))/\(((a%4:Nat):Int)≠((b%4:Nat):Int)\/((a%4/2:Nat):Int)=((b%4/2:Nat):Int)):=by omega
def jm (R:List Nat)(n:Nat):Prop:=R.Pairwise (· < ·)/\∀x∈R,x<n
theorem jm.snoc {R}{n}(h:jm R n):jm (R++[n]) (n+1):=
 ⟨List.pairwise_append.2 ⟨h.1,List.pairwise_singleton _ _,λa c b hb=>by rw[List.mem_singleton.1 hb];exact h.2 a c⟩,λx hx=>by
  rcases List.mem_append.1 hx with hx|hx
  .exact Nat.lt_succ_of_lt (h.2 x hx)
  .rw[List.mem_singleton.1 hx];exact Z4 n⟩
theorem jm.up {R}{n m}(h:jm R n)(hm:n<=m):jm R m:=⟨h.1,λx hx=>ZO (h.2 x hx) hm⟩
theorem Ru {X}{p}{j}{R}(c:1<=j)(b:j<=24)(hp:0<=p/\p<=3)(hR:jm R j):(Qz X p j R).ok:=by
 refine⟨c,b,λi a=>⟨⟨?_,?_,?_,?_,?_,?_⟩,λk f=>?_⟩,λi a=>?_,hp.1,hp.2⟩
 .show 0<=((aK (X i) 24%4/2:Nat):Int);omega
 .show((aK (X i) 24%4/2:Nat):Int)<4;omega
 .show 0<=((aK (X i) 24%4:Nat):Int);omega
 .show((aK (X i) 24%4:Nat):Int)<4;omega
 .show 0<=((aK (X i) 24:Nat):Int);omega
 .have:=ik (X i) (show 0<24 by omega)
  show((aK (X i) 24:Nat):Int)<24;omega
 .exact MZ _ _
 .have a:i<R.length:=a
  have e:R[i]?.getD 0=R[i]:=by rw[ZT a];rfl
  show 0<=((R[i]?.getD 0:Nat):Int)/\((R[i]?.getD 0:Nat):Int)< (j:Nat)/\(0<i->((R[i-1]?.getD 0:Nat):Int)< ((R[i]?.getD 0:Nat):Int))
  rw[e];have g:=hR.2 _ (List.getElem_mem a);refine⟨by omega,by omega,λh=>?_⟩;have d:R[i-1]?.getD 0=R[i-1]:=by rw[ZT (by omega)];rfl
  rw[d];have:=List.pairwise_iff_getElem.1 hR.1 (i-1) i (by omega) a (by omega);omega
structure fZ (w:World)(raw:Array Value)(X:Nat->Int)(p:Int)(j:Nat)(R:List Nat)(vc vr:Value)(wr:World):Prop where
 b0:wr.heap[w.heap.size]? =some (.cells raw 25 (0,0))
 b1:wr.heap[w.heap.size+1]? =some (.cells #[.slice none 0 0,.slice none 0 0,.int .i64 0] 25 (0,0))
 b2:wr.heap[w.heap.size+1+1]? =some (.cells #[vc,vr,.int .i64 p] 25 (0,0))
 dA:wr.ownsRow (w.heap.size+3) 81 3 vc j (oq (Qz X p j R))
 res:wr.ownsRow (w.heap.size+3) 3 1 vr R.length (aT R)
 below:Below w.heap.size w wr
 size:w.heap.size+3<=wr.heap.size
theorem kR (w:World)(a b c):(((w.alloc a).alloc b).alloc c).heap[w.heap.size]? =some a:=by
 rw[aac _ _ _ (by simp;omega),aac _ _ _ (by simp)];exact aae _ _
theorem kQ (w:World)(a b c):(((w.alloc a).alloc b).alloc c).heap[w.heap.size+1]? =some b:=by
 rw[aac _ _ _ (by simp),show w.heap.size+1=(w.alloc a).heap.size by simp];exact aae _ _
theorem kP (w:World)(a b c):(((w.alloc a).alloc b).alloc c).heap[w.heap.size+1+1]? =some c:=by
 rw[show w.heap.size+1+1=((w.alloc a).alloc b).heap.size by simp];exact aae _ _
theorem sM {w:World}{base e size n}{v}{xs}(h:w.ownsRow base e size v n xs){b}(hb:v.ownBlock=some b):∃cur,w.heap[b]? =some (.cells cur e (0,0)):=by
 rcases h.2 with⟨rfl,_⟩|⟨g,cap,cur,rfl,_,a,_⟩
 .cases hb
 .cases hb;exact⟨_,a⟩
section
variable {w wr w2:World}{raw:Array Value}{X:Nat->Int}{p:Int}{j:Nat}{R:List Nat}{vc vr v':Value}
theorem fZ.alloc (h:fZ w raw X p j R vc vr wr)(o):fZ w raw X p j R vc vr (wr.alloc o):=
 have k:∀{b a},wr.heap[b]? =some a->(wr.alloc o).heap[b]? =some a:=λhb=>(aac _ _ _ (ZK.1 hb).1).trans hb
 ⟨k h.b0,k h.b1,k h.b2,h.dA.alloc _,h.res.alloc _,h.below.alloc h.below.size _,by have:=h.size;rw[aao];omega⟩
theorem fZ.apart (h:fZ w raw X p j R vc vr wr){b}(e:vc.ownBlock=some b):vr.ownBlock≠some b:=λd=>by
 obtain⟨g,f⟩:=sM h.dA e;obtain⟨c2,a⟩:=sM h.res d;rw[f]at a;have:=Option.some.inj a
 injection this with _ c _
 revert c
 decide
theorem fZ.UD (h:fZ w raw X p j R vc vr wr)(c:wr.grownBy w2 vc.ownBlock)(a:w2.ownsRow (w.heap.size+3) 81 3 v' (j+1) (oq (Qz X p j R)++[.int .i64 (pF X j),.int .i64 (pJ X j),.int .i64 (pN X j)])):fZ w raw X p (j+1) R v' vr (w2.setCell ⟨w.heap.size+1+1,0,none⟩ v'):=by
 have hs:=h.size;have hb:∀b,vc.ownBlock=some b->w.heap.size+3<=b:=λb e=>(h.dA.lt b e).1
 have k:∀b,b<w.heap.size+3->w2.heap[b]? =wr.heap[b]?:=λb f=>c.block b (by omega) (λe=>by have:=hb b e.symm;omega)
 have B:Below w.heap.size w w2:=h.below.grown c (by omega) (λq d=>by have:=hb q d;omega);refine⟨?_,?_,?_,?_,?_,B.setCell (by show w.heap.size<=w.heap.size+1+1;omega) _,?_⟩
 .exact dP _ ((k _ (by omega)).trans h.b0) (by show w.heap.size≠w.heap.size+1+1;omega)
 .exact dP _ ((k _ (by omega)).trans h.b1) (by show w.heap.size+1≠w.heap.size+1+1;omega)
 .have:=aD (i:=0) v' ((k _ (by omega)).trans h.b2)
  simpa only[ZN,ZR] using this
 .rw[Lu X p j R R]
  exact aaf a (by show w.heap.size+1+1<w.heap.size+3;omega) _
 .exact aaf (aJ h.res λb e=>c.block b (h.res.lt b e).2 (λg=>h.apart g.symm e)) (by show w.heap.size+1+1<w.heap.size+3;omega) _
 .have:=c.size
  simp;omega
theorem Be (l)(x):aT (l++[x])=aT l++[.int .i64 x]:=by simp[aT]
theorem fZ.Wm {x:Nat}(h:fZ w raw X p j R vc vr wr)(c:wr.grownBy w2 vr.ownBlock)(a:w2.ownsRow (w.heap.size+3) 3 1 v' (R.length+1) (aT R++[.int .i64 x])):fZ w raw X p j (R++[x]) vc v' (w2.setCell ⟨w.heap.size+1+1,1,none⟩ v'):=by
 have hs:=h.size;have hb:∀b,vr.ownBlock=some b->w.heap.size+3<=b:=λb e=>(h.res.lt b e).1
 have k:∀b,b<w.heap.size+3->w2.heap[b]? =wr.heap[b]?:=λb f=>c.block b (by omega) (λe=>by have:=hb b e.symm;omega)
 have B:Below w.heap.size w w2:=h.below.grown c (by omega) (λq d=>by have:=hb q d;omega);refine⟨?_,?_,?_,?_,?_,B.setCell (by show w.heap.size<=w.heap.size+1+1;omega) _,?_⟩
 .exact dP _ ((k _ (by omega)).trans h.b0) (by show w.heap.size≠w.heap.size+1+1;omega)
 .exact dP _ ((k _ (by omega)).trans h.b1) (by show w.heap.size+1≠w.heap.size+1+1;omega)
 .have:=aD (i:=1) v' ((k _ (by omega)).trans h.b2)
  simpa only[ZN,ZR,ZS] using this
 .exact aaf (aJ h.dA λb e=>c.block b (h.dA.lt b e).2 (λg=>h.apart e g.symm)) (by show w.heap.size+1+1<w.heap.size+3;omega) _
 .rw[Be,Z7]
  exact aaf a (by show w.heap.size+1+1<w.heap.size+3;omega) _
 .have:=c.size
  simp;omega
theorem yY (w:World)(a b c)(t):∀j u,[a,b,c][j]? =some u->(w.alloc (.cells #[a,b,c] t)).cell? ((⟨w.heap.size,0,none⟩:Addr).add j)=some u:=λj u d=>by
 rw[Addr.add_lit,Z8,(blk (aae w (.cells #[a,b,c] t))).1 j];simpa using d
theorem fZ.fin (h:fZ w raw X p j R vc vr wr)(b:1<=j)(a:j<=24)(hp:0<=p/\p<=3)(hR:jm R j):kX (((wr.setCell ⟨w.heap.size+1,0,none⟩ vc).setCell ⟨w.heap.size+1,1,none⟩ vr).setCell ⟨w.heap.size+1,2,none⟩ (.int .i64 p)) w.heap.size (Qz X p j R) vc vr/\Below w.heap.size w (((wr.setCell ⟨w.heap.size+1,0,none⟩ vc).setCell ⟨w.heap.size+1,1,none⟩ vr).setCell ⟨w.heap.size+1,2,none⟩ (.int .i64 p)):=by
 have k:∀i,(⟨w.heap.size+1,i,none⟩:Addr).block<w.heap.size+3:=λ_=>by show w.heap.size+1<w.heap.size+3;omega
 have l:∀i,w.heap.size<=(⟨w.heap.size+1,i,none⟩:Addr).block:=λ_=>by show w.heap.size<=w.heap.size+1;omega
 refine⟨⟨Ru b a hp hR,aB (aaf (aaf (aaf h.dA (k 0) _) (k 1) _) (k 2) _) (by omega),?_⟩,((h.below.setCell (l 0) _).setCell (l 1) _).setCell (l 2) _⟩;rw[O8];exact aB (aaf (aaf (aaf h.res (k 0) _) (k 1) _) (k 2) _) (by omega)
theorem fZ.other (h:fZ w raw X p 0 R vc vr wr):fZ w raw (λ_=>0) p 0 R vc vr wr:=⟨h.b0,h.b1,h.b2,h.dA,h.res,h.below,h.size⟩
theorem jm.zero (h:jm R 0):R=[]:=by
 cases R with
 |nil=>rfl
 |cons a l=>exact absurd (h.2 a (ZX ..)) (ZV _)
end
theorem CV (M:cz)(w)(hM:M.At w)(Y:∀i,i<M.n->In64 (M.S i)/\In64 (M.C i))(hp:In64 M.p):
 Calls (patch ae prog) 8 #[M.val] w λe w'=>∃m ca cc ra rc,e=.returned (.agg #[.slice ca m.n cc,.slice ra m.r rc,.int .i64 m.p])/\kX w' w.heap.size m (.slice ca m.n cc) (.slice ra m.r rc)/\Below w.heap.size w w':=by
 obtain⟨ao,b,o,n,cap,S,N,X,ro,rb,rp,r,gD,R0,p⟩:=M;obtain⟨qW,Ig,addr,dA,ο,Hg,mQ,ints⟩:=hM;simp only[cz.val]at*;obtain⟨i0,Z,U,T,Q⟩:=info_parts Tryz.info22;obtain⟨i1,ι,ζ,ε,δ⟩:=info_parts Tryz.gQ;have hu:=((ax ae prog 22).trans underlying22);have η:=((ax ae prog 23).trans underlying23);have K:=av (aaa dA (aaa Y addr));clear dA ints Y addr mQ;have φ:=ik p (show 0<4 by omega)
 go_enter (pf func8 (by rfl)),ntmps8
 go_wp2_with fail;refine(dG p 4 _ hp (by omega)).mono ?_;rintro e w1 ⟨rfl,hw⟩;obtain rfl:=hw.symm;go_wp2_with fail
 go_loopw [4,5] (λc i wr=>∃(j:Nat) (R:List Nat) (vc vr:Value),j<=min n 24/\R.length<=4/\jm R j/\c=.int .i64 R.length/\i=.int .i64 j/\fZ w #[.slice ao n cap,.slice ro r gD,.int .i64 p] X (aK p 4:Nat) j R vc vr wr) (λ_ i _=>min n 24-(intOf i).toNat)
 case atStart=>
  exact⟨0,[],_,_,by omega,by simp,⟨.nil,λx hx=>by cases hx⟩,rfl,rfl,kR _ _ _ _,kQ _ _ _ _,kP _ _ _ _,aag _ _ _ _,aag _ _ _ _,(((aab _ _).alloc (ZL _) _).alloc (by simp) _).alloc (by simp;omega) _,by simp⟩
 case round=>
  obtain⟨j,R,vc,vr,hj,z,t,rfl,rfl,k⟩:=hrel;obtain⟨D,l,rfl⟩:=aj k.dA;obtain⟨ra,rcc,rfl⟩:=aj k.res;have I:=av k;have H:=av (aaa z t);have hz:w.heap.size+1+1<wr.heap.size:=by have:=k.size;omega
  obtain⟨q0,α⟩:=blk k.b0
  by_cases y:j<n
  .by_cases χ:j<24
   .have jn:(j:Int)<n:=by omega
    have γ:(j:Int)<24:=(by omega);have c0:=keeps k.below (K.out.1 j y).1;have c1:=keeps k.below (K.out.1 j y).2.1;have c2:=keeps k.below (K.out.1 j y).2.2;obtain rfl:=K.out.2.2 (by omega);have hS:=(K.out.2.1 j y).1;have hX:=(K.out.2.1 j y).2;clear k z t;go_wp2_with fail;obtain⟨J,G⟩:∃W,W=wr.alloc (.cells #[.int .i64 (S j),.int .i64 (N j),.int .i64 (X j)] 81):=⟨_,rfl⟩
    have H1:Hid (fZ w #[.slice (some ⟨b,o,none⟩) n cap,.slice ro r gD,.int .i64 p] X (aK p 4:Nat) j R (.slice D j l) (.slice ra R.length rcc) J/\J.heap[wr.heap.size]? =some (.cells #[.int .i64 (S j),.int .i64 (N j),.int .i64 (X j)] 81 (0,0))/\J.heap.size=wr.heap.size+1):=by
     rw[G];exact⟨I.out.alloc _,aae _ _,aao _ _⟩
    rw[<-G];clear G;refine(dG (X j) 24 J hX (by omega)).mono ?_;rintro e w1 ⟨rfl,hw⟩;obtain rfl:=hw.symm;have e4:((aK (X j) 24:Nat):Int).tmod 4=((aK (X j) 24%4:Nat):Int):=(by rw[Int.tmod_eq_emod_of_nonneg (by omega)];omega);have e2:((aK (X j) 24%4:Nat):Int).tdiv 2=((aK (X j) 24%4/2:Nat):Int):=(by rw[Int.tdiv_eq_ediv_of_nonneg (by omega)];omega);obtain⟨m2,E⟩:=blk H1.out.1.b2;clear q0 α c0 c1 c2;have HA:Hid (fZ w #[.slice (some ⟨b,o,none⟩) n cap,.slice ro r gD,.int .i64 p] X (aK p 4:Nat) j R (.slice D j l) (.slice ra R.length rcc) (J.alloc (.cells #[.int .i64 (pF X j),.int .i64 (pJ X j),.int .i64 (pN X j)] 81))):=H1.out.1.alloc _;have κ:=av hS;go_wp2_with(at_builtin;refine wpList_append_own _ rfl _ _ _ rfl (w.heap.size+3) 81 i0 _ 3 24 hu Z U T Q rfl (by omega) _ j (oq (Qz X (aK p 4:Nat) j R)) rfl HA.out.dA ⟨J.heap.size,0,none⟩ 1 1 [.int .i64 (pF X j),.int .i64 (pJ X j),.int .i64 (pN X j)] rfl rfl (yY _ _ _ _ _) (by intro u hu;simp at hu;rcases hu with rfl|rfl|rfl<;>rfl) (by unfold maxLen;omega) (by omega) HA.out.size ?_;intro v' w2 f d _;obtain⟨s,q,rfl⟩:=aj f;have H2:=av (HA.out.UD d f);have hK:=av (d.block wr.heap.size (by have:=H1.out.2.2;simp;omega) (λe=>by have:=(I.out.dA.lt _ e.symm).2;omega));have μ:=av ((dP (a:=⟨w.heap.size+1+1,0,none⟩) (.slice s (j+1) q) (hK.out.trans ((aac _ _ _ (by have:=H1.out.2.2;omega)).trans H1.out.2.1)) (by show wr.heap.size≠w.heap.size+1+1;omega)));obtain⟨d0,ν⟩:=blk μ.out;obtain⟨m3,O⟩:=blk ((d.block (w.heap.size+1+1) (by have:=H1.out.2.2;rw[aao];omega) (λe=>by have:=(I.out.dA.lt _ e.symm).1;omega)).trans HA.out.b2);clear f d);obtain⟨W2,F⟩:∃W,W=w2.setCell ⟨w.heap.size+1+1,0,none⟩ (.slice s (j+1) q):=⟨_,rfl⟩;have H3:=av (show fZ w #[.slice (some ⟨b,o,none⟩) n cap,.slice ro r gD,.int .i64 p] X (aK p 4:Nat) (j+1) R (.slice s (j+1) q) (.slice ra R.length rcc) W2 from F▸H2.out);rw[<-F];clear F d0 ν m3 O;refine(dG (S j) 6 W2 κ.out (by omega)).mono ?_;rintro e w3 ⟨rfl,hw⟩;obtain rfl:=hw.symm;obtain⟨m4,β⟩:=blk H3.out.b2
    by_cases θ:aK (S j) 6=0
    .rw[θ]
     by_cases υ:R.length<4
     .have r4:(R.length:Int)<4:=by omega
      have B:Hid (fZ w #[.slice (some ⟨b,o,none⟩) n cap,.slice ro r gD,.int .i64 p] X (aK p 4:Nat) (j+1) R (.slice s (j+1) q) (.slice ra R.length rcc) (W2.alloc (.cells #[.int .i64 j] 3))):=H3.out.alloc _;go_wp2_with(at_builtin;refine wpList_append_own _ rfl _ _ _ rfl (w.heap.size+3) 3 i1 _ 1 8 η ι ζ ε δ rfl (by omega) _ R.length (aT R) rfl B.out.res ⟨W2.heap.size,0,none⟩ 1 1 [.int .i64 j] rfl rfl (cell_one_new _ _ _) (by intro u hu;simp at hu;subst hu;rfl) (by unfold maxLen;omega) (by omega) B.out.size ?_;intro v' w4 f d _;obtain⟨σ,ρ,rfl⟩:=aj f;have H4:=av (B.out.Wm d f);obtain⟨m5,τ⟩:=blk ((d.block (w.heap.size+1+1) (by have:=H3.out.size;rw[aao];omega) (λe=>by have:=(H3.out.res.lt _ e.symm).1;omega)).trans B.out.b2);clear f d);go_roundw
      case rel=>exact⟨j+1,R++[j],_,_,by omega,by simp only[Z7,List.length_cons,List.length_nil];omega,H.out.2.snoc,by simp,by go_num,H4.out⟩
      case measure=>simp[intOf];omega
     .have r4:¬(R.length:Int)<4:=by omega
      go_wp2_with fail;go_roundw
      case rel=>exact⟨j+1,R,_,_,by omega,H.out.1,H.out.2.up (by omega),rfl,by go_num,H3.out⟩
      case measure=>simp[intOf];omega
    .have s6:((aK (S j) 6:Nat):Int)≠0:=by omega
     have ξ:(((aK (S j) 6:Nat):Int)==0)=false:=beq_eq_false_iff_ne.2 s6;go_wp2_with fail;go_roundw
     case rel=>exact⟨j+1,R,_,_,by omega,H.out.1,H.out.2.up (by omega),rfl,by go_num,H3.out⟩
     case measure=>simp[intOf];omega
   .have jn:(j:Int)<n:=by omega
    have γ:¬(j:Int)<24:=(by omega);obtain⟨m2,E⟩:=blk k.b2;obtain⟨m1,P⟩:=blk k.b1;have V:j≠0:=(by omega);clear k z t;go_wp2_with fail;obtain⟨z0,L,z2⟩:=KC (.slice D j l) (.slice ra R.length rcc) (.int .i64 (aK p 4:Nat)) (m1 0) (m1 1) (m1 2);obtain⟨g,h⟩:=I.out.fin (by omega) (by omega) (by omega) H.out.2;refine bodyPost_ret (v:=.agg #[.slice D j l,.slice ra R.length rcc,.int .i64 (aK p 4:Nat)]) ?_ rfl ⟨_,_,_,_,_,rfl,g,h⟩;simp[results,results8,go_sem,z0,L,z2]
  .have jn:¬(j:Int)<n:=by omega
   by_cases V:j=0
   .subst V
    obtain rfl:=t.zero;have A:Hid (fZ w #[.slice ao n cap,.slice ro r gD,.int .i64 p] (λ_=>0) (aK p 4:Nat) 0 [] (.slice D 0 l) (.slice ra 0 rcc) (wr.alloc (.cells #[.int .i64 0,.int .i64 0,.int .i64 0] 81))):=(I.out.other).alloc _;obtain⟨m2,E⟩:=blk k.b2;clear k z t;go_wp2_with(at_builtin;refine wpList_append_own _ rfl _ _ _ rfl (w.heap.size+3) 81 i0 _ 3 24 hu Z U T Q rfl (by omega) _ 0 [] rfl A.out.dA ⟨wr.heap.size,0,none⟩ 1 1 [.int .i64 0,.int .i64 0,.int .i64 0] rfl rfl (yY _ _ _ _ _) (by intro u hu;simp at hu;subst hu;rfl) (by unfold maxLen;omega) (by omega) A.out.size ?_;intro v' w2 f d _;obtain⟨s,q,rfl⟩:=aj f;have H2:=av (A.out.UD d f);obtain⟨m3,O⟩:=blk ((d.block (w.heap.size+1+1) (by rw[aao];omega) (λe=>by have:=(I.out.dA.lt _ e.symm).1;omega)).trans A.out.b2);obtain⟨m4,β⟩:=blk H2.out.b2;obtain⟨m1,P⟩:=blk H2.out.b1;clear f d);obtain⟨z0,L,z2⟩:=KC (.slice s 1 q) (.slice ra 0 rcc) (.int .i64 (aK p 4:Nat)) (m1 0) (m1 1) (m1 2);obtain⟨g,h⟩:=H2.out.fin (by omega) (by omega) (by omega) (show jm [] 1 from⟨.nil,λx hx=>by cases hx⟩);refine bodyPost_ret (v:=.agg #[.slice s 1 q,.slice ra 0 rcc,.int .i64 (aK p 4:Nat)]) ?_ rfl ⟨_,_,_,_,_,rfl,g,h⟩;simp[results,results8,go_sem,z0,L,z2]
   .obtain⟨m2,E⟩:=blk k.b2
    obtain⟨m1,P⟩:=blk k.b1;clear k z t;go_wp2_with fail;obtain⟨z0,L,z2⟩:=KC (.slice D j l) (.slice ra R.length rcc) (.int .i64 (aK p 4:Nat)) (m1 0) (m1 1) (m1 2);obtain⟨g,h⟩:=I.out.fin (by omega) (by omega) (by omega) H.out.2;refine bodyPost_ret (v:=.agg #[.slice D j l,.slice ra R.length rcc,.int .i64 (aK p 4:Nat)]) ?_ rfl ⟨_,_,_,_,_,rfl,g,h⟩;simp[results,results8,go_sem,z0,L,z2]
theorem Aw {s s'}{l}{r}(h:o5 s l r s')(a:s.jQ->s.ah<4):s'.m=s.m/\s'.no<=s.no+4:=by
 rcases h with⟨hf,_,rfl⟩|⟨_,_,rfl⟩
 .have:=a hf
  refine⟨rfl,?_⟩;show s.no+s.ah.toNat<=s.no+4
  omega
 .exact⟨rfl,ZL _⟩
theorem zV {s s'}{t}(h:vR s t s'):s'.m=s.m/\s'.no<=s.no+4:=by
 rcases h with⟨_,h⟩|⟨_,r,h⟩|⟨_,rfl⟩|⟨_,r,h⟩|⟨_,rfl⟩
 .rcases h with⟨rfl,_⟩|⟨m,p,x,_,hf,rfl⟩|⟨m,p,x,_,hf,rfl⟩
  .exact⟨rfl,by omega⟩
  .refine⟨rfl,?_⟩
   have:=hf.2;show s.no+s.ah.toNat<=s.no+4
   omega
  .exact⟨rfl,ZL _⟩
 .rcases h with⟨_,_,rfl⟩|⟨p,_,h⟩
  .exact⟨rfl,by omega⟩
  .exact Aw h (λh=>h.2)
 .exact⟨rfl,Nat.le_add_right _ _⟩
 .rcases h with⟨_,_,rfl⟩|⟨_,_,_,rfl⟩|⟨_,_,_,rfl⟩
  .exact⟨rfl,by omega⟩
  .exact⟨rfl,by omega⟩
  .exact⟨rfl,Nat.le_add_right _ _⟩
 .exact⟨rfl,Nat.le_add_right _ _⟩
def Sv (m:cz)(T:Nat->eU):Nat->BS->Prop
 |0,s=>s=BS.new m
 |n+1,s'=>∃s,Sv m T n s/\vR s (T n) s'
theorem Sv.keeps {m}{T}{n}{s}(h:Sv m T n s):s.m=m/\s.no<=4*n:=by
 induction n generalizing s with
 |zero=>cases h;exact⟨rfl,ZL _⟩
 |succ n a=>
  obtain⟨s1,b,hd⟩:=h;have a:=a b;obtain⟨c,d⟩:=zV hd;exact⟨c.trans a.1,by have:=a.2;omega⟩
structure DL (w:World)(so:Option Addr)(n cap:Nat)(T:Nat->eU):Prop where
 room:n<=cap
 many:n<=100000000
 cells:0<n->∃b o,so=some ⟨b,o,none⟩/\∀i,i<n->∀j u,(T i).cells[j]? =some u->w.cell? ⟨b,o+i*9+j,none⟩=some u
 steps:∀i,i<n->(T i).at w
theorem DL.below {w w'}{so}{n cap}{T}(h:DL w so n cap T)(hb:Below w.heap.size w w'):DL w' so n cap T:=
 ⟨h.room,h.many,λc=>let ⟨b,o,e,hc⟩:=h.cells c;⟨b,o,e,λi a j u hu=>keeps hb (hc i a j u hu)⟩,λi a=>(h.steps i a).below hb⟩
theorem dJ.below {w w'}{K c}(h:dJ w w' K c){B}(d:B<=w.heap.size)(a:∀b,b<B->K b=0):Below B w w':=⟨h.os,h.tape,h.output,h.size,λb hb=>h.block b (by omega) (.inl (a b hb))⟩
theorem Bd.zero {w}{base bb}{s}{K}(h:Bd w base bb s K){b}(hb:b<base):K b=0:=by
 obtain⟨_,_,_,_,_,_,h⟩:=h
 by_cases a:K b=0
 .exact a
 .have:=(h.tk b a).1;omega
theorem eU.cell {t:eU}{w:World}{b o}(h:∀j u,t.cells[j]? =some u->w.cell? ⟨b,o+j,none⟩=some u):
 w.cell? ⟨b,o,none⟩=some (.int .i64 t.kind)/\w.cell? ⟨b,o+1,none⟩=some (.int .i64 t.A)/\w.cell? ⟨b,o+2,none⟩=some (.int .i64 t.B)/\w.cell? ⟨b,o+3,none⟩=some (.int .i64 (t.r 0))/\w.cell? ⟨b,o+4,none⟩=some (.int .i64 (t.r 1))/\
 w.cell? ⟨b,o+5,none⟩=some (.int .i64 (t.r 2))/\w.cell? ⟨b,o+6,none⟩=some (.int .i64 (t.r 3))/\w.cell? ⟨b,o+7,none⟩=some (.slice t.ao t.n t.cap)/\w.cell? ⟨b,o+8,none⟩=some (.bool t.yes):=
 ⟨h 0 _ rfl,h 1 _ rfl,h 2 _ rfl,h 3 _ rfl,h 4 _ rfl,h 5 _ rfl,h 6 _ rfl,h 7 _ rfl,h 8 _ rfl⟩
def Jr (w:World)(m:cz)(n:Nat)(T:Nat->eU)(v:Value)(w':World):Prop:=∃base bb s K,v=.pointer (some ⟨bb,0,none⟩)/\w.heap.size<=base/\Bd w' base bb s K/\Sv m T n s/\Below w.heap.size w w'
theorem Hu (m)(B ra so)(A rc base n cap)(T)(a)(w)(h:kX w base m (.slice B m.n A) (.slice ra m.r rc))(E:DL w so n cap T)
 (G:w.cell? ⟨0,0,none⟩=some (.iface 345 (.pointer (some a)))):
 Calls (patch ae prog) 9 #[.agg #[.slice B m.n A,.slice ra m.r rc,.int .i64 m.p],.slice so n cap] w (RJ (Jr w m n T) AA):=by
 have C:=av (aaa E G);have O:Hid (∀u,Below w.heap.size w u->Calls (patch ae prog) 33 #[.agg #[.slice B m.n A,.slice ra m.r rc,.int .i64 m.p]] u λe w'=>∃bb K,e=.returned (.tuple #[.pointer (some ⟨bb,0,none⟩),.int .i64 0])/\Bd w' u.heap.size bb (BS.new m) K/\Below u.heap.size u w'):=λu hu=>GY m B ra A rc base u (h.below hu)
 have D:=E.many;clear h E G
 go_enter (pf func9 (by rfl)),ntmps9
 go_wp2_with fail;refine(O.out _ ((aab _ _).alloc (ZL _) _)).mono ?_;rintro e w1 ⟨bb,K,rfl,c,q⟩;have v:=q.size;have H1:=av (aaa c (aaa (ai ((aab w.heap.size w).alloc (ZL _) _) q) (show w.heap.size+1<=w1.heap.size by simpa using v)));rw[aao]at H1;clear c q v;go_wp2_with fail
 go_loopw [7] (λi wr=>∃(j:Nat) (s:BS) (y:Nat->Nat),j<=n/\i=.int .i64 j/\Sv m T j s/\Bd wr (w.heap.size+1) bb s y/\dJ w1 wr K y) (λi _=>n-(intOf i).toNat)
 case atStart=>exact⟨0,BS.new m,K,Nat.zero_le _,rfl,rfl,H1.out.1,dJ.refl _ _⟩
 case round=>
  obtain⟨j,s,y,P,rfl,g,c,d⟩:=hrel;have l:Below w.heap.size w wr:=H1.out.2.1.trans (d.below (by have:=H1.out.2.2;omega) (λb hb=>H1.out.1.zero (by omega)));have f:=av (aaa g (aaa c (aaa d l)));clear g c d l
  by_cases x:j<n
  .have jn:(j:Int)<n:=by omega
   obtain⟨b,o,rfl,hc⟩:=C.out.1.cells (by omega);obtain⟨c0,M,c2,c3,c4,c5,L,J,I⟩:=eU.cell (t:=T j) (w:=wr) (b:=b) (o:=o+j*9) (λk u hu=>keeps f.out.2.2.2 (hc j x k u hu));clear hc;go_wp2_with fail;have H:=f.out.1.keeps.2;refine(R9 (w.heap.size+1) bb s y (T j) a wr f.out.2.1 ((C.out.1.steps j x).below f.out.2.2.2) (by omega) (keeps f.out.2.2.2 C.out.2) (by have:=aan C.out.2;simp only at this;omega)).mono ?_;intro e w4 he;cases e with
   |outgrown=>exact he.elim
   |panicked ch=>exact⟨rfl,he⟩
   |returned r=>
    obtain⟨⟨z,rfl⟩,s',N,hd,c,d⟩:=he;have F:=av (aaa hd (aaa c d));clear hd c d c0 M c2 c3 c4 c5 L J I;go_wp2_with fail;go_roundw
    case rel=>exact⟨j+1,s',N,by omega,by go_num,⟨s,f.out.1,F.out.1⟩,F.out.2.1,f.out.2.2.1.trans F.out.2.2⟩
    case measure=>simp[intOf];omega
  .have jn:¬(j:Int)<n:=by omega
   obtain rfl:j=n:=(by omega);go_wp2_with fail;go_ret;exact⟨_,bb,s,y,rfl,by omega,f.out.2.1,f.out.1,f.out.2.2.2⟩
def nz (s:BS)(t:eU):BS:=if aK t.kind 5=2 then s.reg (aK t.A 3) (min t.n 16) (il t.X) t.H else if aK t.kind 5=3/\aK t.B 16<s.dn (aK t.A 3)then s.fJ (aK t.A 3) (aK t.B 16) t.yes else s
def eO (m:cz)(T:Nat->eU):Nat->BS
 |0=>BS.new m
 |n+1=>nz (eO m T n) (T n)
structure pR (s s':BS):Prop where
 dn:s.dn=s'.dn
 dN:s.dN=s'.dN
 dH:s.dH=s'.dH
theorem yX {s s'}{l}{r}(h:o5 s l r s'):pR s' s:=by
 rcases h with⟨_,_,rfl⟩|⟨_,_,rfl⟩
 .exact⟨rfl,rfl,rfl⟩
 .exact⟨rfl,rfl,rfl⟩
theorem pR.told {s s' s2}{t}(h:pR s s')(hd:vR s t s2):pR s2 (nz s' t):=by
 have other:∀{x},pR x s->aK t.kind 5≠2->aK t.kind 5≠3->pR x (nz s' t):=fun{x} hx d c=>by
  unfold nz;rw[if_neg d,if_neg (λe=>c e.1)];exact⟨hx.dn.trans h.dn,hx.dN.trans h.dN,hx.dH.trans h.dH⟩
 rcases hd with⟨a,hd⟩|⟨a,r,hd⟩|⟨a,rfl⟩|⟨a,r,hd⟩|⟨a,rfl⟩
 .refine other ?_ (by omega) (by omega)
  rcases hd with⟨rfl,_⟩|⟨m,p,x,_,_,rfl⟩|⟨m,p,x,_,_,rfl⟩
  all_goals exact⟨rfl,rfl,rfl⟩
 .refine other ?_ (by omega) (by omega)
  rcases hd with⟨_,_,rfl⟩|⟨p,_,hd⟩
  .exact⟨rfl,rfl,rfl⟩
  .exact yX hd
 .unfold nz
  rw[if_pos a];unfold BS.reg;exact⟨by simp only[h.dn],by simp only[h.dN],by simp only[h.dH]⟩
 .have c:=ik t.A (show 0<3 by omega)
  unfold nz;rw[if_neg (by omega)];rcases hd with⟨hA,_,_⟩|⟨_,b,_,rfl⟩|⟨_,b,_,rfl⟩
  .exact absurd ⟨by omega,by omega⟩ hA
  .rw[Int.toNat_natCast]at b
   rw[if_neg (λe=>b ⟨by omega,by rw[h.dn];have:=e.2;omega⟩)];exact h
  .rw[Int.toNat_natCast]at b
   rw[if_pos ⟨a,by have:=b.2;rw[h.dn]at this;omega⟩,Int.toNat_natCast,Int.toNat_natCast];unfold BS.fJ;exact⟨h.dn,h.dN,by simp only[h.dH]⟩
 .exact other ⟨rfl,rfl,rfl⟩ (by omega) (by omega)
theorem Sv.told {m}{T}{n}{s}(h:Sv m T n s):pR s (eO m T n):=by
 induction n generalizing s with
 |zero=>cases h;exact⟨rfl,rfl,rfl⟩
 |succ n a=>
  obtain⟨s1,b,hd⟩:=h;exact(a b).told hd
structure kH (w:World)(s:BS)(d:Nat->Value)(wr:World):Prop where
 b0:wr.heap[w.heap.size]? =some (.cells #[.slice none 0 0,.slice none 0 0,.slice none 0 0] 34 (0,0))
 b1:wr.heap[w.heap.size+1]? =some (.cells #[d 0,d 1,d 2] 34 (0,0))
 rows:∀k,k<3->wr.ownsRow (w.heap.size+2) 75 2 (d k) (s.dn k) (rO s k)
 apart:∀k,k<3->∀k',k'<3->k≠k'->∀b,(d k).ownBlock=some b->(d k').ownBlock≠some b
 below:Below w.heap.size w wr
 size:w.heap.size+2<=wr.heap.size
section
variable {w wr W2:World}{s:BS}{d:Nat->Value}
theorem kH.alloc (h:kH w s d wr)(o):kH w s d (wr.alloc o):=
 have k:∀{b a},wr.heap[b]? =some a->(wr.alloc o).heap[b]? =some a:=λhb=>(aac _ _ _ (ZK.1 hb).1).trans hb
 ⟨k h.b0,k h.b1,λi c=>(h.rows i c).alloc _,h.apart,h.below.alloc (by have:=h.size;omega) _,by have:=h.size;rw[aao];omega⟩
theorem kH.drew (h:kH w s d wr):kH w s d wr.drew:=⟨h.b0,h.b1,λi a=>au (h.rows i a) (aab _ _).drew,h.apart,h.below.drew,h.size⟩
theorem kH.list (h:kH w s d wr){k n}{v}{N}{H}(u:k<3)(q:W2.ownsRow wr.heap.size 75 2 v n (yP n N H))(hb:Below wr.heap.size wr W2):kH w (s.reg k n N H) (λi=>if i=k then v else d i) (W2.setCell ⟨w.heap.size+1,k,none⟩ v):=by
 have hs:=h.size;have r:=hb.size;have g:∀b,v.ownBlock=some b->wr.heap.size<=b:=λb e=>(q.lt b e).1
 have j:∀i,i<3->∀b,(d i).ownBlock=some b->b<wr.heap.size:=λi c b e=>(h.rows i c|>.lt b e).2
 refine⟨dP _ (bJ hb h.b0) (by show w.heap.size≠w.heap.size+1;omega),?_,λi c=>?_,λi c p l f b a=>?_,(h.below.trans (hb.mono (by omega))).setCell (by show w.heap.size<=w.heap.size+1;omega) _,by simp;omega⟩
 .have m:=aD (i:=k) v (bJ hb h.b1)
  refine m.trans ?_;obtain rfl|rfl|rfl:k=0\/k=1\/k=2:=by omega
  all_goals rfl
 .by_cases e:i=k
  .subst e
   rw[if_pos rfl,J4,show(s.reg i n N H).dn i=n from by unfold BS.reg;simp];exact aB (aaf q (by show w.heap.size+1<wr.heap.size;omega) _) (by omega)
  .rw[if_neg e,(vO s e).1,(vO s e).2]
   exact aaf (au (h.rows i c) hb) (by show w.heap.size+1<w.heap.size+2;omega) _
 .by_cases e:i=k
  .rw[if_pos e]at a
   have t:=g b a;rw[if_neg (λo=>f (e.trans o.symm))];intro m;have:=j p l b m;omega
  .rw[if_neg e]at a
   have t:=j i c b a
   by_cases o:p=k
   .rw[if_pos o]
    intro m;have:=g b m;omega
   .rw[if_neg o]
    exact h.apart i c p l f b a
theorem kH.fJ (h:kH w s d wr){k i g}(l:k<3)(o:i<s.dn k)(f:(d k).ownBlock=some g)(b):kH w (s.fJ k i b) d (wr.setCell ⟨g,i*2+1,none⟩ (.bool b)):=by
 have m:=(h.rows k l).lt g f;have a:∀x,x≠g->(wr.setCell ⟨g,i*2+1,none⟩ (.bool b)).heap[x]? =wr.heap[x]?:=λx hx=>aad _ _ _ _ hx
 refine⟨(a _ (by omega)).trans h.b0,(a _ (by omega)).trans h.b1,λj c=>?_,h.apart,h.below.setCell (by show w.heap.size<=g;omega) _,by simpa using h.size⟩
 by_cases e:j=k
 .subst e
  rw[<-J2];exact AZ (h.rows j c) f (by omega) _
 .rw[Bo s b e]
  exact aJ (h.rows j c) λx hx=>a x (λn=>h.apart j c k l e x hx (by rw[n];exact f))
end
theorem oJ (f:Nat->Value){k}(a:k<3):(#[f 0,f 1,f 2]:Array Value)[k]? =some (f k):=by
 obtain rfl|rfl|rfl:k=0\/k=1\/k=2:=by omega
 all_goals rfl
def Ou (w:World)(s:BS)(v:Value)(w':World):Prop:=∃d:Nat->Value,v=.agg #[d 0,d 1,d 2]/\(∀k,k<3->w'.ownsRow w.heap.size 75 2 (d k) (s.dn k) (rO s k))/\Below w.heap.size w w'
theorem Ij (m)(so)(n cap)(T)(w)(U:DL w so n cap T):
 Calls (patch ae prog) 10 #[.slice so n cap] w λe w'=>∃v,e=.returned v/\Ou w (eO m T n) v w':=by
 have G:=av U;have R:=U.many;clear U
 go_enter (pf func10 (by rfl)),ntmps10
 go_wp2_with fail
 go_loopw [4] (λi wr=>∃(j:Nat) (d:Nat->Value),j<=n/\i=.int .i64 j/\kH w (eO m T j) d wr) (λi _=>n-(intOf i).toNat)
 case atStart=>
  refine⟨0,λ_=>.slice none 0 0,Nat.zero_le _,rfl,aap _ _ _,aam _ _ _,λk _=>aag _ _ _ _,λk _ k' _ _ b hb=>(by cases hb),((aab _ _).alloc (ZL _) _).alloc (by simp) _,by simp⟩
 case round=>
  obtain⟨j,d,hj,rfl,s⟩:=hrel;have Z:=av s;obtain⟨a0,k0,e0⟩:=aj (s.rows 0 (by omega));obtain⟨a1,k1,e1⟩:=aj (s.rows 1 (by omega));obtain⟨a2,Q,e2⟩:=aj (s.rows 2 (by omega))
  by_cases f:j<n
  .have jn:(j:Int)<n:=by omega
   obtain⟨b,o,rfl,hc⟩:=G.out.cells (by omega);obtain⟨c0,c1,c2,c3,c4,c5,c6,c7,c8⟩:=eU.cell (t:=T j) (w:=wr) (b:=b) (o:=o+j*9) (λk u hu=>keeps s.below (hc j f k u hu));have hA:=((G.out.steps j f).A);have M:=((G.out.steps j f).B);have L:=((G.out.steps j f).kind);have K:=av (aaa (G.out.steps j f).dC (G.out.steps j f).qF);have Y:Hid (∀u,Calls (patch ae prog) 39 #[.int .i64 (T j).A,.int .i64 3] u λe w'=>e=.returned (.int .i64 (aK (T j).A 3:Nat))/\w'=u):=λu=>dG (T j).A 3 u hA (by omega)
   have N:Hid (∀u,Calls (patch ae prog) 39 #[.int .i64 (T j).B,.int .i64 16] u λe w'=>e=.returned (.int .i64 (aK (T j).B 16:Nat))/\w'=u):=λu=>dG (T j).B 16 u M (by omega)
   have V:Hid (∀u,Calls (patch ae prog) 39 #[.int .i64 (T j).kind,.int .i64 5] u λe w'=>e=.returned (.int .i64 (aK (T j).kind 5:Nat))/\w'=u):=λu=>dG (T j).kind 5 u L (by omega)
   have F:=ik (T j).A (show 0<3 by omega);have c:Hid (eO m T (j+1)=nz (eO m T j) (T j)):=rfl;clear hc hA M L;go_wp2_with fail;obtain⟨y,E⟩:∃W,W=wr.alloc (.cells #[.int .i64 (T j).kind,.int .i64 (T j).A,.int .i64 (T j).B,.int .i64 ((T j).r 0),.int .i64 ((T j).r 1),.int .i64 ((T j).r 2),.int .i64 ((T j).r 3),.slice (T j).ao (T j).n (T j).cap,.bool (T j).yes] 84):=⟨_,rfl⟩
   have H1:Hid (kH w (eO m T j) d y/\y.heap[wr.heap.size]? =some (.cells #[.int .i64 (T j).kind,.int .i64 (T j).A,.int .i64 (T j).B,.int .i64 ((T j).r 0),.int .i64 ((T j).r 1),.int .i64 ((T j).r 2),.int .i64 ((T j).r 3),.slice (T j).ao (T j).n (T j).cap,.bool (T j).yes] 84 (0,0))):=by
        rw[E];exact⟨Z.out.alloc _,aae _ _⟩
   rw[<-E];clear E c0 c1 c2 c3 c4 c5 c6 c7 c8 s;obtain⟨q0,P⟩:=blk H1.out.2;refine(Y.out y).mono ?_;rintro e w1 ⟨rfl,hw⟩;obtain rfl:=hw.symm;go_wp2_with fail;refine(N.out y).mono ?_;rintro e w1 ⟨rfl,hw⟩;obtain rfl:=hw.symm;go_wp2_with fail;refine(V.out y).mono ?_;rintro e w1 ⟨rfl,hw⟩;obtain rfl:=hw.symm
   by_cases p:aK (T j).kind 5=2
   .have I:=av p
    rw[p];clear p
    have C:Hid (eO m T (j+1)=(eO m T j).reg (aK (T j).A 3) (min (T j).n 16) (il (T j).X) (T j).H):=by
     rw[c.out];unfold nz;rw[if_pos I.out];exact av rfl
    go_wp2_with fail;refine(uL (T j).n (T j).X (T j).H _ y (K.out.1.below H1.out.1.below) K.out.2).mono ?_;rintro e w2 ⟨v2,rfl,h,D⟩;obtain⟨va,vc,rfl⟩:=aj h;have H2:=av (H1.out.1.list F h D);have a:=blk (bJ D H1.out.1.b1);obtain⟨x,hx⟩:∃x,w2.cell? ⟨w.heap.size+1,aK (T j).A 3,none⟩=some x:=⟨_,(a.1 _).trans (oJ d F)⟩;have ζ:=a.2 (aK (T j).A 3);clear h D a q0 P;go_wp2_with fail;go_roundw
    case rel=>exact⟨j+1,_,by omega,by go_num,by rw[C.out];exact H2.out⟩
    case measure=>simp[intOf];omega
   .by_cases q:aK (T j).kind 5=3
    .have l:=av q
     rw[q];clear q p;obtain⟨ak,ck,O⟩:=aj (H1.out.1.rows _ F);have a:=blk H1.out.1.b1;have x0:y.cell? ⟨w.heap.size+1,aK (T j).A 3,none⟩=some (.slice ak ((eO m T j).dn (aK (T j).A 3)) ck):=(by rw[a.1,oJ d F,O]);clear a
     by_cases hd:aK (T j).B 16< (eO m T j).dn (aK (T j).A 3)
     .have C:Hid (eO m T (j+1)=(eO m T j).fJ (aK (T j).A 3) (aK (T j).B 16) (T j).yes):=by
          rw[c.out];unfold nz;rw[if_neg (by rw[l.out];omega),if_pos ⟨l.out,hd⟩];exact av rfl
      have S:((aK (T j).B 16:Nat):Int)< ((eO m T j).dn (aK (T j).A 3):Nat):=(by omega);obtain⟨θ,α,e',r1,_,r3,_⟩:=dV (H1.out.1.rows _ F);rw[O]at e';cases e';obtain⟨g,rfl,η,_,J⟩:=r3 (by omega);have H2:=av (H1.out.1.drew.fJ F hd (by rw[O];rfl) (T j).yes);have y2:=(yN J hd).2
      have y3:y.drew.cell? ⟨g,aK (T j).B 16*2+1,none⟩=some (.bool ((eO m T j).dH (aK (T j).A 3) (aK (T j).B 16))):=by
          rw[show(⟨g,aK (T j).B 16*2+1,none⟩:Addr)=⟨g,0+2*aK (T j).B 16+1,none⟩ by rw[Z8,Nat.mul_comm]];exact y2
      obtain⟨cur,z⟩:=sM (H1.out.1.rows _ F) (b:=g) (by rw[O];rfl);have y4:y.drew.frozen? ⟨g,aK (T j).B 16*2+1,none⟩=false:=(blk z).2 _;clear r1 r3 J y2 z;go_wp2_with fail
      go_region
      go_wp2_with fail;go_roundw
      case rel=>exact⟨j+1,_,by omega,by go_num,by rw[C.out];exact H2.out⟩
      case measure=>simp[intOf];omega
     .have C:Hid (eO m T (j+1)=eO m T j):=by
          rw[c.out];unfold nz;rw[if_neg (by rw[l.out];omega),if_neg (λe=>hd e.2)];exact av rfl
      have S:¬((aK (T j).B 16:Nat):Int)< ((eO m T j).dn (aK (T j).A 3):Nat):=(by omega);go_wp2_with fail;go_roundw
      case rel=>exact⟨j+1,_,by omega,by go_num,by rw[C.out];exact H1.out.1⟩
      case measure=>simp[intOf];omega
    .have C:Hid (eO m T (j+1)=eO m T j):=by
      rw[c.out];unfold nz;rw[if_neg p,if_neg (λe=>q e.1)];exact av rfl
     have Q:(((aK (T j).kind 5:Nat):Int)==2)=false:=beq_eq_false_iff_ne.2 (by omega);have k3:(((aK (T j).kind 5:Nat):Int)==3)=false:=beq_eq_false_iff_ne.2 (by omega);have ε:((aK (T j).kind 5:Nat):Int)≠2:=(by omega);have δ:((aK (T j).kind 5:Nat):Int)≠3:=(by omega);go_wp2_with fail;go_roundw
     case rel=>exact⟨j+1,_,by omega,by go_num,by rw[C.out];exact H1.out.1⟩
     case measure=>simp[intOf];omega
  .have jn:¬(j:Int)<n:=by omega
   obtain rfl:j=n:=(by omega);have a:=s.b1;rw[e0,e1,e2]at a;obtain⟨m1,β⟩:=blk a;obtain⟨m0,γ⟩:=blk s.b0;clear s a;go_wp2_with fail;obtain⟨z0,z1,z2⟩:=KC (.slice a0 ((eO m T j).dn 0) k0) (.slice a1 ((eO m T j).dn 1) k1) (.slice a2 ((eO m T j).dn 2) Q) (m0 0) (m0 1) (m0 2);refine bodyPost_ret (v:=.agg #[.slice a0 ((eO m T j).dn 0) k0,.slice a1 ((eO m T j).dn 1) k1,.slice a2 ((eO m T j).dn 2) Q]) ?_ rfl ⟨_,rfl,d,by rw[e0,e1,e2],λk hk=>?_,?_⟩
   .simp[results,results10,go_sem,z0,z1,z2]
   .exact aB (aaf (aaf (aaf (Z.out.rows k hk) (by show w.heap.size<w.heap.size+2;omega) _) (by show w.heap.size<w.heap.size+2;omega) _) (by show w.heap.size<w.heap.size+2;omega) _) (by omega)
   .exact((Z.out.below.setCell (ZL _) _).setCell (ZL _) _).setCell (ZL _) _
end Z
