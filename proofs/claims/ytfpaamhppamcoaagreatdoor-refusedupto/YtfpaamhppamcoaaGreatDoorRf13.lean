/- Part 13 of the proof. -/
import Derived.Test.YtfpaamhppamcoaaGreatDoorRf12
set_option linter.all false
set_option maxRecDepth 100000
set_option maxHeartbeats 60000000
namespace Go.Proofs.YtfpaamhppamcoaaGreatDoor
open Go.Proofs.Tryz
namespace Z
open Go.RowKit
attribute [local go_sem ↓] Go.wp_at_zero Go.wp_at_succ
attribute [local go_sem] After.cell After.frozen After.const
def pN (X:Nat->Int)(i:Nat):Int:=(aK (X i) 24:Nat)
def pJ (X:Nat->Int)(i:Nat):Int:=(aK (X i) 24%4:Nat)
def pF (X:Nat->Int)(i:Nat):Int:=(aK (X i) 24%4/2:Nat)
def Qz (X:Nat->Int)(p:Int)(j:Nat)(R:List Nat):cz:=⟨none,0,0,j,0,pF X,pJ X,pN X,none,0,0,R.length,0,λi=>(R[i]?.getD 0:Nat),p⟩
def Lu (X)(p)(j)(R d):oq (Qz X p (j+1) d)=oq (Qz X p j R)++[.int .i64 (pF X j),.int .i64 (pJ X j),.int .i64 (pN X j)]:=by
 show(List.range ((j+1)*3)).map (bW (pF X) (pJ X) (pN X))=(List.range (j*3)).map (bW (pF X) (pJ X) (pN X))++_
 rw[show(j+1)*3=j*3+1+1+1 by omega,Z6,Z6,Z6];have c:=Bu (pF X) (pJ X) (pN X) j;have b:=Bt (pF X) (pJ X) (pN X) j;have a:=Br (pF X) (pJ X) (pN X) j;simp[c,b,a]
def O8 (X)(p)(j)(R):vk (Qz X p j R)=aT R:=by
 show(List.range R.length).map (λi=>Value.int .i64 ((R[i]?.getD 0:Nat):Int))=aT R
 refine List.ext_getElem (by simp[aT]) λi b c=>?_
 have a:i<R.length:=by simpa using b
 simp[aT,a]
def MZ (a b):¬(((a:Nat):Int)=(b:Nat)/\((a%4:Nat):Int)≠((b%4:Nat):Int))/\(((a%4:Nat):Int)≠((b%4:Nat):Int)\/((a%4/2:Nat):Int)=((b%4/2:Nat):Int)):=by omega
def jm (R:List Nat)(n:Nat):Prop:=R.Pairwise (· < ·)/\∀x∈R,x<n
def jm.snoc {R}{n}(h:jm R n):jm (R++[n]) (n+1):=
 ⟨List.pairwise_append.2 ⟨h.1,List.pairwise_singleton _ _,λa c b hb=>by rw[adi.1 hb];exact h.2 a c⟩,λx hx=>by
  rcases abz.1 hx with hx|hx
  .exact Nat.lt_succ_of_lt (h.2 x hx)
  .rw[adi.1 hx];exact Z4 n⟩
def jm.up {R}{n m}(h:jm R n)(hm:n<=m):jm R m:=⟨h.1,λx hx=>ZO (h.2 x hx) hm⟩
def Ru {X}{p}{j}{R}(c:1<=j)(b:j<=24)(hp:0<=p/\p<=3)(hR:jm R j):(Qz X p j R).ok:=by
 refine⟨c,b,λi a=>⟨⟨?_,?_,?_,?_,?_,?_⟩,λk f=>?_⟩,λi a=>?_,hp.1,hp.2⟩
 .show 0<=((aK (X i) 24%4/2:Nat):Int);omega
 .show((aK (X i) 24%4/2:Nat):Int)<4;omega
 .show 0<=((aK (X i) 24%4:Nat):Int);omega
 .show((aK (X i) 24%4:Nat):Int)<4;omega
 .show 0<=((aK (X i) 24:Nat):Int);omega
 .have:=ik (X i) (show 0<24 by omega)
  show((aK (X i) 24:Nat):Int)<24;omega
 .exact MZ _ _
 .have a:i<R.length:=a
  have e:R[i]?.getD 0=R[i]:=by rw[ZT a];rfl
  show 0<=((R[i]?.getD 0:Nat):Int)/\((R[i]?.getD 0:Nat):Int)< (j:Nat)/\(0<i->((R[i-1]?.getD 0:Nat):Int)< ((R[i]?.getD 0:Nat):Int))
  rw[e];have g:=hR.2 _ (acY a);refine⟨by omega,by omega,λh=>?_⟩;have d:R[i-1]?.getD 0=R[i-1]:=by rw[ZT (by omega)];rfl
  rw[d];have:=adk.1 hR.1 (i-1) i (by omega) a (by omega);omega
structure fZ (w:World)(raw:Array Value)(X:Nat->Int)(p:Int)(j:Nat)(R:List Nat)(vc vr:Value)(wr:World):Prop where
 b0:wr.heap[w.heap.size]? =some (.cells raw 25 (0,0))
 b1:wr.heap[w.heap.size+1]? =some (.cells #[.slice none 0 0,.slice none 0 0,.int .i64 0] 25 (0,0))
 b2:wr.heap[w.heap.size+1+1]? =some (.cells #[vc,vr,.int .i64 p] 25 (0,0))
 dA:wr.ownsRow (w.heap.size+3) 81 3 vc j (oq (Qz X p j R))
 res:wr.ownsRow (w.heap.size+3) 3 1 vr R.length (aT R)
 below:adN w wr
 size:w.heap.size+3<=wr.heap.size
def kR (w:World)(a b c):(((w.alloc a).alloc b).alloc c).heap[w.heap.size]? =some a:=by
 rw[aac _ _ _ (by simp;omega),aac _ _ _ (by simp)];exact aae _ _
def kQ (w:World)(a b c):(((w.alloc a).alloc b).alloc c).heap[w.heap.size+1]? =some b:=by
 rw[aac _ _ _ (by simp),show w.heap.size+1=(w.alloc a).heap.size by simp];exact aae _ _
def kP (w:World)(a b c):(((w.alloc a).alloc b).alloc c).heap[w.heap.size+1+1]? =some c:=by
 rw[show w.heap.size+1+1=((w.alloc a).alloc b).heap.size by simp];exact aae _ _
def sM {w:World}{base e size n}{v}{xs}(h:w.ownsRow base e size v n xs){b}(hb:v.ownBlock=some b):∃cur,w.heap[b]? =some (.cells cur e (0,0)):=by
 rcases h.2 with⟨rfl,_⟩|⟨g,cap,cur,rfl,_,a,_⟩
 .cases hb
 .cases hb;exact⟨_,a⟩
section
variable {w wr w2:World}{raw:Array Value}{X:Nat->Int}{p:Int}{j:Nat}{R:List Nat}{vc vr v':Value}
def fZ.alloc (h:fZ w raw X p j R vc vr wr)(o):fZ w raw X p j R vc vr (wr.alloc o):=
 have k:∀{b a},wr.heap[b]? =some a->(wr.alloc o).heap[b]? =some a:=λhb=>(aac _ _ _ (ZK.1 hb).1).trans hb
 ⟨k h.b0,k h.b1,k h.b2,h.dA.alloc _,h.res.alloc _,h.below.alloc h.below.size _,by have:=h.size;rw[aao];omega⟩
def fZ.apart (h:fZ w raw X p j R vc vr wr){b}(e:vc.ownBlock=some b):vr.ownBlock≠some b:=λd=>by
 obtain⟨g,f⟩:=sM h.dA e;obtain⟨c2,a⟩:=sM h.res d;rw[f]at a;have:=adn a
 injection this with _ c _
 revert c
 decide
def fZ.UD (h:fZ w raw X p j R vc vr wr)(c:wr.grownBy w2 vc.ownBlock)(a:w2.ownsRow (w.heap.size+3) 81 3 v' (j+1) (oq (Qz X p j R)++[.int .i64 (pF X j),.int .i64 (pJ X j),.int .i64 (pN X j)])):fZ w raw X p (j+1) R v' vr (w2.setCell ⟨w.heap.size+1+1,0,none⟩ v'):=by
 have hs:=h.size;have hb:∀b,vc.ownBlock=some b->w.heap.size+3<=b:=λb e=>(h.dA.lt b e).1
 have k:∀b,b<w.heap.size+3->w2.heap[b]? =wr.heap[b]?:=λb f=>c.block b (by omega) (λe=>by have:=hb b e.symm;omega)
 have B:adN w w2:=h.below.grown c (by omega) (λq d=>by have:=hb q d;omega);refine⟨?_,?_,?_,?_,?_,B.setCell (by show w.heap.size<=w.heap.size+1+1;omega) _,?_⟩
 .exact dP _ ((k _ (by omega)).trans h.b0) (by show w.heap.size≠w.heap.size+1+1;omega)
 .exact dP _ ((k _ (by omega)).trans h.b1) (by show w.heap.size+1≠w.heap.size+1+1;omega)
 .have:=aD (i:=0) v' ((k _ (by omega)).trans h.b2)
  simpa only[ZN,ZR] using this
 .rw[Lu X p j R R]
  exact aaf a (by show w.heap.size+1+1<w.heap.size+3;omega) _
 .exact aaf (aJ h.res λb e=>c.block b (h.res.lt b e).2 (λg=>h.apart g.symm e)) (by show w.heap.size+1+1<w.heap.size+3;omega) _
 .have:=c.size
  simp;omega
def Be (l)(x):aT (l++[x])=aT l++[.int .i64 x]:=by simp[aT]
def fZ.Wm {x:Nat}(h:fZ w raw X p j R vc vr wr)(c:wr.grownBy w2 vr.ownBlock)(a:w2.ownsRow (w.heap.size+3) 3 1 v' (R.length+1) (aT R++[.int .i64 x])):fZ w raw X p j (R++[x]) vc v' (w2.setCell ⟨w.heap.size+1+1,1,none⟩ v'):=by
 have hs:=h.size;have hb:∀b,vr.ownBlock=some b->w.heap.size+3<=b:=λb e=>(h.res.lt b e).1
 have k:∀b,b<w.heap.size+3->w2.heap[b]? =wr.heap[b]?:=λb f=>c.block b (by omega) (λe=>by have:=hb b e.symm;omega)
 have B:adN w w2:=h.below.grown c (by omega) (λq d=>by have:=hb q d;omega);refine⟨?_,?_,?_,?_,?_,B.setCell (by show w.heap.size<=w.heap.size+1+1;omega) _,?_⟩
 .exact dP _ ((k _ (by omega)).trans h.b0) (by show w.heap.size≠w.heap.size+1+1;omega)
 .exact dP _ ((k _ (by omega)).trans h.b1) (by show w.heap.size+1≠w.heap.size+1+1;omega)
 .have:=aD (i:=1) v' ((k _ (by omega)).trans h.b2)
  simpa only[ZN,ZR,ZS] using this
 .exact aaf (aJ h.dA λb e=>c.block b (h.dA.lt b e).2 (λg=>h.apart e g.symm)) (by show w.heap.size+1+1<w.heap.size+3;omega) _
 .rw[Be,Z7]
  exact aaf a (by show w.heap.size+1+1<w.heap.size+3;omega) _
 .have:=c.size
  simp;omega
def yY (w:World)(a b c)(t):∀j u,[a,b,c][j]? =some u->(w.alloc (.cells #[a,b,c] t)).cell? ((⟨w.heap.size,0,none⟩:Addr).add j)=some u:=λj u d=>by
 rw[Addr.add_lit,Z8,(blk (aae w (.cells #[a,b,c] t))).1 j];simpa using d
def fZ.fin (h:fZ w raw X p j R vc vr wr)(b:1<=j)(a:j<=24)(hp:0<=p/\p<=3)(hR:jm R j):kX (((wr.setCell ⟨w.heap.size+1,0,none⟩ vc).setCell ⟨w.heap.size+1,1,none⟩ vr).setCell ⟨w.heap.size+1,2,none⟩ (.int .i64 p)) w.heap.size (Qz X p j R) vc vr/\adN w (((wr.setCell ⟨w.heap.size+1,0,none⟩ vc).setCell ⟨w.heap.size+1,1,none⟩ vr).setCell ⟨w.heap.size+1,2,none⟩ (.int .i64 p)):=by
 have k:∀i,(⟨w.heap.size+1,i,none⟩:Addr).block<w.heap.size+3:=λ_=>by show w.heap.size+1<w.heap.size+3;omega
 have l:∀i,w.heap.size<=(⟨w.heap.size+1,i,none⟩:Addr).block:=λ_=>by show w.heap.size<=w.heap.size+1;omega
 refine⟨⟨Ru b a hp hR,aB (aaf (aaf (aaf h.dA (k 0) _) (k 1) _) (k 2) _) (by omega),?_⟩,((h.below.setCell (l 0) _).setCell (l 1) _).setCell (l 2) _⟩;rw[O8];exact aB (aaf (aaf (aaf h.res (k 0) _) (k 1) _) (k 2) _) (by omega)
def fZ.other (h:fZ w raw X p 0 R vc vr wr):fZ w raw (λ_=>0) p 0 R vc vr wr:=⟨h.b0,h.b1,h.b2,h.dA,h.res,h.below,h.size⟩
def jm.zero (h:jm R 0):R=[]:=by
 cases R with
 |nil=>rfl
 |cons a l=>exact absurd (h.2 a (ZX ..)) (ZV _)
end
def CV (M:cz)(w)(hM:M.At w)(V:∀i,i<M.n->In64 (M.S i)/\In64 (M.C i))(hp:In64 M.p):
 adO 8 #[M.val] w λe w'=>∃m ca cc ra rc,e=.returned (.agg #[.slice ca m.n cc,.slice ra m.r rc,.int .i64 m.p])/\kX w' w.heap.size m (.slice ca m.n cc) (.slice ra m.r rc)/\adN w w':=by
 obtain⟨ao,b,o,n,cap,S,N,X,ro,rb,rp,r,gD,R0,p⟩:=M;obtain⟨qW,Ig,addr,dA,ο,Hg,mQ,ints⟩:=hM;simp only[cz.val]at*;obtain⟨i0,Y,T,Q,P⟩:=info_parts Tryz.info22;obtain⟨i1,ι,ζ,ε,δ⟩:=info_parts Tryz.gQ;have hu:=((ax ae prog 22).trans underlying22);have η:=((ax ae prog 23).trans underlying23);have K:=av (aaa dA (aaa V addr));clear dA ints V addr mQ;have φ:=ik p (show 0<4 by omega)
 go_enter (pf func8 (by rfl)),ntmps8
 go_wp2_with fail;refine(dG p 4 _ hp (by omega)).mono ?_;rintro e w1 ⟨rfl,hw⟩;obtain rfl:=hw.symm;go_wp2_with fail
 go_loopw [4,5] (λc i wr=>∃(j:Nat) (R:List Nat) (vc vr:Value),j<=min n 24/\R.length<=4/\jm R j/\c=.int .i64 R.length/\i=.int .i64 j/\fZ w #[.slice ao n cap,.slice ro r gD,.int .i64 p] X (aK p 4:Nat) j R vc vr wr) (λ_ i _=>min n 24-(intOf i).toNat)
 case atStart=>
  exact⟨0,[],_,_,by omega,by simp,⟨.nil,λx hx=>by cases hx⟩,rfl,rfl,kR _ _ _ _,kQ _ _ _ _,kP _ _ _ _,aag _ _ _ _,aag _ _ _ _,(((aab _ _).alloc (ZL _) _).alloc (by simp) _).alloc (by simp;omega) _,by simp⟩
 case round=>
  obtain⟨j,R,vc,vr,hj,z,t,rfl,rfl,k⟩:=hrel;obtain⟨D,l,rfl⟩:=aj k.dA;obtain⟨ra,rcc,rfl⟩:=aj k.res;have I:=av k;have H:=av (aaa z t);have hz:w.heap.size+1+1<wr.heap.size:=by have:=k.size;omega
  obtain⟨q0,α⟩:=blk k.b0
  by_cases y:j<n
  .by_cases χ:j<24
   .have jn:(j:Int)<n:=by omega
    have γ:(j:Int)<24:=(by omega);have c0:=keeps k.below (K.out.1 j y).1;have c1:=keeps k.below (K.out.1 j y).2.1;have c2:=keeps k.below (K.out.1 j y).2.2;obtain rfl:=K.out.2.2 (by omega);have hS:=(K.out.2.1 j y).1;have hX:=(K.out.2.1 j y).2;clear k z t;go_wp2_with fail;obtain⟨J,G⟩:∃W,W=wr.alloc (.cells #[.int .i64 (S j),.int .i64 (N j),.int .i64 (X j)] 81):=⟨_,rfl⟩
    have H1:Hid (fZ w #[.slice (some ⟨b,o,none⟩) n cap,.slice ro r gD,.int .i64 p] X (aK p 4:Nat) j R (.slice D j l) (.slice ra R.length rcc) J/\J.heap[wr.heap.size]? =some (.cells #[.int .i64 (S j),.int .i64 (N j),.int .i64 (X j)] 81 (0,0))/\J.heap.size=wr.heap.size+1):=by
     rw[G];exact⟨I.out.alloc _,aae _ _,aao _ _⟩
    rw[<-G];clear G;refine(dG (X j) 24 J hX (by omega)).mono ?_;rintro e w1 ⟨rfl,hw⟩;obtain rfl:=hw.symm;have e4:((aK (X j) 24:Nat):Int).tmod 4=((aK (X j) 24%4:Nat):Int):=(by rw[Int.tmod_eq_emod_of_nonneg (by omega)];omega);have e2:((aK (X j) 24%4:Nat):Int).tdiv 2=((aK (X j) 24%4/2:Nat):Int):=(by rw[Int.tdiv_eq_ediv_of_nonneg (by omega)];omega);obtain⟨m2,E⟩:=blk H1.out.1.b2;clear q0 α c0 c1 c2;have HA:Hid (fZ w #[.slice (some ⟨b,o,none⟩) n cap,.slice ro r gD,.int .i64 p] X (aK p 4:Nat) j R (.slice D j l) (.slice ra R.length rcc) (J.alloc (.cells #[.int .i64 (pF X j),.int .i64 (pJ X j),.int .i64 (pN X j)] 81))):=H1.out.1.alloc _;have κ:=av hS;go_wp2_with(at_builtin;refine adJ _ rfl _ _ _ rfl (w.heap.size+3) 81 i0 _ 3 24 hu Y T Q P rfl (by omega) _ j (oq (Qz X (aK p 4:Nat) j R)) rfl HA.out.dA ⟨J.heap.size,0,none⟩ 1 1 [.int .i64 (pF X j),.int .i64 (pJ X j),.int .i64 (pN X j)] rfl rfl (yY _ _ _ _ _) (by intro u hu;simp at hu;rcases hu with rfl|rfl|rfl<;>rfl) (by unfold maxLen;omega) (by omega) HA.out.size ?_;intro v' w2 f d _;obtain⟨s,q,rfl⟩:=aj f;have Z:=av (HA.out.UD d f);have hK:=av (d.block wr.heap.size (by have:=H1.out.2.2;simp;omega) (λe=>by have:=(I.out.dA.lt _ e.symm).2;omega));have μ:=av ((dP (a:=⟨w.heap.size+1+1,0,none⟩) (.slice s (j+1) q) (hK.out.trans ((aac _ _ _ (by have:=H1.out.2.2;omega)).trans H1.out.2.1)) (by show wr.heap.size≠w.heap.size+1+1;omega)));obtain⟨d0,ν⟩:=blk μ.out;obtain⟨m3,L⟩:=blk ((d.block (w.heap.size+1+1) (by have:=H1.out.2.2;rw[aao];omega) (λe=>by have:=(I.out.dA.lt _ e.symm).1;omega)).trans HA.out.b2);clear f d);obtain⟨W2,F⟩:∃W,W=w2.setCell ⟨w.heap.size+1+1,0,none⟩ (.slice s (j+1) q):=⟨_,rfl⟩;have H3:=av (show fZ w #[.slice (some ⟨b,o,none⟩) n cap,.slice ro r gD,.int .i64 p] X (aK p 4:Nat) (j+1) R (.slice s (j+1) q) (.slice ra R.length rcc) W2 from F▸Z.out);rw[<-F];clear F d0 ν m3 L;refine(dG (S j) 6 W2 κ.out (by omega)).mono ?_;rintro e w3 ⟨rfl,hw⟩;obtain rfl:=hw.symm;obtain⟨m4,β⟩:=blk H3.out.b2
    by_cases θ:aK (S j) 6=0
    .rw[θ]
     by_cases υ:R.length<4
     .have r4:(R.length:Int)<4:=by omega
      have B:Hid (fZ w #[.slice (some ⟨b,o,none⟩) n cap,.slice ro r gD,.int .i64 p] X (aK p 4:Nat) (j+1) R (.slice s (j+1) q) (.slice ra R.length rcc) (W2.alloc (.cells #[.int .i64 j] 3))):=H3.out.alloc _;go_wp2_with(at_builtin;refine adJ _ rfl _ _ _ rfl (w.heap.size+3) 3 i1 _ 1 8 η ι ζ ε δ rfl (by omega) _ R.length (aT R) rfl B.out.res ⟨W2.heap.size,0,none⟩ 1 1 [.int .i64 j] rfl rfl (adM _ _ _) (by intro u hu;simp at hu;subst hu;rfl) (by unfold maxLen;omega) (by omega) B.out.size ?_;intro v' w4 f d _;obtain⟨σ,ρ,rfl⟩:=aj f;have H4:=av (B.out.Wm d f);obtain⟨m5,τ⟩:=blk ((d.block (w.heap.size+1+1) (by have:=H3.out.size;rw[aao];omega) (λe=>by have:=(H3.out.res.lt _ e.symm).1;omega)).trans B.out.b2);clear f d);go_roundw
      case rel=>exact⟨j+1,R++[j],_,_,by omega,by simp only[Z7,adt,List.length_nil];omega,H.out.2.snoc,by simp,by go_num,H4.out⟩
      case measure=>simp[intOf];omega
     .have r4:¬(R.length:Int)<4:=by omega
      go_wp2_with fail;go_roundw
      case rel=>exact⟨j+1,R,_,_,by omega,H.out.1,H.out.2.up (by omega),rfl,by go_num,H3.out⟩
      case measure=>simp[intOf];omega
    .have s6:((aK (S j) 6:Nat):Int)≠0:=by omega
     have ξ:(((aK (S j) 6:Nat):Int)==0)=false:=acZ.2 s6;go_wp2_with fail;go_roundw
     case rel=>exact⟨j+1,R,_,_,by omega,H.out.1,H.out.2.up (by omega),rfl,by go_num,H3.out⟩
     case measure=>simp[intOf];omega
   .have jn:(j:Int)<n:=by omega
    have γ:¬(j:Int)<24:=(by omega);obtain⟨m2,E⟩:=blk k.b2;obtain⟨m1,O⟩:=blk k.b1;have U:j≠0:=(by omega);clear k z t;go_wp2_with fail;obtain⟨z0,z1,z2⟩:=KC (.slice D j l) (.slice ra R.length rcc) (.int .i64 (aK p 4:Nat)) (m1 0) (m1 1) (m1 2);obtain⟨g,h⟩:=I.out.fin (by omega) (by omega) (by omega) H.out.2;refine bodyPost_ret (v:=.agg #[.slice D j l,.slice ra R.length rcc,.int .i64 (aK p 4:Nat)]) ?_ rfl ⟨_,_,_,_,_,rfl,g,h⟩;simp[results,results8,go_sem,z0,z1,z2]
  .have jn:¬(j:Int)<n:=by omega
   by_cases U:j=0
   .subst U
    obtain rfl:=t.zero;have A:Hid (fZ w #[.slice ao n cap,.slice ro r gD,.int .i64 p] (λ_=>0) (aK p 4:Nat) 0 [] (.slice D 0 l) (.slice ra 0 rcc) (wr.alloc (.cells #[.int .i64 0,.int .i64 0,.int .i64 0] 81))):=(I.out.other).alloc _;obtain⟨m2,E⟩:=blk k.b2;clear k z t;go_wp2_with(at_builtin;refine adJ _ rfl _ _ _ rfl (w.heap.size+3) 81 i0 _ 3 24 hu Y T Q P rfl (by omega) _ 0 [] rfl A.out.dA ⟨wr.heap.size,0,none⟩ 1 1 [.int .i64 0,.int .i64 0,.int .i64 0] rfl rfl (yY _ _ _ _ _) (by intro u hu;simp at hu;subst hu;rfl) (by unfold maxLen;omega) (by omega) A.out.size ?_;intro v' w2 f d _;obtain⟨s,q,rfl⟩:=aj f;have Z:=av (A.out.UD d f);obtain⟨m3,L⟩:=blk ((d.block (w.heap.size+1+1) (by rw[aao];omega) (λe=>by have:=(I.out.dA.lt _ e.symm).1;omega)).trans A.out.b2);obtain⟨m4,β⟩:=blk Z.out.b2;obtain⟨m1,O⟩:=blk Z.out.b1;clear f d);obtain⟨z0,z1,z2⟩:=KC (.slice s 1 q) (.slice ra 0 rcc) (.int .i64 (aK p 4:Nat)) (m1 0) (m1 1) (m1 2);obtain⟨g,h⟩:=Z.out.fin (by omega) (by omega) (by omega) (show jm [] 1 from⟨.nil,λx hx=>by cases hx⟩);refine bodyPost_ret (v:=.agg #[.slice s 1 q,.slice ra 0 rcc,.int .i64 (aK p 4:Nat)]) ?_ rfl ⟨_,_,_,_,_,rfl,g,h⟩;simp[results,results8,go_sem,z0,z1,z2]
   .obtain⟨m2,E⟩:=blk k.b2
    obtain⟨m1,O⟩:=blk k.b1;clear k z t;go_wp2_with fail;obtain⟨z0,z1,z2⟩:=KC (.slice D j l) (.slice ra R.length rcc) (.int .i64 (aK p 4:Nat)) (m1 0) (m1 1) (m1 2);obtain⟨g,h⟩:=I.out.fin (by omega) (by omega) (by omega) H.out.2;refine bodyPost_ret (v:=.agg #[.slice D j l,.slice ra R.length rcc,.int .i64 (aK p 4:Nat)]) ?_ rfl ⟨_,_,_,_,_,rfl,g,h⟩;simp[results,results8,go_sem,z0,z1,z2]
def Aw {s s'}{l}{r}(h:o5 s l r s')(a:s.jQ->s.ah<4):s'.m=s.m/\s'.no<=s.no+4:=by
 rcases h with⟨hf,_,rfl⟩|⟨_,_,rfl⟩
 .have:=a hf
  refine⟨rfl,?_⟩;show s.no+s.ah.toNat<=s.no+4
  omega
 .exact⟨rfl,ZL _⟩
def zV {s s'}{t}(h:vR s t s'):s'.m=s.m/\s'.no<=s.no+4:=by
 rcases h with⟨_,h⟩|⟨_,r,h⟩|⟨_,rfl⟩|⟨_,r,h⟩|⟨_,rfl⟩
 .rcases h with⟨rfl,_⟩|⟨m,p,x,_,hf,rfl⟩|⟨m,p,x,_,hf,rfl⟩
  .exact⟨rfl,by omega⟩
  .refine⟨rfl,?_⟩
   have:=hf.2;show s.no+s.ah.toNat<=s.no+4
   omega
  .exact⟨rfl,ZL _⟩
 .rcases h with⟨_,_,rfl⟩|⟨p,_,h⟩
  .exact⟨rfl,by omega⟩
  .exact Aw h (λh=>h.2)
 .exact⟨rfl,Nat.le_add_right _ _⟩
 .rcases h with⟨_,_,rfl⟩|⟨_,_,_,rfl⟩|⟨_,_,_,rfl⟩
  .exact⟨rfl,by omega⟩
  .exact⟨rfl,by omega⟩
  .exact⟨rfl,Nat.le_add_right _ _⟩
 .exact⟨rfl,Nat.le_add_right _ _⟩
def Sv (m:cz)(T:Nat->eU):Nat->BS->Prop
 |0,s=>s=BS.new m
 |n+1,s'=>∃s,Sv m T n s/\vR s (T n) s'
def Sv.keeps {m}{T}{n}{s}(h:Sv m T n s):s.m=m/\s.no<=4*n:=by
 induction n generalizing s with
 |zero=>cases h;exact⟨rfl,ZL _⟩
 |succ n a=>
  obtain⟨s1,b,hd⟩:=h;have a:=a b;obtain⟨c,d⟩:=zV hd;exact⟨c.trans a.1,by have:=a.2;omega⟩
structure DL (w:World)(so:Option Addr)(n cap:Nat)(T:Nat->eU):Prop where
 room:n<=cap
 many:n<=100000000
 cells:0<n->∃b o,so=some ⟨b,o,none⟩/\∀i,i<n->∀j u,(T i).cells[j]? =some u->w.cell? ⟨b,o+i*9+j,none⟩=some u
 steps:∀i,i<n->(T i).at w
def DL.below {w w'}{so}{n cap}{T}(h:DL w so n cap T)(hb:adN w w'):DL w' so n cap T:=
 ⟨h.room,h.many,λc=>let ⟨b,o,e,hc⟩:=h.cells c;⟨b,o,e,λi a j u hu=>keeps hb (hc i a j u hu)⟩,λi a=>(h.steps i a).below hb⟩
def dJ.below {w w'}{K K'}(h:dJ w w' K K'){B}(c:B<=w.heap.size)(a:∀b,b<B->K b=0):Below B w w':=⟨h.os,h.tape,h.output,h.size,λb hb=>h.block b (by omega) (.inl (a b hb))⟩
def Bd.zero {w}{base bb}{s}{K}(h:Bd w base bb s K){b}(hb:b<base):K b=0:=by
 obtain⟨_,_,_,_,_,_,h⟩:=h
 by_cases a:K b=0
 .exact a
 .have:=(h.tk b a).1;omega
def eU.cell {t:eU}{w:World}{b o}(h:∀j u,t.cells[j]? =some u->w.cell? ⟨b,o+j,none⟩=some u):
 w.cell? ⟨b,o,none⟩=some (.int .i64 t.kind)/\w.cell? ⟨b,o+1,none⟩=some (.int .i64 t.A)/\w.cell? ⟨b,o+2,none⟩=some (.int .i64 t.B)/\w.cell? ⟨b,o+3,none⟩=some (.int .i64 (t.r 0))/\w.cell? ⟨b,o+4,none⟩=some (.int .i64 (t.r 1))/\
 w.cell? ⟨b,o+5,none⟩=some (.int .i64 (t.r 2))/\w.cell? ⟨b,o+6,none⟩=some (.int .i64 (t.r 3))/\w.cell? ⟨b,o+7,none⟩=some (.slice t.ao t.n t.cap)/\w.cell? ⟨b,o+8,none⟩=some (.bool t.yes):=
 ⟨h 0 _ rfl,h 1 _ rfl,h 2 _ rfl,h 3 _ rfl,h 4 _ rfl,h 5 _ rfl,h 6 _ rfl,h 7 _ rfl,h 8 _ rfl⟩
def Jr (w:World)(m:cz)(n:Nat)(T:Nat->eU)(v:Value)(w':World):Prop:=∃base bb s K,v=.pointer (some ⟨bb,0,none⟩)/\w.heap.size<=base/\Bd w' base bb s K/\Sv m T n s/\adN w w'
def Hu (m)(A ra so)(y rc base n cap)(T)(a)(w)(h:kX w base m (.slice A m.n y) (.slice ra m.r rc))(D:DL w so n cap T)
 (F:w.cell? ⟨0,0,none⟩=some (.iface 345 (.pointer (some a)))):
 adO 9 #[.agg #[.slice A m.n y,.slice ra m.r rc,.int .i64 m.p],.slice so n cap] w (RJ (Jr w m n T) AA):=by
 have B:=av (aaa D F);have N:Hid (∀u,adN w u->adO 33 #[.agg #[.slice A m.n y,.slice ra m.r rc,.int .i64 m.p]] u λe w'=>∃bb K,e=.returned (.tuple #[.pointer (some ⟨bb,0,none⟩),.int .i64 0])/\Bd w' u.heap.size bb (BS.new m) K/\adN u w'):=λu hu=>GY m A ra y rc base u (h.below hu)
 have C:=D.many;clear h D F
 go_enter (pf func9 (by rfl)),ntmps9
 go_wp2_with fail;refine(N.out _ ((aab _ _).alloc (ZL _) _)).mono ?_;rintro e w1 ⟨bb,K,rfl,c,q⟩;have v:=q.size;have H1:=av (aaa c (aaa (ai ((aab w.heap.size w).alloc (ZL _) _) q) (show w.heap.size+1<=w1.heap.size by simpa using v)));rw[aao]at H1;clear c q v;go_wp2_with fail
 go_loopw [7] (λi wr=>∃(j:Nat) (s:BS) (K':Nat->Nat),j<=n/\i=.int .i64 j/\Sv m T j s/\Bd wr (w.heap.size+1) bb s K'/\dJ w1 wr K K') (λi _=>n-(intOf i).toNat)
 case atStart=>exact⟨0,BS.new m,K,adl _,rfl,rfl,H1.out.1,dJ.refl _ _⟩
 case round=>
  obtain⟨j,s,K',O,rfl,g,c,d⟩:=hrel;have l:adN w wr:=H1.out.2.1.trans (d.below (by have:=H1.out.2.2;omega) (λb hb=>H1.out.1.zero (by omega)));have f:=av (aaa g (aaa c (aaa d l)));clear g c d l
  by_cases x:j<n
  .have jn:(j:Int)<n:=by omega
   obtain⟨b,o,rfl,hc⟩:=B.out.1.cells (by omega);obtain⟨c0,L,c2,c3,c4,c5,J,I,H⟩:=eU.cell (t:=T j) (w:=wr) (b:=b) (o:=o+j*9) (λk u hu=>keeps f.out.2.2.2 (hc j x k u hu));clear hc;go_wp2_with fail;have G:=f.out.1.keeps.2;refine(R9 (w.heap.size+1) bb s K' (T j) a wr f.out.2.1 ((B.out.1.steps j x).below f.out.2.2.2) (by omega) (keeps f.out.2.2.2 B.out.2) (by have:=aan B.out.2;simp only at this;omega)).mono ?_;intro e w4 he;cases e with
   |outgrown=>exact he.elim
   |panicked ch=>exact⟨rfl,he⟩
   |returned r=>
    obtain⟨⟨z,rfl⟩,s',M,hd,c,d⟩:=he;have E:=av (aaa hd (aaa c d));clear hd c d c0 L c2 c3 c4 c5 J I H;go_wp2_with fail;go_roundw
    case rel=>exact⟨j+1,s',M,by omega,by go_num,⟨s,f.out.1,E.out.1⟩,E.out.2.1,f.out.2.2.1.trans E.out.2.2⟩
    case measure=>simp[intOf];omega
  .have jn:¬(j:Int)<n:=by omega
   obtain rfl:j=n:=(by omega);go_wp2_with fail;go_ret;exact⟨_,bb,s,K',rfl,by omega,f.out.2.1,f.out.1,f.out.2.2.2⟩
section
variable {w wr W2:World}{s:BS}{d:Nat->Value}
end
def Ta (G:Nat->Value)(q:Nat)(v:Value):Nat->Value:=λa=>if a=q then v else G a
def nZ (f:Nat->Value){k}(a:k<4):(#[f 0,f 1,f 2,f 3]:Array Value)[k]? =some (f k):=by
 obtain rfl|rfl|rfl|rfl:k=0\/k=1\/k=2\/k=3:=by omega
 all_goals rfl
section
variable {w wr w2:World}{mc lc:Array Value}{L:Nat->List Nat}{G:Nat->Value}
end
def IA (D:BD)(mask q x:Nat):Bool:=has mask (bG D q x).toNat
def kU (D:BD)(mask q:Nat)(l:List Nat)(j:Nat):Nat:=(l.take j).countP (IA D mask q)
section
variable {w wr:World}{mc lc gc:Array Value}{c:Nat->Nat}
end
def JD {m}(h:1<=m)(a:m<16):1<=pop m:=by
 have key:(List.range 16).all (λm=>m==0||decide (1<=pop m))=true:=by kernel_rfl
 have:=ZU.1 key m (Z9.2 a);simp at this;omega
def Ao (c:Nat->Int)(want:Int):Nat->Int
 |0=>0
 |m+1=>if 1<=m/\want<=fM c m 4/\(Ao c want m=0\/(pop m:Int)<Ao c want m)then(pop m:Nat)else Ao c want m
def NJ (c)(want)(M)(n:M<=16):(Ao c want M=0/\∀m,1<=m->m<M->¬want<=fM c m 4)\/(∃m,1<=m/\m<M/\want<=fM c m 4/\Ao c want M=(pop m:Nat)/\∀m',1<=m'->m'<M->want<=fM c m' 4->pop m<=pop m'):=by
 induction M with
 |zero=>exact .inl ⟨rfl,λm _ h=>absurd h (ZV _)⟩
 |succ M b=>
  have b:=b (by omega);unfold Ao
  by_cases h:1<=M/\want<=fM c M 4/\(Ao c want M=0\/(pop M:Int)<Ao c want M)
  .rw[if_pos h]
   obtain⟨l,k,f⟩:=h;refine .inr ⟨M,l,by omega,k,rfl,λm' k1 i a=>?_⟩
   by_cases e:m'=M
   .rw[e];exact ZL _
   .rcases b with⟨_,d⟩|⟨m,g,a2,a3,a4,a5⟩
    .exact absurd a (d m' k1 (by omega))
    .have:=a5 m' k1 (by omega) a
     have:=JD g (by omega);rcases f with f|f
     .omega
     .omega
  .rw[if_neg h]
   rcases b with⟨j,d⟩|⟨m,g,a2,a3,a4,a5⟩
   .refine .inl ⟨j,λm k1 i a=>?_⟩
    by_cases e:m=M
    .subst e;exact h ⟨k1,a,.inl j⟩
    .exact d m k1 (by omega) a
   .refine .inr ⟨m,g,by omega,a3,a4,λm' k1 i a=>?_⟩
    by_cases e:m'=M
    .subst e
     have:¬(pop m':Int)<Ao c want m':=λe=>h ⟨k1,a,.inr e⟩
     omega
    .exact a5 m' k1 (by omega) a
def ma (c)(want):∀l:List Nat,l.Pairwise (λa b=>pop a<=pop b)->(gP c want l= -1/\∀m∈l,¬want<=fM c m 4)\/(∃m∈l,want<=fM c m 4/\gP c want l=(pop m:Nat)/\∀m'∈l,want<=fM c m' 4->pop m<=pop m')
 |[],_=>.inl ⟨rfl,λm h=>by cases h⟩
 |a::l,hp=>by
  obtain⟨e,p2⟩:=List.pairwise_cons.1 hp;unfold gP
  by_cases h:want<=fM c a 4
  .rw[if_pos h]
   refine .inr ⟨a,ZX ..,h,rfl,λm' d _=>?_⟩;rcases ZW.1 d with rfl|d
   .exact ZL _
   .exact e m' d
  .rw[if_neg h]
   rcases ma c want l p2 with⟨g,f⟩|⟨m,i,a3,a4,a5⟩
   .refine .inl ⟨g,λm hm=>?_⟩
    rcases ZW.1 hm with rfl|hm
    .exact h
    .exact f m hm
   .refine .inr ⟨m,ac1 _ i,a3,a4,λm' d k=>?_⟩
    rcases ZW.1 d with rfl|d
    .exact absurd k h
    .exact a5 m' d k
def vJ {m}:m∈ord↔1<=m/\m<16:=by
 rw[CG];simp only[ZW,adm,or_false];omega
def xL:ord.Pairwise (λa b=>pop a<=pop b):=by
 rw[CG]
 decide
def Lh (c)(want):l9 c want=if Ao c want 16=0 then -1 else Ao c want 16:=by
 unfold l9;rcases NJ c want 16 (by omega)with⟨f,a⟩|⟨m,d,a2,a3,a4,a5⟩
 .rw[if_pos f]
  rcases ma c want ord xL with⟨e,_⟩|⟨m',b1,b2,_⟩
  .exact e
  .obtain⟨i,b⟩:=vJ.1 b1
   exact absurd b2 (a m' i b)
 .have:=JD d a2
  rw[if_neg (by omega),a4];rcases ma c want ord xL with⟨_,a⟩|⟨m',b1,b2,b,h⟩
  .exact absurd a3 (a m (vJ.2 ⟨d,a2⟩))
  .obtain⟨g,c2⟩:=vJ.1 b1
   have k:=a5 m' g c2 b2;have j:=h m (vJ.2 ⟨d,a2⟩) a3;rw[b];omega
def Ki (D)(q x mask)(l)(hx:0<=bG D q x/\bG D q x<4):fM (dz D q (x::l)) mask 4=fM (dz D q l) mask 4+if IA D mask q x=true then 1 else 0:=by
 have e:∀k,dz D q (x::l) k=dz D q l k+if bG D q x=(k:Int)then 1 else 0:=λk=>by
  unfold dz;rw[List.countP_cons]
  by_cases h:bG D q x=(k:Int)
  .simp[h]
  .simp[h]
 have hm:IA D mask q x=has mask (bG D q x).toNat:=rfl;rw[hm];simp only[fM,e];generalize a:bG D q x=v at*;obtain rfl|rfl|rfl|rfl:v=0\/v=1\/v=2\/v=3:=by omega
 all_goals
  simp
  repeat' split
  all_goals omega
def MC (D)(q mask)(l)(h:∀x∈l,0<=bG D q x/\bG D q x<4):((kU D mask q l l.length:Nat):Int)=fM (dz D q l) mask 4:=by
 unfold kU;rw[List.take_length]
 induction l with
 |nil=>
  show(0:Int)=_
  have:∀k,dz D q [] k=0:=λk=>rfl
  simp[fM,this]
 |cons x l a=>
  rw[Ki D q x mask l (h x (ZX ..)),<-a (λy hy=>h y (ac1 _ hy)),List.countP_cons]
  by_cases hx:IA D mask q x=true
  .rw[if_pos hx,if_pos hx];omega
  .rw[if_neg hx,if_neg hx];omega
end Z
section
open Go Go.Conc
namespace Jp
end Jp
end
section
open Go.RowKit Go.Conc Go.ConcN
def PT {α}{R:Nat->α->Prop}(h:∀i,∃v,R i v):∃V:Nat->α,∀i,R i (V i):=
 ⟨λi=>(h i).choose,λi=>(h i).choose_spec⟩
def mD {Z}{lv}(hl:DT True Z lv)(ao)(n cap)(h:∀x,ao=some x->Z x.block\/(n=0/\cap=0)):∃a',lv (.slice ao n cap)=.slice a' n cap/\(0<cap->a'=ao):=by
 cases ao with
 |none=>exact⟨none,hl.same _ trivial,λ_=>rfl⟩
 |some x=>
  rcases h x rfl with a|⟨rfl,rfl⟩
  .exact⟨some x,hl.same _ a,λ_=>rfl⟩
  .obtain⟨a',b,_⟩:=hl.none trivial x
   exact⟨some a',b,λh=>absurd h (aby _)⟩
def Qq (f:Nat)(args:Array Value)(w:World):Prop:=∃N last o w' a,runNT prog (N+1) (solo (G (Frame.enter prog f args .normal) []) w) #[]=(.ended o w',a)/\runN prog N (solo (G (Frame.enter prog f args .normal) []) w)=.next last/\
 step prog last=.ended o w'/\Conc.Good prog (λv u=>v=.bool true/\Below w.heap.size w u) last o w' a
end
namespace Z
open Go.RowKit
structure BS.inv (s:BS):Prop where
 d:s.D.ok
 fine:s.fine
 many:s.bs.length<=12
 nm:∀x∈s.bs,x.nm.size=1
def BS.fine.ZJ {s s':BS}(h:s.fine)(hb:s'.bs=s.bs)(hm:s'.m=s.m):s'.fine:=⟨by rw[hb,hm];exact h.box,by rw[hb];exact h.aaR,by rw[hb];exact h.apart⟩
def BS.inv.new {m:cz}(h:m.ok):(BS.new m).inv:=⟨(BS.Rs h).d,⟨λx hx=>(by cases hx),List.Pairwise.nil,List.Pairwise.nil⟩,adl _,λx hx=>(by cases hx)⟩
def sj.asks {s:BS}{nm:ByteArray}{c:Nat->Int}{m p:Nat}{x:fH}(h:sj s nm c m p x):∃q,q<4/\0<aN c q:=by
 have hm:=h.may;unfold qo BC at hm;simp only[ZQ,List.any_eq_true,Z9,decide_eq_true_eq]at hm;obtain⟨_,q,a,hc⟩:=hm;exact⟨q,a,by unfold aN;omega⟩
def sj.fine {s:BS}{nm:ByteArray}{c:Nat->Int}{m p:Nat}{x:fH}(h:sj s nm c m p x)(hs:s.fine)(hd:s.D.ok):(s.ins p x).fine:=
 BS.fine.ins (m:=m) (c:=aN c) hs (by rw[h.nm];exact h.name) (by rw[h.nm];exact h.at_) h.given h.asks hd
def BS.inv.step {s s':BS}{t:eU}(h:s.inv)(hd:vR s t s'):s'.inv:=by
 rcases hd with⟨_,hA⟩|⟨_,r,hR⟩|⟨_,rfl⟩|⟨_,r,c⟩|⟨_,rfl⟩
 .rcases hA with⟨rfl,_⟩|⟨m,p,x,_,_,rfl⟩|⟨m,p,x,hy,_,rfl⟩
  .exact h
  .exact⟨BS.UO h.d rfl rfl rfl rfl,h.fine.ZJ rfl rfl,h.many,h.nm⟩
  .refine⟨BS.UO h.d rfl rfl rfl rfl,(hy.fine h.fine h.d).ZJ rfl rfl,?_,λy a=>?_⟩
   .have f:=hy.room
    show(s.bs.take p++x::s.bs.drop p).length<=12
    simp;omega
   .rcases qZ a with rfl|a
    .rw[hy.nm];rfl
    .exact h.nm y a
 .rcases hR with⟨_,_,rfl⟩|⟨p,_,⟨_,_,rfl⟩|⟨_,_,rfl⟩⟩
  .exact h
  .exact⟨BS.UO h.d rfl rfl rfl rfl,h.fine.ZJ rfl rfl,h.many,h.nm⟩
  .refine⟨BS.UO h.d rfl rfl rfl rfl,(h.fine.del (p:=p)).ZJ rfl rfl,?_,λy hy=>h.nm y (List.mem_of_mem_eraseIdx hy)⟩
   have f:=h.many;have g:=List.length_eraseIdx_le s.bs p;show(s.bs.eraseIdx p).length<=12
   omega
 .refine⟨⟨h.d.qF,h.d.nodes,h.d.res,λk' b=>?_⟩,h.fine.ZJ rfl rfl,h.many,h.nm⟩
  show(if k'=aK t.A 3 then min t.n 16 else s.dn k')<=16/\∀i,i< (if k'=aK t.A 3 then min t.n 16 else s.dn k')->0<=(if k'=aK t.A 3 then il t.X else s.dN k') i/\(if k'=aK t.A 3 then il t.X else s.dN k') i<4
  by_cases e:k'=aK t.A 3
  .simp only[if_pos e];exact⟨by omega,λi _=>M0 t.X i⟩
  .simp only[if_neg e];exact h.d.dC k' b
 .rcases c with⟨_,_,rfl⟩|⟨_,_,_,rfl⟩|⟨_,_,_,rfl⟩
  .exact h
  .exact h
  .exact⟨⟨h.d.qF,h.d.nodes,h.d.res,h.d.dC⟩,h.fine.ZJ rfl rfl,h.many,h.nm⟩
 .exact⟨BS.UO h.d rfl rfl rfl rfl,h.fine.ZJ rfl rfl,h.many,h.nm⟩
def Sv.inv {m:cz}{T:Nat->eU}{n:Nat}{s:BS}(h:Sv m T n s)(hm:m.ok):s.inv:=by
 induction n generalizing s with
 |zero=>cases h;exact .new hm
 |succ n a=>
  obtain⟨s1,b,hd⟩:=h;exact(a b).step hd
def l5 (l l':List fH):Prop:=l.length=l'.length/\∀i (h:i<l.length) (a:i<l'.length),l[i].nm=l'[i].nm/\∀q,q<4->l[i].T q=l'[i].T q
def l5.refl (l:List fH):l5 l l:=⟨rfl,λ_ _ _=>⟨rfl,λ_ _=>rfl⟩⟩
def l5.symm {l l':List fH}(h:l5 l l'):l5 l' l:=⟨h.1.symm,λi a b=>⟨(h.2 i b a).1.symm,λq c=>((h.2 i b a).2 q c).symm⟩⟩
def l5.trans {l l' d:List fH}(h:l5 l l')(k:l5 l' d):l5 l d:=⟨h.1.trans k.1,λi a b=>have c:i<l'.length:=by have:=h.1;omega
 ⟨(h.2 i a c).1.trans (k.2 i c b).1,λq e=>((h.2 i a c).2 q e).trans ((k.2 i c b).2 q e)⟩⟩
structure aau (w:World)(v:Value)(l:List fH):Prop where
 at_:∃ao cap,v=.slice ao l.length cap/\l.length<=cap/\(0<l.length->∃g,ao=some ⟨g,0,none⟩/\fG w g 0 (aR l))
 rows:∀x∈l,∀q,q<4->aas w (x.sl q) (x.T q)
def fG.below {w w':World}{g o:Nat}{xs:List Value}(h:fG w g o xs)(hb:adN w w'):fG w' g o xs:=λj u a=>keeps hb (h j u a)
def aau.below {w w':World}{v:Value}{l:List fH}(h:aau w v l)(hb:adN w w'):aau w' v l:=
 ⟨let ⟨ao,cap,e,d,c⟩:=h.at_;⟨ao,cap,e,d,λb=>let ⟨g,f,hc⟩:=c b;⟨g,f,hc.below hb⟩⟩,λx hx q a=>(h.rows x hx q a).ext hb⟩
attribute [local go_sem ↓] Go.wp_at_zero Go.wp_at_succ
attribute [local go_sem] After.cell After.frozen After.const
def aau.cells {w:World}{v:Value}{l:List fH}(h:aau w v l){i:Nat}(c:i<l.length):∃g cap,v=.slice (some ⟨g,0,none⟩) l.length cap/\w.cell? ⟨g,i*5,none⟩=some (.string l[i].nm)/\
 w.cell? ⟨g,i*5+1,none⟩=some (.slice (l[i].A 0) (l[i].T 0).length (l[i].C 0))/\w.cell? ⟨g,i*5+1+1,none⟩=some (.slice (l[i].A 1) (l[i].T 1).length (l[i].C 1))/\w.cell? ⟨g,i*5+1+2,none⟩=some (.slice (l[i].A 2) (l[i].T 2).length (l[i].C 2))/\w.cell? ⟨g,i*5+1+3,none⟩=some (.slice (l[i].A 3) (l[i].T 3).length (l[i].C 3)):=by
 obtain⟨ao,cap,rfl,_,d⟩:=h.at_;obtain⟨g,rfl,hc⟩:=d (by omega);obtain⟨b,a⟩:=Jk hc c;have e:0+5*i=i*5:=by rw[Z8,Nat.mul_comm]
 rw[e]at b a;exact⟨g,cap,rfl,b,a 0 (by omega),a 1 (by omega),a 2 (by omega),a 3 (by omega)⟩
def aau.len {w:World}{v:Value}{l:List fH}(h:aau w v l):∃ao cap,v=.slice ao l.length cap:=let ⟨ao,cap,e,_⟩:=h.at_;⟨ao,cap,e⟩
def aau.aaM {w:World}{v:Value}{l:List fH}(h:aau w v l){i:Nat}(b:i<l.length):aaB w l[i].A l[i].C l[i].T:=λq a=>h.rows _ (acY b) q a
def aaK (v v':Value)(l l':List fH)(w:World)(h:aau w v l)(k:aau w v' l')(f:l5 l l')(hl:l.length<=1000):
 adO 23 #[v,v'] w λe w'=>e=.returned (.bool true)/\adN w w':=by
 obtain⟨ao,cap,rfl⟩:=h.len;obtain⟨u,o,rfl⟩:=k.len;have H:=av (aaa h (aaa k f));have hle:=f.1;clear h k f;rw[<-hle]
 go_enter (pf func23 (by rfl)),ntmps23
 go_wp2_with fail
 go_loopw [5] (λi wr=>∃j:Nat,j<=l.length/\i=.int .i64 j/\adN w wr) (λi _=>l.length-(intOf i).toNat)
 case atStart=>exact⟨0,adl _,rfl,aab _ _⟩
 case round=>
  obtain⟨j,B,rfl,hb⟩:=hrel;have p:=av hb
  by_cases c:j<l.length
  .have jn:(j:Int)<l.length:=by omega
   have a:j<l'.length:=(by omega);obtain⟨g,F,e,c0,t,c2,c3,c4⟩:=(H.out.1.below hb).cells c;cases e;obtain⟨g',s,e,d0,d1,d2,d3,d4⟩:=(H.out.2.1.below hb).cells a;cases e;obtain⟨n,m⟩:=H.out.2.2.2 j c a;rw[<-n]at d0
   have z:Hid (∀x:After wr,adO 26 #[.agg #[.slice (l[j].A 0) (l[j].T 0).length (l[j].C 0),.slice (l[j].A 1) (l[j].T 1).length (l[j].C 1),.slice (l[j].A 2) (l[j].T 2).length (l[j].C 2),.slice (l[j].A 3) (l[j].T 3).length (l[j].C 3)],.agg #[.slice (l'[j].A 0) (l'[j].T 0).length (l'[j].C 0),.slice (l'[j].A 1) (l'[j].T 1).length (l'[j].C 1),.slice (l'[j].A 2) (l'[j].T 2).length (l'[j].C 2),.slice (l'[j].A 3) (l'[j].T 3).length (l'[j].C 3)]] x.val λe d=>e=.returned (.bool true)/\∃y:After wr,d=y.val):=λx=>
        Calls.iU m (aaA l[j].A l'[j].A l[j].C l'[j].C l[j].T l'[j].T x.val (((H.out.1.below hb).aaM c).ext (After.later x)) (((H.out.2.1.below hb).aaM a).ext (After.later x)))
   have D:g<wr.heap.size:=aan c0;have r:g'<wr.heap.size:=aan d0;generalize hx:l[j]=x at*;generalize hy:l'[j]=y at*;clear hb n m hx hy;go_wp2_with fail;refine dx (by kernel_rfl) (by kernel_rfl) ?_
   repeat(go_big_quiet_step (first|(go_at_call 26;exact z.out _)))
   refine wpQuiet_nil ?_;rintro _ ⟨⟨w1,b⟩,rfl⟩;have H1:=av (ai p.out b);have E:=keeps b c0;have f0:=keeps b d0;have q:(!(x.nm.toList==x.nm.toList))=false:=(by simp);clear b c0 t c2 c3 d0 d1 d2 d3;go_wp2_with fail;go_quiet(fail);go_wp2_with fail;go_roundw
   case rel=>exact⟨j+1,by omega,by go_num,H1.out.drewN _⟩
   case measure=>simp[intOf];omega
  .have jn:¬(j:Int)<l.length:=by omega
   clear hb;go_wp2_with fail;go_ret;exact⟨rfl,p.out⟩
def ab0 {c:Nat->Int}(h:∀i,i<4->0<=c i/\c i<=A7 i)(b:∃q,q<4/\0<c q):qo c=true:=by
 unfold qo;rw[ZQ];refine⟨@decide_eq_true _ (Ut c 4) h,?_⟩;obtain⟨q,a,hc⟩:=b;unfold BC;rw[List.any_eq_true];exact⟨q,Z9.2 a,ady hc⟩
def acs {a b:ByteArray}(h:Dv a b=0):a=b:=by
 obtain⟨⟨l⟩⟩:=a;obtain⟨⟨k⟩⟩:=b;have:l=k:=abQ h;rw[this]
def abv {s:BS}{nm:ByteArray}(h:∀x∈s.bs,x.nm≠nm):¬there s nm:=by
 rintro⟨p,hp⟩;obtain⟨b,a⟩:=hp.2.2.2.1 rfl;rw[M4 b]at a;exact h _ (acY b) (acs a)
def abY {l:List fH}{p q:Nat}{t:Bool}(h:l.Pairwise aaz)(hp:p<l.length)(hf:jw l.length (mU l) l[p].nm q t):q=p/\t=true:=by
 obtain⟨n,m,k,j⟩:=hf;have f:=adk.1 h;have self:∀x:fH,Dv x.nm x.nm=0:=λx=>acf _
 have e:q=p:=by
  rcases Nat.lt_trichotomy q p with g|e|g
  .have a:=k (by omega)
   rw[M4 (show q<l.length by omega)]at a;have b:Dv l[q].nm l[p].nm<0:=f q p (by omega) hp g;omega
  .exact e
  .have i:q-1<l.length:=by omega
   have a:=m (by omega);rw[M4 i]at a
   by_cases e:q-1=p
   .subst e
    have:=self l[q-1];omega
   .have b:aaz l[p] l[q-1]:=f p (q-1) hp i (by omega)
    have c:aaz l[p] l[p]:=b.trans a;have d:Dv l[p].nm l[p].nm<0:=c;have:=self l[p];omega
 subst e;exact⟨rfl,j.2 ⟨hp,by rw[M4 hp];exact self _⟩⟩
structure aco (w:World)(b3:Nat)(G:Nat->Value)(L:Nat->List Nat)(k:Nat)(wr:World):Prop where
 b0:wr.heap[w.heap.size]? =some (.cells #[.slice none 0 0,.slice none 0 0,.slice none 0 0,.slice none 0 0] 41 (0,0))
 bg:wr.heap[b3]? =some (.cells #[G 0,G 1,G 2,G 3] 41 (0,0))
 rows:∀q,q<=k->wr.ownsRow (w.heap.size+1) 3 1 (G q) (L q).length (aT (L q))/\(G q).ownBlock≠some b3
 below:adN w wr
 lt:w.heap.size<b3
def aco.step {w wr w2:World}{a k:Nat}{G:Nat->Value}{L:Nat->List Nat}{v:Value}(h:aco w a G L k wr)(p:k<3)(hb:adN wr w2)(g:w2.ownsRow wr.heap.size 3 1 v (L (1+k)).length (aT (L (1+k)))):
 aco w a (Ta G (1+k) v) L (k+1) (w2.setCell ⟨a,1+k,none⟩ v):=by
 have m:a<wr.heap.size:=(ZK.1 h.bg).1;have l:=h.lt;have c:∀b,b≠a->(w2.setCell ⟨a,1+k,none⟩ v).heap[b]? =w2.heap[b]?:=λb hb=>aad _ _ _ _ hb
 refine⟨(c _ (by omega)).trans (bJ hb h.b0),?_,λq o=>?_,(ai h.below hb).setCell (by show w.heap.size<=a;omega) _,h.lt⟩
 .refine(aD (i:=1+k) _ (bJ hb h.bg)).trans ?_
  obtain rfl|rfl|rfl:k=0\/k=1\/k=2:=by omega
  all_goals rfl
 .unfold Ta
  by_cases e:q=1+k
  .subst e
   rw[if_pos rfl];have f:v.ownBlock≠some a:=λe=>by have:=(g.lt a e).1;omega
   exact⟨aB (aJ g λb d=>c b (λe=>f (by rw[<-e];exact d))) (by have:=h.below.size;omega),f⟩
  .rw[if_neg e]
   obtain⟨n,j⟩:=h.rows q (by omega);exact⟨aJ (au n hb) λb d=>c b (λe=>j (by rw[<-e];exact d)),j⟩
def Bd.ow {w:World}{base bb:Nat}{s:BS}{K:Nat->Nat}(h:Bd w base bb s K):aW w bb s.D/\s.ok:=by
 obtain⟨_,_,_,_,_,_,h⟩:=h;exact⟨h.Si.ow,h.ok⟩
def aaX (base bb:Nat)(s:BS)(K:Nat->Nat)(w:World)(h:Bd w base bb s K):
 adO 18 #[.pointer (some ⟨bb,0,none⟩)] w λe w'=>∃A C,e=.returned (aaI A C (gq s.D))/\(∀q,q<4->w'.ownsRow w.heap.size 3 1 (.slice (A q) (gq s.D q).length (C q)) (gq s.D q).length (aT (gq s.D q)))/\adN w w':=by
 have L:Hid (∀u,adN w u->∀r:Nat,r<4->adO 48 #[.pointer (some ⟨bb,0,none⟩),.int .i64 r] u λe w'=>∃v,e=.returned v/\w'.ownsRow u.heap.size 3 1 v (gq s.D r).length (aT (gq s.D r))/\adN u w'):=λu hu r z=>
  lK bb r s.D u z (h.below hu).ow.1 h.ow.2.d (ZP (ku h.ow.2.d z) (by decide))
 clear h
 go_enter (pf func18 (by rfl)),ntmps18
 go_wp2_with fail;refine(L.out _ ((aab _ _).alloc (ZL _) _) 0 (by omega)).mono ?_;rintro e w1 ⟨v0,rfl,c,g⟩;obtain⟨T,m⟩:∃W,W=w1.alloc (.cells #[v0,.slice none 0 0,.slice none 0 0,.slice none 0 0] 41):=⟨_,rfl⟩;have y:=g.size;rw[aao]at y
 have H1:Hid (aco w w1.heap.size (Ta (λ_=>.slice none 0 0) 0 v0) (gq s.D) 0 T):=by
  rw[m];have l:adN w1 (w1.alloc (.cells #[v0,.slice none 0 0,.slice none 0 0,.slice none 0 0] 41)):=(aab _ _).alloc (ZL _) _;refine⟨bJ l ((g.block w.heap.size (by simp)).trans (aae _ _)),aae _ _,λq n=>?_,ai (ai ((aab _ _).alloc (ZL _) _) g) l,by omega⟩;obtain rfl:q=0:=by omega
  rw[aao]at c;exact⟨au c l,λe=>by have:=(c.lt _ e).2;omega⟩
 obtain⟨X,vc,rfl⟩:=aj c;clear c g y;go_wp2_with fail;rw[<-m];clear m
 go_loopw [8] (λi wr=>∃(k:Nat) (G:Nat->Value),k<=3/\i=.int .i64 k/\aco w w1.heap.size G (gq s.D) k wr) (λi _=>3-(intOf i).toNat)
 case atStart=>exact⟨0,_,by omega,rfl,H1.out⟩
 case round=>
  obtain⟨k,G,Z,rfl,B⟩:=hrel;have a:=av B;clear B
  by_cases x:k<3
  .have S:(k:Int)<3:=by omega
   have k1:IntKind.i64.wrap (1+(k:Int))=((1+k:Nat):Int):=(by rw[IntKind.wrap_i64];omega);go_wp2_with fail;refine(L.out wr a.out.below (1+k) (by omega)).mono ?_;rintro e w2 ⟨v,rfl,t,hb⟩;have U:=av (a.out.step x hb t);obtain⟨v2,c2,rfl⟩:=aj t;have n:=blk (bJ hb a.out.bg);have V:w2.cell? ⟨w1.heap.size,1+k,none⟩=some (G (1+k)):=(by rw[n.1];exact nZ G (by omega));have M:=n.2 (1+k);clear t hb n;go_wp2_with fail;go_roundw
   case rel=>exact⟨k+1,_,by omega,by go_num,U.out⟩
   case measure=>simp[intOf];omega
  .have S:¬(k:Int)<3:=by omega
   obtain rfl:k=3:=(by omega);obtain⟨Q,P⟩:=blk a.out.bg;obtain⟨a0,c0,J⟩:=aj (a.out.rows 0 (by omega)).1;obtain⟨p,o,I⟩:=aj (a.out.rows 1 (by omega)).1;obtain⟨a2,c2,H⟩:=aj (a.out.rows 2 (by omega)).1;obtain⟨a3,c3,F⟩:=aj (a.out.rows 3 (by omega)).1;rw[J,I,H,F]at Q;obtain⟨Y,R⟩:=blk a.out.b0;obtain⟨O,N⟩:=blk (KB (.slice a0 (gq s.D 0).length c0) (.slice p (gq s.D 1).length o) (.slice a2 (gq s.D 2).length c2) (.slice a3 (gq s.D 3).length c3) a.out.b0);go_wp2_with fail;refine bodyPost_ret (v:=.agg #[.slice a0 (gq s.D 0).length c0,.slice p (gq s.D 1).length o,.slice a2 (gq s.D 2).length c2,.slice a3 (gq s.D 3).length c3]) (by simp[results,go_sem,O]) rfl ?_;refine⟨λq=>if q=0 then a0 else if q=1 then p else if q=2 then a2 else a3,λq=>if q=0 then c0 else if q=1 then o else if q=2 then c2 else c3,rfl,λq n=>?_,?_⟩
   .have E:=(a.out.rows q (by omega)).1
    have j:World.ownsRow _ _ _ _ _ _ _:=aB (aJ E λb hb=>show((((wr.setCell ⟨w.heap.size,0,none⟩ (.slice a0 (gq s.D 0).length c0)).setCell ⟨w.heap.size,1,none⟩ (.slice p (gq s.D 1).length o)).setCell ⟨w.heap.size,2,none⟩ (.slice a2 (gq s.D 2).length c2)).setCell ⟨w.heap.size,3,none⟩ (.slice a3 (gq s.D 3).length c3)).heap[b]? =wr.heap[b]? from by
     have f:b≠w.heap.size:=λe=>by have:=(E.lt b hb).1;omega
     exact(aad _ _ _ _ f).trans ((aad _ _ _ _ f).trans ((aad _ _ _ _ f).trans (aad _ _ _ _ f)))) (show w.heap.size<=w.heap.size+1 by omega)
    obtain rfl|rfl|rfl|rfl:q=0\/q=1\/q=2\/q=3:=by omega
    .rw[J]at j;exact j
    .rw[I]at j;exact j
    .rw[H]at j;exact j
    .rw[F]at j;exact j
   .exact(((a.out.below.setCell (ZL _) _).setCell (ZL _) _).setCell (ZL _) _).setCell (ZL _) _
def fH.put (x:fH)(A:Nat->Option Addr)(C:Nat->Nat):fH:=⟨x.nm,A,C,x.T⟩
def abJ (l:List fH){i:Nat}(b:i<l.length)(A:Nat->Option Addr)(C:Nat->Nat):
 ((((aR l).set (i*5+1) (.slice (A 0) (l[i].T 0).length (C 0))).set (i*5+1+1) (.slice (A 1) (l[i].T 1).length (C 1))).set (i*5+1+2) (.slice (A 2) (l[i].T 2).length (C 2))).set (i*5+1+3) (.slice (A 3) (l[i].T 3).length (C 3))=aR (l.set i (l[i].put A C)):=by
 refine List.ext_getElem? λj=>?_
 obtain⟨p,r,a,rfl⟩:∃p r,r<5/\j=p*5+r:=⟨j/5,j%5,Nat.mod_lt _ (by omega),by omega⟩;have hlen:(aR l).length=l.length*5:=fe l
 by_cases hp:p<l.length
 .rw[DD (l:=l.set i (l[i].put A C)) (by simpa using hp) a]
  by_cases e:p=i
  .subst e
   rw[List.getElem_set_self];have c:=DD b a;obtain rfl|rfl|rfl|rfl|rfl:r=0\/r=1\/r=2\/r=3\/r=4:=by omega
   .rw[ac8 (by omega),ac8 (by omega),ac8 (by omega),ac8 (by omega),c];rfl
   .rw[ac8 (by omega),ac8 (by omega),ac8 (by omega),List.getElem?_set_self (by omega)];rfl
   .rw[ac8 (by omega),ac8 (by omega),show p*5+2=p*5+1+1 by omega,List.getElem?_set_self (by simp;omega)];rfl
   .rw[ac8 (by omega),show p*5+3=p*5+1+2 by omega,List.getElem?_set_self (by simp;omega)];rfl
   .rw[show p*5+4=p*5+1+3 by omega,List.getElem?_set_self (by simp;omega)];rfl
  .rw[List.getElem_set_ne (λh=>e h.symm),ac8 (by omega),ac8 (by omega),ac8 (by omega),ac8 (by omega),DD hp a]
 .rw[List.getElem?_eq_none (by simp;omega),List.getElem?_eq_none (by rw[fe];simp;omega)]
def aaU {w:World}{base ty c g n cap:Nat}{xs:List Value}(h:w.ownsRow base ty c (.slice (some ⟨g,0,none⟩) n cap) n xs)(j:Nat):w.frozen? ⟨g,j,none⟩=false:=by
 rcases h.2 with⟨e,_⟩|⟨g',b,cur,e,d,a,_⟩
 .cases e
 .cases e;exact(blk a).2 j
structure CpI (w:World)(g c:Nat)(l0:List fH)(i:Nat)(l:List fH)(wr:World):Prop where
 row:wr.ownsRow w.heap.size 98 5 (.slice (some ⟨g,0,none⟩) l.length c) l.length (aR l)
 alike:l5 l0 l
 mine:∀j (h:j<l.length),j<i->∀q,q<4->wr.ownsRow w.heap.size 3 1 (l[j].sl q) (l[j].T q).length (aT (l[j].T q))/\(l[j].sl q).ownBlock≠some g
 rest:∀j (h:j<l.length) (h':j<l0.length),i<=j->l[j]=l0[j]
 below:adN w wr
 lt:w.heap.size<=g
def CpI.step {w wr w2:World}{g c i:Nat}{o l:List fH}{A:Nat->Option Addr}{C:Nat->Nat}(h:CpI w g c o i l wr)(t:i<l.length)(hb:adN wr w2)(u:g<wr.heap.size)
 (hA:∀q,q<4->w2.ownsRow wr.heap.size 3 1 (.slice (A q) (l[i].T q).length (C q)) (l[i].T q).length (aT (l[i].T q))):
 CpI w g c o (i+1) (l.set i (l[i].put A C)) ((((w2.setCell ⟨g,i*5+1,none⟩ (.slice (A 0) (l[i].T 0).length (C 0))).setCell ⟨g,i*5+1+1,none⟩ (.slice (A 1) (l[i].T 1).length (C 1))).setCell ⟨g,i*5+1+2,none⟩ (.slice (A 2) (l[i].T 2).length (C 2))).setCell ⟨g,i*5+1+3,none⟩ (.slice (A 3) (l[i].T 3).length (C 3))):=by
 have f:∀b,b≠g->((((w2.setCell ⟨g,i*5+1,none⟩ (.slice (A 0) (l[i].T 0).length (C 0))).setCell ⟨g,i*5+1+1,none⟩ (.slice (A 1) (l[i].T 1).length (C 1))).setCell ⟨g,i*5+1+2,none⟩ (.slice (A 2) (l[i].T 2).length (C 2))).setCell ⟨g,i*5+1+3,none⟩ (.slice (A 3) (l[i].T 3).length (C 3))).heap[b]? =w2.heap[b]?:=λb hb=>(aad _ _ _ _ hb).trans ((aad _ _ _ _ hb).trans ((aad _ _ _ _ hb).trans (aad _ _ _ _ hb)))
 refine⟨?_,⟨by simpa using h.alike.1,λj a m=>?_⟩,λj a s q p=>?_,λj a m s=>?_,((((ai h.below hb).setCell h.lt _).setCell h.lt _).setCell h.lt _).setCell h.lt _,h.lt⟩
 .rw[<-abJ l t A C]
  simp only[List.length_set];exact JH (JH (JH (JH (au h.row hb) rfl _) rfl _) rfl _) rfl _
 .rw[List.length_set]at m
  by_cases e:i=j
  .subst e
   rw[List.getElem_set_self];exact h.alike.2 i a m
  .rw[List.getElem_set_ne e]
   exact h.alike.2 j a m
 .rw[List.length_set]at a
  by_cases e:i=j
  .subst e
   simp only[List.getElem_set_self];have n:=hA q p;have k:(fH.sl (l[i].put A C) q).ownBlock≠some g:=λe=>by have:=(n.lt g e).1;omega
   exact⟨aB (aJ n λb d=>f b (λe=>k (by rw[<-e];exact d))) h.below.size,k⟩
  .simp only[List.getElem_set_ne e]
   obtain⟨n,r⟩:=h.mine j a (by omega) q p;exact⟨aJ (au n hb) λb d=>f b (λe=>r (by rw[<-e];exact d)),r⟩
 .rw[List.length_set]at a
  rw[List.getElem_set_ne (by omega)];exact h.rest j a m (by omega)
structure aar (w:World)(z:Nat)(v:Value)(l:List fH):Prop where
 row:w.ownsRow z 98 5 v l.length (aR l)
 rows:∀x∈l,∀q,q<4->w.ownsRow z 3 1 (x.sl q) (x.T q).length (aT (x.T q))
def aar.l {w:World}{z:Nat}{v:Value}{l:List fH}(h:aar w z v l):aau w v l:=
 ⟨let ⟨ao,cap,e,d,_,c,_⟩:=dV h.row;⟨ao,cap,e,d,λb=>let ⟨g,f,_,_,hc⟩:=c b;⟨g,f,hc⟩⟩,λx hx q a=>.own (h.rows x hx q a)⟩
def aar.below {w w':World}{z:Nat}{v:Value}{l:List fH}(h:aar w z v l)(hb:adN w w'):aar w' z v l:=⟨au h.row hb,λx hx q a=>au (h.rows x hx q a) hb⟩
def aaY (base bb:Nat)(s:BS)(K:Nat->Nat)(w:World)(h:Bd w base bb s K):
 adO 17 #[.pointer (some ⟨bb,0,none⟩)] w λe w'=>∃v l,e=.returned v/\aar w' w.heap.size v l/\l5 s.bs l/\adN w w':=by
 obtain⟨vc,vr,vb,vo,d,ys,G⟩:=h;obtain⟨ao,cap,rfl,Y,_,X,_⟩:=dV G.boxes;have P:w.cell? ⟨bb,6,none⟩=some (.slice ao s.bs.length cap):=G.cell 6;have HP:=av G;have M:=G.ok.many;have U:=av (uM ao s.bs.length cap (aR s.bs) w (by omega) (fe _) iD Y (λp=>let ⟨g,e,_,_,hc⟩:=X p;⟨g,0,e,hc⟩))
 have S:Hid (∀u (x:fH),(∀q,q<4->aas u (x.sl q) (x.T q)/\(x.T q).length<=24)->adO 47 #[.agg #[.slice (x.A 0) (x.T 0).length (x.C 0),.slice (x.A 1) (x.T 1).length (x.C 1),.slice (x.A 2) (x.T 2).length (x.C 2),.slice (x.A 3) (x.T 3).length (x.C 3)]] u (Ox u (λq=>(x.T q).length) (λq j=>(((x.T q)[j]?.getD 0:Nat):Int)))):=λu x hx=>
  Bv x.A (λq=>(x.T q).length) x.C (λq j=>(((x.T q)[j]?.getD 0:Nat):Int)) u λq f=>⟨(hx q f).1,by have:=(hx q f).2;omega⟩
 clear Y X G
 go_enter (pf func17 (by rfl)),ntmps17
 go_wp2_with fail;refine U.out.mono ?_;rintro e w1 ⟨a',c',rfl,n,F⟩;have H1:=av (aaa n F);clear n F P;go_wp2_with fail;obtain⟨p1,p2,e1,n1,n2,n3,_⟩:=dV H1.out.1;cases e1
 go_loopw [12] (λi wr=>∃(j:Nat) (l:List fH),j<=s.bs.length/\i=.int .i64 j/\l.length=s.bs.length/\adN w wr/\(0<s.bs.length->∃g,a'=some ⟨g,0,none⟩/\CpI w g c' s.bs j l wr)/\(s.bs.length=0->wr=w1)) (λi _=>s.bs.length-(intOf i).toNat)
 case atStart=>
  refine⟨0,s.bs,adl _,rfl,rfl,H1.out.2,λp=>?_,λ_=>rfl⟩;obtain⟨g,e,_,O,_⟩:=n3 p;subst e;exact⟨g,rfl,H1.out.1,l5.refl _,λj h W=>absurd W (ZV _),λ_ _ _ _=>rfl,H1.out.2,O⟩
 case round=>
  obtain⟨j,l,W,rfl,D,E,L,Z⟩:=hrel
  by_cases r:j<s.bs.length
  .have jn:(j:Int)<s.bs.length:=by omega
   obtain⟨g,rfl,m⟩:=L (by omega);have z:=av m;have k:j<l.length:=(by omega);have hx:=m.rest j k r (ZL _);obtain⟨_,_,e,_,_,B,_⟩:=dV m.row;cases e;obtain⟨g',e,N,_,c⟩:=B (by omega);cases e;obtain⟨_,b⟩:=Jk c k;have I:0+5*j=j*5:=(by omega);rw[I]at b;have c0:=b 0 (by omega);have Q:=b 1 (by omega);have c2:=b 2 (by omega);have c3:=b 3 (by omega);unfold fH.sl at c0 Q c2 c3
   have J:=av (S.out wr l[j] (λq f=>by
        rw[hx];exact⟨.own (au (HP.out.rows _ (acY r) q f).1 E),((HP.out.ok.small _ (acY r)).2 q f).1⟩))
   obtain⟨x,o⟩:∃x,x=l[j]:=⟨_,rfl⟩;rw[<-o]at c0 Q c2 c3 J;have R:=av o;clear L Z m B c b I hx o;go_wp2_with fail;refine J.out.mono ?_;rintro e w2 ⟨A,C,rfl,hA,a⟩
   have V:=av (z.out.step (A:=A) (C:=C) k a N (λq f=>by
        have:=hA q f;rw[Bf (l:=x.T q) rfl]at this;rw[<-R.out];exact this))
   obtain⟨_,_,e,_,_,B,_⟩:=dV (au z.out.row a);cases e;obtain⟨g',e,_,_,c⟩:=B (by omega);cases e;obtain⟨_,b⟩:=Jk c k;have I:0+5*j=j*5:=(by omega);rw[I]at b;have d0:=b 0 (by omega);have d1:=b 1 (by omega);have d2:=b 2 (by omega);have d3:=b 3 (by omega);rw[<-R.out]at d0 d1 d2 d3;unfold fH.sl at d0 d1 d2 d3;have f0:=aaU (au z.out.row a) (j*5+1);have f1:=aaU (au z.out.row a) (j*5+1+1);have f2:=aaU (au z.out.row a) (j*5+1+2);have f3:=aaU (au z.out.row a) (j*5+1+3);rw[<-R.out]at V;have α:=av (ai z.out.below a);clear hA a B c b I c0 Q c2 c3;go_wp2_with fail;go_roundw
   case rel=>exact⟨j+1,l.set j (x.put A C),by omega,by go_num,by simpa using D,V.out.below,λ_=>⟨g,rfl,V.out⟩,λh=>by omega⟩
   case measure=>simp[intOf];omega
  .have jn:¬(j:Int)<s.bs.length:=by omega
   obtain rfl:j=s.bs.length:=(by omega);go_wp2_with fail;go_ret;refine⟨_,rfl,l,?_,?_,E⟩
   .by_cases p:0<s.bs.length
    .obtain⟨g,rfl,m⟩:=L p
     refine⟨by rw[<-D];exact m.row,λx hx q f=>?_⟩;obtain⟨i,hi,rfl⟩:=ado.1 hx;exact(m.mine i hi (by omega) q f).1
    .have H:s.bs.length=0:=by omega
     have y:s.bs=[]:=List.length_eq_zero_iff.1 H;have t:l=[]:=List.length_eq_zero_iff.1 (by omega);subst t;obtain rfl:=Z H;refine⟨?_,λx hx=>(by cases hx)⟩;have:=H1.out.1;rw[y]at this⊢;exact this
   .by_cases p:0<s.bs.length
    .obtain⟨g,rfl,m⟩:=L p
     exact m.alike
    .have y:s.bs=[]:=List.length_eq_zero_iff.1 (by omega)
     have t:l=[]:=List.length_eq_zero_iff.1 (by omega);rw[y,t];exact l5.refl _
def GrO (w:World)(K:Nat->Nat)(z:Nat)(A:Nat->Option Addr)(C:Nat->Nat)(L:Nat->List Nat):Prop:=∀q,q<4->w.ownsRow z 3 1 (.slice (A q) (L q).length (C q)) (L q).length (aT (L q))/\∀b,(Value.slice (A q) (L q).length (C q)).ownBlock=some b->K b=0
def GrO.aaM {w:World}{K:Nat->Nat}{z:Nat}{A:Nat->Option Addr}{C:Nat->Nat}{L:Nat->List Nat}(h:GrO w K z A C L):aaB w A C L:=λq a=>aas.own (h q a).1
def GrO.aaq {w w':World}{K K':Nat->Nat}{z:Nat}{A:Nat->Option Addr}{C:Nat->Nat}{L:Nat->List Nat}(h:GrO w K z A C L)(c:dJ w w' K K'):GrO w' K' z A C L:=λq e=>by
 obtain⟨a,d⟩:=h q e;exact⟨aJ a λb hb=>c.block b (a.lt b hb).2 (.inl (d b hb)),λb hb=>by rw[c.tag b (a.lt b hb).2];exact d b hb⟩
def acj {P Q:Value->World->Prop}{A:List PanicEntry->World->Prop}{e:Ending}{w:World}(h:RJ P A e w)(a:∀v,P v w->Q v w):RJ Q A e w:=by
 rcases e with v|ch|_
 .exact a v h
 .exact h
 .exact h
def Kp (w:World)(K:Nat->Nat)(l:List (Nat×Obj)):Prop:=∀p∈l,w.heap[p.1]? =some p.2/\K p.1=0
def Kp.aaq {w w':World}{K K':Nat->Nat}{l:List (Nat×Obj)}(h:Kp w K l)(a:dJ w w' K K'):Kp w' K' l:=λp hp=>a.kept (h p hp).2 (h p hp).1
def Kp.alloc {w:World}{K:Nat->Nat}{l:List (Nat×Obj)}{o:Obj}(h:Kp w K l)(hf:K w.heap.size=0):Kp (w.alloc o) K ((w.heap.size,o)::l):=λp hp=>by
 rcases ZW.1 hp with rfl|hp
 .exact⟨aae _ _,hf⟩
 .exact h.aaq (dJ.fq ((aab _ _).alloc (ZL _) _)) p hp
def Kp.head {w:World}{K:Nat->Nat}{b:Nat}{o:Obj}{l:List (Nat×Obj)}(h:Kp w K ((b,o)::l)):w.heap[b]? =some o:=(h _ ZX).1
def Kp.tail {w:World}{K:Nat->Nat}{p:Nat×Obj}{l:List (Nat×Obj)}(h:Kp w K (p::l)):Kp w K l:=λq a=>h q (ac1 _ a)
def dJ.alloc {w w':World}{K K':Nat->Nat}(h:dJ w w' K K')(o:Obj):dJ w (w'.alloc o) K K':=h.trans (dJ.fq ((aab _ _).alloc (ZL _) _))
def Bd.alloc {w:World}{base bb:Nat}{s:BS}{K:Nat->Nat}(h:Bd w base bb s K)(o:Obj):Bd (w.alloc o) base bb s K:=h.below ((aab _ _).alloc (ZL _) _)
def aaH {w w':World}{base bb:Nat}{s:BS}{K K':Nat->Nat}{g:Addr}{v:Value}(hb:Bd w base bb s K)(hl:g.block<base)(h:w.cell? g=some v)(a:dJ w w' K K'):w'.cell? g=some v:=by
 have d:=aan h;exact((a.below (B:=g.block+1) (by omega) λb c=>hb.zero (by omega)).cell (by omega)).trans h
def aaF (A:Nat->Option Addr)(C:Nat->Nat)(L:Nat->List Nat):Obj:=.cells #[.slice (A 0) (L 0).length (C 0),.slice (A 1) (L 1).length (C 1),.slice (A 2) (L 2).length (C 2),.slice (A 3) (L 3).length (C 3)] 41 (0,0)
def adU:Obj:=.cells #[.slice none 0 0,.slice none 0 0,.slice none 0 0,.slice none 0 0] 41 (0,0)
def ad1 (w:World):aaB w (λ_=>none) (λ_=>0) (λ_=>[]):=λ_ _=>⟨none,0,rfl,ZL _,by simp,λh=>absurd h (aby _)⟩
def ae2 {c:Nat->Int}(hc:c 0=1/\c 1=0/\c 2=0/\c 3=0):qo c=true:=ab0 (λi a=>by
 unfold A7;obtain rfl|rfl|rfl|rfl:i=0\/i=1\/i=2\/i=3:=by omega
 .rw[hc.1];decide
 .rw[hc.2.1];decide
 .rw[hc.2.2.1];decide
 .rw[hc.2.2.2];decide) ⟨0,by omega,by rw[hc.1];decide⟩
def BS.inv.IP {s:BS}(h:s.inv)(n:Int):(s.IP n).inv:=⟨BS.UO h.d rfl rfl rfl rfl,h.fine.ZJ rfl rfl,h.many,h.nm⟩
def aax {w w':World}{K K':Nat->Nat}{z:Nat}{e:TypeId}{size:Nat}{v:Value}{n:Nat}{xs:List Value}(a:dJ w w' K K')(h:w.ownsRow z e size v n xs)(c:∀b,v.ownBlock=some b->K b=0):w'.ownsRow z e size v n xs/\∀b,v.ownBlock=some b->K' b=0:=
 ⟨aJ h λb hb=>a.block b (h.lt b hb).2 (.inl (c b hb)),λb hb=>by rw[a.tag b (h.lt b hb).2];exact c b hb⟩
def aar.aaq {w w':World}{K K':Nat->Nat}{z:Nat}{v:Value}{l:List fH}(c:dJ w w' K K')(h:aar w z v l)(e:∀b,v.ownBlock=some b->K b=0)(d:∀x∈l,∀q,q<4->∀b,(x.sl q).ownBlock=some b->K b=0):aar w' z v l/\(∀b,v.ownBlock=some b->K' b=0)/\∀x∈l,∀q,q<4->∀b,(x.sl q).ownBlock=some b->K' b=0:=
 ⟨⟨(aax c h.row e).1,λx hx q a=>(aax c (h.rows x hx q a) (d x hx q a)).1⟩,(aax c h.row e).2,λx hx q a=>(aax c (h.rows x hx q a) (d x hx q a)).2⟩
def kX.aaq {w w':World}{K K':Nat->Nat}{base:Nat}{m:cz}{vc vr:Value}(a:dJ w w' K K')(h:kX w base m vc vr)(c:∀b,vc.ownBlock=some b\/vr.ownBlock=some b->K b=0):kX w' base m vc vr/\∀b,vc.ownBlock=some b\/vr.ownBlock=some b->K' b=0:=by
 obtain⟨f,c2⟩:=aax a h.dA λb hb=>c b (.inl hb)
 obtain⟨e,d⟩:=aax a h.res λb hb=>c b (.inr hb)
 exact⟨⟨h.ok,f,e⟩,λb hb=>hb.elim (c2 b) (d b)⟩
section
variable {m:cz}{vc vr:Value}{base z1 z2 z3:Nat}{s:BS}{d:Nat->Value}{v:Value}{l:List fH}{A:Nat->Option Addr}{C:Nat->Nat}{L:Nat->List Nat}{K K':Nat->Nat}{w w':World}
end
def afa (R c:Nat->Nat)(k:Nat):Bool:=(List.range k).all λq=>decide (c q<=R q)
def aeW {R c:Nat->Nat}{k:Nat}:afa R c k=true↔∀q,q<k->c q<=R q:=by
 unfold afa;rw[ZU];exact⟨λh q a=>adj (h q (Z9.2 a)),λh q a=>ady (h q (Z9.1 a))⟩
def ae0 (D:BD)(m:Nat)(L:Nat->List Nat)(q:Nat):Nat:=kU D m q (L q) (L q).length
def ae4 {D:BD}{c:Nat->Int}{q:Nat}(h:0<c q):eG D c q≠0:=by
 unfold eG;rw[if_pos h,Lh];split
 .decide
 .assumption
def ae6 {m:Nat}:m∈ord↔1<=m/\m<16:=by
 rw[CG];constructor
 .intro h
  simp at h;omega
 .intro h
  simp;omega
def ae9 {D:BD}(b:D.ok){c:Nat->Nat}{m:Nat}(hm:1<=m/\m<16):afa (ae0 D m (gq D)) c 4=gX (eG D λi=>(c i:Int)) (og D λi=>(c i:Int)) 4 m:=by
 rw[Bool.eq_iff_iff,aeW];unfold gX;rw[ZU]
 have key:∀q,q<4->(c q<=ae0 D m (gq D) q↔(eG D (λi=>(c i:Int)) q==0||og D (λi=>(c i:Int)) q m)=true):=λq a=>by
  by_cases g:c q=0
  .have:eG D (λi=>(c i:Int)) q=0:=by unfold eG;exact if_neg (show ¬(0:Int)< (c q:Int) by omega)
   rw[this,g];simp
  .have hc:(0:Int)< (c q:Int):=by omega
   have f:(eG D (λi=>(c i:Int)) q==0)=false:=acZ.2 (ae4 (D:=D) (c:=λi=>(c i:Int)) hc);have e:=MC D q m (gq D q) (NI b a)
   have d:(ord.take 15).contains m=true:=by
        have:ord.take 15=ord:=(by rw[CG];rfl);rw[this];exact List.elem_eq_true_of_mem (ae6.2 hm)
   unfold og Li;rw[f,d,Bool.false_or,Bool.true_and,ady hc,Bool.true_and,decide_eq_true_iff,<-e];unfold ae0;exact⟨λh=>Int.ofNat_le.2 h,λh=>Int.ofNat_le.1 h⟩
 exact⟨λh q a=>(key q (Z9.1 a)).1 (h q (Z9.1 a)),λh q a=>(key q a).2 (h q (Z9.2 a))⟩
def ae3 {s:BS}{nm:ByteArray}(a:s.bs.Pairwise aaz)(h:nK s nm):∀x∈s.bs,x.nm≠nm:=λx hx e=>by
 obtain⟨i,b,rfl⟩:=List.getElem_of_mem hx;subst e;obtain⟨p,hp⟩:=h;have:=(abY a b hp).2;cases this
def gone {s:BS}{nm:ByteArray}{p:Nat}(b:s.bs.Pairwise aaz)(h:jw s.bs.length (mU s.bs) nm p true):∀x∈s.bs.eraseIdx p,x.nm≠nm:=λx hx e=>by
 obtain⟨i,a,c⟩:=List.mem_eraseIdx_iff_getElem?.1 hx;obtain⟨hl,rfl⟩:=ZZ.1 c;subst e;exact a (abY b hl h).1.symm
def aeC {s s':BS}{r:Value}(h:qD s (mV 0) r s')(a:s.inv)(hf:¬s.jQ):s'.inv/\s'.m=s.m/\s'.fl=s.fl/\s'.no<=s.no+4/\(∀x∈s'.bs,x.nm≠mV 0)/\∃k:Int,r=.int .i64 k:=by
 have hinv:s'.inv:=a.step (t:=⟨1,0,0,λ_=>0,none,0,0,λ_=>0,λ_=>false,false⟩) (.inr (.inl ⟨rfl,r,h⟩));rcases h with⟨c,rfl,rfl⟩|⟨p,hp,⟨b,_⟩|⟨_,rfl,rfl⟩⟩
 .exact⟨hinv,rfl,rfl,by omega,ae3 a.fine.aaR c,10,rfl⟩
 .exact absurd b hf
 .exact⟨hinv,rfl,rfl,ZL _,gone a.fine.aaR hp,0,rfl⟩
section
variable {base bb:Nat}{s:BS}{K:Nat->Nat}{a:Addr}{u:World}
def aeE (nm:ByteArray)(c:Nat->Int)(code:Int)(h:Bd u base bb s K)(g:nm.size<=281474976710656)(b:s.no+4<=1000000000)(hc:(¬jJ nm/\code=4)\/(jJ nm/\(∀x∈s.bs,x.nm≠nm)/\qo c=false/\code=5))
 (o:u.cell? ⟨0,0,none⟩=some (.iface 345 (.pointer (some a))))(i:0<base):
 adO 21 #[.pointer (some ⟨bb,0,none⟩),.string nm,.agg #[.int .i64 (c 0),.int .i64 (c 1),.int .i64 (c 2),.int .i64 (c 3)]] u
  (RJ (λv w'=>∃K':Nat->Nat,v=.tuple #[eH,.int .i64 code]/\Bd w' base bb s K'/\dJ u w' K K') AA):=by
 refine(LX base bb s K nm c a u h g b o i).mono λe w' he=>acj he λv j=>?_
 obtain⟨s',K',f,hb,n⟩:=j
 have no:∀{m p x},sj s nm c m p x->False:=λhy=>by
  rcases hc with⟨d,_⟩|⟨_,_,hm,_⟩
  .exact d hy.name
  .have:=hy.may;rw[hm]at this;cases this
 rcases f with⟨k,rfl,rfl,b⟩|⟨_,_,_,hy,_⟩|⟨_,_,_,_,_,_,hy,_⟩
 .have:k=code:=by
   rcases hc with⟨d,rfl⟩|⟨d,l,hm,rfl⟩
   .rcases b with⟨_,h⟩|⟨h,_⟩|⟨h,_⟩|⟨h,_⟩|⟨h,_⟩|⟨h,_⟩
    .exact h
    all_goals exact absurd h d
   .rcases b with⟨h,_⟩|⟨_,h,_⟩|⟨_,_,_,h⟩|⟨_,_,h,_⟩|⟨_,_,h,_⟩|⟨_,_,h,_⟩
    .exact absurd d h
    .exact absurd h (abv l)
    .exact h
    all_goals(rw[hm]at h;cases h)
  exact⟨K',by rw[this],hb,n⟩
 .exact(no hy).elim
 .exact(no hy).elim
def adY (nm:ByteArray)(h:Bd u base bb s K)(d:s.no+4<=1000000000)(c:∀x∈s.bs,x.nm≠nm)
 (j:u.cell? ⟨0,0,none⟩=some (.iface 345 (.pointer (some a))))(f:0<base):
 adO 24 #[.pointer (some ⟨bb,0,none⟩),.string nm] u
  (RJ (λv w'=>∃K':Nat->Nat,v=.int .i64 10/\Bd w' base bb s K'/\dJ u w' K K') AA):=by
 refine(Ev base bb s K nm a u h d j f).mono λe w' he=>acj he λv g=>?_
 obtain⟨s',K',b,hb,i⟩:=g;rcases b with⟨_,rfl,rfl⟩|⟨p,hp,_⟩
 .exact⟨K',rfl,hb,i⟩
 .exact absurd ⟨p,hp⟩ (abv c)
def adW (h:Bd u base bb s K)(k:s.bs.Pairwise aaz)(hl:0<s.bs.length)(hf:s.jQ)(c:s.no+4<=1000000000)
 (l:u.cell? ⟨0,0,none⟩=some (.iface 345 (.pointer (some a))))(f:0<base):
 adO 24 #[.pointer (some ⟨bb,0,none⟩),.string s.bs[0].nm] u
  (RJ (λv w'=>∃K':Nat->Nat,v=.int .i64 11/\Bd w' base bb s.failed K'/\dJ u w' K K') AA):=by
 refine(Ev base bb s K _ a u h c l f).mono λe w' he=>acj he λv g=>?_
 obtain⟨s',K',b,hb,i⟩:=g;rcases b with⟨j,_⟩|⟨p,hp,⟨_,rfl,rfl⟩|⟨d,_⟩⟩
 .exact absurd rfl (ae3 k j _ (acY hl))
 .exact⟨K',rfl,hb,i⟩
 .exact absurd hf d
end
def adP (i:Nat):Nat:=if i=0 then 1 else 0
def aeU {c:Nat->Int}{want:Int}{m:Nat}(b:1<=m)(a:m<16)(hp:pop m=1)(h:want<=fM c m 4):l9 c want=1:=by
 unfold l9;rcases ma c want ord xL with⟨_,d⟩|⟨m',b1,b2,g,f⟩
 .exact absurd h (d m (vJ.2 ⟨b,a⟩))
 .obtain⟨e,c2⟩:=vJ.1 b1
  have j:=f m (vJ.2 ⟨b,a⟩) h;have i:=JD e c2;rw[g];omega
def ae7 {D:BD}(b:D.ok)(j:gq D 0≠[])(p:Int):
 gX (eG D λi=>(adP i:Int)) (og D λi=>(adP i:Int)) 4 15=true/\gu (eG D λi=>(adP i:Int)) (og D λi=>(adP i:Int)) p≠none:=by
 obtain⟨i,g⟩:=List.exists_mem_of_ne_nil _ j;obtain⟨v0,v4⟩:=NI b (show 0<4 by omega) i g
 have d:∀m,has m (bG D 0 i).toNat=true->∀l,i∈l->1<=kU D m 0 l l.length:=λm hm l hl=>by
  unfold kU;rw[List.take_length];exact List.countP_pos_iff.2 ⟨i,hl,hm⟩
 have a:∀m,1<=m/\m<16->has m (bG D 0 i).toNat=true->gX (eG D λi=>(adP i:Int)) (og D λi=>(adP i:Int)) 4 m=true:=λm hm u=>by
  rw[<-ae9 b hm,aeW];intro q s;unfold adP
  by_cases e:q=0
  .subst e
   rw[if_pos rfl];exact d m u _ g
  .rw[if_neg e]
   exact adl _
 obtain⟨m,m1,m2,mp,o⟩:∃m,1<=m/\m<16/\pop m=1/\has m (bG D 0 i).toNat=true:=by
  obtain e|e|e|e:(bG D 0 i).toNat=0\/(bG D 0 i).toNat=1\/(bG D 0 i).toNat=2\/(bG D 0 i).toNat=3:=by omega
  .exact⟨1,by omega,by omega,by decide,by rw[e];decide⟩
  .exact⟨2,by omega,by omega,by decide,by rw[e];decide⟩
  .exact⟨4,by omega,by omega,by decide,by rw[e];decide⟩
  .exact⟨8,by omega,by omega,by decide,by rw[e];decide⟩
 have n:has 15 (bG D 0 i).toNat=true:=by
  obtain e|e|e|e:(bG D 0 i).toNat=0\/(bG D 0 i).toNat=1\/(bG D 0 i).toNat=2\/(bG D 0 i).toNat=3:=by omega
  all_goals(rw[e];decide)
 have f15:=a 15 ⟨by omega,by omega⟩ n;have fm:=a m ⟨m1,m2⟩ o
 have c:uH (eG D λi=>(adP i:Int)) 4 m=true:=by
  unfold uH;rw[ZU];intro q s;rw[adB,beq_iff_eq,beq_iff_eq]
  by_cases e:q=0
  .subst e
   refine .inr ?_;rw[mp];unfold eG;rw[if_pos (show(0:Int)< ((adP 0:Nat):Int) by decide)];refine aeU m1 m2 mp ?_;have hu:i∈dL D 0:=(by unfold gq kept at g;exact(adp.1 g).1);have r:=d m o _ hu
   have k:=MC D 0 m (dL D 0) λx hx=>by
        have v:=b.nodes x (Mg D 0 x hx);exact v
   rw[<-k];show((1:Nat):Int)<=_
   omega
  .refine .inl ?_
   unfold eG;exact if_neg (show ¬(0:Int)< ((adP q:Nat):Int) by unfold adP;rw[if_neg e];decide)
 refine⟨f15,?_⟩
 have some_:∀{f:Nat->Bool} {m:Nat},1<=m->m<16->f m=true->ord.find? f≠none:=λr k hf t=>by
  have:=List.find?_eq_none.1 t _ (vJ.2 ⟨r,k⟩);exact this hf
 unfold gu;split
 .split
  .exact λh=>by cases h
  .exact some_ m1 m2 fm
 .split
  .exact some_ m1 m2 (by unfold nU;rw[c,fm];rfl)
  .split
   .exact some_ m1 m2 (by unfold Bc;rw[fm,mp];rfl)
   .exact some_ (m:=15) (by omega) (by omega) (by unfold isAll;rw[f15];rfl)
def W9 (n k:Int):Int:=if 0<=n/\n<k then k+n else n
def Hr (n:Int){k:Int}(a:0<=k):¬(0<=W9 n k/\W9 n k<k):=by
 unfold W9;split<;>omega
def aeO (n k:Int)(w:World)(d:In64 n)(f:0<=k/\k<=100):adO 32 #[.int .i64 n,.int .i64 k] w λe w'=>e=.returned (.int .i64 (W9 n k))/\w'=w:=by
 unfold In64 at d
 by_cases c:0<=n
 .by_cases b:n<k
  .have hw:IntKind.i64.wrap (k+n)=k+n:=by rw[IntKind.wrap_i64];omega
   have a:Hid (W9 n k=k+n):=if_pos ⟨c,b⟩
   go_enter (pf func32 (by rfl)),ntmps32
   go_wp2_with fail;go_ret;exact⟨by rw[a.out];rfl,rfl⟩
  .have a:Hid (W9 n k=n):=if_neg λh=>b h.2
   go_enter (pf func32 (by rfl)),ntmps32
   go_wp2_with fail;go_ret;exact⟨by rw[a.out];rfl,rfl⟩
 .have a:Hid (W9 n k=n):=if_neg λh=>c h.1
  go_enter (pf func32 (by rfl)),ntmps32
  go_wp2_with fail;go_ret;exact⟨by rw[a.out];rfl,rfl⟩
def adV (m:cz)(d ra:Option Addr)(c rc base:Nat)(q:Int)(w:World)(h:kX w base m (.slice d m.n c) (.slice ra m.r rc))(k:¬(0<=q/\q<4)):
 adO 33 #[.agg #[.slice d m.n c,.slice ra m.r rc,.int .i64 q]] w λe w'=>e=.returned (.tuple #[.pointer none,.int .i64 1])/\adN w w':=by
 have a:=h.at;have f:(⟨d,(m.lie d c ra rc).b,(m.lie d c ra rc).o,m.n,c,m.S,m.N,m.C,ra,(m.lie d c ra rc).rb,(m.lie d c ra rc).rp,m.r,rc,m.R,q⟩:cz).At w:=⟨a.qW,a.Ig,a.addr,a.dA,a.rc,a.Hg,a.mQ,a.ints⟩;have l:Hid (∀u,adN w u->adO 60 #[.agg #[.slice d m.n c,.slice ra m.r rc,.int .i64 q]] u λe w'=>e=.returned (.bool false)/\adN u w'):=λu hu=>(AM _ u (f.ext hu)).mono λe w' he=>⟨he.1.gJ λi=>k ⟨i.2.2.2.2.1,by have h:q<=3:=i.2.2.2.2.2;omega⟩,he.2⟩
 clear h a f k
 go_enter (pf func33 (by rfl)),ntmps33
 go_wp2_with fail;have g:adN w (w.alloc (.cells #[.slice d m.n c,.slice ra m.r rc,.int .i64 q] 25 (0,0))):=(aab _ _).alloc (ZL _) _;refine(l.out _ g).mono ?_;rintro e w1 ⟨rfl,j⟩;have p:=av (ai g j);clear g j;go_wp2_with fail;go_ret2;exact⟨rfl,p.out⟩
def aep (m:cz)(d ra:Option Addr)(c rc base:Nat)(q:Int)(w:World)(h:kX w base m (.slice d m.n c) (.slice ra m.r rc))(f:¬(0<=q/\q<4)):
 adO 34 #[.agg #[.slice d m.n c,.slice ra m.r rc,.int .i64 q],.slice none 0 0,.slice none 0 0] w λe w'=>e=.returned (.tuple #[.pointer none,.bool false,.int .i64 1])/\adN w w':=by
 have g:Hid (∀u,adN w u->adO 33 #[.agg #[.slice d m.n c,.slice ra m.r rc,.int .i64 q]] u λe w'=>e=.returned (.tuple #[.pointer none,.int .i64 1])/\adN u w'):=λu hu=>adV m d ra c rc base q u (h.below hu) f
 clear h f
 go_enter (pf func34 (by rfl)),ntmps34
 go_wp2_with fail;have a:adN w (w.alloc (.cells #[.slice d m.n c,.slice ra m.r rc,.int .i64 q] 25 (0,0))):=(aab _ _).alloc (ZL _) _;refine(g.out _ a).mono ?_;rintro e w1 ⟨rfl,b⟩;have i:=av (ai a b);clear a b;go_wp2_with fail
 go_ret3
 exact⟨rfl,i.out⟩
def adQ {P:Program}{w:World}{ops:Array Oper}{rest:List Oper}{o:Oper}{a:Act}{Q:Exit->Act->World->Prop}(f:o.guard=none)(s x:Operand)(t:TypeId)
 (p:o.op=.call {callee:=.builtin .append,args:= #[s,x],argTypes:= #[t,t]})(e:TypeId)(i:TypeInfo)(z:Value)(l:P.underlying t=some (.slice e))(q:P.info? e=some i)(k:i.zero=some z)
 (b:Addr)(hs:a.eval s=.slice (some b) 0 0)(ad:Addr)(m c:Nat)(news:List Value)(hx:a.eval x=.slice (some ad) m c)(hl:news.length=m*i.size)(d:∀j u,news[j]? =some u->w.cell? (ad.add j)=some u)
 (hm:0<m)(y:(m:Int)<=9223372036854775807)(g:m*i.bytes<=281474976710656)
 (h:∀cap w',adN w w'->wpList P ops Q rest (a.put o.dst (.slice (some ⟨w.heap.size,0,none⟩) m cap)) w'):wpList P ops Q (o::rest) a w:=
 wpList_plain f λK r=>by
  have n:=run_append_grow (P:=P) w t o.type e i z l q k b 0 0 [] (by simp) (λj v h=>by simp at h) ad m c news hl d (by omega) (by omega) (by rw[Z8,nextslicecap_zero hm];exact g);unfold Oper.wp execOp;simp only[p,resolve,invoke,builtin,Sem.run_bind,Sem.run_pure,Result.andThen_ok,List.map_toArray,adr,List.map_nil,hs,hx,n];refine r _ _ ?_;rw[Z8];exact h _ _ ((aab w.heap.size w).drew.alloc (ZL _) _)
def aeS (base n:Nat)(v:Value)(xs:List Value)(w:World)(F:n<=1000000000)(l:w.ownsRow base 156 4 v n xs):
 adO 92 #[v] w λe w'=>∃a' D,e=.returned (.slice a' n D)/\adN w w':=by
 have hx:=l.1;obtain⟨ao,cap,e,A,_,p,_⟩:=dV l;cases e;cases ao with
 |none=>
  have r:n=0:=by
   by_cases h:0<n
   .obtain⟨g,e,_⟩:=p h
    cases e
   .omega
  subst r;have heq:=fun(W:World)=>Lib.run_eql_slice_nil (P:=(patch ae prog)) W 66 156 none 0 cap 0 0 Jz
  clear l p
  go_enter (pf func92 (by rfl)),ntmps92
  go_wp2_with(first|(go_at_call 102;go_enter (pf func102 (by rfl)),ntmps102)|(go_at_call 65;go_enter (pf func65 (by rfl)),ntmps65));go_ret;exact⟨none,0,rfl,aab _ _⟩
 |some a=>
  have heq:=fun(W:World)=>Lib.run_eql_slice_nil (P:=(patch ae prog)) W 66 156 (some a) n cap 0 0 Jz
  obtain⟨i,t,f,d,c⟩:=info_parts JR;have hu:=Jz
  have hcell:∀j u,xs[j]? =some u->w.cell? (a.add j)=some u:=λj u q=>by
   have B:=(ZZ.1 q).1;obtain⟨g,e,_,_,hc⟩:=p (by omega);cases e;rw[Addr.add_lit];exact hc j u q
  have s:Hid ((∀j u,xs[j]? =some u->(w.alloc (.cells #[] 156)).cell? (a.add j)=some u)/\xs.length=n*i.size/\n*i.bytes<=281474976710656):=
   ⟨λj u q=>keeps ((aab _ _).alloc (ZL _) _) (hcell j u q),by rw[d];exact hx,by rw[c];omega⟩
  by_cases r:n=0
  .subst r
   obtain rfl:xs=[]:=List.eq_nil_of_length_eq_zero (by omega);have E:Hid ((w.alloc (.cells #[] 156)).ownsRow w.heap.size 156 4 (.slice (some ⟨w.heap.size,0,none⟩) 0 0) 0 []):=⟨by simp,.inr ⟨w.heap.size,0,#[],rfl,ZL _,aae _ _,ZL _,by unfold maxLen;omega,by simp,by simp⟩⟩;clear p hx hcell l
   go_enter (pf func92 (by rfl)),ntmps92
   go_wp2_with(at_builtin;go_loud(refine adJ _ rfl _ _ _ rfl w.heap.size 156 i _ 4 56 hu t f d c rfl (by omega) _ 0 [] rfl E.out a 0 cap [] (by rfl) (by simp) (λj u h=>by simp at h) (λu h=>by cases h) (by unfold maxLen;omega) (by omega) (by simp) ?_);intro v' w1 o b _);go_ret;obtain⟨x,y,rfl⟩:=aj o;exact⟨⟨x,y,rfl⟩,((aab _ _).alloc (ZL _) _).grown b (by simp) (λk C=>by cases C;exact ZL _)⟩
  .have m:0<n:=by omega
   clear p hx hcell l r
   go_enter (pf func92 (by rfl)),ntmps92
   go_wp2_with(at_builtin;go_loud(refine adQ rfl _ _ _ rfl 156 i _ hu t f ⟨w.heap.size,0,none⟩ rfl a n cap xs (by rfl) s.out.2.1 s.out.1 m (by omega) s.out.2.2 ?_);intro z w1 hb);go_ret;exact⟨_,_,rfl,ai ((aab _ _).alloc (ZL _) _) hb⟩
def aeB (base bb:Nat)(s:BS)(K:Nat->Nat)(w:World)(h:Bd w base bb s K):
 adO 31 #[.pointer (some ⟨bb,0,none⟩)] w λe w'=>∃a' c,e=.returned (.slice a' s.no c)/\adN w w':=by
 obtain⟨vc,vr,vb,vo,d,ys,b⟩:=h;obtain⟨f,a,rfl⟩:=aj b.ops;have y:w.cell? ⟨bb,7,none⟩=some (.slice f s.no a):=b.cell 7;have g:=av (aeS base s.no _ ys w b.ok.no b.ops);clear b
 go_enter (pf func31 (by rfl)),ntmps31
 go_wp2_with fail
 go_enter (pf func59 (by rfl)),ntmps59
 go_wp2_with fail;refine g.out.mono ?_;rintro e w1 ⟨a',c,rfl,hb⟩;have i:=av hb;clear hb;go_wp2_with fail;go_ret;exact⟨_,_,rfl,i.out⟩
def adR (base bb:Nat)(s:BS)(K:Nat->Nat)(v:Value)(l:List fH)(A:Nat->Option Addr)(C:Nat->Nat)(L:Nat->List Nat)(w:World)(h:Bd w base bb s K)(hb:aau w v l)(F:l5 s.bs l)(hl:l.length<=12)(E:aaB w A C L)(G:gq s.D=L):
 adO 37 #[.pointer (some ⟨bb,0,none⟩),v,aaI A C L,.int .i64 s.no] w λe w'=>e=.returned (.bool true)/\adN w w':=by
 obtain⟨ao,cap,rfl⟩:=hb.len;have c:=av (aaa h (aaa hb (aaa F (aaa hl (aaa E G)))));have N:(((s.no:Nat):Int)==((s.no:Nat):Int))=true:=beq_self_eq_true _;clear h hb F hl E G;unfold aaI
 go_enter (pf func37 (by rfl)),ntmps37
 go_wp2_with fail;obtain⟨x,b⟩:∃W,W=w.alloc (aaF A C L):=⟨_,rfl⟩
 have k:Hid (adN w x/\x.heap[w.heap.size]? =some (aaF A C L)):=by
  rw[b];exact⟨(aab _ _).alloc (ZL _) _,aae _ _⟩
 unfold aaF at b;rw[<-b];clear b;refine(aaY base bb s K x (c.out.1.below k.out.1)).mono ?_;rintro e w1 ⟨v1,z,rfl,j,u,t⟩;obtain⟨I,lc,rfl⟩:=aj j.row;have H1:Hid (adN x w1/\aau w1 (.slice I z.length lc) z/\l5 s.bs z):=⟨t,j.l,u⟩;clear j u t;go_wp2_with fail;refine(aaX base bb s K w1 (c.out.1.below (ai k.out.1 H1.out.1))).mono ?_;rintro e w2 ⟨f,d,rfl,hf,r⟩;rw[c.out.2.2.2.2.2]at hf⊢;obtain⟨W2,a⟩:∃W,W=w2.alloc (aaF f d L):=⟨_,rfl⟩
 have i:Hid (adN w1 W2/\W2.heap[w2.heap.size]? =some (aaF f d L)/\aaB W2 f d L):=by
  rw[a];have hb:adN w2 (w2.alloc (aaF f d L)):=(aab _ _).alloc (ZL _) _;exact⟨ai r hb,aae _ _,λq m=>(aas.own (hf q m)).ext hb⟩
 clear hf r;unfold aaF at a;unfold aaI;go_wp2_with fail;rw[<-a];clear a;refine(aeB base bb s K W2 (c.out.1.below (ai (ai k.out.1 H1.out.1) i.out.1))).mono ?_;rintro e w3 ⟨a',R,rfl,p⟩;have H3:=av p;clear p;go_wp2_with fail;refine(aaK _ _ z l w3 (H1.out.2.1.below (ai i.out.1 H3.out)) (c.out.2.1.below (ai (ai (ai k.out.1 H1.out.1) i.out.1) H3.out)) (H1.out.2.2.symm.trans c.out.2.2.1) (by have Q:=H1.out.2.2.1;have P:=c.out.2.2.1.1;have O:=c.out.2.2.2.1;omega)).mono ?_;rintro e w4 ⟨rfl,o⟩;have y:=av (ai H3.out o);clear o;obtain⟨B,_⟩:=blk (show w4.heap[w2.heap.size]? =some (.cells #[.slice (f 0) (L 0).length (d 0),.slice (f 1) (L 1).length (d 1),.slice (f 2) (L 2).length (d 2),.slice (f 3) (L 3).length (d 3)] 41 (0,0))from bJ y.out i.out.2.1);obtain⟨H,_⟩:=blk (show w4.heap[w.heap.size]? =some (.cells #[.slice (A 0) (L 0).length (C 0),.slice (A 1) (L 1).length (C 1),.slice (A 2) (L 2).length (C 2),.slice (A 3) (L 3).length (C 3)] 41 (0,0))from bJ (ai (ai H1.out.1 i.out.1) y.out) k.out.2);go_wp2_with fail;clear B H;refine(aaA f A d C L L w4 (λq m=>(i.out.2.2 q m).ext y.out) (λq m=>(c.out.2.2.2.2.1 q m).ext (ai (ai (ai k.out.1 H1.out.1) i.out.1) y.out))).mono ?_;rintro e M ⟨g,n⟩;obtain rfl:=g.fP λ_ _=>rfl
 have J:=av n;clear g n;go_wp2_with fail;go_ret;exact⟨rfl,ai (ai (ai (ai k.out.1 H1.out.1) i.out.1) y.out) J.out⟩
section
variable {base bb:Nat}{s:BS}{K:Nat->Nat}{a:Addr}{u:World}
def aeP {s s':BS}{r:Value}{w':World}{K':Nat->Nat}(h:zD s (mV 0) (λi=>(adP i:Int)) r s' w' K')(b:s.D.ok)(c:∀x∈s.bs,x.nm≠mV 0)(hl:s.bs.length<12)(e:gq s.D 0≠[]):
 (s.jQ/\r=.tuple #[eH,.int .i64 11]/\s'=s.failed)\/(¬s.jQ/\∃(A:Nat->Option Addr) (C:Nat->Nat),r=.tuple #[.agg #[.slice (A 0) 1 (C 0),.slice (A 1) 0 (C 1),.slice (A 2) 0 (C 2),.slice (A 3) 0 (C 3)],.int .i64 0]):=by
 obtain⟨g,f⟩:=ae7 b e s.m.p;have hm:qo (λi=>(adP i:Int))=true:=ae2 ⟨rfl,rfl,rfl,rfl⟩;rcases h with⟨code,_,_,d⟩|⟨m,p,x,hy,hf,rfl,rfl⟩|⟨m,p,x,A,C,z,hy,hf,_,rfl,_⟩
 .exfalso
  rcases d with⟨a,_⟩|⟨_,a,_⟩|⟨_,_,a,_⟩|⟨_,_,_,a,_⟩|⟨_,_,_,_,a,_⟩|⟨_,_,_,_,_,a,_⟩
  .exact a ⟨by decide,by decide⟩
  .exact abv c a
  .rw[hm]at a;cases a
  .omega
  .have j:gX (eG s.D λi=>(adP i:Int)) (og s.D λi=>(adP i:Int)) 4 15=false:=a
   rw[g]at j;cases j
  .exact f a
 .exact .inl ⟨hf,rfl,rfl⟩
 .exact .inr ⟨hf,A,C,rfl⟩
end
def aeR (base bb:Nat)(s:BS)(K:Nat->Nat)(v:Value)(l:List fH)(A:Nat->Option Addr)(C:Nat->Nat)(L:Nat->List Nat)(z1 z3:Nat)(a:Addr)(w:World)(h:Bd w base bb s K)(hi:s.inv)(hb:aar w z1 v l)(R:∀b,v.ownBlock=some b->K b=0)(N:∀x∈l,∀q,q<4->∀b,(x.sl q).ownBlock=some b->K b=0)(ha:l5 s.bs l)(hg:GrO w K z3 A C L)(hL:gq s.D=L)
 (P:∀x∈s.bs,x.nm≠mV 0)(E:s.no+4<=1000000000)(hG:w.cell? ⟨0,0,none⟩=some (.iface 345 (.pointer (some a))))(n:0<base):
 adO 38 #[.pointer (some ⟨bb,0,none⟩),v,aaI A C L] w (RJ (λv _=>v=.bool true) AA):=by
 obtain⟨ao,cap,rfl⟩:=hb.l.len;have j:=av (aaa h (aaa hi (aaa ha (aaa hL (aaa P (aaa hG (aaa hb (aaa R (aaa N hg)))))))));clear h hi hb R N ha hg hL P hG;unfold aaI
 go_enter (pf func38 (by rfl)),ntmps38
 go_wp2_with fail;obtain⟨W0,t⟩:∃W,W=w.alloc (aaF A C L):=⟨_,rfl⟩
 have H0:Hid (adN w W0/\W0.heap[w.heap.size]? =some (aaF A C L)/\K w.heap.size=0):=by
  rw[t];exact⟨(aab _ _).alloc (ZL _) _,aae _ _,j.out.1.fresh (ZL _)⟩
 unfold aaF at t;rw[<-t];clear t;refine(aeB base bb s K W0 (j.out.1.below H0.out.1)).mono ?_;rintro e w1 ⟨a',c',rfl,H⟩;have H1:=av (ai H0.out.1 H);have X:=av (aaa (bJ H H0.out.2.1) H0.out.2.2);clear H;go_wp2_with fail;refine(IM base bb 0 s K w1 (j.out.1.below H1.out) (by unfold In64;omega)).mono ?_;rintro e w2 ⟨rfl,f,c⟩
 have y:Hid (Bd w2 base bb (s.IP 0) K/\dJ w w2 K K/\Kp w2 K [(w.heap.size,aaF A C L)]):=⟨f,(dJ.fq H1.out).trans c,λp hp=>by
  simp only[ZW,adm,or_false]at hp;subst hp;exact c.kept X.out.2 X.out.1⟩
 clear f c;have HF:Hid ((s.IP 0).jQ):=⟨rfl,by show(0:Int)<4;decide⟩
 have T:Hid (∀(u:World) (K':Nat->Nat),Bd u base bb (s.IP 0).failed K'->dJ w2 u K K'->adO 37 #[.pointer (some ⟨bb,0,none⟩),.slice ao l.length cap,.agg #[.slice (A 0) (L 0).length (C 0),.slice (A 1) (L 1).length (C 1),.slice (A 2) (L 2).length (C 2),.slice (A 3) (L 3).length (C 3)],.int .i64 s.no] u λe w'=>e=.returned (.bool true)/\adN u w'):=λu K' f c=>by
  have ho:=y.out.2.1.trans c;obtain⟨b1,_,_⟩:=j.out.2.2.2.2.2.2.1.aaq ho j.out.2.2.2.2.2.2.2.1 j.out.2.2.2.2.2.2.2.2.1;exact adR base bb (s.IP 0).failed K' _ l A C L u f b1.l j.out.2.2.1 (by have h1:=j.out.2.1.many;have h2:=j.out.2.2.1.1;omega) (j.out.2.2.2.2.2.2.2.2.2.aaq ho).aaM j.out.2.2.2.1
 have J:Hid (w2.cell? ⟨0,0,none⟩=some (.iface 345 (.pointer (some a)))):=aaH j.out.1 n j.out.2.2.2.2.2.1 y.out.2.1
 by_cases hl:0<l.length
 .have α:(0:Int)< ((l.length:Nat):Int):=by omega
  obtain⟨b2,_,_⟩:=j.out.2.2.2.2.2.2.1.aaq y.out.2.1 j.out.2.2.2.2.2.2.2.1 j.out.2.2.2.2.2.2.2.2.1;obtain⟨g,γ,e,c0,_⟩:=b2.l.cells hl;cases e;have Q:0<s.bs.length:=by have:=j.out.2.2.1.1;omega
  have O:l[0].nm=s.bs[0].nm:=((j.out.2.2.1.2 0 Q hl).1).symm;rw[O]at c0;have S:w2.cell? ⟨g,0,none⟩=some (.string s.bs[0].nm):=c0;have o:Hid (adO 24 #[.pointer (some ⟨bb,0,none⟩),.string s.bs[0].nm] w2 (RJ (λv w'=>∃K':Nat->Nat,v=.int .i64 11/\Bd w' base bb (s.IP 0).failed K'/\dJ w2 w' K K') AA)):=adW (s:=s.IP 0) y.out.1 j.out.2.1.fine.aaR Q HF.out E J.out n;clear b2 c0 O;obtain⟨δ,z⟩:∃x,x=s.bs[0].nm:=⟨_,rfl⟩;rw[<-z]at o S;clear z;go_wp2_with fail;clear S;refine o.out.mono ?_;intro e w3 he;rcases e with r'|ch|_
  rotate_left
  .exact⟨rfl,he⟩
  .exact he.elim
  obtain⟨m,rfl,f,c⟩:=he;have H3:Hid (Bd w3 base bb (s.IP 0).failed m/\dJ w2 w3 K m):=⟨f,c⟩;clear f c o;obtain⟨M,_⟩:=blk (show w3.heap[w.heap.size]? =some (.cells #[.slice (A 0) (L 0).length (C 0),.slice (A 1) (L 1).length (C 1),.slice (A 2) (L 2).length (C 2),.slice (A 3) (L 3).length (C 3)] 41 (0,0))from(y.out.2.2.aaq H3.out.2).head);go_wp2_with fail;clear M;refine(T.out w3 m H3.out.1 H3.out.2).mono ?_;rintro e w4 ⟨rfl,_⟩;go_wp2_with fail;go_ret;rfl
 .have α:¬(0:Int)< ((l.length:Nat):Int):=by omega
  obtain⟨M,_⟩:=blk (show w2.heap[w.heap.size]? =some (.cells #[.slice (A 0) (L 0).length (C 0),.slice (A 1) (L 1).length (C 1),.slice (A 2) (L 2).length (C 2),.slice (A 3) (L 3).length (C 3)] 41 (0,0))from y.out.2.2.head)
  by_cases h0:(L 0).length=0
  .have I:(((L 0).length:Nat):Int)=0:=by omega
   have β:((((L 0).length:Nat):Int)==0)=true:=(by rw[I];rfl);go_wp2_with fail;go_ret;rfl
  .have I:¬(((L 0).length:Nat):Int)=0:=by omega
   have β:((((L 0).length:Nat):Int)==0)=false:=acZ.2 I;have U:Hid (gq s.D 0≠[]):=λe=>h0 (by rw[<-j.out.2.2.2.1,e];rfl)
   have V:Hid (s.bs.length<12):=by have:=j.out.2.2.1.1;show _<_;omega
   clear h0;go_wp2_with fail;clear M;refine(LX base bb (s.IP 0) K (mV 0) (λi=>((adP i:Nat):Int)) a w2 y.out.1 (ER 0) E J.out n).mono ?_;intro e w3 he;rcases e with r'|ch|_
   rotate_left
   .exact⟨rfl,he⟩
   .exact he.elim
   obtain⟨s',m,k,f,c⟩:=he;obtain⟨_,rfl,rfl⟩|⟨hf,_⟩:=aeP k (j.out.2.1.IP 0).d j.out.2.2.2.2.1 V.out U.out
   rotate_left
   .exact absurd HF.out hf
   unfold eH;obtain⟨Z,r⟩:∃W,W=w3.alloc adU:=⟨_,rfl⟩
   have H3:Hid (Bd Z base bb (s.IP 0).failed m/\dJ w2 Z K m):=by
        rw[r];exact⟨f.alloc _,c.alloc _⟩
   clear f c k;unfold adU at r;go_wp2_with fail;rw[<-r];clear r;refine(ace (λ_=>none) (λ_=>0) (λ_=>[]) Z (ad1 Z)).mono ?_;rintro e w4 ⟨B,G⟩;obtain rfl:=B.fP λ_ _=>rfl
   have Y:Hid (Bd w4 base bb (s.IP 0).failed m/\dJ w2 w4 K m):=⟨H3.out.1.below G,H3.out.2.trans (dJ.fq G)⟩;clear B G;obtain⟨M,_⟩:=blk (show w4.heap[w.heap.size]? =some (.cells #[.slice (A 0) (L 0).length (C 0),.slice (A 1) (L 1).length (C 1),.slice (A 2) (L 2).length (C 2),.slice (A 3) (L 3).length (C 3)] 41 (0,0))from(y.out.2.2.aaq Y.out.2).head);go_wp2_with fail;clear M;refine(T.out w4 m Y.out.1 Y.out.2).mono ?_;rintro e w5 ⟨rfl,F⟩;have H5:Hid (Bd w5 base bb (s.IP 0).failed m/\dJ w2 w5 K m):=⟨Y.out.1.below F,Y.out.2.trans (dJ.fq F)⟩;clear F;go_wp2_with fail;refine(LX base bb (s.IP 0).failed m (mV 0) (λi=>((adP i:Nat):Int)) a w5 H5.out.1 (ER 0) E (aaH y.out.1 n J.out H5.out.2) n).mono ?_;intro e w6 he;rcases e with r'|ch|_
   rotate_left
   .exact⟨rfl,he⟩
   .exact he.elim
   obtain⟨s',K6,k,f,c⟩:=he;obtain⟨hf,_⟩|⟨_,A6,C6,rfl⟩:=aeP k (j.out.2.1.IP 0).d j.out.2.2.2.2.1 V.out U.out
   .have:=hf.1
    cases this
   clear k f c;go_wp2_with fail;go_ret;rfl
structure RfI (base bb:Nat)(s:BS)(z1 z3:Nat)(v:Value)(l:List fH)(A:Nat->Option Addr)(C:Nat->Nat)(L:Nat->List Nat)(g:Nat)(e:Value)(kp:List (Nat×Obj))(K:Nat->Nat)(wr:World):Prop where
 bd:Bd wr base bb s K
 bx:aar wr z1 v l
 bk:∀b,v.ownBlock=some b->K b=0
 rk:∀x∈l,∀q,q<4->∀b,(x.sl q).ownBlock=some b->K b=0
 gr:GrO wr K z3 A C L
 gl:wr.cell? ⟨g,0,none⟩=some e
 kp:Kp wr K kp
section
variable {base bb:Nat}{s:BS}{z1 z3:Nat}{v:Value}{l:List fH}{A:Nat->Option Addr}{C:Nat->Nat}{L:Nat->List Nat}{g:Nat}{e:Value}{kp:List (Nat×Obj)}{K K':Nat->Nat}{w w':World}
def RfI.aaq (h:RfI base bb s z1 z3 v l A C L g e kp K w)(b:g<base)(hb:Bd w' base bb s K')(a:dJ w w' K K'):RfI base bb s z1 z3 v l A C L g e kp K' w':=by
 obtain⟨b1,b2,c⟩:=h.bx.aaq a h.bk h.rk;exact⟨hb,b1,b2,c,h.gr.aaq a,aaH h.bd b h.gl a,h.kp.aaq a⟩
def RfI.below (h:RfI base bb s z1 z3 v l A C L g e kp K w)(a:g<base)(hb:adN w w'):RfI base bb s z1 z3 v l A C L g e kp K w':=h.aaq a (h.bd.below hb) (dJ.fq hb)
def RfI.alloc (h:RfI base bb s z1 z3 v l A C L g e kp K w)(a:g<base)(o:Obj):RfI base bb s z1 z3 v l A C L g e ((w.heap.size,o)::kp) K (w.alloc o):=
 let k:=h.below a ((aab _ _).alloc (ZL _) o)
 ⟨k.bd,k.bx,k.bk,k.rk,k.gr,k.gl,h.kp.alloc (h.bd.fresh (ZL _))⟩
end
def aeV {c:Nat->Int}(h:(c 0=c 0/\¬(0<=c 0/\c 0<25))\/(c 2=c 2/\¬(0<=c 2/\c 2<17))):qo c=false:=by
 unfold qo
 rw[@decide_eq_false _ (Ut c 4) λa=>by
  have d:=a 0 (by omega);have b:=a 2 (by omega);unfold A7 at d b;rw[if_pos rfl]at d;rw[if_neg (by omega)]at b;omega,Bool.false_and]
def aeQ (W:World):(Instr.makeSlice 33 (.int .i64 17) (.int .i64 17)).run (patch ae prog) W=.ok (.slice (some ⟨W.heap.size,0,none⟩) 17 17) (W.alloc (.cells (madeCells #[.int .i64 0,.bool false] 34) 75)):=by
 obtain⟨i,b,a,hs,hb⟩:=info_parts JU;have h:=run_makeSlice (P:=(patch ae prog)) W 33 75 i _ ((ax ae prog 33).trans underlying33) b a .i64 .i64 17 17 (by omega) (by omega) (by rw[hs];omega) (by rw[hb];omega) (by omega);rw[hs]at h;exact h
def aeN (M:cz)(so:Option Addr)(n cap:Nat)(T:Nat->eU)(k:Int)(a:Addr)(w:World)(hM:M.At w)(V2:∀i,i<M.n->In64 (M.S i)/\In64 (M.C i))(hp:In64 M.p)(hT:DL w so n cap T)(hk:In64 k)
 (hG:w.cell? ⟨0,0,none⟩=some (.iface 345 (.pointer (some a)))):
 adO 7 #[M.val,.slice so n cap,.int .i64 k] w (RJ (λv _=>v=.bool true) AA):=by
 have HT:=av (aaa hT hG);have Zr:Hid (∀u,adN w u->adO 8 #[M.val] u λe w'=>∃m B z ra rc,e=.returned (.agg #[.slice B m.n z,.slice ra m.r rc,.int .i64 m.p])/\kX w' u.heap.size m (.slice B m.n z) (.slice ra m.r rc)/\adN u w'):=λu hu=>CV M u (hM.ext hu) V2 hp
 have HO:Hid (∀u (c:Int),0<=c/\c<=100->adO 32 #[.int .i64 k,.int .i64 c] u λe w'=>e=.returned (.int .i64 (W9 k c))/\w'=u):=λu c hc=>aeO k c u hk hc
 clear hM V2 hp hT hG hk;unfold cz.val at*
 go_enter (pf func7 (by rfl)),ntmps7
 go_wp2_with fail;have Ξ:Hid (adN w (w.alloc (.cells #[.slice M.ao M.n M.cap,.slice M.ro M.r M.gD,.int .i64 M.p] 25 (0,0)))):=(aab _ _).alloc (ZL _) _;refine(Zr.out _ Ξ.out).mono ?_;rintro e w1 ⟨m,B,z,ra,rc,rfl,κ,hb1⟩;have H1:=av (aaa κ (ai Ξ.out hb1));clear κ hb1 Ξ;go_wp2_with fail;obtain⟨W1,Θ⟩:∃W,W=w1.alloc (.cells #[.slice B m.n z,.slice ra m.r rc,.int .i64 m.p] 25 (0,0)):=⟨_,rfl⟩
 have H2:Hid (adN w W1/\W1.heap[w1.heap.size]? =some (.cells #[.slice B m.n z,.slice ra m.r rc,.int .i64 m.p] 25 (0,0))/\kX W1 (w.heap.size+1) m (.slice B m.n z) (.slice ra m.r rc)):=by
  rw[Θ];have hb:adN w1 (w1.alloc (.cells #[.slice B m.n z,.slice ra m.r rc,.int .i64 m.p] 25 (0,0))):=(aab _ _).alloc (ZL _) _;refine⟨ai H1.out.2 hb,aae _ _,?_⟩;have:=H1.out.1.below hb;simpa using this
 rw[<-Θ];clear Θ;refine(Hu m B ra so z rc _ n cap T a W1 H2.out.2.2 (HT.out.1.below H2.out.1) (keeps H2.out.1 HT.out.2)).mono ?_;intro e w2 he;rcases e with r'|ch|_
 rotate_left
 .exact⟨rfl,he⟩
 .exact he.elim
 obtain⟨base,bb,s0,K,rfl,F,g,V,η⟩:=he;have δ:∀b,b<W1.heap.size->K b=0:=λb hb=>g.zero (ZO hb F)
 obtain⟨mo,υ⟩:∃o:Obj,o=.cells #[.slice B m.n z,.slice ra m.r rc,.int .i64 m.p] 25 (0,0):=⟨_,rfl⟩;have Bmo:Hid (∀(u:World) b,u.heap[b]? =some mo->∀j,u.cell? ⟨b,j,none⟩=(#[.slice B m.n z,.slice ra m.r rc,.int .i64 m.p]:Array Value)[j]?):=λu b h=>(blk (h.trans (congrArg some υ))).1
 have H3:Hid (adN w w2/\Kp w2 K [(w1.heap.size,mo)]/\kX w2 (w.heap.size+1) m (.slice B m.n z) (.slice ra m.r rc)/\(∀b,(Value.slice B m.n z).ownBlock=some b\/(Value.slice ra m.r rc).ownBlock=some b->K b=0)/\Bd w2 base bb s0 K/\s0.inv/\s0.no<=400000000/\w.heap.size<=base):=by
  have k2:=(ZK.1 H2.out.2.1).1;refine⟨ai H2.out.1 η,?_,H2.out.2.2.below η,?_,g,V.inv H2.out.2.2.ok,by have:=V.keeps.2;have:=HT.out.1.many;omega,ZP H2.out.1.size F⟩
  .intro p hp
   simp only[ZW,adm,or_false]at hp;subst hp;exact⟨by rw[υ];exact bJ η H2.out.2.1,δ _ k2⟩
  .rintro b (hb|hb)
   .exact δ b (H2.out.2.2.dA.lt b hb).2
   .exact δ b (H2.out.2.2.res.lt b hb).2
 clear g V η F δ υ;go_wp2_with fail;refine(IM base bb (-1) s0 K w2 H3.out.2.2.2.2.1 (by unfold In64;omega)).mono ?_;rintro e w3 ⟨rfl,g,y⟩;have f:0<base:=by have h1:=aan HT.out.2;have h2:=H3.out.2.2.2.2.2.2.2;exact ZO h1 h2
 have H4:Hid (Bd w3 base bb (s0.IP (-1)) K/\dJ w2 w3 K K/\(s0.IP (-1)).inv):=⟨g,y,H3.out.2.2.2.2.2.1.IP _⟩;have HG3:Hid (w3.cell? ⟨0,0,none⟩=some (.iface 345 (.pointer (some a)))):=aaH H3.out.2.2.2.2.1 f (keeps H3.out.1 HT.out.2) y;clear g y;have τ:=H3.out.2.2.2.2.2.2.1;have ο:Hid (adO 24 #[.pointer (some ⟨bb,0,none⟩),.string ⟨#[97]⟩] w3 (RJ (uY w3 base bb (s0.IP (-1)) K (mV 0)) AA)):=Ev base bb (s0.IP (-1)) K (mV 0) a w3 H4.out.1 (by show s0.no+4<=_;omega) HG3.out f;go_wp2_with fail;refine ο.out.mono ?_;clear ο;intro e w4 he;rcases e with r'|ch|_
 rotate_left
 .exact⟨rfl,he⟩
 .exact he.elim
 obtain⟨s,G,t,g,y⟩:=he;obtain⟨i1,i2,i3,i4,i5,rr,rfl⟩:=aeC t H4.out.2.2 (λk=>by have:=k.1;cases this);have HS:Hid (s.inv/\s.no<=400000004/\∀x∈s.bs,x.nm≠mV 0):=⟨i1,by have h:s.no<=s0.no+4:=i4;show s.no<=_;omega,i5⟩;have H5:Hid (Bd w4 base bb s G/\dJ w2 w4 K G):=⟨g,H4.out.2.1.trans y⟩;clear t g y i1 i2 i3 i4 i5 τ;go_wp2_with fail;refine(aaY base bb s G w4 H5.out.1).mono ?_;rintro e Q ⟨v5,l,rfl,φ,hal,ω⟩;obtain⟨lo,lc,rfl⟩:=aj φ.row;have H6:Hid (Bd Q base bb s G/\adN w4 Q/\aar Q w4.heap.size (.slice lo l.length lc) l/\l5 s.bs l):=⟨H5.out.1.below ω,ω,φ,hal⟩;clear φ hal ω;go_wp2_with fail;refine(aaX base bb s G Q H6.out.1).mono ?_;rintro e w6 ⟨A,C,rfl,ε,ζ⟩;obtain⟨L,hL⟩:∃L,gq s.D=L:=⟨_,rfl⟩;rw[hL]at ε⊢;have HL:=av hL;clear hL;obtain⟨W6,θ⟩:∃W,W=w6.alloc (aaF A C L):=⟨_,rfl⟩
 have H7:Hid (RfI base bb s w4.heap.size Q.heap.size (.slice lo l.length lc) l A C L 0 (.iface 345 (.pointer (some a))) [(w6.heap.size,aaF A C L),(w1.heap.size,mo)] G W6/\kX W6 (w.heap.size+1) m (.slice B m.n z) (.slice ra m.r rc)):=by
  rw[θ];have hb:=ai H6.out.2.1 ζ;have ho:dJ w2 w6 K G:=H5.out.2.trans (dJ.fq hb);have hm:=(H3.out.2.2.1.aaq ho H3.out.2.2.2.1).1;exact⟨RfI.alloc (kp:=[(w1.heap.size,mo)]) ⟨H6.out.1.below ζ,H6.out.2.2.1.below ζ,λb hb=>H5.out.1.fresh (H6.out.2.2.1.row.lt b hb).1,λx hx q hq b hb=>H5.out.1.fresh ((H6.out.2.2.1.rows x hx q hq).lt b hb).1,λq hq=>⟨ε q hq,λb hb=>H6.out.1.fresh ((ε q hq).lt b hb).1⟩,aaH H3.out.2.2.2.2.1 f (keeps H3.out.1 HT.out.2) ho,H3.out.2.1.aaq ho⟩ f _,hm.below ((aab _ _).alloc (ZL _) _)⟩
 clear ε ζ;unfold aaI;unfold aaF at θ;go_wp2_with fail;rw[<-θ];clear θ;refine(aeB base bb s G W6 H7.out.1.bd).mono ?_;rintro e U ⟨a7,c7,rfl,ψ⟩;have H8:Hid (RfI base bb s w4.heap.size Q.heap.size (.slice lo l.length lc) l A C L 0 (.iface 345 (.pointer (some a))) [(w6.heap.size,aaF A C L),(w1.heap.size,mo)] G U/\kX U (w.heap.size+1) m (.slice B m.n z) (.slice ra m.r rc)):=⟨H7.out.1.below f ψ,H7.out.2.below ψ⟩;clear ψ;have q7:=Bmo.out _ _ H8.out.1.kp.tail.head;go_wp2_with fail;clear q7;obtain⟨W7,Δ⟩:∃W,W=U.alloc (.cells #[.slice B m.n z,.slice ra m.r rc,.int .i64 m.p] 25 (0,0)):=⟨_,rfl⟩
 have H9:Hid (adN U W7/\W7.heap[U.heap.size]? =some (.cells #[.slice B m.n z,.slice ra m.r rc,.int .i64 m.p] 25 (0,0))):=by
  rw[Δ];exact⟨(aab _ _).alloc (ZL _) _,aae _ _⟩
 rw[<-Δ];clear Δ;refine(HO.out W7 4 (by omega)).mono ?_;rintro e w8 ⟨rfl,hw⟩;obtain rfl:=hw.symm;obtain⟨σ,afi⟩:=blk H9.out.2;go_wp2_with fail;clear σ afi;obtain⟨W8,Γ⟩:∃W,W=W7.setCell ⟨U.heap.size,2,none⟩ (.int .i64 (W9 k 4)):=⟨_,rfl⟩
 have H10:Hid (adN U W8/\W8.heap[U.heap.size]? =some (.cells #[.slice B m.n z,.slice ra m.r rc,.int .i64 (W9 k 4)] 25 (0,0))):=by
  rw[Γ];exact⟨H9.out.1.setCell (ZL _) _,aD (i:=2) (.int .i64 (W9 k 4)) H9.out.2⟩
 rw[<-Γ];clear Γ;refine(adV m B ra z rc _ (W9 k 4) W8 (H8.out.2.below H10.out.1) (Hr k (by omega))).mono ?_;rintro e w9 ⟨rfl,χ⟩;have H11:Hid (adN U w9):=ai H10.out.1 χ;obtain⟨σ,_⟩:=blk (bJ χ H10.out.2);clear χ;go_wp2_with fail;clear σ;refine(aep m B ra z rc _ (W9 k 4) w9 (H8.out.2.below H11.out) (Hr k (by omega))).mono ?_;rintro e E ⟨rfl,ξ⟩;have H12:Hid (RfI base bb s w4.heap.size Q.heap.size (.slice lo l.length lc) l A C L 0 (.iface 345 (.pointer (some a))) [(w6.heap.size,aaF A C L),(w1.heap.size,mo)] G E):=H8.out.1.below f (ai H11.out ξ);clear ξ;go_wp2_with fail;refine(HO.out E 17 (by omega)).mono ?_;rintro e w11 ⟨rfl,hw⟩;obtain rfl:=hw.symm;have HB0:=av ((aab E.heap.size E).drew);have HRK:Hid (∀u v,adO 35 #[.pointer (some ⟨bb,0,none⟩),.int .i64 (W9 k 3),v] u λe w'=>e=.returned (.int .i64 2)/\w'=u):=λu v=>aeZ bb (W9 k 3) v u (Hr k (by omega))
 go_upto_region 17 with fail
 go_cut [19]from 88 to 92 (λr wx=>r=.int .i64 2/\adN E wx)
 case first=>
  have hmk:=λW:World=>aeQ W
  go_region_held3(λw'=>adN E w') (first|exact HB0.out|exact Below.alloc (by assumption) (Nat.le_of_eq rfl) _|exact Below.alloc (by assumption) (Below.size (by assumption)) _|assumption)
   (first|(go_at_call 32;refine(HO.out _ 3 (by omega)).mono ?_;rintro e w11 ⟨rfl,hw⟩;obtain rfl:=hw.symm)|(go_at_call 35;refine(HRK.out _ _).mono ?_;rintro e w11 ⟨rfl,hw⟩;obtain rfl:=hw.symm))
  all_goals
   go_wp2_with fail
   go_meet
   exact⟨rfl,by assumption⟩
 case rest=>
  obtain⟨rfl,ν⟩:=hcut;have H13:=av (H12.out.below f ν);clear ν HRK HB0;have hmk:=λW:World=>aeQ W
  go_wp2_with fail;refine(aeY 0 bb 0 17 17 _ _ (by omega) rfl (by omega)).mono ?_;rintro e w12 ⟨rfl,hw⟩;obtain rfl:=hw.symm;obtain⟨Z,Y⟩:∃W,W=wc.alloc (.cells (madeCells #[.int .i64 0,.bool false] 34) 75 (0,0)):=⟨_,rfl⟩
  have H14:Hid (RfI base bb s w4.heap.size Q.heap.size (.slice lo l.length lc) l A C L 0 (.iface 345 (.pointer (some a))) [(w6.heap.size,aaF A C L),(w1.heap.size,mo)] G Z):=by
   rw[Y];exact H13.out.below f ((aab _ _).alloc (ZL _) _)
  rw[<-Y];clear Y hmk;go_wp2_with fail;refine(HO.out Z 4 (by omega)).mono ?_;rintro e w13 ⟨rfl,hw⟩;obtain rfl:=hw.symm;go_wp2_with fail;obtain⟨W13,X⟩:∃W,W=Z.alloc (.cells #[.int .i64 0,.bool false,.int .i64 (W9 k 4),.bool false] 75 (0,0)):=⟨_,rfl⟩
  have H15:Hid (RfI base bb s w4.heap.size Q.heap.size (.slice lo l.length lc) l A C L 0 (.iface 345 (.pointer (some a))) [(w6.heap.size,aaF A C L),(w1.heap.size,mo)] G W13/\W13.heap[Z.heap.size]? =some (.cells #[.int .i64 0,.bool false,.int .i64 (W9 k 4),.bool false] 75 (0,0))):=by
   rw[X];exact⟨H14.out.below f ((aab _ _).alloc (ZL _) _),aae _ _⟩
  rw[<-X];clear X
  refine(aeX 0 bb 0 Z.heap.size 0 2 2 1 (λi=>if i=0 then 0 else W9 k 4) (λ_=>false) W13 (by omega) rfl (by omega) (by omega) (λi hi=>by
   obtain rfl|rfl:i=0\/i=1:=by omega
   all_goals exact⟨((blk H15.out.2).1 _).trans rfl,((blk H15.out.2).1 _).trans rfl⟩) (by omega) (by rw[if_neg (by omega)];exact Hr k (by omega)) (λi hi=>by rw[if_pos (by omega)];omega)).mono ?_
  rintro e w14 ⟨rfl,μ⟩;have H16:=av (H15.out.1.below f μ);clear μ;go_wp2_with fail;refine(HO.out w14 3 (by omega)).mono ?_;rintro e w15 ⟨rfl,hw⟩;obtain rfl:=hw.symm;go_wp2_with fail;refine(IB (W9 k 3) 0 true base bb s G w14 H16.out.bd).mono ?_;rintro e w16 ⟨r,s',rfl,t,g,y⟩
  obtain⟨rfl,rfl⟩:r=2/\s=s':=by
   rcases t with⟨_,rfl,rfl⟩|⟨h,_⟩|⟨h,_⟩
   .exact⟨rfl,rfl⟩
   .exact absurd h (Hr k (by omega))
   .exact absurd h (Hr k (by omega))
  have H17:=av (H16.out.aaq f g y);clear t g y;go_wp2_with fail;refine(IB 1 (W9 k 17) true base bb s G w16 H17.out.bd).mono ?_;rintro e w17 ⟨r,s',rfl,t,g,y⟩
  obtain⟨rfl,rfl⟩:r=3/\s=s':=by
   rcases t with⟨h,_⟩|⟨_,_,rfl,rfl⟩|⟨_,h,_⟩
   .exact absurd ⟨by omega,by omega⟩ h
   .exact⟨rfl,rfl⟩
   .exfalso
    have h1:=Hr k (show(0:Int)<=17 by omega);have h2:=(HS.out.1.d.dC 1 (by omega)).1;have h3:(W9 k 17)< ((s.dn 1:Nat):Int):=h.2;have h4:s.dn 1<=16:=h2;exact h1 ⟨h.1,by omega⟩
  have H18:=av (H17.out.aaq f g y);clear t g y;have τ:=HS.out.2.1
  have β:Hid (∀(nm:ByteArray) (c:Nat->Int) (code:Int) (u:World) (K':Nat->Nat) (kp:List (Nat×Obj)),RfI base bb s w4.heap.size Q.heap.size (.slice lo l.length lc) l A C L 0 (.iface 345 (.pointer (some a))) kp K' u->nm.size<=281474976710656->((¬jJ nm/\code=4)\/(jJ nm/\(∀x∈s.bs,x.nm≠nm)/\qo c=false/\code=5))->
        adO 21 #[.pointer (some ⟨bb,0,none⟩),.string nm,.agg #[.int .i64 (c 0),.int .i64 (c 1),.int .i64 (c 2),.int .i64 (c 3)]] u (RJ (λv w'=>v=.tuple #[eH,.int .i64 code]/\∃K2,RfI base bb s w4.heap.size Q.heap.size (.slice lo l.length lc) l A C L 0 (.iface 345 (.pointer (some a))) ((w'.heap.size,adU)::kp) K2 (w'.alloc adU)) AA)):=λnm c code u K' kp h YQ hc=>
   (aeE nm c code h.bd YQ (by omega) hc h.gl f).mono λe w' he=>acj he λv hv=>by
        obtain⟨K2,hv,hb,ho⟩:=hv;exact⟨hv,K2,(h.aaq f hb ho).alloc f _⟩
  have HRL:Hid (∀(nm:ByteArray) (u:World) (K':Nat->Nat) (kp:List (Nat×Obj)),RfI base bb s w4.heap.size Q.heap.size (.slice lo l.length lc) l A C L 0 (.iface 345 (.pointer (some a))) kp K' u->(∀x∈s.bs,x.nm≠nm)->
        adO 24 #[.pointer (some ⟨bb,0,none⟩),.string nm] u (RJ (λv w'=>v=.int .i64 10/\∃K2,RfI base bb s w4.heap.size Q.heap.size (.slice lo l.length lc) l A C L 0 (.iface 345 (.pointer (some a))) kp K2 w') AA)):=λnm u K' kp h hn=>
   (adY nm h.bd (by omega) hn h.gl f).mono λe w' he=>acj he λv hv=>by
        obtain⟨K2,hv,hb,ho⟩:=hv;exact⟨hv,K2,h.aaq f hb ho⟩
  clear τ;have hna:∀x∈s.bs,x.nm≠(⟨#[97]⟩:ByteArray):=HS.out.2.2;have ι:=av hna;clear hna;go_wp2_with fail;refine(β.out ⟨#[]⟩ (λ_=>0) 4 w17 G _ H18.out (by decide) (.inl ⟨by unfold jJ;decide,rfl⟩)).mono ?_;intro e w18 he;rcases e with r'|ch|_
  rotate_left
  .exact⟨rfl,he⟩
  .exact he.elim
  obtain⟨rfl,K18,h18⟩:=he;unfold eH;obtain⟨W18,P⟩:∃W,W=w18.alloc adU:=⟨_,rfl⟩;rw[<-P]at h18;have H19:=av h18;clear h18;unfold adU at P;go_wp2_with fail;rw[<-P];clear P;refine(β.out ⟨#[49,50,51,52,53,54,55,56,57,48,49,50,51,52,53,54,55,56,57,48,49]⟩ (λi=>if i=0 then 1 else 0) 4 W18 K18 _ H19.out (by decide) (.inl ⟨by unfold jJ;decide,rfl⟩)).mono ?_;intro e w19 he;rcases e with r'|ch|_
  rotate_left
  .exact⟨rfl,he⟩
  .exact he.elim
  obtain⟨rfl,K19,h19⟩:=he;unfold eH;obtain⟨W19,O⟩:∃W,W=w19.alloc adU:=⟨_,rfl⟩;rw[<-O]at h19;have H20:=av h19;clear h19;unfold adU at O;go_wp2_with fail;rw[<-O];clear O;refine(HO.out W19 25 (by omega)).mono ?_;rintro e ρ ⟨rfl,hw⟩;obtain rfl:=hw.symm;go_wp2_with fail;refine(β.out ⟨#[97]⟩ (λi=>if i=0 then W9 k 25 else 0) 5 W19 K19 _ H20.out (by decide) (.inr ⟨by unfold jJ;decide,ι.out,aeV (.inl ⟨rfl,Hr k (by omega)⟩),rfl⟩)).mono ?_;intro e ρ he;rcases e with r'|ch|_
  rotate_left
  .exact⟨rfl,he⟩
  .exact he.elim
  obtain⟨rfl,K20,Ω⟩:=he;unfold eH;obtain⟨W20,N⟩:∃W,W=ρ.alloc adU:=⟨_,rfl⟩;rw[<-N]at Ω;have H21:=av Ω;clear Ω;unfold adU at N;go_wp2_with fail;rw[<-N];clear N;refine(β.out ⟨#[97]⟩ (λi=>if i=0 then 1 else if i=2 then W9 k 17 else 0) 5 W20 K20 _ H21.out (by decide) (.inr ⟨by unfold jJ;decide,ι.out,aeV (.inr ⟨rfl,Hr k (by omega)⟩),rfl⟩)).mono ?_;intro e w21 he;rcases e with r'|ch|_
  rotate_left
  .exact⟨rfl,he⟩
  .exact he.elim
  obtain⟨rfl,K21,Ψ⟩:=he;unfold eH;obtain⟨W21,J⟩:∃W,W=w21.alloc adU:=⟨_,rfl⟩;rw[<-J]at Ψ;have H22:=av Ψ;clear Ψ;unfold adU at J;go_wp2_with fail;rw[<-J];clear J;refine(β.out ⟨#[97]⟩ (λ_=>0) 5 W21 K21 _ H22.out (by decide) (.inr ⟨by unfold jJ;decide,ι.out,by decide,rfl⟩)).mono ?_;intro e w22 he;rcases e with r'|ch|_
  rotate_left
  .exact⟨rfl,he⟩
  .exact he.elim
  obtain⟨rfl,K22,Φ⟩:=he;unfold eH;obtain⟨W22,I⟩:∃W,W=w22.alloc adU:=⟨_,rfl⟩;rw[<-I]at Φ;have H23:=av Φ;clear Φ;unfold adU at I;go_wp2_with fail;rw[<-I];clear I;refine(HRL.out ⟨#[97]⟩ W22 K22 _ H23.out ι.out).mono ?_;intro e w23 he;rcases e with r'|ch|_
  rotate_left
  .exact⟨rfl,he⟩
  .exact he.elim
  obtain⟨rfl,K23,h23⟩:=he;have H24:=av h23;clear h23;go_wp2_with fail;refine(HRL.out ⟨#[]⟩ w23 K23 _ H24.out (λx hx e=>by have:=HS.out.1.nm x hx;rw[e]at this;cases this)).mono ?_;intro e w24 he;rcases e with r'|ch|_
  rotate_left
  .exact⟨rfl,he⟩
  .exact he.elim
  obtain⟨rfl,K24,Y'⟩:=he;have H25:=av Y';clear Y';have α:Hid (∀u,adO 22 #[.agg #[.slice none 0 0,.slice none 0 0,.slice none 0 0,.slice none 0 0]] u λe w'=>e=.returned (.bool true)/\adN u w'):=λu=>(ace (λ_=>none) (λ_=>0) (λ_=>[]) u (ad1 u)).mono λe w' he=>⟨he.1.fP λ_ _=>rfl,he.2⟩
  obtain⟨R,_⟩:=blk (show w24.heap[w18.heap.size]? =some (.cells #[.slice none 0 0,.slice none 0 0,.slice none 0 0,.slice none 0 0] 41 (0,0))from H25.out.kp.tail.tail.tail.tail.head);go_wp2_with fail;clear R;refine(α.out w24).mono ?_;rintro e w25 ⟨rfl,hb⟩;have H26:=av (H25.out.below f hb);clear hb;obtain⟨R,_⟩:=blk (show w25.heap[w19.heap.size]? =some (.cells #[.slice none 0 0,.slice none 0 0,.slice none 0 0,.slice none 0 0] 41 (0,0))from H26.out.kp.tail.tail.tail.head);go_wp2_with fail;clear R;refine(α.out w25).mono ?_;rintro e w26 ⟨rfl,hb⟩;have H27:=av (H26.out.below f hb);clear hb;obtain⟨R,_⟩:=blk (show w26.heap[ρ.heap.size]? =some (.cells #[.slice none 0 0,.slice none 0 0,.slice none 0 0,.slice none 0 0] 41 (0,0))from H27.out.kp.tail.tail.head);go_wp2_with fail;clear R;refine(α.out w26).mono ?_;rintro e w27 ⟨rfl,hb⟩;have H28:=av (H27.out.below f hb);clear hb;obtain⟨R,_⟩:=blk (show w27.heap[w21.heap.size]? =some (.cells #[.slice none 0 0,.slice none 0 0,.slice none 0 0,.slice none 0 0] 41 (0,0))from H28.out.kp.tail.head);go_wp2_with fail;clear R;refine(α.out w27).mono ?_;rintro e w28 ⟨rfl,hb⟩;have H29:=av (H28.out.below f hb);clear hb;obtain⟨R,_⟩:=blk (show w28.heap[w22.heap.size]? =some (.cells #[.slice none 0 0,.slice none 0 0,.slice none 0 0,.slice none 0 0] 41 (0,0))from H29.out.kp.head);go_wp2_with fail;clear R;refine(α.out w28).mono ?_;rintro e w29 ⟨rfl,hb⟩;have γ:=av (H29.out.below f hb);clear hb;have HUN:=av (adR base bb s K24 _ l A C L w29 γ.out.bd γ.out.bx.l H6.out.2.2.2 (by have h1:=HS.out.1.many;have h2:=H6.out.2.2.2.1;omega) γ.out.gr.aaM HL.out);unfold aaI at HUN;obtain⟨R,_⟩:=blk (show w29.heap[w6.heap.size]? =some (.cells #[.slice (A 0) (L 0).length (C 0),.slice (A 1) (L 1).length (C 1),.slice (A 2) (L 2).length (C 2),.slice (A 3) (L 3).length (C 3)] 41 (0,0))from γ.out.kp.tail.tail.tail.tail.tail.head);go_wp2_with fail;clear R;refine HUN.out.mono ?_;rintro e w30 ⟨rfl,hb⟩;have H:=av (γ.out.below f hb);clear hb HUN;have HFA:=av (aeR base bb s K24 _ l A C L _ _ a w30 H.out.bd HS.out.1 H.out.bx H.out.bk H.out.rk H6.out.2.2.2 H.out.gr HL.out HS.out.2.2 (by have:=HS.out.2.1;omega) H.out.gl f);unfold aaI at HFA;obtain⟨R,_⟩:=blk (show w30.heap[w6.heap.size]? =some (.cells #[.slice (A 0) (L 0).length (C 0),.slice (A 1) (L 1).length (C 1),.slice (A 2) (L 2).length (C 2),.slice (A 3) (L 3).length (C 3)] 41 (0,0))from H.out.kp.tail.tail.tail.tail.tail.head);go_wp2_with fail;clear R;refine HFA.out.mono ?_;intro e w31 he;rcases e with r'|ch|_
  rotate_left
  .exact⟨rfl,he⟩
  .exact he.elim
  obtain rfl:=he;go_wp2_with fail;go_ret;rfl
end Z
