/- Part 46 of the proof. -/
import Derived.Test.YtfpaamhppamcoaaGreatDoorT45
set_option linter.all false
set_option maxRecDepth 100000
set_option maxHeartbeats 60000000
namespace Go.Proofs.YtfpaamhppamcoaaGreatDoor
open Go.Proofs.Tryz
namespace Z
open Go.RowKit
attribute [local go_sem ↓] Go.wp_at_zero Go.wp_at_succ
attribute [local go_sem] After.cell After.frozen After.const
theorem JD {m}(h:1<=m)(a:m<16):1<=pop m:=by
 have key:(List.range 16).all (λm=>m==0||decide (1<=pop m))=true:=by kernel_rfl
 have:=ZU.1 key m (Z9.2 a);simp at this;omega
def Ao (c:Nat->Int)(want:Int):Nat->Int
 |0=>0
 |m+1=>if 1<=m/\want<=fM c m 4/\(Ao c want m=0\/(pop m:Int)<Ao c want m)then(pop m:Nat)else Ao c want m
theorem NJ (c)(want)(M)(n:M<=16):(Ao c want M=0/\∀m,1<=m->m<M->¬want<=fM c m 4)\/(∃m,1<=m/\m<M/\want<=fM c m 4/\Ao c want M=(pop m:Nat)/\∀m',1<=m'->m'<M->want<=fM c m' 4->pop m<=pop m'):=by
 induction M with
 |zero=>exact .inl ⟨rfl,λm _ h=>absurd h (ZV _)⟩
 |succ M b=>
  have b:=b (by omega);unfold Ao
  by_cases h:1<=M/\want<=fM c M 4/\(Ao c want M=0\/(pop M:Int)<Ao c want M)
  .rw[if_pos h]
   obtain⟨l,k,f⟩:=h;refine .inr ⟨M,l,by omega,k,rfl,λm' k1 i a=>?_⟩
   by_cases e:m'=M
   .rw[e];exact ZL _
   .rcases b with⟨_,d⟩|⟨m,g,a2,a3,a4,a5⟩
    .exact absurd a (d m' k1 (by omega))
    .have:=a5 m' k1 (by omega) a
     have:=JD g (by omega);rcases f with f|f
     .omega
     .omega
  .rw[if_neg h]
   rcases b with⟨j,d⟩|⟨m,g,a2,a3,a4,a5⟩
   .refine .inl ⟨j,λm k1 i a=>?_⟩
    by_cases e:m=M
    .subst e;exact h ⟨k1,a,.inl j⟩
    .exact d m k1 (by omega) a
   .refine .inr ⟨m,g,by omega,a3,a4,λm' k1 i a=>?_⟩
    by_cases e:m'=M
    .subst e
     have:¬(pop m':Int)<Ao c want m':=λe=>h ⟨k1,a,.inr e⟩
     omega
    .exact a5 m' k1 (by omega) a
theorem ma (c)(want):∀l:List Nat,l.Pairwise (λa b=>pop a<=pop b)->(gP c want l= -1/\∀m∈l,¬want<=fM c m 4)\/(∃m∈l,want<=fM c m 4/\gP c want l=(pop m:Nat)/\∀m'∈l,want<=fM c m' 4->pop m<=pop m')
 |[],_=>.inl ⟨rfl,λm h=>by cases h⟩
 |a::l,hp=>by
  obtain⟨e,p2⟩:=List.pairwise_cons.1 hp;unfold gP
  by_cases h:want<=fM c a 4
  .rw[if_pos h]
   refine .inr ⟨a,ZX ..,h,rfl,λm' d _=>?_⟩;rcases ZW.1 d with rfl|d
   .exact ZL _
   .exact e m' d
  .rw[if_neg h]
   rcases ma c want l p2 with⟨g,f⟩|⟨m,i,a3,a4,a5⟩
   .refine .inl ⟨g,λm hm=>?_⟩
    rcases ZW.1 hm with rfl|hm
    .exact h
    .exact f m hm
   .refine .inr ⟨m,List.mem_cons_of_mem _ i,a3,a4,λm' d k=>?_⟩
    rcases ZW.1 d with rfl|d
    .exact absurd k h
    .exact a5 m' d k
theorem vJ {m}:m∈ord↔1<=m/\m<16:=by
 rw[CG];simp only[ZW,List.not_mem_nil,or_false];omega
theorem xL:ord.Pairwise (λa b=>pop a<=pop b):=by
 rw[CG]
 decide
theorem Lh (c)(want):l9 c want=if Ao c want 16=0 then -1 else Ao c want 16:=by
 unfold l9;rcases NJ c want 16 (by omega)with⟨e,a⟩|⟨m,b,a2,a3,a4,a5⟩
 .rw[if_pos e]
  rcases ma c want ord xL with⟨d,_⟩|⟨m',b1,b2,_⟩
  .exact d
  .obtain⟨b3,b4⟩:=vJ.1 b1
   exact absurd b2 (a m' b3 b4)
 .have:=JD b a2
  rw[if_neg (by omega),a4];rcases ma c want ord xL with⟨_,a⟩|⟨m',b1,b2,b4,g⟩
  .exact absurd a3 (a m (vJ.2 ⟨b,a2⟩))
  .obtain⟨f,c2⟩:=vJ.1 b1
   have i:=a5 m' f c2 b2;have h:=g m (vJ.2 ⟨b,a2⟩) a3;rw[b4];omega
theorem Ki (D)(q x mask)(l)(hx:0<=bG D q x/\bG D q x<4):fM (dz D q (x::l)) mask 4=fM (dz D q l) mask 4+if IA D mask q x=true then 1 else 0:=by
 have e:∀k,dz D q (x::l) k=dz D q l k+if bG D q x=(k:Int)then 1 else 0:=λk=>by
  unfold dz;rw[List.countP_cons]
  by_cases h:bG D q x=(k:Int)
  .simp[h]
  .simp[h]
 have hm:IA D mask q x=has mask (bG D q x).toNat:=rfl;rw[hm];simp only[fM,e];generalize a:bG D q x=v at*;obtain rfl|rfl|rfl|rfl:v=0\/v=1\/v=2\/v=3:=by omega
 all_goals
  simp
  repeat' split
  all_goals omega
theorem MC (D)(q mask)(l)(h:∀x∈l,0<=bG D q x/\bG D q x<4):((kU D mask q l l.length:Nat):Int)=fM (dz D q l) mask 4:=by
 unfold kU;rw[List.take_length]
 induction l with
 |nil=>
  show(0:Int)=_
  have:∀k,dz D q [] k=0:=λk=>rfl
  simp[fM,this]
 |cons x l a=>
  rw[Ki D q x mask l (h x (ZX ..)),<-a (λy hy=>h y (List.mem_cons_of_mem _ hy)),List.countP_cons]
  by_cases hx:IA D mask q x=true
  .rw[if_pos hx,if_pos hx];omega
  .rw[if_neg hx,if_neg hx];omega
theorem oI {s:BS}(b:s.ok){q}(c:q<4):(dL s.D q).length<=24/\(∀x∈dL s.D q,x<Q0 s.D q)/\∀x∈dL s.D q,0<=bG s.D q x/\bG s.D q x<4:=by
 unfold dL Q0 bG
 by_cases h:q=0
 .rw[if_pos h,if_pos h]
  have hx:∀x∈bS (OC s.D 0) s.D.n,x<s.D.n:=λx hx=>by
   unfold bS at hx;exact Z9.1 (List.mem_filter.1 hx).1
  refine⟨ZP (Bi _ _) b.d.qF,hx,λx a=>?_⟩;rw[if_pos h];exact b.d.nodes x (hx x a)
 .rw[if_neg h,if_neg h]
  have hd:=b.d.dC (q-1) (by omega);have hx:∀x∈(List.range (s.D.dn (q-1))).filter (λi=>s.D.dH (q-1) i),x<s.D.dn (q-1):=λx hx=>Z9.1 (List.mem_filter.1 hx).1
  refine⟨?_,hx,λx a=>?_⟩
  .have:=FM s.D (q-1) (s.D.dn (q-1))
   unfold dX at this;have:=hd.1;omega
  .rw[if_neg h]
   exact hd.2 x (hx x a)
theorem pR.dv {s s'}(h:pR s s')(k):s'.dn k=s.dn k/\rO s' k=rO s k:=by
 refine⟨by rw[h.dn],?_⟩;unfold rO iB;rw[h.dn,h.dN,h.dH]
structure J9 (w:World)(b7 b9 Zf Ze V5:Nat)(mc lc gc:Array Value)(D:BD)(c:Nat->Int)(wr:World):Prop where
 k7:wr.heap[b7]? =some (.cells mc 25 (0,0))
 k9:wr.heap[b9]? =some (.cells lc 34 (0,0))
 Ur:wr.heap[Zf]? =some (.cells (aQ (eG D c)) 37 (0,0))
 VZ:wr.heap[Ze]? =some (.cells gc 41 (0,0))
 Uq:wr.heap[V5]? =some (.cells (aQ c) 37 (0,0))
theorem J9.below {w wr w'}{f e d b a}{mc lc gc}{D}{c}(h:J9 w f e d b a mc lc gc D c wr)(hb:Below wr.heap.size wr w'):J9 w f e d b a mc lc gc D c w':=
 ⟨bJ hb h.k7,bJ hb h.k9,bJ hb h.Ur,bJ hb h.VZ,bJ hb h.Uq⟩
theorem mg (c){q}(a:q<4):(aQ c)[q]? =some (.int .i64 (c q)):=by
 obtain rfl|rfl|rfl|rfl:q=0\/q=1\/q=2\/q=3:=by omega
 all_goals rfl
theorem GK (M:cz)(so)(n cap)(T)(r:Nat->Int)(a)(w)(hM:M.At w)(V2:∀i,i<M.n->In64 (M.S i)/\In64 (M.C i))(hp:In64 M.p)(hT:DL w so n cap T)(hr:∀i,i<4->In64 (r i))
 (hG:w.cell? ⟨0,0,none⟩=some (.iface 345 (.pointer (some a)))):
 Calls (patch ae prog) 3 #[M.val,.slice so n cap,.agg #[.int .i64 (r 0),.int .i64 (r 1),.int .i64 (r 2),.int .i64 (r 3)]] w (RJ (λv _=>v=.bool true) AA):=by
 have HT:=av (aaa hT hG);have Hr:=av hr;have Zr:Hid (∀u,Below w.heap.size w u->Calls (patch ae prog) 8 #[M.val] u λe w'=>∃m z y ra rc,e=.returned (.agg #[.slice z m.n y,.slice ra m.r rc,.int .i64 m.p])/\kX w' u.heap.size m (.slice z m.n y) (.slice ra m.r rc)/\Below u.heap.size u w'):=λu hu=>CV M u (hM.ext hu) V2 hp
 clear hM V2 hp hT hG hr;unfold cz.val at*
 go_enter (pf func3 (by rfl)),ntmps3
 go_wp2_with fail;have β:Hid (Below w.heap.size w ((w.alloc (.cells #[.slice M.ao M.n M.cap,.slice M.ro M.r M.gD,.int .i64 M.p] 25)).alloc (.cells #[.int .i64 (r 0),.int .i64 (r 1),.int .i64 (r 2),.int .i64 (r 3)] 29))/\((w.alloc (.cells #[.slice M.ao M.n M.cap,.slice M.ro M.r M.gD,.int .i64 M.p] 25)).alloc (.cells #[.int .i64 (r 0),.int .i64 (r 1),.int .i64 (r 2),.int .i64 (r 3)] 29)).heap[w.heap.size+1]? =some (.cells #[.int .i64 (r 0),.int .i64 (r 1),.int .i64 (r 2),.int .i64 (r 3)] 29 (0,0))):=⟨((aab _ _).alloc (ZL _) _).alloc (by simp) _,aam _ _ _⟩;refine(Zr.out _ β.out.1).mono ?_;rintro e w1 ⟨m,z,y,ra,rc,rfl,ε,σ⟩;have H1:=av (aaa ε (aaa (ai β.out.1 σ) (bJ σ β.out.2)));clear ε σ β;go_wp2_with fail;obtain⟨W1,υ⟩:∃W,W=w1.alloc (.cells #[.slice z m.n y,.slice ra m.r rc,.int .i64 m.p] 25):=⟨_,rfl⟩
 have H2:Hid (Below w.heap.size w W1/\W1.heap[w.heap.size+1]? =some (.cells #[.int .i64 (r 0),.int .i64 (r 1),.int .i64 (r 2),.int .i64 (r 3)] 29 (0,0))/\W1.heap[w1.heap.size]? =some (.cells #[.slice z m.n y,.slice ra m.r rc,.int .i64 m.p] 25 (0,0))/\kX W1 (w.heap.size+2) m (.slice z m.n y) (.slice ra m.r rc)):=by
  rw[υ];have hb:Below w1.heap.size w1 (w1.alloc (.cells #[.slice z m.n y,.slice ra m.r rc,.int .i64 m.p] 25)):=(aab _ _).alloc (ZL _) _;refine⟨ai H1.out.2.1 hb,bJ hb H1.out.2.2,aae _ _,?_⟩;have:=H1.out.1.below hb;simpa using this
 rw[<-υ];clear υ;refine(Hu m z ra so y rc _ n cap T a W1 H2.out.2.2.2 (HT.out.1.below H2.out.1) (keeps H2.out.1 HT.out.2)).mono ?_;intro e w2 he;rcases e with r'|ch|_
 rotate_left
 .exact⟨rfl,he⟩
 .exact he.elim
 obtain⟨base2,bb,s,K,rfl,XN,V4,L,N⟩:=he
 have H3:Hid (Below w.heap.size w w2/\w2.heap[w.heap.size+1]? =some (.cells #[.int .i64 (r 0),.int .i64 (r 1),.int .i64 (r 2),.int .i64 (r 3)] 29 (0,0))/\w2.heap[w1.heap.size]? =some (.cells #[.slice z m.n y,.slice ra m.r rc,.int .i64 m.p] 25 (0,0))/\kX w2 (w.heap.size+2) m (.slice z m.n y) (.slice ra m.r rc)/\Bd w2 base2 bb s K/\s.m=m/\pR s (eO m T n)):=
  ⟨ai H2.out.1 N,bJ N H2.out.2.1,bJ N H2.out.2.2.1,H2.out.2.2.2.below N,V4,L.keeps.1,L.told⟩
 clear V4 L N;go_wp2_with fail;refine(Ij m so n cap T w2 (HT.out.1.below H3.out.1)).mono ?_;rintro e w3 ⟨v,rfl,d,rfl,b,XR⟩;obtain⟨a0,k0,e0⟩:=aj (b 0 (by omega));obtain⟨a1,k1,e1⟩:=aj (b 1 (by omega));obtain⟨a2,k2,e2⟩:=aj (b 2 (by omega));obtain⟨W3,Q⟩:∃W,W=w3.alloc (.cells #[d 0,d 1,d 2] 34):=⟨_,rfl⟩
 have H4:Hid (Below w2.heap.size w2 W3/\(∀k,k<3->W3.ownsRow w2.heap.size 75 2 (d k) (s.dn k) (rO s k))/\W3.heap[w3.heap.size]? =some (.cells #[d 0,d 1,d 2] 34 (0,0))):=by
  rw[Q];have hb:Below w3.heap.size w3 (w3.alloc (.cells #[d 0,d 1,d 2] 34)):=(aab _ _).alloc (ZL _) _;refine⟨ai XR hb,λk hk=>?_,aae _ _⟩;have R:=au (b k hk) hb;have h2:=H3.out.2.2.2.2.2.2.dv k;rw[h2.1,h2.2]at R;exact R
 obtain⟨q1,ι⟩:=blk (bJ H4.out.1 H3.out.2.1);rw[Q]at q1 ι;rw[e0,e1,e2]at Q q1 ι⊢;clear b XR;go_wp2_with fail;rw[<-Q];clear Q q1 ι;refine(EO r W3 Hr.out).mono ?_;rintro e w4 ⟨rfl,XQ⟩;obtain⟨c,hc⟩:∃c:Nat->Int,c=λi=>((dD r i:Nat):Int):=⟨_,rfl⟩
 obtain⟨W4,α⟩:∃W,W=w4.alloc (.cells (aQ c) 29):=⟨_,rfl⟩
 have H5:Hid (Below W3.heap.size W3 W4/\W4.heap[w4.heap.size]? =some (.cells (aQ c) 29 (0,0))):=by
  rw[α];exact⟨ai XQ ((aab _ _).alloc (ZL _) _),aae _ _⟩
 have ξ:aQ c= #[.int .i64 (dD r 0:Nat),.int .i64 (dD r 1:Nat),.int .i64 (dD r 2:Nat),.int .i64 (dD r 3:Nat)]:=by rw[hc];rfl
 rw[ξ]at α;have Hc:=av (aaa hc ξ);clear XQ hc ξ;go_wp2_with fail;rw[<-α,<-Hc.out.2];clear α;have ζ:=H3.out.2.2.2.2.1.below (ai H4.out.1 H5.out.1)
 have g:Hid (bM W4 (LB W4) bb s.D/\s.ok/\LB W4 bb):=by
  obtain⟨_,_,_,_,_,_,hP⟩:=ζ;exact⟨hP.Jm,hP.ok,_,_,hP.blk⟩
 clear ζ;refine(GL s.D bb c (LB W4) W4 g.out.1 g.out.2.1.d (JN _) g.out.2.2).mono ?_;intro e w5 he;rcases e with r'|ch|_
 rotate_left
 .exact⟨rfl,he⟩
 .exact he.elim
 obtain⟨rfl,o⟩:=he;obtain⟨W5,P⟩:∃W,W=w5.alloc (.cells (aQ (eG s.D c)) 37):=⟨_,rfl⟩;have Y8:Hid (Below w2.heap.size w2 w5):=ai (ai H4.out.1 H5.out.1) o
 have H6:Hid (Below W4.heap.size W4 W5/\W5.heap[w5.heap.size]? =some (.cells (aQ (eG s.D c)) 37 (0,0))):=by
  rw[P];exact⟨ai o ((aab _ _).alloc (ZL _) _),aae _ _⟩
 have δ:Hid (Below w2.heap.size w2 W5):=ai (ai H4.out.1 H5.out.1) H6.out.1;have Ω:aQ (eG s.D c)= #[.int .i64 (eG s.D c 0),.int .i64 (eG s.D c 1),.int .i64 (eG s.D c 2),.int .i64 (eG s.D c 3)]:=rfl;obtain⟨q7,I⟩:=blk (bJ δ.out H3.out.2.2.1);obtain⟨q9,H⟩:=blk (bJ (ai H5.out.1 H6.out.1) H4.out.2.2);rw[P]at q7 I q9 H;rw[Ω]at P q7 I q9 H⊢;rw[e0,e1,e2]at q9;clear o Ω;go_wp2_with fail;rw[<-P];clear P q7 I q9 H;rw[<-e0,<-e1,<-e2];refine(Dz m z ra y rc _ _ s d W5 (H3.out.2.2.2.1.below δ.out) (λk hk=>au (H4.out.2.1 k hk) (ai H5.out.1 H6.out.1)) H3.out.2.2.2.2.2.1 g.out.2.1).mono ?_;rintro e V ⟨v,rfl,G,rfl,E,XP⟩;obtain⟨g0,c0,Δ⟩:=aj (E 0 (by omega));obtain⟨g1,c1,Γ⟩:=aj (E 1 (by omega));obtain⟨g2,c2,ω⟩:=aj (E 2 (by omega));obtain⟨g3,c3,ψ⟩:=aj (E 3 (by omega));obtain⟨Z,B⟩:∃W,W=V.alloc (.cells #[G 0,G 1,G 2,G 3] 41):=⟨_,rfl⟩
 have H7:Hid (Below W5.heap.size W5 Z/\Z.heap[V.heap.size]? =some (.cells #[G 0,G 1,G 2,G 3] 41 (0,0))/\∀q,q<4->Z.ownsRow W5.heap.size 3 1 (G q) (dL s.D q).length (aT (dL s.D q))/\Z.heap.size=V.heap.size+1):=by
  rw[B];have hb:Below V.heap.size V (V.alloc (.cells #[G 0,G 1,G 2,G 3] 41)):=(aab _ _).alloc (ZL _) _;exact⟨ai XP hb,aae _ _,λq X=>⟨au (E q X) hb,aao _ _⟩⟩
 obtain⟨J,x⟩:=blk (bJ (ai H6.out.1 H7.out.1) H5.out.2);rw[Hc.out.2]at J;rw[B]at J x;rw[Δ,Γ,ω,ψ]at B J x⊢;clear E XP;go_wp2_with fail;rw[<-B];rw[<-B]at J x;clear B J x;obtain⟨Y,O⟩:∃W,W=Z.alloc (.cells (aQ c) 37):=⟨_,rfl⟩
 have H8:Hid (J9 w w1.heap.size w3.heap.size w5.heap.size V.heap.size (V.heap.size+1) #[.slice z m.n y,.slice ra m.r rc,.int .i64 m.p] #[d 0,d 1,d 2] #[G 0,G 1,G 2,G 3] s.D c Y/\Below W5.heap.size W5 Y):=by
  rw[O];have hb:Below Z.heap.size Z (Z.alloc (.cells (aQ c) 37)):=(aab _ _).alloc (ZL _) _;have o:=ai H7.out.1 hb;exact⟨⟨bJ (ai δ.out o) H3.out.2.2.1,bJ (ai (ai H5.out.1 H6.out.1) o) H4.out.2.2,bJ o H6.out.2,bJ hb H7.out.2.1,nX _ _ (H7.out.2.2 0 (by omega)).2.symm⟩,o⟩
 have Zq:Hid (∀wr (mask:Nat),Below Y.heap.size Y wr->mask<16->Calls (patch ae prog) 14 #[.agg #[.slice z m.n y,.slice ra m.r rc,.int .i64 m.p],.agg #[d 0,d 1,d 2],.agg #[G 0,G 1,G 2,G 3],.int .i64 mask] wr λe w'=>e=.returned (.agg (o8 λq=>kU s.D mask q (dL s.D q) (dL s.D q).length))/\Below wr.heap.size wr w'):=λwr mask μ ν=>by
  have η:=ai H8.out.2 μ
  have WK:Below Z.heap.size Z wr:=by
   rw[O]at μ;exact ai ((aab _ _).alloc (ZL _) _) μ
  exact ME m z ra y rc _ _ _ s d G (dL s.D) mask wr (H3.out.2.2.2.1.below (ai δ.out η)) (λk hk=>au (H4.out.2.1 k hk) (ai (ai H5.out.1 H6.out.1) η)) H3.out.2.2.2.2.2.1 g.out.2.1 (λq X=>au (H7.out.2.2 q X).1 WK) (λq X=>⟨ZP (oI g.out.2.1 X).1 (by omega),(oI g.out.2.1 X).2.1⟩) ν
 rw[Hc.out.2]at O;rw[<-O];clear O;have HS:Hid (∀q,q<4->∀mask,((kU s.D mask q (dL s.D q) (dL s.D q).length:Nat):Int)=fM (dz s.D q (dL s.D q)) mask 4):=λq X mask=>MC s.D q mask _ (oI g.out.2.1 X).2.2
 have ZI:Hid (∀q,0<=c q):=λq=>by rw[Hc.out.1];exact Int.natCast_nonneg _
 have Xf:Hid (∀q,q<4->∀mask,kU s.D mask q (dL s.D q) (dL s.D q).length<=24):=λq X mask=>ZP (yU _ _ _ _ _) (oI g.out.2.1 X).1
 go_loopw [14] (λi wr=>∃k:Nat,k<=4/\i=.int .i64 k/\Below Y.heap.size Y wr) (λi _=>4-(intOf i).toNat)
 case atStart=>exact⟨0,by omega,rfl,aab _ _⟩
 case round=>
  obtain⟨k,hk,rfl,V3⟩:=hrel;have HB:=av V3
  by_cases j:k<4
  .have kn:(k:Int)<4:=by omega
   clear V3;go_wp2_with fail
   go_loopw [15,16] (λl M wi=>∃q:Nat,1<=q/\q<=16/\l=.int .i64 (Ao (dz s.D k (dL s.D k)) (c k) q)/\M=.int .i64 q/\(¬0<c k->q=1)/\Below Y.heap.size Y wi) (λ_ M _=>16-(intOf M).toNat)
   case atStart=>exact⟨1,by omega,by omega,rfl,rfl,λ_=>rfl,HB.out⟩
   case round=>
        obtain⟨q,XE,YP,rfl,rfl,A,ο⟩:=hrel;have U:=av ο;have HI:=av (H8.out.1.below ο);have V5:=blk HI.out.Uq;have y13:wr.cell? ⟨V.heap.size+1,k,none⟩=some (.int .i64 (c k)):=(by rw[V5.1];exact mg c j);clear V5 ο
        by_cases f:0<c k
        .by_cases XV:q<16
         .have qn:(q:Int)<16:=by omega
          have XM:c k>0:=f;obtain⟨q7,I⟩:=blk HI.out.k7;obtain⟨q9,H⟩:=blk HI.out.k9;obtain⟨Ψ,Φ⟩:=blk HI.out.VZ;rw[e0,e1,e2]at q9;rw[Δ,Γ,ω,ψ]at Ψ;have WH:=av A;clear A;go_wp2_with fail;rw[<-e0,<-e1,<-e2,<-Δ,<-Γ,<-ω,<-ψ];refine(Zq.out wr q U.out XV).mono ?_;rintro e w8 ⟨rfl,XO⟩;obtain⟨ρ,κ⟩:∃ρ:Nat->Nat,ρ=λq'=>kU s.D q q' (dL s.D q') (dL s.D q').length:=⟨_,rfl⟩
          rw[<-κ];have Θ:Hid (∀i,i<4->ρ i<=24/\((ρ i:Nat):Int)=fM (dz s.D i (dL s.D i)) q 4):=λi hi=>by rw[κ];exact⟨Xf.out i hi q,HS.out i hi q⟩
          clear κ;unfold o8;have Ξ:=av (ai U.out XO);clear XO q7 I q9 H Ψ Φ y13;go_wp2_with fail;obtain⟨W9,τ⟩:∃W,W=(w8.alloc (.cells #[.int .i64 (ρ 0:Nat),.int .i64 (ρ 1:Nat),.int .i64 (ρ 2:Nat),.int .i64 (ρ 3:Nat)] 29)).alloc (.cells #[.int .i64 (ρ 0:Nat),.int .i64 (ρ 1:Nat),.int .i64 (ρ 2:Nat),.int .i64 (ρ 3:Nat)] 37):=⟨_,rfl⟩
          have F:Hid (Below Y.heap.size Y W9/\W9.heap[w8.heap.size+1]? =some (.cells #[.int .i64 (ρ 0:Nat),.int .i64 (ρ 1:Nat),.int .i64 (ρ 2:Nat),.int .i64 (ρ 3:Nat)] 37 (0,0))):=by
           rw[τ];exact⟨(Ξ.out.alloc Ξ.out.size _).alloc (by have:=Ξ.out.size;simp;omega) _,aam _ _ _⟩
          rw[<-τ];clear τ;refine(Ma q XV W9).mono ?_;rintro e Xk ⟨rfl,hw⟩;obtain rfl:=hw.symm;have Zu:W9.cell? ⟨w8.heap.size+1,k,none⟩=some (.int .i64 (ρ k:Nat)):=(show W9.cell? _=_ by rw[(blk F.out.2).1];exact yj ρ j);have y13:W9.cell? ⟨V.heap.size+1,k,none⟩=some (.int .i64 (c k)):=(show W9.cell? _=_ by rw[(blk (H8.out.1.below F.out.1).Uq).1];exact mg c j)
          by_cases R:c k<=(ρ k:Int)
          .have γ:=av R
           have Za:((ρ k:Nat):Int)≥c k:=R
           by_cases h2:Ao (dz s.D k (dL s.D k)) (c k) q=0
           .have χ:=av h2
            clear R;go_wp2_with fail;go_quiet(fail);go_wp2_with fail;go_roundw
            case rel=>exact⟨q+1,by omega,by omega,by show _=Value.int .i64 (if _ then _ else _);rw[if_pos ⟨XE,by rw[<-(Θ.out k j).2];exact γ.out,.inl χ.out⟩],by go_num,λh=>absurd f h,F.out.1.trans ⟨rfl,rfl,rfl,ZL _,λ_ _=>rfl⟩⟩
            case measure=>simp[intOf];omega
           .have ZD:(Ao (dz s.D k (dL s.D k)) (c k) q==0)=false:=beq_eq_false_iff_ne.2 h2
            have χ:=av h2;clear R
            by_cases h3:(pop q:Int)<Ao (dz s.D k (dL s.D k)) (c k) q
            .have φ:=av h3
             go_wp2_with fail;go_quiet(fail);go_wp2_with fail;go_roundw
             case rel=>exact⟨q+1,by omega,by omega,by show _=Value.int .i64 (if _ then _ else _);rw[if_pos ⟨XE,by rw[<-(Θ.out k j).2];exact γ.out,.inr φ.out⟩],by go_num,λh=>absurd f h,F.out.1.trans ⟨rfl,rfl,rfl,ZL _,λ_ _=>rfl⟩⟩
             case measure=>simp[intOf];omega
            .have φ:=av h3
             go_wp2_with fail;go_quiet(fail);go_wp2_with fail;go_roundw
             case rel=>exact⟨q+1,by omega,by omega,by show _=Value.int .i64 (if _ then _ else _);rw[if_neg (λe=>e.2.2.elim χ.out (Int.not_lt.2 φ.out))],by go_num,λh=>absurd f h,F.out.1.trans ⟨rfl,rfl,rfl,ZL _,λ_ _=>rfl⟩⟩
             case measure=>simp[intOf];omega
          .have Za:¬((ρ k:Nat):Int)≥c k:=R
           have ZG:decide (c k<=((ρ k:Nat):Int))=false:=decide_eq_false R;have ZF:decide (((ρ k:Nat):Int)≥c k)=false:=decide_eq_false R;have ZE:((ρ k:Nat):Int)<c k:=(by omega);have γ:=av R;go_wp2_with fail;go_quiet(fail);go_wp2_with fail;go_roundw
           case rel=>exact⟨q+1,by omega,by omega,by show _=Value.int .i64 (if _ then _ else _);rw[if_neg (λe=>by have e1:=e.2.1;rw[<-(Θ.out k j).2]at e1;have e2:=γ.out;omega)],by go_num,λh=>absurd f h,F.out.1.trans ⟨rfl,rfl,rfl,ZL _,λ_ _=>rfl⟩⟩
           case measure=>simp[intOf];omega
         .obtain rfl:q=16:=by omega
          have XM:c k>0:=f;have WH:=av A;clear A
          have t:eG s.D c k=if Ao (dz s.D k (dL s.D k)) (c k) 16=0 then -1 else Ao (dz s.D k (dL s.D k)) (c k) 16:=by
           unfold eG;rw[if_pos f,Lh]
          have θ:wr.cell? ⟨w5.heap.size,k,none⟩=some (.int .i64 (eG s.D c k)):=(by rw[(blk HI.out.Ur).1];exact mg _ j)
          by_cases hF:Ao (dz s.D k (dL s.D k)) (c k) 16=0
          .rw[t,if_pos hF]at θ
           clear t;go_wp2_with fail;go_roundw
           case rel=>exact⟨k+1,by omega,by go_num,U.out⟩
           case measure=>simp[intOf];omega
          .rw[t,if_neg hF]at θ
           have ZC:(Ao (dz s.D k (dL s.D k)) (c k) 16==0)=false:=beq_eq_false_iff_ne.2 hF;clear t;go_wp2_with fail;go_roundw
           case rel=>exact⟨k+1,by omega,by go_num,U.out⟩
           case measure=>simp[intOf];omega
        .obtain rfl:=A f
         have XM:¬c k>0:=f
         have t:eG s.D c k=0:=by
          unfold eG;rw[if_neg f]
         have θ:wr.cell? ⟨w5.heap.size,k,none⟩=some (.int .i64 0):=(by rw[(blk HI.out.Ur).1,mg _ j,t]);have Y0:Ao (dz s.D k (dL s.D k)) (c k) 1=0:=(by simp[Ao]);clear t A;go_wp2_with fail;go_roundw
         case rel=>exact⟨k+1,by omega,by go_num,U.out⟩
         case measure=>simp[intOf];omega
  .have kn:¬(k:Int)<4:=by omega
   go_wp2_with fail;go_ret;rfl
end Z
section
open Go Go.Conc
namespace Jp
def rt:Nat:=3
def Xz:List Nat:=[8,9,10,11,12,13,14,15,16,21,24,33,35,36,39,40,41,43,44,45,46,47,48,51,52,53,54,55,56,57,58,60,61,64,65,66,67,72,75,76]
def Xy:List Nat:=[77,78,79,80,81,82,83,84,85,86,87,89,90,91,93,94,95,102,117,119,126,127,128,129,130,131,132,133,134,135,136,137,138,139,140,146,148,149,150,157]
def Xx:List Nat:=[163,164,166,168,169,170,171,172,180,181,192,193,194,195,196,197,198,204,212,214,215,216,217,218,219,220,221,222,223,224,225,226,251,252,253,254,255,256,277,304]
def Xw:List Nat:=[320]
def lD:List Nat:=Xz++(Xy++(Xx++(Xw)))
def lW:List Nat:=[71,73,116,118,120]
def tK:iG:={fns:=lD++RD,sp:=RD,mark:=λ_=>false,sg:=id,root:=rt,rt:=1000000,jh:=true,dd:=[],kd:=.normal,pv:=λ_=>false,okF:=λ_ _=>True,gl:=Uw,ext:=Lp,hx:=[147],rx:=[309],ID:=true,sd:=false,bare:=true,Oa:=λ_ _=>rfl}
def qA:iG:={fns:=(rt::(lD++(lW++RE)))++OD,sp:=OD,mark:=λ_=>false,sg:=id,root:=1000000,rt:=0,jh:=false,dd:=[],kd:=.normal,pv:=λ_=>false,okF:=λ_ _=>True,gl:=Uw,ext:=Lp,hx:=[147],rx:=[309],ID:=true,sd:=true}
theorem PY:j6 tK:=⟨λ_ _=>rfl,λ_=>rfl,λ_=>rfl,λ_=>rfl,λ_ h=>Bool.noConfusion h,λ_ _ _ _ _=>trivial,λ_ _ _ _ _ _ _ _ _=>trivial⟩
theorem PZ:j6 qA:=⟨λ_ _=>rfl,λ_=>rfl,λ_=>rfl,λ_=>rfl,λ_ h=>Bool.noConfusion h,λ_ _ _ _ _=>trivial,λ_ _ _ _ _ _ _ _ _=>trivial⟩
theorem pt {g}{fn}(h:prog.funcs[g]? =some fn)(k:(!(g==42||g==69||g==88||ae.contains g)&&(okB tK (patch ae prog) g fn&&okB qA (patch ae prog) g fn))=true):PB tK (patch ae prog) prog g/\PB qA (patch ae prog) (patch ae prog) g:=by
 rw[ZQ,ZQ,Bool.not_eq_true']at k;exact⟨KR (pf h k.1) h k.2.1,KR (pf h k.1) (pf h k.1) k.2.2⟩
theorem pw {g}{fn}(h:prog.funcs[g]? =some fn)(k:(!(g==42||g==69||g==88||ae.contains g)&&okB qA (patch ae prog) g fn)=true):PB qA (patch ae prog) (patch ae prog) g:=by
 rw[ZQ,Bool.not_eq_true']at k;exact KR (pf h k.1) (pf h k.1) k.2
theorem Yd:∀g∈Xz,PB tK (patch ae prog) prog g/\PB qA (patch ae prog) (patch ae prog) g:=
 all_cons (pt func8 (by kernel_rfl))<|
 all_cons (pt func9 (by kernel_rfl))<|
 all_cons (pt func10 (by kernel_rfl))<|
 all_cons (pt func11 (by kernel_rfl))<|
 all_cons (pt func12 (by kernel_rfl))<|
 all_cons (pt func13 (by kernel_rfl))<|
 all_cons (pt func14 (by kernel_rfl))<|
 all_cons (pt func15 (by kernel_rfl))<|
 all_cons (pt func16 (by kernel_rfl))<|
 all_cons (pt func21 (by kernel_rfl))<|
 all_cons (pt func24 (by kernel_rfl))<|
 all_cons (pt func33 (by kernel_rfl))<|
 all_cons (pt func35 (by kernel_rfl))<|
 all_cons (pt func36 (by kernel_rfl))<|
 all_cons (pt func39 (by kernel_rfl))<|
 all_cons (pt func40 (by kernel_rfl))<|
 all_cons (pt func41 (by kernel_rfl))<|
 all_cons (pt func43 (by kernel_rfl))<|
 all_cons (pt func44 (by kernel_rfl))<|
 all_cons (pt func45 (by kernel_rfl))<|
 all_cons (pt func46 (by kernel_rfl))<|
 all_cons (pt func47 (by kernel_rfl))<|
 all_cons (pt func48 (by kernel_rfl))<|
 all_cons (pt func51 (by kernel_rfl))<|
 all_cons (pt func52 (by kernel_rfl))<|
 all_cons (pt func53 (by kernel_rfl))<|
 all_cons (pt func54 (by kernel_rfl))<|
 all_cons (pt func55 (by kernel_rfl))<|
 all_cons (pt func56 (by kernel_rfl))<|
 all_cons (pt func57 (by kernel_rfl))<|
 all_cons (pt func58 (by kernel_rfl))<|
 all_cons (pt func60 (by kernel_rfl))<|
 all_cons (pt func61 (by kernel_rfl))<|
 all_cons (pt func64 (by kernel_rfl))<|
 all_cons (pt func65 (by kernel_rfl))<|
 all_cons (pt func66 (by kernel_rfl))<|
 all_cons (pt func67 (by kernel_rfl))<|
 all_cons (pt func72 (by kernel_rfl))<|
 all_cons (pt func75 (by kernel_rfl))<|
 all_cons (pt func76 (by kernel_rfl))<|
 all_nil
theorem Yc:∀g∈Xy,PB tK (patch ae prog) prog g/\PB qA (patch ae prog) (patch ae prog) g:=
 all_cons (pt func77 (by kernel_rfl))<|
 all_cons (pt func78 (by kernel_rfl))<|
 all_cons (pt func79 (by kernel_rfl))<|
 all_cons (pt func80 (by kernel_rfl))<|
 all_cons (pt func81 (by kernel_rfl))<|
 all_cons (pt func82 (by kernel_rfl))<|
 all_cons (pt func83 (by kernel_rfl))<|
 all_cons (pt func84 (by kernel_rfl))<|
 all_cons (pt func85 (by kernel_rfl))<|
 all_cons (pt func86 (by kernel_rfl))<|
 all_cons (pt func87 (by kernel_rfl))<|
 all_cons (pt func89 (by kernel_rfl))<|
 all_cons (pt func90 (by kernel_rfl))<|
 all_cons (pt func91 (by kernel_rfl))<|
 all_cons (pt func93 (by kernel_rfl))<|
 all_cons (pt func94 (by kernel_rfl))<|
 all_cons (pt func95 (by kernel_rfl))<|
 all_cons (pt func102 (by kernel_rfl))<|
 all_cons (pt func117 (by kernel_rfl))<|
 all_cons (pt func119 (by kernel_rfl))<|
 all_cons (pt func126 (by kernel_rfl))<|
 all_cons (pt func127 (by kernel_rfl))<|
 all_cons (pt func128 (by kernel_rfl))<|
 all_cons (pt func129 (by kernel_rfl))<|
 all_cons (pt func130 (by kernel_rfl))<|
 all_cons (pt func131 (by kernel_rfl))<|
 all_cons (pt func132 (by kernel_rfl))<|
 all_cons (pt func133 (by kernel_rfl))<|
 all_cons (pt func134 (by kernel_rfl))<|
 all_cons (pt func135 (by kernel_rfl))<|
 all_cons (pt func136 (by kernel_rfl))<|
 all_cons (pt func137 (by kernel_rfl))<|
 all_cons (pt func138 (by kernel_rfl))<|
 all_cons (pt func139 (by kernel_rfl))<|
 all_cons (pt func140 (by kernel_rfl))<|
 all_cons (pt func146 (by kernel_rfl))<|
 all_cons (pt func148 (by kernel_rfl))<|
 all_cons (pt func149 (by kernel_rfl))<|
 all_cons (pt func150 (by kernel_rfl))<|
 all_cons (pt func157 (by kernel_rfl))<|
 all_nil
theorem Yb:∀g∈Xx,PB tK (patch ae prog) prog g/\PB qA (patch ae prog) (patch ae prog) g:=
 all_cons (pt func163 (by kernel_rfl))<|
 all_cons (pt func164 (by kernel_rfl))<|
 all_cons (pt func166 (by kernel_rfl))<|
 all_cons (pt func168 (by kernel_rfl))<|
 all_cons (pt func169 (by kernel_rfl))<|
 all_cons (pt func170 (by kernel_rfl))<|
 all_cons (pt func171 (by kernel_rfl))<|
 all_cons (pt func172 (by kernel_rfl))<|
 all_cons (pt func180 (by kernel_rfl))<|
 all_cons (pt func181 (by kernel_rfl))<|
 all_cons (pt func192 (by kernel_rfl))<|
 all_cons (pt func193 (by kernel_rfl))<|
 all_cons (pt func194 (by kernel_rfl))<|
 all_cons (pt func195 (by kernel_rfl))<|
 all_cons (pt func196 (by kernel_rfl))<|
 all_cons (pt func197 (by kernel_rfl))<|
 all_cons (pt func198 (by kernel_rfl))<|
 all_cons (pt func204 (by kernel_rfl))<|
 all_cons (pt func212 (by kernel_rfl))<|
 all_cons (pt func214 (by kernel_rfl))<|
 all_cons (pt func215 (by kernel_rfl))<|
 all_cons (pt func216 (by kernel_rfl))<|
 all_cons (pt func217 (by kernel_rfl))<|
 all_cons (pt func218 (by kernel_rfl))<|
 all_cons (pt func219 (by kernel_rfl))<|
 all_cons (pt func220 (by kernel_rfl))<|
 all_cons (pt func221 (by kernel_rfl))<|
 all_cons (pt func222 (by kernel_rfl))<|
 all_cons (pt func223 (by kernel_rfl))<|
 all_cons (pt func224 (by kernel_rfl))<|
 all_cons (pt func225 (by kernel_rfl))<|
 all_cons (pt func226 (by kernel_rfl))<|
 all_cons (pt func251 (by kernel_rfl))<|
 all_cons (pt func252 (by kernel_rfl))<|
 all_cons (pt func253 (by kernel_rfl))<|
 all_cons (pt func254 (by kernel_rfl))<|
 all_cons (pt func255 (by kernel_rfl))<|
 all_cons (pt func256 (by kernel_rfl))<|
 all_cons (pt func277 (by kernel_rfl))<|
 all_cons (pt func304 (by kernel_rfl))<|
 all_nil
theorem Ya:∀g∈Xw,PB tK (patch ae prog) prog g/\PB qA (patch ae prog) (patch ae prog) g:=
 all_cons (pt func320 (by kernel_rfl))<|
 all_nil
theorem Xo:∀g∈lD,PB tK (patch ae prog) prog g/\PB qA (patch ae prog) (patch ae prog) g:=rU Yd (rU Yc (rU Yb (Ya)))
theorem Yg:∀g∈lD,PB tK (patch ae prog) prog g:=λg a=>(Xo g a).1
theorem Wt:∀g∈lW,PB qA (patch ae prog) (patch ae prog) g:=
 all_cons (pw func71 (by kernel_rfl))<|
 all_cons (pw func73 (by kernel_rfl))<|
 all_cons (pw func116 (by kernel_rfl))<|
 all_cons (pw func118 (by kernel_rfl))<|
 all_cons (pw func120 (by kernel_rfl))<|
 all_nil
theorem Wu:∀g∈RE,PB qA (patch ae prog) (patch ae prog) g:=
 all_cons ⟨_,_,sK,by kernel_rfl,jK,sK,by kernel_rfl⟩<|
 all_cons ⟨_,_,jq,by kernel_rfl,kr,jq,by kernel_rfl⟩<|
 all_cons ⟨_,_,AX,by kernel_rfl,lh,AX,by kernel_rfl⟩<|
 all_cons ⟨_,_,pS func62 ⟨rfl,rfl⟩,by kernel_rfl,rfl,pS func62 ⟨rfl,rfl⟩,by kernel_rfl⟩<|
 all_cons ⟨_,_,pS func63 ⟨rfl,rfl⟩,by kernel_rfl,rfl,pS func63 ⟨rfl,rfl⟩,by kernel_rfl⟩<|
 all_nil
theorem Yh:∀g∈rt::(lD++(lW++RE)),PB qA (patch ae prog) (patch ae prog) g:=all_cons (pw func3 (by kernel_rfl)) (rU (λg a=>(Xo g a).2) (rU Wt Wu))
theorem Wn:∀g∈RD,PS (patch ae prog) prog g:=
 all_cons O'<|all_cons Q8<|
 all_cons ⟨_,_,_,pS func62 ⟨rfl,rfl⟩,by kernel_rfl,rfl,func62,by kernel_rfl,by kernel_rfl⟩<|
 all_cons ⟨_,_,_,pS func63 ⟨rfl,rfl⟩,by kernel_rfl,rfl,func63,by kernel_rfl,by kernel_rfl⟩<|
 all_nil
theorem OU:∀g∈ae,∃f',(patch ae prog).funcs[g]? =some (shut f'):=
 all_cons ⟨_,pS func62 ⟨rfl,rfl⟩⟩<|
 all_cons ⟨_,pS func63 ⟨rfl,rfl⟩⟩<|
 all_nil
theorem sJ:aH tK (patch ae prog) prog:=
 aH.of PY PE Q6 NF (λg a=>by
  have h:(dS.all λg=>(lD++RD).contains g)=true:=by kernel_rfl
  have:=ZU.1 h g a;exact List.mem_of_elem_eq_true this) lD (λg=>List.mem_append) (λg a hl=>by
  have b:(RD.all λg=> !lD.contains g)=true:=by kernel_rfl
  have:=ZU.1 b g a;simp[hl]at this) (λg a e=>by
  have c:g=rt:=e;subst c;exact absurd a (of_decide_eq_true (show decide (¬rt∈lD)=true by kernel_rfl))) Yg Wn
theorem xG:aH qA (patch ae prog) (patch ae prog):=
 aH.of PZ NM O4 Le (λg a=>by
  have h:(dS.all λg=>((rt::(lD++(lW++RE)))++OD).contains g)=true:=by kernel_rfl
  have:=ZU.1 h g a;exact List.mem_of_elem_eq_true this) (rt::(lD++(lW++RE))) (λg=>List.mem_append) (λg a hl=>by
  have b:(OD.all λg=> !(rt::(lD++(lW++RE))).contains g)=true:=by kernel_rfl
  have:=ZU.1 b g a;simp[hl]at this) (λg a e=>by
  have c:g=1000000:=e;subst c;exact absurd a (of_decide_eq_true (show decide (¬1000000∈rt::(lD++(lW++RE)))=true by kernel_rfl))) Yh Wo
theorem KG:∃c,Func.body Tryz.f3=some c/\bA tK (patch ae prog) rt c=true/\uq tK c=c/\(∃k,Func.results Tryz.f3= #[.tmp k]):=⟨_,rfl,by kernel_rfl,by kernel_rfl,_,rfl⟩
theorem Us:QM tK qA rt Tryz.f3:=
 {sJ:=sJ,xG:=xG,sp:=rfl,Qt:=rfl,sd:=rfl,root:=rfl,rt:=rfl,mark:=λ_=>rfl,QB:=λ_=>rfl,gl:=rfl,XX:=rfl,okF:=λ_ _=>trivial,V6:=rfl,dd:=rfl,kd:=rfl,pv:=λ_=>rfl,X0:=rfl,XZ:=rfl,XA:=rfl,
  init:=by kernel_rfl,Sk:=by kernel_rfl,Uk:=by kernel_rfl,Xv:=by kernel_rfl,Xu:=by kernel_rfl,Xt:=by kernel_rfl,pr:=pf func3 (by rfl),ar:=func3,body:=KG,ntmps:=of_decide_eq_true (by kernel_rfl)}
end Jp
end
