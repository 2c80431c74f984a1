/- Whole answers true and leaves its input as it was, for every input of bulk at most the bound of its row. -/
import Derived.Test.YtfpaamhppamcoaaGreatDoorWh13
import Derived.LaidMore
import Derived.Test.YtfpaamhppamcoaaGreatDoorCards
import Derived.Lib.LaidU8T
import Derived.PinnedBridge
import Derived.Stop.LaidErr
set_option linter.all false
set_option maxRecDepth 100000
set_option maxHeartbeats 60000000
namespace Go.Proofs.YtfpaamhppamcoaaGreatDoor
open Go.Proofs.Tryz
namespace Z
open Go.RowKit
attribute [local go_sem ↓] Go.wp_at_zero Go.wp_at_succ
attribute [local go_sem] After.cell After.frozen After.const
def ab3 (M:cz)(so:Option Addr)(n cap:Nat)(T:Nat->eU)(r:Nat->Int)(a:Addr)(w:World)(hM:M.At w)(V2:∀i,i<M.n->In64 (M.S i)/\In64 (M.C i))(hp:In64 M.p)(hT:DL w so n cap T)(hr:∀i,i<4->In64 (r i))
 (hG:w.cell? ⟨0,0,none⟩=some (.iface 345 (.pointer (some a)))):
 adO 4 #[M.val,.slice so n cap,.agg #[.int .i64 (r 0),.int .i64 (r 1),.int .i64 (r 2),.int .i64 (r 3)]] w (RJ (λv _=>v=.bool true) AA):=by
 have HT:=av (aaa hT hG);have Hr:=av hr;have Zr:Hid (∀u,adN w u->adO 8 #[M.val] u λe w'=>∃m t g ra rc,e=.returned (.agg #[.slice t m.n g,.slice ra m.r rc,.int .i64 m.p])/\kX w' u.heap.size m (.slice t m.n g) (.slice ra m.r rc)/\adN u w'):=λu hu=>CV M u (hM.ext hu) V2 hp
 clear hM V2 hp hT hG hr;unfold cz.val at*
 go_enter (pf func4 (by rfl)),ntmps4
 go_wp2_with fail;have hB0:Hid (adN w ((w.alloc (.cells #[.slice M.ao M.n M.cap,.slice M.ro M.r M.gD,.int .i64 M.p] 25)).alloc (.cells #[.int .i64 (r 0),.int .i64 (r 1),.int .i64 (r 2),.int .i64 (r 3)] 29 (0,0)))/\((w.alloc (.cells #[.slice M.ao M.n M.cap,.slice M.ro M.r M.gD,.int .i64 M.p] 25)).alloc (.cells #[.int .i64 (r 0),.int .i64 (r 1),.int .i64 (r 2),.int .i64 (r 3)] 29 (0,0))).heap[w.heap.size+1]? =some (.cells #[.int .i64 (r 0),.int .i64 (r 1),.int .i64 (r 2),.int .i64 (r 3)] 29 (0,0))):=⟨((aab _ _).alloc (ZL _) _).alloc (by simp) _,aam _ _ _⟩;refine(Zr.out _ hB0.out.1).mono ?_;rintro e w1 ⟨m,t,g,ra,rc,rfl,acy,hb1⟩;have H1:=av (aaa acy (aaa (ai hB0.out.1 hb1) (bJ hb1 hB0.out.2)));clear acy hb1 hB0;go_wp2_with fail;obtain⟨W1,hW1⟩:∃W,W=w1.alloc (.cells #[.slice t m.n g,.slice ra m.r rc,.int .i64 m.p] 25 (0,0)):=⟨_,rfl⟩
 have H2:Hid (adN w W1/\W1.heap[w.heap.size+1]? =some (.cells #[.int .i64 (r 0),.int .i64 (r 1),.int .i64 (r 2),.int .i64 (r 3)] 29 (0,0))/\W1.heap[w1.heap.size]? =some (.cells #[.slice t m.n g,.slice ra m.r rc,.int .i64 m.p] 25 (0,0))/\kX W1 (w.heap.size+2) m (.slice t m.n g) (.slice ra m.r rc)):=by
  rw[hW1];have hb:adN w1 (w1.alloc (.cells #[.slice t m.n g,.slice ra m.r rc,.int .i64 m.p] 25 (0,0))):=(aab _ _).alloc (ZL _) _;refine⟨ai H1.out.2.1 hb,bJ hb H1.out.2.2,aae _ _,?_⟩;have:=H1.out.1.below hb;simpa using this
 rw[<-hW1];clear hW1;refine(Hu m t ra so g rc _ n cap T a W1 H2.out.2.2.2 (HT.out.1.below H2.out.1) (keeps H2.out.1 HT.out.2)).mono ?_;intro e w2 he;rcases e with r'|ch|_
 rotate_left
 .exact⟨rfl,he⟩
 .exact he.elim
 obtain⟨base,bb,s0,K,rfl,γ,z,N,Ξ⟩:=he;have ψ:∀b,b<W1.heap.size->K b=0:=λb hb=>z.zero (ZO hb γ)
 obtain⟨mo,hmo⟩:∃o:Obj,o=.cells #[.slice t m.n g,.slice ra m.r rc,.int .i64 m.p] 25 (0,0):=⟨_,rfl⟩;have Bmo:Hid (∀(u:World) b,u.heap[b]? =some mo->∀j,u.cell? ⟨b,j,none⟩=(#[.slice t m.n g,.slice ra m.r rc,.int .i64 m.p]:Array Value)[j]?):=λu b h=>(blk (h.trans (congrArg some hmo))).1
 obtain⟨ro,hro⟩:∃o:Obj,o=.cells #[.int .i64 (r 0),.int .i64 (r 1),.int .i64 (r 2),.int .i64 (r 3)] 29 (0,0):=⟨_,rfl⟩;have Bro:Hid (∀(u:World) b,u.heap[b]? =some ro->∀j,u.cell? ⟨b,j,none⟩=(#[.int .i64 (r 0),.int .i64 (r 1),.int .i64 (r 2),.int .i64 (r 3)]:Array Value)[j]?):=λu b h=>(blk (h.trans (congrArg some hro))).1
 have H3:Hid (adN w w2/\Kp w2 K [(w1.heap.size,mo),(w.heap.size+1,ro)]/\kX w2 (w.heap.size+2) m (.slice t m.n g) (.slice ra m.r rc)/\(∀b,(Value.slice t m.n g).ownBlock=some b\/(Value.slice ra m.r rc).ownBlock=some b->K b=0)/\Bd w2 base bb s0 K/\s0.m=m/\pR s0 (eO m T n)/\s0.inv/\s0.no<=400000000/\w.heap.size<=base):=by
  have k1:=(ZK.1 H2.out.2.1).1;have k2:=(ZK.1 H2.out.2.2.1).1;refine⟨ai H2.out.1 Ξ,?_,H2.out.2.2.2.below Ξ,?_,z,N.keeps.1,N.told,N.inv H2.out.2.2.2.ok,by have:=N.keeps.2;have:=HT.out.1.many;omega,ZP H2.out.1.size γ⟩
  .intro p hp
   simp only[ZW,adm,or_false]at hp;rcases hp with rfl|rfl
   .exact⟨by rw[hmo];exact bJ Ξ H2.out.2.2.1,ψ _ k2⟩
   .exact⟨by rw[hro];exact bJ Ξ H2.out.2.1,ψ _ k1⟩
  .rintro b (hb|hb)
   .exact ψ b (H2.out.2.2.2.dA.lt b hb).2
   .exact ψ b (H2.out.2.2.2.res.lt b hb).2
 clear z N Ξ γ ψ hmo hro;go_wp2_with fail;refine(IM base bb (-1) s0 K w2 H3.out.2.2.2.2.1 (by unfold In64;omega)).mono ?_;rintro e w3 ⟨rfl,z,E⟩;obtain⟨s,hs⟩:∃s,s=s0.IP (-1):=⟨_,rfl⟩;rw[<-hs]at z;have β:0<base:=by have h1:=aan HT.out.2;have h2:=H3.out.2.2.2.2.2.2.2.2.2;exact ZO h1 h2
 have HS:Hid (s.inv/\s.m=m/\pR s (eO m T n)/\s.no<=400000000/\s.fl=false):=by
  subst hs;exact⟨H3.out.2.2.2.2.2.2.2.1.IP _,H3.out.2.2.2.2.2.1,⟨H3.out.2.2.2.2.2.2.1.dn,H3.out.2.2.2.2.2.2.1.dN,H3.out.2.2.2.2.2.2.1.dH⟩,H3.out.2.2.2.2.2.2.2.2.1,rfl⟩
 have H4:Hid (Bd w3 base bb s K/\adN w w3/\Kp w3 K [(w1.heap.size,mo),(w.heap.size+1,ro)]/\(kX w3 (w.heap.size+2) m (.slice t m.n g) (.slice ra m.r rc)/\∀b,(Value.slice t m.n g).ownBlock=some b\/(Value.slice ra m.r rc).ownBlock=some b->K b=0)/\w3.cell? ⟨0,0,none⟩=some (.iface 345 (.pointer (some a)))):=
  ⟨z,H3.out.1.trans (E.below H3.out.1.size λb hb=>H3.out.2.2.2.2.1.zero (ZO hb H3.out.2.2.2.2.2.2.2.2.2)),H3.out.2.1.aaq E,H3.out.2.2.1.aaq E H3.out.2.2.2.1,aaH H3.out.2.2.2.2.1 β (keeps H3.out.1 HT.out.2) E⟩
 clear z E hs;go_wp2_with fail;refine(Ij m so n cap T w3 (HT.out.1.below H4.out.2.1)).mono ?_;rintro e w4 ⟨v,rfl,d,rfl,χ,Θ⟩
 have f:∀k,k<3->w4.ownsRow w3.heap.size 75 2 (d k) (s.dn k) (rO s k):=λk hk=>by
  have h1:=χ k hk;have h2:=HS.out.2.2.1.dv k;rw[h2.1,h2.2]at h1;exact h1
 obtain⟨a0,k0,e0⟩:=aj (f 0 (by omega));obtain⟨a1,k1,e1⟩:=aj (f 1 (by omega));obtain⟨a2,k2,e2⟩:=aj (f 2 (by omega));rw[e0,e1,e2];obtain⟨W4,hW4⟩:∃W,W=w4.alloc (.cells #[.slice a0 (s.dn 0) k0,.slice a1 (s.dn 1) k1,.slice a2 (s.dn 2) k2] 34 (0,0)):=⟨_,rfl⟩;obtain⟨dO,hdO⟩:∃o:Obj,o=.cells #[.slice a0 (s.dn 0) k0,.slice a1 (s.dn 1) k1,.slice a2 (s.dn 2) k2] 34 (0,0):=⟨_,rfl⟩;have BdO:Hid (∀(u:World) b,u.heap[b]? =some dO->∀j,u.cell? ⟨b,j,none⟩=(#[.slice a0 (s.dn 0) k0,.slice a1 (s.dn 1) k1,.slice a2 (s.dn 2) k2]:Array Value)[j]?):=λu b h=>(blk (h.trans (congrArg some hdO))).1
 have H5:Hid (Bd W4 base bb s K/\dJ w3 W4 K K/\Kp W4 K [(w4.heap.size,dO),(w1.heap.size,mo),(w.heap.size+1,ro)]/\∀k,k<3->W4.ownsRow w3.heap.size 75 2 (d k) (s.dn k) (rO s k)):=by
  rw[hW4,hdO];have hb:adN w4 (w4.alloc (.cells #[.slice a0 (s.dn 0) k0,.slice a1 (s.dn 1) k1,.slice a2 (s.dn 2) k2] 34 (0,0))):=(aab _ _).alloc (ZL _) _;exact⟨(H4.out.1.below Θ).alloc _,(dJ.fq Θ).alloc _,(H4.out.2.2.1.aaq (dJ.fq Θ)).alloc (H4.out.1.fresh Θ.size),λk hk=>au (f k hk) hb⟩
 clear χ f Θ hdO;go_wp2_with fail;rw[<-hW4];clear hW4;refine(aaY base bb s K W4 H5.out.1).mono ?_;rintro e w5 ⟨v5,l,rfl,y,U,hb5⟩;obtain⟨lo,lc,rfl⟩:=aj y.row;have H6:Hid (Bd w5 base bb s K/\adN W4 w5/\aar w5 W4.heap.size (.slice lo l.length lc) l/\l5 s.bs l):=⟨H5.out.1.below hb5,hb5,y,U⟩;clear y U hb5;go_wp2_with fail;refine(aaX base bb s K w5 H6.out.1).mono ?_;rintro e w6 ⟨A,C,rfl,hf6,Δ⟩;obtain⟨L,hL⟩:∃L,L=gq s.D:=⟨_,rfl⟩;rw[<-hL]at hf6⊢;have HL:=av hL;clear hL;obtain⟨W6,Ω⟩:∃W,W=w6.alloc (aaF A C L):=⟨_,rfl⟩
 have H7:Hid (WhI m (.slice t m.n g) (.slice ra m.r rc) (w.heap.size+2) w3.heap.size W4.heap.size w5.heap.size s d (.slice lo l.length lc) l A C L K W6/\Kp W6 K [(w6.heap.size,aaF A C L),(w4.heap.size,dO),(w1.heap.size,mo),(w.heap.size+1,ro)]/\Bd W6 base bb s K/\dJ w3 W6 K K):=by
  rw[Ω];have hb:=ai H6.out.2.1 Δ;have ho:dJ w3 w6 K K:=H5.out.2.1.trans (dJ.fq hb);obtain⟨m1,m2⟩:=H4.out.2.2.2.1.1.aaq ho H4.out.2.2.2.1.2;refine⟨WhI.alloc ⟨m1,m2,λk hk=>au (H5.out.2.2.2 k hk) hb,λk hk b hb=>H4.out.1.fresh ((H5.out.2.2.2 k hk).lt b hb).1,H6.out.2.2.1.below Δ,λb hb=>H5.out.1.fresh (H6.out.2.2.1.row.lt b hb).1,λx hx q hq b hb=>H5.out.1.fresh ((H6.out.2.2.1.rows x hx q hq).lt b hb).1,λq hq=>⟨hf6 q hq,λb hb=>H6.out.1.fresh ((hf6 q hq).lt b hb).1⟩⟩ _,(H5.out.2.2.1.aaq (dJ.fq hb)).alloc (H6.out.1.fresh Δ.size),(H6.out.1.below Δ).alloc _,ho.alloc _⟩
 clear hf6 Δ;unfold aaI;have q7:=Bmo.out _ _ H7.out.2.1.tail.tail.head;rw[Ω]at q7;unfold aaF at Ω q7;go_wp2_with fail;rw[<-Ω];clear Ω q7;have HFL:Hid (aay m l/\l.length<=12/\l.length=s.bs.length):=⟨by have:=HS.out.1.fine.l.alike H6.out.2.2.2;rw[HS.out.2.1]at this;exact this,by rw[<-H6.out.2.2.2.1];exact HS.out.1.many,H6.out.2.2.2.1.symm⟩;refine(abM m t ra g rc _ _ l W6 H7.out.1.mr H7.out.1.bx.l HFL.out.1 HFL.out.2.1).mono ?_;rintro e w7 ⟨rfl,Γ⟩;have H8:Hid (WhI m (.slice t m.n g) (.slice ra m.r rc) (w.heap.size+2) w3.heap.size W4.heap.size w5.heap.size s d (.slice lo l.length lc) l A C L K w7/\Kp w7 K [(w6.heap.size,aaF A C L),(w4.heap.size,dO),(w1.heap.size,mo),(w.heap.size+1,ro)]/\Bd w7 base bb s K/\dJ w3 w7 K K):=⟨H7.out.1.below Γ,H7.out.2.1.aaq (dJ.fq Γ),H7.out.2.2.1.below Γ,H7.out.2.2.2.trans (dJ.fq Γ)⟩;clear Γ;have q7:=Bmo.out _ _ H8.out.2.1.tail.tail.head;have q9:=BdO.out _ _ H8.out.2.1.tail.head;obtain⟨υ,_⟩:=blk (show w7.heap[w6.heap.size]? =some (.cells #[.slice (A 0) (L 0).length (C 0),.slice (A 1) (L 1).length (C 1),.slice (A 2) (L 2).length (C 2),.slice (A 3) (L 3).length (C 3)] 41 (0,0))from H8.out.2.1.head);go_wp2_with fail;rw[<-e0,<-e1,<-e2];have HP:=aaL m t ra g rc _ _ s d _ l A C w7 H8.out.1.mr H8.out.1.dr HS.out.2.1 (let ⟨_,_,_,_,_,_,hP⟩:=H8.out.2.2.1;hP.ok) HS.out.1.fine H8.out.1.bx.l H6.out.2.2.2 (by rw[<-HL.out];exact H8.out.1.gr.aaM);rw[<-HL.out]at HP;refine HP.mono ?_;rintro e w8 ⟨rfl,ω⟩;rw[e0,e1,e2];have H9:Hid (WhI m (.slice t m.n g) (.slice ra m.r rc) (w.heap.size+2) w3.heap.size W4.heap.size w5.heap.size s d (.slice lo l.length lc) l A C L K w8/\Kp w8 K [(w6.heap.size,aaF A C L),(w4.heap.size,dO),(w1.heap.size,mo),(w.heap.size+1,ro)]/\Bd w8 base bb s K/\dJ w3 w8 K K):=⟨H8.out.1.below ω,H8.out.2.1.aaq (dJ.fq ω),H8.out.2.2.1.below ω,H8.out.2.2.2.trans (dJ.fq ω)⟩;clear ω HP q7 q9 υ;have qr:=Bro.out _ _ H9.out.2.1.tail.tail.tail.head;go_wp2_with fail;refine(EO r w8 Hr.out).mono ?_;rintro e w9 ⟨rfl,ξ⟩;obtain⟨W9,hW9⟩:∃W,W=w9.alloc (.cells #[.int .i64 (dD r 0:Nat),.int .i64 (dD r 1:Nat),.int .i64 (dD r 2:Nat),.int .i64 (dD r 3:Nat)] 29 (0,0)):=⟨_,rfl⟩;obtain⟨nO,hnO⟩:∃o:Obj,o=.cells #[.int .i64 (dD r 0:Nat),.int .i64 (dD r 1:Nat),.int .i64 (dD r 2:Nat),.int .i64 (dD r 3:Nat)] 29 (0,0):=⟨_,rfl⟩;have BnO:Hid (∀(u:World) b,u.heap[b]? =some nO->∀j,u.cell? ⟨b,j,none⟩=(#[.int .i64 (dD r 0:Nat),.int .i64 (dD r 1:Nat),.int .i64 (dD r 2:Nat),.int .i64 (dD r 3:Nat)]:Array Value)[j]?):=λu b h=>(blk (h.trans (congrArg some hnO))).1
 have H10:Hid (WhI m (.slice t m.n g) (.slice ra m.r rc) (w.heap.size+2) w3.heap.size W4.heap.size w5.heap.size s d (.slice lo l.length lc) l A C L K W9/\Kp W9 K [(w9.heap.size,nO),(w6.heap.size,aaF A C L),(w4.heap.size,dO),(w1.heap.size,mo),(w.heap.size+1,ro)]/\Bd W9 base bb s K/\dJ w3 W9 K K):=by
  rw[hW9,hnO];exact⟨(H9.out.1.below ξ).alloc _,(H9.out.2.1.aaq (dJ.fq ξ)).alloc (H9.out.2.2.1.fresh ξ.size),(H9.out.2.2.1.below ξ).alloc _,(H9.out.2.2.2.trans (dJ.fq ξ)).alloc _⟩
 clear ξ qr hnO;go_wp2_with fail;rw[<-hW9];clear hW9;have hno:=HS.out.2.2.2.1;refine(LX base bb s K aaE (λi=>((dD r i:Nat):Int)) a W9 H10.out.2.2.1 (by decide) (by omega) (aaH H4.out.1 β H4.out.2.2.2.2 H10.out.2.2.2) β).mono ?_;intro e τ he;rcases e with r'|ch|_
 rotate_left
 .exact⟨rfl,he⟩
 .exact he.elim
 obtain⟨s',K',θ,z,E⟩:=he;have hnt:=ab9 HS.out.1 (nm:=aaE) (by decide);obtain⟨code,A1,C1,Y,zz,rfl,hg1,hwe⟩:=abR θ (ab8 r) (λk=>by have:=k.1;rw[HS.out.2.2.2.2]at this;cases this) HS.out.1 hnt;have HW:=av hwe;have HA:=av (hwe.all HS.out.1);unfold aaI;obtain⟨G,κ⟩:∃W,W=τ.alloc (aaF A1 C1 Y):=⟨_,rfl⟩
 have J:Hid (WhI m (.slice t m.n g) (.slice ra m.r rc) (w.heap.size+2) w3.heap.size W4.heap.size w5.heap.size s d (.slice lo l.length lc) l A C L K' G/\Kp G K' [(τ.heap.size,aaF A1 C1 Y),(w9.heap.size,nO),(w6.heap.size,aaF A C L),(w4.heap.size,dO),(w1.heap.size,mo),(w.heap.size+1,ro)]/\Bd G base bb s' K'/\dJ w3 G K K'/\GrO G K' zz A1 C1 Y):=by
  rw[κ];exact⟨(H10.out.1.aaq E).alloc _,(H10.out.2.1.aaq E).alloc (z.fresh (ZL _)),z.alloc _,(H10.out.2.2.2.trans E).alloc _,hg1.alloc _⟩
 clear θ z E hg1 hwe hno;unfold aaF at κ;go_wp2_with fail;rw[<-κ];clear κ;refine(aaY base bb s' K' G J.out.2.2.1).mono ?_;rintro e w11 ⟨v11,l2,rfl,y,U,acE⟩;obtain⟨lo2,lc2,rfl⟩:=aj y.row;have I:Hid (aar w11 G.heap.size (.slice lo2 l2.length lc2) l2/\l5 s'.bs l2/\adN G w11):=⟨y,U,acE⟩;clear y U acE;go_wp2_with fail;refine(aaX base bb s' K' w11 (J.out.2.2.1.below I.out.2.2)).mono ?_;rintro e w12 ⟨A2,C2,rfl,η,Ψ⟩;obtain⟨L2,hL2⟩:∃L,L=gq s'.D:=⟨_,rfl⟩;rw[<-hL2]at η⊢;have HL2:=av hL2;clear hL2;obtain⟨F,X⟩:∃W,W=w12.alloc (aaF A2 C2 L2):=⟨_,rfl⟩
 have c:Hid (WhI m (.slice t m.n g) (.slice ra m.r rc) (w.heap.size+2) w3.heap.size W4.heap.size w5.heap.size s d (.slice lo l.length lc) l A C L K' F/\Kp F K' [(w12.heap.size,aaF A2 C2 L2),(τ.heap.size,aaF A1 C1 Y),(w9.heap.size,nO),(w6.heap.size,aaF A C L),(w4.heap.size,dO),(w1.heap.size,mo),(w.heap.size+1,ro)]/\Bd F base bb s' K'/\dJ w3 F K K'/\GrO F K' zz A1 C1 Y/\GrO F K' w11.heap.size A2 C2 L2/\aar F G.heap.size (.slice lo2 l2.length lc2) l2):=by
  rw[X];have hb:=ai I.out.2.2 Ψ;exact⟨(J.out.1.below hb).alloc _,(J.out.2.1.aaq (dJ.fq hb)).alloc (J.out.2.2.1.fresh hb.size),(J.out.2.2.1.below hb).alloc _,(J.out.2.2.2.1.trans (dJ.fq hb)).alloc _,(J.out.2.2.2.2.below hb).alloc _,GrO.alloc (λq hq=>⟨η q hq,λb hb=>(J.out.2.2.1.below I.out.2.2).fresh ((η q hq).lt b hb).1⟩) _,(I.out.1.below Ψ).below ((aab _ _).alloc (ZL _) _)⟩
 clear η Ψ;unfold aaI;have q7:=Bmo.out _ _ c.out.2.1.tail.tail.tail.tail.tail.head;rw[X]at q7;unfold aaF at X q7;go_wp2_with fail;rw[<-X];clear X q7;have μ:Hid (aay m l2/\l2.length<=12/\l2.length=s'.bs.length):=⟨by have:=HA.out.1.l.alike I.out.2.1;rw[HA.out.2.1,HS.out.2.1]at this;exact this,by rw[<-I.out.2.1.1];exact(let ⟨_,_,_,_,_,_,hP⟩:=c.out.2.2.1;hP.ok.many),I.out.2.1.1.symm⟩;refine(abM m t ra g rc _ _ l2 F c.out.1.mr c.out.2.2.2.2.2.2.l μ.out.1 μ.out.2.1).mono ?_;rintro e w13 ⟨rfl,Q⟩;have q7:=Bmo.out _ _ (c.out.2.1.aaq (dJ.fq Q)).tail.tail.tail.tail.tail.head;have q9:=BdO.out _ _ (c.out.2.1.aaq (dJ.fq Q)).tail.tail.tail.tail.head;obtain⟨q18,_⟩:=blk (show w13.heap[w12.heap.size]? =some (.cells #[.slice (A2 0) (L2 0).length (C2 0),.slice (A2 1) (L2 1).length (C2 1),.slice (A2 2) (L2 2).length (C2 2),.slice (A2 3) (L2 3).length (C2 3)] 41 (0,0))from(c.out.2.1.aaq (dJ.fq Q)).head);have H14:=av Q;clear Q;go_wp2_with fail;rw[<-e0,<-e1,<-e2];have HP:=aaL m t ra g rc _ _ s' d _ l2 A2 C2 w13 (c.out.1.below H14.out).mr (λk hk=>by have h1:=(c.out.1.below H14.out).dr k hk;have h2:=HA.out.2.2.2.2 k;rw[<-h2.1,<-h2.2]at h1;exact h1) (HA.out.2.1.trans HS.out.2.1) (let ⟨_,_,_,_,_,_,hP⟩:=c.out.2.2.1;hP.ok) HA.out.1 (c.out.2.2.2.2.2.2.below H14.out).l I.out.2.1 (by rw[<-HL2.out];exact(c.out.2.2.2.2.2.1.below H14.out).aaM);rw[<-HL2.out]at HP;refine HP.mono ?_;rintro e σ ⟨rfl,acD⟩;have H:=av (ai H14.out acD);clear acD HP q7 q9 q18;rw[e0,e1,e2];have HZ:=av (aaa HFL.out.2.2 (aaa (HA.out.2.2.1.trans HS.out.2.2.2.2) (aaa HA.out.2.2.2.1 HS.out.2.2.2.1)));rcases HW.out with⟨hc0,hL0,φ,hcs⟩|⟨hc0,p,x,hp,YQ,acA,hfi,φ,α⟩
 .subst φ
  have hcb:(code !=0)=true:=by simpa using hc0
  have HL0:=av hL0;clear hL0;obtain⟨q15,_⟩:=blk (show σ.heap[τ.heap.size]? =some (.cells #[.slice (A1 0) (Y 0).length (C1 0),.slice (A1 1) (Y 1).length (C1 1),.slice (A1 2) (Y 2).length (C1 2),.slice (A1 3) (Y 3).length (C1 3)] 41 (0,0))from(c.out.2.1.aaq (dJ.fq H.out)).tail.head);go_wp2_with fail;refine(ace A1 C1 Y σ (c.out.2.2.2.2.1.below H.out).aaM).mono ?_;rintro e ρ ⟨R,P⟩;obtain rfl:=R.fP HL0.out;have ε:=av (ai H.out P);clear R P q15;go_wp2_with fail;refine(aaK _ _ l2 l ρ (c.out.2.2.2.2.2.2.below ε.out).l (c.out.1.below ε.out).bx.l (I.out.2.1.symm.trans H6.out.2.2.2) (by have:=μ.out.2.1;omega)).mono ?_;rintro e B ⟨rfl,O⟩;have δ:=av (ai ε.out O);clear O
  have Z:Hid (adO 24 #[.pointer (some ⟨bb,0,none⟩),.string aaE] B (RJ (λv _=>v=.int .i64 10) AA)):=(Ev base bb s' K' aaE a B (c.out.2.2.1.below δ.out) (by have:=HZ.out;omega) (aaH H4.out.1 β H4.out.2.2.2.2 (c.out.2.2.2.1.trans (dJ.fq δ.out))) β).mono λe w' he=>acj he λv hv=>by
   obtain⟨_,_,θ,_⟩:=hv;rcases θ with⟨_,h,_⟩|⟨q,hq,_⟩
   .exact h
   .exact absurd ⟨q,hq⟩ (abv hnt)
  rcases hcs with⟨rfl,h12⟩|⟨h12,acB⟩
  .have hl:((l.length:Nat):Int)=12:=by have:=HZ.out.1;omega
   go_wp2_with fail;refine Z.out.mono ?_;intro e ν he;rcases e with r'|ch|_
   rotate_left
   .exact⟨rfl,he⟩
   .exact he.elim
   obtain rfl:=he;go_wp2_with fail;go_ret;rfl
  .have hl:¬((l.length:Nat):Int)=12:=by have:=HZ.out.1;omega
   have hlb:(((l.length:Nat):Int)==12)=false:=acZ.2 hl;rcases acB with rfl|rfl
   all_goals
        go_wp2_with fail;refine Z.out.mono ?_;intro e ν he;rcases e with r'|ch|_
        rotate_left
        .exact⟨rfl,he⟩
        .exact he.elim
        obtain rfl:=he;go_wp2_with fail;go_ret;rfl
 .subst hc0
  obtain⟨q15,_⟩:=blk (show σ.heap[τ.heap.size]? =some (.cells #[.slice (A1 0) (Y 0).length (C1 0),.slice (A1 1) (Y 1).length (C1 1),.slice (A1 2) (Y 2).length (C1 2),.slice (A1 3) (Y 3).length (C1 3)] 41 (0,0))from(c.out.2.1.aaq (dJ.fq H.out)).tail.head);have q14:=BnO.out _ _ (c.out.2.1.aaq (dJ.fq H.out)).tail.tail.head;obtain⟨υ,_⟩:=blk (show σ.heap[w6.heap.size]? =some (.cells #[.slice (A 0) (L 0).length (C 0),.slice (A 1) (L 1).length (C 1),.slice (A 2) (L 2).length (C 2),.slice (A 3) (L 3).length (C 3)] 41 (0,0))from(c.out.2.1.aaq (dJ.fq H.out)).tail.tail.tail.head);have hsd:s.D.ok:=HS.out.1.d
  have HGI:=acd A1 A C1 C Y L σ (c.out.2.2.2.2.1.below H.out).aaM (c.out.1.below H.out).gr.aaM (λq hq=>by
   have h1:=mi hsd hq;have h2:=nL (Y q) (Y q);refine⟨by rw[HL.out];omega,?_,λi hi=>by rw[HL.out];exact(α q hq).2 i hi⟩;rw[(α q hq).1];have h3:=ik (r 0) (show 0<25 by omega);have h4:=ik (r q) (show 0<17 by omega);unfold dD;split<;>split<;>omega)
  rw[(α 0 (by omega)).1,(α 1 (by omega)).1,(α 2 (by omega)).1,(α 3 (by omega)).1]at HGI;have HG':=av HGI;have hbe:s'.bs=(s.ins p x).bs:=by rw[φ];rfl
  have hD:(s'.written s.bs).D=s.D:=by rw[φ];rfl
  have hle:l2.length=l.length+1:=by
   rw[μ.out.2.2,hbe,HZ.out.1];show(s.bs.take p++x::s.bs.drop p).length=_
   simp;omega
  have HX:=av (aaa hp (aaa YQ (aaa hbe (aaa hD hle))));clear HGI α φ hfi hp YQ hbe hD hle hsd acA;go_wp2_with fail;refine HG'.out.mono ?_;rintro e ρ ⟨rfl,P⟩;have ε:=av (ai H.out P);clear P q15 q14 υ
  have Z:Hid (adO 24 #[.pointer (some ⟨bb,0,none⟩),.string aaE] ρ (RJ (λv w'=>∃K7:Nat->Nat,v=.int .i64 0/\Bd w' base bb (s'.written s.bs) K7/\dJ ρ w' K' K7) AA)):=by
   have h:=aaZ base bb p x s s' K' a ρ (c.out.2.2.1.below ε.out) HX.out.2.2.1 HX.out.1 (λk=>by have:=k.1;rw[HZ.out.2.1]at this;cases this) HA.out.1 (by have:=HZ.out.2.2;omega) (aaH H4.out.1 β H4.out.2.2.2.2 (c.out.2.2.2.1.trans (dJ.fq ε.out))) β;rw[HX.out.2.1]at h;exact h
  go_wp2_with fail;refine Z.out.mono ?_;intro e B he;rcases e with r'|ch|_
  rotate_left
  .exact⟨rfl,he⟩
  .exact he.elim
  obtain⟨K2,rfl,O,acz⟩:=he;have δ:Hid (Bd B base bb (s'.written s.bs) K2/\dJ F B K' K2):=⟨O,(dJ.fq ε.out).trans acz⟩;clear O acz Z;go_wp2_with fail;refine(aaY base bb (s'.written s.bs) K2 B δ.out.1).mono ?_;rintro e ν ⟨v17,l3,rfl,y,U,acC⟩;obtain⟨lo3,lc3,rfl⟩:=aj y.row;have ο:Hid (aar ν B.heap.size (.slice lo3 l3.length lc3) l3/\l5 s.bs l3/\adN B ν):=⟨y,U,acC⟩;clear y U acC;go_wp2_with fail;refine(aaX base bb (s'.written s.bs) K2 ν (δ.out.1.below ο.out.2.2)).mono ?_;rintro e w18 ⟨A3,C3,rfl,ζ,Φ⟩;have hF:gq (s'.written s.bs).D=L:=by rw[HX.out.2.2.2.1,HL.out]
  rw[hF]at ζ⊢;obtain⟨W18,V⟩:∃W,W=w18.alloc (aaF A3 C3 L):=⟨_,rfl⟩
  have H19:Hid (dJ F W18 K' K2/\GrO W18 K2 ν.heap.size A3 C3 L/\aar W18 B.heap.size (.slice lo3 l3.length lc3) l3):=by
   rw[V];exact⟨(δ.out.2.trans (dJ.fq (ai ο.out.2.2 Φ))).alloc _,GrO.alloc (λq hq=>⟨ζ q hq,λb hb=>(δ.out.1.below ο.out.2.2).fresh ((ζ q hq).lt b hb).1⟩) _,(ο.out.1.below Φ).below ((aab _ _).alloc (ZL _) _)⟩
  have k26:W18.heap[w18.heap.size]? =some (.cells #[.slice (A3 0) (L 0).length (C3 0),.slice (A3 1) (L 1).length (C3 1),.slice (A3 2) (L 2).length (C3 2),.slice (A3 3) (L 3).length (C3 3)] 41 (0,0)):=by rw[V];exact aae _ _
  have H20:=av k26;clear ζ Φ hF k26;unfold aaI;unfold aaF at V;go_wp2_with fail;rw[<-V];clear V;refine(aaK _ _ l3 l W18 H19.out.2.2.l (c.out.1.aaq H19.out.1).bx.l (ο.out.2.1.symm.trans H6.out.2.2.2) (by have h1:=HFL.out.2;have h2:=ο.out.2.1.1;omega)).mono ?_;rintro e w19 ⟨rfl,ι⟩;obtain⟨q26,_⟩:=blk (bJ ι H20.out);obtain⟨υ,_⟩:=blk (show w19.heap[w6.heap.size]? =some (.cells #[.slice (A 0) (L 0).length (C 0),.slice (A 1) (L 1).length (C 1),.slice (A 2) (L 2).length (C 2),.slice (A 3) (L 3).length (C 3)] 41 (0,0))from(c.out.2.1.aaq (H19.out.1.trans (dJ.fq ι))).tail.tail.tail.head);have H21:=av ι;clear ι;go_wp2_with fail;refine(aaA A3 A C3 C L L w19 (H19.out.2.1.below H21.out).aaM (c.out.1.aaq (H19.out.1.trans (dJ.fq H21.out))).gr.aaM).mono ?_;rintro e w20 ⟨R,acQ⟩;obtain rfl:=R.fP λ_ _=>rfl
  clear R acQ q26 υ;have hlen:=HFL.out.2.1;have hw1:IntKind.i64.wrap (((l.length:Nat):Int)+1)=((l.length:Nat):Int)+1:=by rw[IntKind.wrap_i64];omega
  have hl2:(((l2.length:Nat):Int)==((l.length:Nat):Int)+1)=true:=by have:=HX.out.2.2.2.2;simp;omega
  have acR:((l2.length:Nat):Int)=((l.length:Nat):Int)+1:=by have:=HX.out.2.2.2.2;omega
  go_wp2_with fail;go_ret;rfl
end Z
section
open Go Go.Conc
namespace Whole
def rt:Nat:=4
def Xz:List Nat:=[8,9,10,11,16,17,18,19,20,21,22,23,24,25,26,27,33,35,36,39,40,41,43,44,45,46,47,48,49,50,51,52,53,54,55,56,57,58,60,61]
def Xy:List Nat:=[64,65,66,67,72,75,76,77,78,79,80,81,82,83,84,85,86,87,89,90,91,93,94,95,102,117,119,126,127,128,129,130,131,132,133,134,135,136,137,138]
def Xx:List Nat:=[139,140,146,148,149,150,157,163,164,166,168,169,170,171,172,180,181,192,193,194,195,196,197,198,204,212,214,215,216,217,218,219,220,221,222,223,224,225,226,251]
def Xw:List Nat:=[252,253,254,255,256,277,304,320]
def lD:List Nat:=Xz++(Xy++(Xx++(Xw)))
def lW:List Nat:=[71,73,116,118,120]
def tK:iG:={fns:=lD++RD,sp:=RD,mark:=λ_=>false,sg:=id,root:=rt,rt:=1000000,jh:=true,dd:=[],kd:=.normal,pv:=λ_=>false,okF:=λ_ _=>True,gl:=Uw,ext:=Lp,hx:=[147],rx:=[309],ID:=true,sd:=false,bare:=true,Oa:=λ_ _=>rfl}
def qA:iG:={fns:=(rt::(lD++(lW++RE)))++OD,sp:=OD,mark:=λ_=>false,sg:=id,root:=1000000,rt:=0,jh:=false,dd:=[],kd:=.normal,pv:=λ_=>false,okF:=λ_ _=>True,gl:=Uw,ext:=Lp,hx:=[147],rx:=[309],ID:=true,sd:=true}
def PY:j6 tK:=⟨λ_ _=>rfl,λ_=>rfl,λ_=>rfl,λ_=>rfl,λ_ h=>Bool.noConfusion h,λ_ _ _ _ _=>trivial,λ_ _ _ _ _ _ _ _ _=>trivial⟩
def PZ:j6 qA:=⟨λ_ _=>rfl,λ_=>rfl,λ_=>rfl,λ_=>rfl,λ_ h=>Bool.noConfusion h,λ_ _ _ _ _=>trivial,λ_ _ _ _ _ _ _ _ _=>trivial⟩
def pt {g:Nat}{fn:Func}(h:prog.funcs[g]? =some fn)(k:(!(g==42||g==69||g==88||ae.contains g)&&(okB tK (patch ae prog) g fn&&okB qA (patch ae prog) g fn))=true):PB tK (patch ae prog) prog g/\PB qA (patch ae prog) (patch ae prog) g:=by
 rw[ZQ,ZQ,Bool.not_eq_true']at k;exact⟨KR (pf h k.1) h k.2.1,KR (pf h k.1) (pf h k.1) k.2.2⟩
def pw {g:Nat}{fn:Func}(h:prog.funcs[g]? =some fn)(k:(!(g==42||g==69||g==88||ae.contains g)&&okB qA (patch ae prog) g fn)=true):PB qA (patch ae prog) (patch ae prog) g:=by
 rw[ZQ,Bool.not_eq_true']at k;exact KR (pf h k.1) (pf h k.1) k.2
def ptL {l:List Nat}(h:(l.all λg=>match prog.funcs[g]? with
 |some fn=> !(g==42||g==69||g==88||ae.contains g)&&(okB tK (patch ae prog) g fn&&okB qA (patch ae prog) g fn)
 |none=>false)=true):∀g∈l,PB tK (patch ae prog) prog g/\PB qA (patch ae prog) (patch ae prog) g:=λg a=>by
 have k:=ZU.1 h g a;cases e:prog.funcs[g]? with
 |none=>rw[e]at k;cases k
 |some fn=>rw[e]at k;exact pt e k
def Yd:∀g∈Xz,PB tK (patch ae prog) prog g/\PB qA (patch ae prog) (patch ae prog) g:=ptL (by kernel_rfl)
def Yc:∀g∈Xy,PB tK (patch ae prog) prog g/\PB qA (patch ae prog) (patch ae prog) g:=ptL (by kernel_rfl)
def Yb:∀g∈Xx,PB tK (patch ae prog) prog g/\PB qA (patch ae prog) (patch ae prog) g:=ptL (by kernel_rfl)
def Ya:∀g∈Xw,PB tK (patch ae prog) prog g/\PB qA (patch ae prog) (patch ae prog) g:=ptL (by kernel_rfl)
def Xo:∀g∈lD,PB tK (patch ae prog) prog g/\PB qA (patch ae prog) (patch ae prog) g:=rU Yd (rU Yc (rU Yb (Ya)))
def Yg:∀g∈lD,PB tK (patch ae prog) prog g:=λg a=>(Xo g a).1
def Wt:∀g∈lW,PB qA (patch ae prog) (patch ae prog) g:=
 all_cons (pw func71 (by kernel_rfl))<|
 all_cons (pw func73 (by kernel_rfl))<|
 all_cons (pw func116 (by kernel_rfl))<|
 all_cons (pw func118 (by kernel_rfl))<|
 all_cons (pw func120 (by kernel_rfl))<|
 all_nil
def Wu:∀g∈RE,PB qA (patch ae prog) (patch ae prog) g:=
 all_cons ⟨_,_,sK,by kernel_rfl,jK,sK,by kernel_rfl⟩<|
 all_cons ⟨_,_,jq,by kernel_rfl,kr,jq,by kernel_rfl⟩<|
 all_cons ⟨_,_,AX,by kernel_rfl,lh,AX,by kernel_rfl⟩<|
 all_cons ⟨_,_,pS func62 ⟨rfl,rfl⟩,by kernel_rfl,rfl,pS func62 ⟨rfl,rfl⟩,by kernel_rfl⟩<|
 all_cons ⟨_,_,pS func63 ⟨rfl,rfl⟩,by kernel_rfl,rfl,pS func63 ⟨rfl,rfl⟩,by kernel_rfl⟩<|
 all_nil
def Yh:∀g∈rt::(lD++(lW++RE)),PB qA (patch ae prog) (patch ae prog) g:=all_cons (pw func4 (by kernel_rfl)) (rU (λg a=>(Xo g a).2) (rU Wt Wu))
def Wn:∀g∈RD,PS (patch ae prog) prog g:=
 all_cons O'<|all_cons Q8<|
 all_cons ⟨_,_,_,pS func62 ⟨rfl,rfl⟩,by kernel_rfl,rfl,func62,by kernel_rfl,by kernel_rfl⟩<|
 all_cons ⟨_,_,_,pS func63 ⟨rfl,rfl⟩,by kernel_rfl,rfl,func63,by kernel_rfl,by kernel_rfl⟩<|
 all_nil
def OU:∀g∈ae,∃f',(patch ae prog).funcs[g]? =some (shut f'):=
 all_cons ⟨_,pS func62 ⟨rfl,rfl⟩⟩<|
 all_cons ⟨_,pS func63 ⟨rfl,rfl⟩⟩<|
 all_nil
def sJ:aH tK (patch ae prog) prog:=
 aH.of PY PE Q6 NF (λg a=>by
  have h:(dS.all λg=>(lD++RD).contains g)=true:=by kernel_rfl
  have:=ZU.1 h g a;exact adv this) lD (λg=>abz) (λg a hl=>by
  have b:(RD.all λg=> !lD.contains g)=true:=by kernel_rfl
  have:=ZU.1 b g a;simp[hl]at this) (λg a e=>by
  have c:g=rt:=e;subst c;exact absurd a (adj (show decide (¬rt∈lD)=true by kernel_rfl))) Yg Wn
def xG:aH qA (patch ae prog) (patch ae prog):=
 aH.of PZ NM O4 Le (λg a=>by
  have h:(dS.all λg=>((rt::(lD++(lW++RE)))++OD).contains g)=true:=by kernel_rfl
  have:=ZU.1 h g a;exact adv this) (rt::(lD++(lW++RE))) (λg=>abz) (λg a hl=>by
  have b:(OD.all λg=> !(rt::(lD++(lW++RE))).contains g)=true:=by kernel_rfl
  have:=ZU.1 b g a;simp[hl]at this) (λg a e=>by
  have c:g=1000000:=e;subst c;exact absurd a (adj (show decide (¬1000000∈rt::(lD++(lW++RE)))=true by kernel_rfl))) Yh Wo
def KG:∃c,Func.body Tryz.f4=some c/\bA tK (patch ae prog) rt c=true/\uq tK c=c/\(∃k,Func.results Tryz.f4= #[.tmp k]):=⟨_,rfl,by kernel_rfl,by kernel_rfl,_,rfl⟩
def Us:QM tK qA rt Tryz.f4:=
 {sJ:=sJ,xG:=xG,sp:=rfl,Qt:=rfl,sd:=rfl,root:=rfl,rt:=rfl,mark:=λ_=>rfl,QB:=λ_=>rfl,gl:=rfl,XX:=rfl,okF:=λ_ _=>trivial,V6:=rfl,dd:=rfl,kd:=rfl,pv:=λ_=>rfl,X0:=rfl,XZ:=rfl,XA:=rfl,
  init:=by kernel_rfl,Sk:=by kernel_rfl,Uk:=by kernel_rfl,Xv:=by kernel_rfl,Xu:=by kernel_rfl,Xt:=by kernel_rfl,pr:=pf func4 (by rfl),ar:=func4,body:=KG,ntmps:=adj (by kernel_rfl)}
end Whole
end
section
open Go.RowKit Go.Conc Go.ConcN
def abU (M:Z.cz)(so:Option Addr)(n cap:Nat)(T:Nat->Z.eU)(r:Nat->Int)(a:Addr)(w:World)(hE:Az w (CB w))(g:M.At w)(K:∀i,i<M.n->Z.In64 (M.S i)/\Z.In64 (M.C i))(hp:Z.In64 M.p)(G:Z.DL w so n cap T)(hr:∀i,i<4->Z.In64 (r i))
 (hF:w.cell? ⟨0,0,none⟩=some (.iface 345 (.pointer (some a))))(N:CB w a.block)(hG:prog.globals.size<=w.heap.size)
 (ha:∀x,M.ao=some x->CB w x.block\/(M.n=0/\M.cap=0))(hb:∀x,M.ro=some x->CB w x.block\/(M.r=0/\M.gD=0))(hc:∀x,so=some x->CB w x.block\/(n=0/\cap=0))
 (hd:∀i,i<n->∀x,(T i).ao=some x->CB w x.block\/((T i).n=0/\(T i).cap=0)):
 Qq 4 #[M.val,.slice so n cap,.agg #[.int .i64 (r 0),.int .i64 (r 1),.int .i64 (r 2),.int .i64 (r 3)]] w:=by
 have h0:CB w 0:=jY hF;obtain⟨t,lv,hl,y,z,hs,_,_,hcell⟩:=wU True ((patch ae prog)).globals.size (λ_=>False) (CB w) w hG (λb h=>h) h0 (λ_ h=>h.elim)
 have L:WR ((patch ae prog)).globals.size (CB w) (DV True (CB w)) t w:=by
  have e:(λc=>CB w c/\¬False)=CB w:=by funext c;simp
  rw[e]at y;exact y
 have cell:∀{a v},w.cell? a=some v->t.cell? a=some (lv v):=λh=>(hcell _ _ h).2 (λh=>h)
 have same:∀{a v},w.cell? a=some v->jH (CB w) v->t.cell? a=some v:=λh q=>by rw[cell h,hl.same _ q]
 obtain⟨m,W,ka⟩:=mD hl M.ao M.n M.cap ha;obtain⟨l,V,kb⟩:=mD hl M.ro M.r M.gD hb;obtain⟨s,U,kc⟩:=mD hl so n cap hc
 obtain⟨A,hA⟩:=PT (R:=λi x=>i<n->lv (.slice (T i).ao (T i).n (T i).cap)=.slice x (T i).n (T i).cap/\(0< (T i).cap->x=(T i).ao)) (λi=>by
  by_cases d:i<n
  .obtain⟨x,D,P⟩:=mD hl (T i).ao (T i).n (T i).cap (hd i d)
   exact⟨x,λ_=>⟨D,P⟩⟩
  .exact⟨none,λh=>absurd h d⟩)
 have J:∀f,Z.cz.At {M with ao:=m,ro:=l} (ay t f):=λf=>⟨g.qW,g.Ig,λh=>(ka (ZO h g.qW)).trans (g.addr h),λi d=>⟨same (g.dA i d).1 trivial,same (g.dA i d).2.1 trivial,same (g.dA i d).2.2 trivial⟩,g.rc,g.Hg,λh=>(kb (ZO h g.rc)).trans (g.mQ h),λi d=>same (g.ints i d) trivial⟩
 have I:∀f,Z.DL (ay t f) s n cap (λi=>{T i with ao:=A i}):=λf=>by
  refine⟨G.room,G.many,λE=>?_,λi d=>?_⟩
  .obtain⟨b,o,e,hcs⟩:=G.cells E
   refine⟨b,o,(kc (ZO E G.room)).trans e,λi d j u hu=>?_⟩
   have key:∀u',(T i).cells[j]? =some u'->jH (CB w) u'->(Z.eU.cells {T i with ao:=A i})[j]? =some u'->t.cell? ⟨b,o+i*9+j,none⟩=some u:=λu' D P h3=>by
        rw[h3]at hu;cases hu;exact same (hcs i d j _ D) P
   have hj:j<9:=by
        have:=(ZK.1 hu).1;simpa[Z.eU.cells] using this
   obtain rfl|rfl|rfl|rfl|rfl|rfl|rfl|rfl|rfl:j=0\/j=1\/j=2\/j=3\/j=4\/j=5\/j=6\/j=7\/j=8:=by omega
   .exact key _ rfl trivial rfl
   .exact key _ rfl trivial rfl
   .exact key _ rfl trivial rfl
   .exact key _ rfl trivial rfl
   .exact key _ rfl trivial rfl
   .exact key _ rfl trivial rfl
   .exact key _ rfl trivial rfl
   .have D:=cell (hcs i d 7 (.slice (T i).ao (T i).n (T i).cap) rfl)
    rw[(hA i d).1]at D;have H:some (Value.slice (A i) (T i).n (T i).cap)=some u:=hu;cases H;exact D
   .exact key _ rfl trivial rfl
  .have h:=G.steps i d
   obtain⟨ao,cp,e,d1,d2,d3⟩:=h.dC;cases e;refine⟨h.kind,h.A,h.B,h.r,⟨A i,(T i).cap,rfl,d1,d2,λE=>?_⟩,h.qF⟩;obtain⟨b,o,e,F⟩:=d3 E;exact⟨b,o,((hA i d).2 (ZO E d1)).trans e,λk Q=>⟨same (F k Q).1 trivial,same (F k Q).2 trivial⟩⟩
 have O:∀f,(ay t f).cell? ⟨0,0,none⟩=some (.iface 345 (.pointer (some a))):=λf=>same hF ⟨by decide,N⟩
 refine Fp Whole.Us Whole.OU (vd:=Z.zF) Z.Ee Z.D3 Z.Io (la:= #[.agg #[.slice m M.n M.cap,.slice l M.r M.gD,.int .i64 M.p],.slice s n cap,.agg #[.int .i64 (r 0),.int .i64 (r 1),.int .i64 (r 2),.int .i64 (r 3)]]) (by show 3<1000;omega) hE z L ?_ ?_ λf=>?_
 .refine aF.same λv q=>?_
  simp only[adA,ZW,adm,or_false]at q;rcases q with rfl|rfl|rfl
  .refine VR.agg (aF.same λv q=>?_)
   simp only[adA,ZW,adm,or_false]at q;rcases q with rfl|rfl|rfl
   .rw[<-W];exact hl.self _
   .rw[<-V];exact hl.self _
   .exact VR.int _ _
  .rw[<-U];exact hl.self _
  .refine VR.agg (aF.same λv q=>?_)
   simp only[adA,ZW,adm,or_false]at q;rcases q with rfl|rfl|rfl|rfl
   all_goals exact VR.int _ _
 .have k1:VR (DV True (CB w)) (.slice m M.n M.cap) (.slice M.ao M.n M.cap):=by rw[<-W];exact hl.alike _
  have k2:VR (DV True (CB w)) (.slice l M.r M.gD) (.slice M.ro M.r M.gD):=by rw[<-V];exact hl.alike _
  have k3:VR (DV True (CB w)) (.slice s n cap) (.slice so n cap):=by rw[<-U];exact hl.alike _
  have Y:VR (DV True (CB w)) (.agg #[.slice m M.n M.cap,.slice l M.r M.gD,.int .i64 M.p]) M.val:=VR.agg (((aF.empty.push k1).push k2).push (VR.int _ _));have X:VR (DV True (CB w)) (.agg #[.int .i64 (r 0),.int .i64 (r 1),.int .i64 (r 2),.int .i64 (r 3)]) (.agg #[.int .i64 (r 0),.int .i64 (r 1),.int .i64 (r 2),.int .i64 (r 3)]):=VR.agg ((((aF.empty.push (VR.int _ _)).push (VR.int _ _)).push (VR.int _ _)).push (VR.int _ _));exact((aF.empty.push Y).push k3).push X
 .exact Z.ab3 {M with ao:=m,ro:=l} s n cap (λi=>{T i with ao:=A i}) r a (ay t f) (J f) K hp (I f) hr (O f)
end
section
open Go.ChangeShapes Go.WideShapes Go.ChangeAt Go.RowKit Go.Conc Go.ConcN Go.Deep Go.Joins
def eZ {n}(h:(Lit.int .i64 n).wf=true):Z.In64 n:=by
 simp only[Lit.wf,IntKind.min,IntKind.max,IntKind.signed,IntKind.bits,ZQ,decide_eq_true_eq,if_true]at h;unfold Z.In64;omega
def FU {w}{b}{x}(h:w.shape? b=some x):CB w b:=by
 unfold World.shape? at h;cases a:w.heap[b]? with
 |none=>rw[a]at h;cases h
 |some o=>
  rw[a]at h;cases o with
  |cells xs t g=>exact⟨_,_,_,a⟩
  |_=>cases h
def mF {P}{w}{r}{base}{t e}{a}{l c}(hu:P.underlying t=some (.slice e))(h:Cell.okWide P w r base t (.slice (some a) l c)):CB w a.block:=by
 unfold Cell.okWide at h;rw[hu]at h;simp only[Cell.ok,hu]at h;obtain⟨_,_,_,_,row,cells,b,_⟩:=h;exact FU b
def N7 {H}(d:DataW H):1<=Rows.uptoBulk d:=by
 cases d with
 |lit l=>cases l<;>simp[Rows.uptoBulk]
 |nil=>simp[Rows.uptoBulk]
 |ptr d=>simp[Rows.uptoBulk]
 |slice elems spare=>simp[Rows.uptoBulk]
 |agg parts=>simp[Rows.uptoBulk]
 |iface t d=>simp[Rows.uptoBulk]
 |map entries=>simp[Rows.uptoBulk]
 |held h=>simp[Rows.uptoBulk]
def By {H}{d}{l:List (DataW H)}(h:d∈l):Rows.uptoBulk d<=Rows.uptoBulkAll l:=by
 induction l with
 |nil=>cases h
 |cons x r a=>
  simp only[Rows.uptoBulkAll];cases ZW.1 h with
  |inl e=>subst e;omega
  |inr e=>have:=a e;omega
def uQ {H}(l:List (DataW H)):l.length<=Rows.uptoBulkAll l:=by
 induction l with
 |nil=>simp[Rows.uptoBulkAll]
 |cons x r a=>have:=N7 x;simp only[Rows.uptoBulkAll,adt];omega
def Ji {H}(elems spare:List (DataW H)):elems.length<=Rows.uptoBulk (.slice elems spare):=by
 have a:=uQ elems;simp only[Rows.uptoBulk];omega
def Dr {H}{enc}{W}{n}{a}{cs}{x:DataW H×List MemPlace}{sp}(hc:W.cells? 0 a 3=some cs)(h:DataW.trod enc prog W 0 sp true n 81 cs=some x):
 ∃z:Int×Int×Int,W.cell? a=some (.int .i64 z.1)/\W.cell? (a.add 1)=some (.int .i64 z.2.1)/\W.cell? (a.add 2)=some (.int .i64 z.2.2)/\Z.In64 z.1/\Z.In64 z.2.2:=by
 obtain⟨p,o,m,k,rfl,hl,e,d,c⟩:=trod_struct3 underlying81 h;obtain⟨_,hlen,b⟩:=World.cells?_some hc
 match cs,hlen with
 |[c0,q,c2],_=>
  have l:prog.cellsOf 3=1:=by kernel_rfl
  simp only[l,List.drop,List.take]at e d c;obtain⟨z0,i,_,j⟩:=DataW.trod_int underlying3 e;obtain⟨z1,g,_,_⟩:=DataW.trod_int underlying3 d;obtain⟨z2,f,_,w2⟩:=DataW.trod_int underlying3 c;simp only[ac0,and_true]at i g f;subst i g f;exact⟨(z0,z1,z2),by simpa[Addr.add] using b 0 (by omega),b 1 (by omega),b 2 (by omega),eZ j,eZ w2⟩
def Ak {H:Type}{enc:TypeId×Value->H}{W:World}{base:Nat}{v0:Value}{d0:DataW H}{A:List MemPlace}(E:Value.okWide prog W .any base 25 v0)
 (h:DataW.Trod enc prog W 0 (λ_=>true) true 25 v0 d0 A)(e:∀x∈d0.weights prog 25,x<=reachBytes):∃m:Z.cz,v0=m.val/\m.At W/\(∀i,i<m.n->Z.In64 (m.S i)/\Z.In64 (m.C i))/\Z.In64 m.p:=by
 obtain⟨c0,L,c2,T,Q,P,n,rfl,rfl,rfl,J,I,G⟩:=open_agg3 underlying25 (by kernel_rfl) (by kernel_rfl) E h;obtain⟨p,v,_,wp⟩:=DataW.trod_int underlying3 G;simp only[ac0,and_true]at v;subst v;have O:prog.bytesOf 3=8:=by kernel_rfl
 have M:prog.bytesOf 81=24:=by kernel_rfl
 have F:∃(ro:Option Addr) (rb rp r gD:Nat) (R:Nat->Int),L=.slice ro r gD/\r<=gD/\r*8<=140737488355328/\(0<r->ro=some ⟨rb,rp,none⟩)/\Z.gM W rb rp r R:=by
  rcases open_ints underlying23 underlying3 (by kernel_rfl) I with⟨hcs,hx⟩|⟨a,len,cap,zs,hcs,_,hl,hm,u,hx,hcell,B⟩
  .simp only[ac0,and_true]at hcs
   subst hcs;exact⟨none,0,0,0,0,λ_=>0,rfl,ZL _,by omega,λh=>absurd h (by omega),λi d=>absurd d (by omega)⟩
  .simp only[ac0,and_true]at hcs
   subst hcs;subst hx;simp only[if_true]at u
   have hs:(len+(cap-len))*8<=reachBytes:=by
        have:=e ((len+(cap-len))*8) (by simp[DataW.weights,DataW.weightsEach,underlying25,underlying23,O,lits,u,Nat.min_eq_left hl]);exact this
   obtain⟨rb,rp,spot⟩:=a;refine⟨_,rb,rp,len,cap,λi=>zs.getD i 0,rfl,hl,by simp only[reachBytes]at hs;omega,λf=>?_,λi d=>?_⟩
   .have c:spot=none:=by simpa[Addr.add] using World.cell?_spot (hcell 0 (by omega))
    rw[c]
   .have hc:=hcell i (by omega)
    have c:spot=none:=by simpa[Addr.add] using World.cell?_spot (hcell 0 (by omega))
    subst c;rw[Go.WideShapes.add_plain]at hc;exact hc
 have t:∃(ao:Option Addr) (b o k cap:Nat) (S N C:Nat->Int),c0=.slice ao k cap/\k<=cap/\k*24<=140737488355328/\(0<k->ao=some ⟨b,o,none⟩)/\Z.dK W b o k S N C/\∀i,i<k->Z.In64 (S i)/\Z.In64 (C i):=by
  rcases open_slice underlying22 J with⟨hcs,hx⟩|⟨a,len,cap,m,U,D,V,hcs,_,hl,hm,g,hx,j⟩
  .simp only[ac0,and_true]at hcs
   subst hcs;exact⟨none,0,0,0,0,λ_=>0,λ_=>0,λ_=>0,rfl,ZL _,by omega,λh=>absurd h (by omega),λi d=>absurd d (by omega),λi d=>absurd d (by omega)⟩
  .simp only[ac0,and_true]at hcs
   subst hcs;subst hx;simp only[if_true]at g;subst g;have K:prog.cellsOf 81=3:=(by kernel_rfl);rw[K]at j
   have hs:(len+(m-len))*24<=reachBytes:=by
        have:=e ((len+(m-len))*24) (by simp[DataW.weights,DataW.weightsEach,underlying25,underlying22,M]);exact this
   obtain⟨Z,l⟩:=choose_lt (α:=Int×Int×Int) (p:=λi z=>W.cell? (a.add (i*3))=some (.int .i64 z.1)/\W.cell? ((a.add (i*3)).add 1)=some (.int .i64 z.2.1)/\W.cell? ((a.add (i*3)).add 2)=some (.int .i64 z.2.2)/\Z.In64 z.1/\Z.In64 z.2.2) (λi d=>by
        obtain⟨cs,s,q⟩:=j i d;exact Dr s q)
   obtain⟨b,o,spot⟩:=a;refine⟨_,b,o,len,m,λi=>(Z i).1,λi=>(Z i).2.1,λi=>(Z i).2.2,rfl,hl,by simp only[reachBytes]at hs;omega,λf=>?_,λi d=>?_,λi d=>(l i (by omega)).2.2.2⟩
   .have c:spot=none:=by simpa[Addr.add] using World.cell?_spot (l 0 (by omega)).1
    rw[c]
   .have hc:=l i (by omega)
    have c:spot=none:=by simpa[Addr.add] using World.cell?_spot (l 0 (by omega)).1
    subst c;simp only[Go.WideShapes.add_plain]at hc;exact⟨hc.1,hc.2.1,hc.2.2.1⟩
 obtain⟨ro,rb,rp,r,gD,R,rfl,s,q,y,w⟩:=F;obtain⟨ao,b,o,k,cap,S,N,C,rfl,u1,u2,u3,u4,u5⟩:=t;exact⟨⟨ao,b,o,k,cap,S,N,C,ro,rb,rp,r,gD,R,p⟩,rfl,⟨u1,u2,u3,u4,s,q,y,w⟩,u5,eZ wp⟩
section
variable {H:Type}{enc:TypeId×Value->H}{W:World}
def FL {n}{a}{cs}{x}{sp}(hc:W.cells? 0 a 2=some cs)(h:DataW.trod enc prog W 0 sp true n 75 cs=some x):
 ∃z:Int×Bool,W.cell? a=some (.int .i64 z.1)/\W.cell? (a.add 1)=some (.bool z.2)/\Z.In64 z.1:=by
 obtain⟨l,j,k,rfl,hl,d,c⟩:=trod_struct2 underlying75 h;obtain⟨_,hlen,b⟩:=World.cells?_some hc
 match cs,hlen with
 |[c0,m],_=>
  have i:prog.cellsOf 3=1:=by kernel_rfl
  have i2:prog.cellsOf 4=1:=by kernel_rfl
  simp only[i,i2,List.drop,List.take]at d c;obtain⟨z0,f,_,g⟩:=DataW.trod_int underlying3 d;obtain⟨z1,e,_⟩:=DataW.trod_bool underlying4 c;simp only[ac0,and_true]at f e;subst f e;exact⟨(z0,z1),by simpa[Addr.add] using b 0 (by omega),b 1 (by omega),eZ g⟩
def Dp {n}{c}{y}(h:DataW.trod enc prog W 0 (λ_=>true) true n 33 [c]=some y):
 ∃(k:Option Addr) (dn d u e:Nat) (v:Nat->Int) (C:Nat->Bool),c=.slice k dn d/\dn<=d/\dn<=Rows.uptoBulk y.1/\(0<dn->k=some ⟨u,e,none⟩)/\Z.rZ W u e dn v C/\(∀x,k=some x->CB W x.block\/(dn=0/\d=0))/\∀i,i<dn->Z.In64 (v i):=by
 rcases open_slice underlying33 h with⟨hcs,hx⟩|⟨a,len,cap,m,E,D,F,hcs,_,hl,hm,l,hx,q⟩
 .simp only[ac0,and_true]at hcs
  subst hcs;exact⟨none,0,0,0,0,λ_=>0,λ_=>false,rfl,ZL _,adl _,λh=>absurd h (by omega),λi g=>absurd g (by omega),λx hx=>(by cases hx),λi g=>absurd g (by omega)⟩
 .simp only[ac0,and_true]at hcs
  subst hcs;subst hx;simp only[if_true]at l;subst l;have B:prog.cellsOf 75=2:=by kernel_rfl
  rw[B]at q
  obtain⟨Z,r⟩:=choose_lt (α:=Int×Bool) (p:=λi z=>W.cell? (a.add (i*2))=some (.int .i64 z.1)/\W.cell? ((a.add (i*2)).add 1)=some (.bool z.2)/\Z.In64 z.1) (λi g=>by
   obtain⟨cs,A,w⟩:=q i g;exact FL A w)
  obtain⟨b,o,spot⟩:=a;refine⟨_,len,m,b,o,λi=>(Z i).1,λi=>(Z i).2,rfl,hl,?_,λt=>?_,λi g=>?_,λx hx=>?_,λi g=>(r i (by omega)).2.2⟩
  .have:=Ji ((List.range len).map D) ((List.range (m-len)).map λj=>D (len+j))
   simpa using this
  .have f:spot=none:=by simpa[Addr.add] using World.cell?_spot (r 0 (by omega)).1
   rw[f]
  .have hc:=r i (by omega)
   have f:spot=none:=by simpa[Addr.add] using World.cell?_spot (r 0 (by omega)).1
   subst f;simp only[Go.WideShapes.add_plain]at hc;exact⟨hc.1,hc.2.1⟩
  .cases hx
   rcases Nat.eq_zero_or_pos m with s|s
   .exact .inr ⟨by omega,s⟩
   .exact .inl (jY (a:=(⟨b,o,spot⟩:Addr).add (0*2)) (r 0 s).1)
def Cc {P}{t}{f0 f1 f2 f3 f4 f5}{base fuel}{sp}{held}{cs}{x}(e:P.underlying t=some (.struct #[f0,f1,f2,f3,f4,f5]))(h:DataW.trod enc P W base sp held fuel t cs=some x):
 ∃d c b y3 y4 a n q,x=(.agg [d.1,c.1,b.1,y3.1,y4.1,a.1],q)/\DataW.trod enc P W base sp held n f0.type ((cs.drop f0.offset).take (P.cellsOf f0.type))=some d/\DataW.trod enc P W base sp held n f1.type ((cs.drop f1.offset).take (P.cellsOf f1.type))=some c/\DataW.trod enc P W base sp held n f2.type ((cs.drop f2.offset).take (P.cellsOf f2.type))=some b/\DataW.trod enc P W base sp held n f3.type ((cs.drop f3.offset).take (P.cellsOf f3.type))=some y3/\DataW.trod enc P W base sp held n f4.type ((cs.drop f4.offset).take (P.cellsOf f4.type))=some y4/\DataW.trod enc P W base sp held n f5.type ((cs.drop f5.offset).take (P.cellsOf f5.type))=some a:=by
 obtain⟨xs,n,_,rfl,hl,hlen,hf⟩:=DataW.trod_struct e h
 match xs,hlen with
 |[d,c,b,y3,y4,a],_=>exact⟨d,c,b,y3,y4,a,n,_,rfl,by simpa using hf 0 f0 rfl,by simpa using hf 1 f1 rfl,by simpa using hf 2 f2 rfl,by simpa using hf 3 f3 rfl,by simpa using hf 4 f4 rfl,by simpa using hf 5 f5 rfl⟩
structure DK (W:World)(a:Addr)(s:Z.eU)(Se:Nat):Prop where
 cells:∀j u,s.cells[j]? =some u->W.cell? (a.add j)=some u
 at_:s.n<=Se->Se<=1048576->s.at W
 qF:s.n<=Se
 cb:∀x,s.ao=some x->CB W x.block\/(s.n=0/\s.cap=0)
def zU {n}{a}{cs}{x}(hc:W.cells? 0 a 9=some cs)(h:DataW.trod enc prog W 0 (λ_=>true) true n 84 cs=some x):
 ∃s:Z.eU,DK W a s (Rows.uptoBulk x.1):=by
 obtain⟨A,z,y,y3,y4,w,m,q,rfl,f0,f1,f2,f3,f4,f5⟩:=Cc underlying84 h;obtain⟨_,c,p⟩:=World.cells?_some hc
 match cs,c with
 |[c0,c1,c2,c3,c4,c5,c6,c7,c8],_=>
  have o:prog.cellsOf 3=1:=by kernel_rfl
  have i2:prog.cellsOf 4=1:=by kernel_rfl
  have i4:prog.cellsOf 29=4:=by kernel_rfl
  have i5:prog.cellsOf 33=1:=by kernel_rfl
  have i8:prog.cellsOf 27=3:=by kernel_rfl
  simp only[o,i2,i4,i5,List.drop,List.take]at f0 f1 f2 f3 f4 f5;obtain⟨z0,J,_,P⟩:=DataW.trod_int underlying3 f0;obtain⟨z1,I,_,w1⟩:=DataW.trod_int underlying3 f1;obtain⟨z2,H,_,w2⟩:=DataW.trod_int underlying3 f2;obtain⟨g0,g1,Y,_,_,f,e⟩:=trod_struct2 underlying29 f3;simp only[o,i8,List.drop,List.take]at f e;obtain⟨z4,G,_,w4⟩:=DataW.trod_int underlying3 f;obtain⟨g5,g6,g7,X,_,v,t,r⟩:=trod_array3 underlying27 o e;obtain⟨z5,F,_,O⟩:=DataW.trod_int underlying3 v;obtain⟨L,E,_,N⟩:=DataW.trod_int underlying3 t;obtain⟨K,D,_,M⟩:=DataW.trod_int underlying3 r;obtain⟨l,dn,b,T,g,U,V,rfl,d1,d2,d3,d4,d5,d6⟩:=Dp f4;obtain⟨z9,C,_⟩:=DataW.trod_bool underlying4 f5;simp only[ac0,and_true]at J I H G F E D C;subst J I H G F E D C
  have d:dn<=Rows.uptoBulk (DataW.agg [A.1,z.1,y.1,y3.1,y4.1,w.1]):=by
        refine ZP d2 ?_;have B:Rows.uptoBulk y4.1<=Rows.uptoBulkAll [A.1,z.1,y.1,y3.1,y4.1,w.1]:=By (by simp);simp only[Rows.uptoBulk];omega
  refine⟨⟨z0,z1,z2,λk=>match k with|0=>z4|1=>z5|2=>L|_=>K,l,dn,b,U,V,z9⟩,⟨λj u hu=>?_,λB S=>⟨eZ P,eZ w1,eZ w2,λi hi=>?_,⟨l,b,rfl,d1,d6,λQ=>⟨T,g,d3 Q,d4⟩⟩,ZP (ZP B S) (by omega)⟩,d,d5⟩⟩
  .have R:j<9:=by
    have:=(ZK.1 hu).1;simpa[Z.eU.cells] using this
   rw[p j R,<-hu];obtain rfl|rfl|rfl|rfl|rfl|rfl|rfl|rfl|rfl:j=0\/j=1\/j=2\/j=3\/j=4\/j=5\/j=6\/j=7\/j=8:=by omega
   all_goals rfl
  .obtain rfl|rfl|rfl|rfl:i=0\/i=1\/i=2\/i=3:=by omega
   .exact eZ w4
   .exact eZ O
   .exact eZ N
   .exact eZ M
end
def xU:laidOutB prog=true:=by kernel_rfl
section
variable {H:Type}{enc:TypeId×Value->H}{W:World}
def vg {base:Nat}{v1:Value}{d1:DataW H}{B:List MemPlace}(g:Value.okWide prog W .any base 26 v1)
 (h:DataW.Trod enc prog W 0 (λ_=>true) true 26 v1 d1 B)(y:Rows.uptoBulk d1<=1048576):
 ∃(so:Option Addr) (n cap:Nat) (T:Nat->Z.eU),v1=.slice so n cap/\Z.DL W so n cap T/\(∀x,so=some x->CB W x.block\/(n=0/\cap=0))/\(∀i,i<n->∀x,(T i).ao=some x->CB W x.block\/((T i).n=0/\(T i).cap=0)):=by
 obtain⟨fuel,h⟩:=h
 have hcell:v1.cells.toList=[v1]:=by
  unfold Value.okWide at g;rw[underlying26]at g;simp only[Cell.okWide,underlying26]at g;cases v1<;>first|rfl|(simp[Cell.ok,underlying26]at g)
 rw[hcell]at h;rcases open_slice underlying26 h with⟨hcs,hx⟩|⟨a,len,cap,m,I,D,J,hcs,_,hl,hm,l,hx,q⟩
 .simp only[ac0,and_true]at hcs
  subst hcs;exact⟨none,0,0,λ_=>⟨0,0,0,λ_=>0,none,0,0,λ_=>0,λ_=>false,false⟩,rfl,⟨ZL _,by omega,λh=>absurd h (by omega),λi d=>absurd d (by omega)⟩,λx hx=>(by cases hx),λi d=>absurd d (by omega)⟩
 .simp only[ac0,and_true]at hcs
  subst hcs;simp only[if_true]at l;subst l;have G:prog.cellsOf 84=9:=by kernel_rfl
  rw[G]at q;have v:d1=.slice ((List.range len).map D) ((List.range (m-len)).map λj=>D (len+j)):=congrArg Prod.fst hx
  have e:Rows.uptoBulkAll ((List.range len).map D)<=1048576:=by
   rw[v]at y;simp only[Rows.uptoBulk]at y;omega
  have hlen:len<=1048576:=by
   have:=uQ ((List.range len).map D);simp only[adH,adI]at this;omega
  haveI:Inhabited Z.eU:=⟨⟨0,0,0,λ_=>0,none,0,0,λ_=>0,λ_=>false,false⟩⟩
  obtain⟨S,C⟩:=choose_lt (α:=Z.eU) (p:=λi s=>i<len->DK W (a.add (i*9)) s 1048576) (n:=m) (λi d=>by
   obtain⟨cs,A,z⟩:=q i d;obtain⟨s,hs⟩:=zU A z;refine⟨s,λt=>?_⟩;have r:Rows.uptoBulk (D i)<=Rows.uptoBulkAll ((List.range len).map D):=By (adz.2 ⟨i,Z9.2 t,rfl⟩);exact⟨hs.cells,λ_ _=>hs.at_ hs.qF (ZP r e),ZP hs.qF (ZP r e),hs.cb⟩)
  have f:∀i,i<len->DK W (a.add (i*9)) (S i) 1048576:=λi d=>C i (by omega) d
  obtain⟨b,o,spot⟩:=a
  have k:0<len->spot=none:=λc=>by
   have F:=(f 0 c).cells 0 _ rfl;simpa[Addr.add] using World.cell?_spot F
  have w:CB W b:=by
   unfold Value.okWide at g;rw[underlying26]at g;exact mF (a:=⟨b,o,spot⟩) underlying26 g
  refine⟨some ⟨b,o,spot⟩,len,m,S,rfl,⟨hl,by omega,λc=>⟨b,o,by rw[k c],λi d j u hu=>?_⟩,λi d=>(f i d).at_ (f i d).qF (ZL _)⟩,λx hx=>?_,λi d=>(f i d).cb⟩
  .have r:=(f i d).cells j u hu
   have E:=k c;subst E;rw[Go.WideShapes.add_plain,Go.WideShapes.add_plain]at r;exact r
  .cases hx
   exact .inl w
def Ah {base:Nat}{v2:Value}{d2:DataW H}{p2:List MemPlace}(v:Value.okWide prog W .any base 29 v2)
 (h:DataW.Trod enc prog W 0 (λ_=>true) true 29 v2 d2 p2):∃r:Nat->Int,v2=.agg #[.int .i64 (r 0),.int .i64 (r 1),.int .i64 (r 2),.int .i64 (r 3)]/\∀i,i<4->Z.In64 (r i):=by
 obtain⟨cs,rfl,c⟩:=okWide_struct underlying29 v;have hC:prog.cellsOf 29=4:=by kernel_rfl
 obtain⟨c0,w,c2,c3,rfl⟩:=array4 (c.trans hC);obtain⟨fuel,hf⟩:=h;have d:DataW.trod enc prog W 0 (λ_=>true) true fuel 29 [c0,w,c2,c3]=some (d2,p2):=hf;have j:prog.cellsOf 3=1:=by kernel_rfl
 have i8:prog.cellsOf 27=3:=by kernel_rfl
 obtain⟨g0,g1,y,_,_,b,a⟩:=trod_struct2 underlying29 d;simp only[j,i8,List.drop,List.take]at b a;obtain⟨z4,o,_,w4⟩:=DataW.trod_int underlying3 b;obtain⟨g5,g6,g7,x,_,g,f,e⟩:=trod_array3 underlying27 j a;obtain⟨z5,n,_,u⟩:=DataW.trod_int underlying3 g;obtain⟨q,m,_,t⟩:=DataW.trod_int underlying3 f;obtain⟨p,l,_,s⟩:=DataW.trod_int underlying3 e;simp only[ac0,and_true]at o n m l;subst o n m l;refine⟨λk=>match k with|0=>z4|1=>z5|2=>q|_=>p,rfl,λi z=>?_⟩;obtain rfl|rfl|rfl|rfl:i=0\/i=1\/i=2\/i=3:=by omega
 .exact eZ w4
 .exact eZ u
 .exact eZ t
 .exact eZ s
def M7 {base:Nat}{m:Z.cz}(a:Value.okWide prog W .any base 25 m.val):(∀x,m.ao=some x->CB W x.block)/\(∀x,m.ro=some x->CB W x.block):=by
 obtain⟨ao,b,o,n,cap,S,N,C,ro,rb,rp,r,gD,R,p⟩:=m;unfold Value.okWide at a;rw[underlying25]at a;obtain⟨cs,e,_,ts,g,_,f⟩:=a;cases e;have h:prog.cellTypes prog.depth 25=some [22,23,3]:=by kernel_rfl
 rw[h]at g;cases g;refine⟨λx hx=>?_,λx hx=>?_⟩
 .simp only at hx
  subst hx;obtain⟨u,d,c⟩:=f 0 _ rfl;cases d;exact mF underlying22 c
 .simp only at hx
  subst hx;obtain⟨u,d,c⟩:=f 1 _ rfl;cases d;exact mF underlying23 c
end
end
section
open Go.Lib Go.RowKit
def gZ {w}{n}{g t e N}{k}{zs}(j:prog.globalNamed n=some g)(i:(prog.globals[g]?).map (·.type)=some t)(hu:prog.underlying t=some (.array N e))(he:prog.underlying e=some (.int k))(d:prog.cellsOf e=1)(c:prog.cellsOf t=N)
 (h:VarReads prog w n (tabData k zs)):TabIs prog w n k zs:=by
 obtain⟨g0,t0,cs,fuel,p,b,a,f,hd⟩:=h;obtain rfl:=adn (j.symm.trans b);obtain rfl:=adn (i.symm.trans a);have hcs:=cells_of_tab hu he d c hd;unfold TabIs;rw[f];obtain⟨l⟩:=cs;exact congrArg (λl=>some (Array.mk l)) hcs
def Tk:Go.Shelf.Ren:=⟨λx=>x,λn=>if n=5 then 5 else if n=119 then 316 else if n=138 then 318 else 319,λn=>if n=3 then 4 else 5⟩
def OJ:U8Types prog Tk:=⟨by kernel_rfl,by kernel_rfl,by kernel_rfl,by kernel_rfl⟩
def OK:U8Extra prog Tk:=⟨by kernel_rfl,by kernel_rfl,by kernel_rfl,by kernel_rfl,by kernel_rfl,by kernel_rfl,by kernel_rfl⟩
def Hq:(Rows.laid_internal_strconv_uint64pow10:DataW Unit)=tabData .u64 Lib.pow10Tab:=by kernel_rfl
def Bq:(Rows.laid_math_bits_deBruijn64tab:DataW Unit)=tabData .u8 (Lib.deBruijn64tab.map λn=>((n:Nat):Int)):=by kernel_rfl
def Gb:(Rows.laid_unicode_utf8_acceptRanges:DataW Unit)=acceptData:=by kernel_rfl
def yC:Rows.laid_unicode_utf8_first=firstData:=Pinned.utf8First_eq
def Dl {w}(hs:prog.globals.size<=w.heap.size)
 (f:VarReads prog w "internal/strconv.uint64pow10" Rows.laid_internal_strconv_uint64pow10)(d:VarReads prog w "unicode/utf8.first" Rows.laid_unicode_utf8_first)(c:VarReads prog w "unicode/utf8.acceptRanges" Rows.laid_unicode_utf8_acceptRanges)
 (b:VarReads prog w "math/bits.deBruijn64tab" Rows.laid_math_bits_deBruijn64tab):gY w:=by
 rw[Hq]at f;rw[yC]at d;rw[Gb]at c;rw[Bq]at b;have i:prog.globals.size=14:=by kernel_rfl
 refine⟨by omega,
  gZ (g:=3) (t:=310) (e:=125) (N:=20) (by kernel_rfl) (by kernel_rfl) (by kernel_rfl) (by kernel_rfl) (by kernel_rfl) (by kernel_rfl) f,utf8Tabs_of_readsT OJ OK d c,λj a=>?_⟩
 have h:=gZ (g:=13) (t:=343) (e:=5) (N:=64) (by kernel_rfl) (by kernel_rfl) (by kernel_rfl) (by kernel_rfl) (by kernel_rfl) (by kernel_rfl) b;have:=h.cell (g:=13) (by kernel_rfl) j (by simpa using a);rw[this];simp[List.getD,a]
end
section
open Go.Lib Go.RowKit Go.ChangeShapes
def Ej: "*errors.errorString" = "*" ++ "errors.errorString" :=by decide
def O6 (u)(h:prog.typeName? 3 u=some "*errors.errorString"):u=345:=
 typeName_ptr_named (nm:= "errors.errorString") (by rw[<-Ej];kernel_rfl) (by kernel_rfl) (by decide) u (by rw[<-Ej];exact h)
def rM {W}(h:laidMet prog Rows.widthsUptoRow.laid W):∃a,W.cell? ⟨0,0,none⟩=some (.iface 345 (.pointer (some a)))/\CB W a.block:=by
 obtain⟨a,s,b,hc,_⟩:=laid_sentinel (n:= "berth/disk.ErrFailed") (g:=0) (ti:=148) (te:=347) (ts:=9) (laidMet.tail (laidMet.tail (laidMet.tail (laidMet.tail h)))) (by kernel_rfl) (by kernel_rfl) underlying148 O6 underlying345 underlying347 rfl rfl underlying9 (by kernel_rfl) (by kernel_rfl);refine⟨a,?_,jY hc⟩;rw[World.var?_cell (show prog.globalNamed "berth/disk.ErrFailed" =some 0 by kernel_rfl) b 0];rfl
def IE {w}(h:w.ShapedOpen prog){g}(b:g<prog.globals.size)(a:(((begin prog (λ_ _=>0) default).world.heap[g]?).bind Obj.row?).isSome=true):CB w g:=by
 obtain⟨⟨zero,t⟩,e⟩:=Option.isSome_iff_exists.1 a;obtain⟨cs,hc,_⟩:=h.1 g zero t b e;exact⟨_,_,_,hc⟩
def Sn {w}(h:w.ShapedOpen prog):∀g,g∈QD->CB w g:=λg a=>by
 have key:(QD.all λg=>decide (g<14)&&(((begin prog (λ_ _=>0) default).world.heap[g]?).bind Obj.row?).isSome)=true:=by kernel_rfl
 have:=ZU.1 key g a;simp only[ZQ,decide_eq_true_eq]at this;exact IE h (by rw[show prog.globals.size=14 by kernel_rfl];exact this.1) this.2
def Rx (d:DataW Unit):List Int:=match d with
 |.agg ps=>ps.map λp=>match p with|.lit (.int _ z)=>z|_=>0
 |_=>[]
def Lt:(Rows.laid_math_bits_deBruijn32tab:DataW Unit)=tabData .u8 (Rx Rows.laid_math_bits_deBruijn32tab):=by kernel_rfl
def xc {w}{n}{g}{k}{zs}(c:prog.globalNamed n=some g)(h:TabIs prog w n k zs):∃xs e f,w.heap[g]? =some (.cells xs e f)/\∀v∈xs.toList,∃k n,v=.int k n:=by
 unfold TabIs World.var? at h;rw[c]at h;simp only[Option.bind_some]at h;cases b:w.heap[g]? with
 |none=>rw[b]at h;cases h
 |some o=>
  rw[b]at h;cases o with
  |cells cs e f=>
   simp only[ac2]at h;refine⟨cs,e,f,rfl,λv a=>?_⟩;rw[h]at a;simp only[adz]at a;obtain⟨z,_,rfl⟩:=a;exact⟨_,_,rfl⟩
  |_=>cases h
def Gc {w}(b:w.ShapedOpen prog)(h:Utf8Tabs 4 5 w):∃xs e f,w.heap[(5:Nat)]? =some (.cells xs e f)/\∀v∈xs.toList,∃k n,v=.int k n:=by
 have a:((((begin prog (λ_ _=>0) default).world.heap[(5:Nat)]?).bind Obj.row?).map λx=>x.1.size)=some 32:=by kernel_rfl
 cases e:((begin prog (λ_ _=>0) default).world.heap[(5:Nat)]?).bind Obj.row? with
 |none=>rw[e]at a;cases a
 |some x=>
  obtain⟨zero,t⟩:=x;rw[e]at a;have l:zero.size=32:=adn a;obtain⟨cs,hc,hs,_⟩:=b.1 _ zero t (by rw[show prog.globals.size=14 by kernel_rfl];decide) e;refine⟨cs,_,_,hc,λv g=>?_⟩;obtain⟨i,d,c⟩:=List.getElem_of_mem g;have j:i<32:=by rw[adG]at d;omega
  have hcell:w.cell? ⟨5,i,none⟩=some v:=by
   rw[(blk hc).1 i,<-adF,ZT d,c]
  have hu:=h.2 (i/2) (by omega);rcases(show i=2*(i/2)\/i=2*(i/2)+1 by omega)with e|e
  .rw[e,hu.1]at hcell
   exact⟨_,_,(adn hcell).symm⟩
  .rw[e,hu.2]at hcell
   exact⟨_,_,(adn hcell).symm⟩
end
section
open Go Go.ChangeShapes Go.WideShapes Go.ChangeAt Go.RowKit Go.Conc Go.Lib
def MO:ownKnob prog.godebug=none:=by kernel_rfl
def uI {w:World}(h:w.ShapedOpen prog):prog.globals.size<=w.heap.size:=by
 obtain⟨b,_⟩:=h;have a:prog.globals.size=14:=by kernel_rfl
 have hs:(((begin prog (λ_ _=>0) default).world.heap[13]?).bind Obj.row?).isSome=true:=by kernel_rfl
 obtain⟨⟨zero,t⟩,e⟩:=Option.isSome_iff_exists.1 hs;obtain⟨cs,hc,_⟩:=b 13 zero t (by rw[a];omega) e;have:=(ZK.1 hc).1;omega
def FJ {w}(hs:prog.globals.size<=w.heap.size)(f:w.ShapedOpen prog)(h:laidMet prog Rows.widthsUptoRow.laid w.memory):Az w (CB w)/\∃a,w.cell? ⟨0,0,none⟩=some (.iface 345 (.pointer (some a)))/\CB w a.block:=by
 have q:VarReads prog w.memory "internal/strconv.uint64pow10" Rows.laid_internal_strconv_uint64pow10:=laidMet.reads h (by simp[Rows.widthsUptoRow]);have l:VarReads prog w.memory "unicode/utf8.first" Rows.laid_unicode_utf8_first:=laidMet.reads h (by simp[Rows.widthsUptoRow])
 have p:VarReads prog w.memory "unicode/utf8.acceptRanges" Rows.laid_unicode_utf8_acceptRanges:=laidMet.reads h (by simp[Rows.widthsUptoRow]);have k:VarReads prog w.memory "math/bits.deBruijn64tab" Rows.laid_math_bits_deBruijn64tab:=laidMet.reads h (by simp[Rows.widthsUptoRow]);have m:VarReads prog w.memory "math/bits.deBruijn32tab" Rows.laid_math_bits_deBruijn32tab:=laidMet.reads h (by simp[Rows.widthsUptoRow]);have b:=Dl (w:=w.memory) hs q l p k;have env:gY w:=⟨b.size,b.pow,b.Mf,b.Ls⟩;obtain⟨a,k1,o⟩:=rM h;have d:w.cell? ⟨0,0,none⟩=some (.iface 345 (.pointer (some a))):=k1;have c:CB w a.block:=o;refine⟨⟨env,λg j=>?_,λg j=>?_,Sn f⟩,a,d,c⟩
 .have e:g=0:=adi.1 j
  subst e;exact⟨_,a,d,by decide,c⟩
 .have i:g=4\/g=5\/g=12\/g=13:=by
   have:g∈[4,5,12,13]:=j;simpa using this
  rcases i with rfl|rfl|rfl|rfl
  .rw[yC]at l
   have t:=xc (w:=w.memory) (n:= "unicode/utf8.first") (g:=4) (by kernel_rfl) (gZ (g:=4) (t:=316) (e:=5) (N:=256) (by kernel_rfl) (by kernel_rfl) (by kernel_rfl) (by kernel_rfl) (by kernel_rfl) (by kernel_rfl) l);exact t
  .exact Gc f env.Mf
  .rw[Lt]at m
   have t:=xc (w:=w.memory) (n:= "math/bits.deBruijn32tab") (g:=12) (by kernel_rfl) (gZ (g:=12) (t:=342) (e:=5) (N:=32) (by kernel_rfl) (by kernel_rfl) (by kernel_rfl) (by kernel_rfl) (by kernel_rfl) (by kernel_rfl) m);exact t
  .rw[Bq]at k
   have t:=xc (w:=w.memory) (n:= "math/bits.deBruijn64tab") (g:=13) (by kernel_rfl) (gZ (g:=13) (t:=343) (e:=5) (N:=64) (by kernel_rfl) (by kernel_rfl) (by kernel_rfl) (by kernel_rfl) (by kernel_rfl) (by kernel_rfl) k);exact t
end
section
open Go Go.ChangeShapes Go.WideShapes Go.ChangeAt Go.RowKit Go.Conc Go.ConcN Go.Deep Go.Joins Go.Lib
def aa0 (H:Type)(enc:TypeId×Value->H)(W:World)(base:Nat)(args:Array Value)(ds gs:List (DataW H))(before:List MemPlace)(M:Az W (CB W))(a:Addr)(hF:W.cell? ⟨0,0,none⟩=some (.iface 345 (.pointer (some a))))(w:CB W a.block)(L:prog.globals.size<=W.heap.size)
 (b:∀(j:Nat) t v,Tryz.f4.params[j]? =some t->args[j]? =some v->Value.okWide prog W .any base t v)
 (hW:DataW.Whole enc prog Tryz.f4.params.toList Rows.wholeSpec.vars false W args.toList ds gs before)
 (f:(DataW.weightsEach prog (Tryz.f4.params.toList++Rows.wholeSpec.plain.varTypes prog) (ds++gs)).all (·<=reachBytes)=true)
 (F:Rows.uptoSmall H (ds++gs)=true):
 ∃N last o w' i,runNT prog (N+1) (solo (G (Frame.enter prog 4 args .normal) []) W) #[]=(.ended o w',i)/\runN prog N (solo (G (Frame.enter prog 4 args .normal) []) W)=.next last/\
  step prog last=.ended o w'/\Conc.Good prog (λv O=>Rows.wholeSpec.post enc prog Tryz.f4 false true false false W args v O) last o w' i:=by
 have e:=hW;obtain⟨p,q,g,J,rfl,_,_⟩:=hW;have hA:DataW.TrodAll enc prog W 0 (λ_=>true) true Tryz.f4.params.toList args.toList ds p:=g;have hval:=b;rw[params4]at hA hval f;obtain⟨v0,v1,v2,d0,d1,d2,z,y,p2,rfl,rfl,rfl,C,B,A⟩:=trodAll_three hA;obtain⟨rfl,rfl⟩:=trodVars_none J;have k:∀x∈d0.weights prog 25,x<=reachBytes:=λx hx=>adj (ZU.1 f x (DataW.weights_mem_each (j:=0) rfl rfl x hx))
 obtain⟨m,rfl,hm,s,hp⟩:=Ak (hval 0 25 v0 rfl rfl) C k
 have u:Rows.uptoBulk d1<=1048576:=by
  have h:=adj F;simp only[List.append_nil,Rows.uptoBulkAll]at h;omega
 obtain⟨so,n,cap,T,rfl,K,hc,hd⟩:=vg (hval 1 26 v1 rfl rfl) B u;obtain⟨r,rfl,E⟩:=Ah (hval 2 29 v2 rfl rfl) A;obtain⟨I,hb⟩:=M7 (hval 0 25 m.val rfl rfl);clear g b;simp only[List.append_nil]at e;have d:∀x∈z++y++p2,x.block<W.heap.size:=λx hx=>by simpa using e.lt x hx
 obtain⟨N,last,o,w',i,g1,g2,g3,g4⟩:=abU m so n cap T r a W M hm s hp K E hF w L (λx hx=>.inl (I x hx)) (λx hx=>.inl (hb x hx)) hc hd;refine⟨N,last,o,w',i,g1,g2,g3,?_⟩;obtain⟨v,D,⟨l,hb⟩,c⟩:=g4;refine⟨v,D,?_,c⟩;subst l;refine⟨_,_,_,[],z++y++p2,[],e,?_,?_,rfl,hb.frame _,λh=>by cases h⟩
 .exact trodAll_mk1 (shut_bool underlying4 true)
 .rw[adu]
  exact trodAll_cons_mk (Below.trod xU (by kernel_rfl) (adj (by kernel_rfl)) C hb λx hx=>d x (List.mem_append_left _ (List.mem_append_left _ hx)))
   (trodAll_cons_mk (Below.trod xU (by kernel_rfl) (adj (by kernel_rfl)) B hb λx hx=>d x (List.mem_append_left _ (List.mem_append_right _ hx)))
     (trodAll_mk1 (Below.trod xU (by kernel_rfl) (adj (by kernel_rfl)) A hb λx hx=>d x (List.mem_append_right _ hx))))
def aa3 (os:Os)(H:Type)(enc:TypeId×Value->H):Prop:=
    ∃(w:World) (tape:Tape) (i:Input),w.os=os/\(w.forCall tape i).Shaped Tryz.checked.prog/\i.vars=[]/\Input.okWide Tryz.checked.prog (w.forCall tape i) .any w.heap.size 4 i/\
     (((Rows.OpenSpec.upto Rows.wholeSpec).pre enc Tryz.checked.prog Tryz.f4 [] false (w.forCall tape i).memory i.args/\laidMetH prog Rows.wholeUptoRow.laid (w.forCall tape i).memory)/\sizedMet enc Tryz.checked.prog Tryz.f4 (Rows.OpenSpec.upto Rows.wholeSpec) false (w.forCall tape i).memory i.args)/\
     ({}:Assume).holds Tryz.checked.prog (lone (Frame.enter Tryz.checked.prog 4 i.args .normal) [] (w.forCall tape i))
def abw (os:Os)(started:os.Started)(H:Type)(enc:TypeId×Value->H)(F:Stop.Interp)(d:aa3 os H enc):
 ReturnsInLeavingWide {} Tryz.checked os 4 .any (λw args=>((Rows.OpenSpec.upto Rows.wholeSpec).pre enc prog Tryz.f4 [] false w args/\laidMetH prog Rows.wholeUptoRow.laid w)/\sizedMet enc prog Tryz.f4 (Rows.OpenSpec.upto Rows.wholeSpec) false w args)
  (((Rows.OpenSpec.upto Rows.wholeSpec).at F).post enc prog Tryz.f4 false true false false):=by
 refine returnsInLeavingWide_of_good (C:=Tryz.checked) MO started d ?_;intro w tape i _ b _ l f _;obtain⟨_,_,_,m,g,_,_,_,_,hval⟩:=l;have e:m=Tryz.f4:=adn (g.symm.trans func4);subst e;obtain⟨⟨j,n⟩,r⟩:=f;rw[MakeChecks.laidMetH_plain _ _ _ (by kernel_rfl)]at n;obtain⟨x,a,k1,q⟩:=FJ (uI b) b n;obtain⟨ds,gs,before,hw,_,u⟩:=(OpenSpec.pre_some (s:=Rows.OpenSpec.upto Rows.wholeSpec) (k:=Rows.uptoSmall) rfl _ _ _ _).1 j;have h:=DataW.Whole.of_heap (w':=w.forCall tape i) (by rfl) hw;obtain⟨N,last,o,w',p,g1,g2,g3,g4⟩:=aa0 H enc (w.forCall tape i) w.heap.size i.args ds gs before x a k1 q (uI b) hval h (r.weights hw) u;refine⟨N,last,o,w',p,g1,g2,g3,?_⟩;obtain⟨v,t,hp,c⟩:=g4;exact⟨v,t,ChangeSpec.post_blind hp,c⟩
end
section
open Go Go.ChangeShapes Go.WideShapes Go.ChangeAt Go.RowKit Go.Conc
def aaC:Array Value:= #[.agg #[.slice none 0 0,.slice none 0 0,.int .i64 0],.slice none 0 0,.agg #[.int .i64 0,.int .i64 0,.int .i64 0,.int .i64 0]]
def aa5 (os:Os)(H:Type)(enc:TypeId×Value->H):aa3 os H enc:=by
 have a:Input.okWideB Tryz.checked.prog (({World.settled prog os with heap:=iJ (World.settled prog os).heap}:World).forCall (λ_ _=>0) ⟨#[],aaC,[]⟩) 4 ⟨#[],aaC,[]⟩=true:=by kernel_rfl
 have hx:DataW.whole enc Tryz.checked.prog (({World.settled prog os with heap:=iJ (World.settled prog os).heap}:World).forCall (λ_ _=>0) ⟨#[],aaC,[]⟩).memory (Func.params Tryz.f4).toList Rows.wholeSpec.vars false aaC.toList 8=some ([.agg [.nil,.nil,.lit (.int .i64 0)],.nil,.agg [.lit (.int .i64 0),.agg [.lit (.int .i64 0),.lit (.int .i64 0),.lit (.int .i64 0)]]],[],[]):=by kernel_rfl
 have b:Rows.wholeSpec.sizedB enc Tryz.checked.prog Tryz.f4 false (({World.settled prog os with heap:=iJ (World.settled prog os).heap}:World).forCall (λ_ _=>0) ⟨#[],aaC,[]⟩).memory aaC 8=true:=by kernel_rfl
 refine⟨{World.settled prog os with heap:=iJ (World.settled prog os).heap},λ_ _=>0,⟨#[],aaC,[]⟩,rfl,zT os _,(Input.okWide_of_okWideB (base:=0) a).1,(Input.okWide_of_okWideB a).2,
  ⟨⟨(OpenSpec.pre_some (s:=Rows.OpenSpec.upto Rows.wholeSpec) (k:=Rows.uptoSmall) rfl [] false _ _).2 ⟨_,_,_,DataW.Whole_of_whole hx,rfl,by kernel_rfl⟩,GU os _⟩,sizedMet_of_sizedB b⟩,?_⟩
 simp only[Assume.holds];exact⟨by simp,by simp,λ_=>Modest.zero,by simp,by simp⟩
def abS:Rows.WholeUptoSaid:=
 mZ 4 Tryz.f4 rfl rfl rfl rfl rfl rfl rfl ⟨rfl,rfl,rfl,rfl,rfl⟩ rfl rfl rfl rfl rfl (by kernel_rfl) func4 aaV
  (adj (by kernel_rfl)) (by unfold Func.isWrapper;first|(rw[if_pos (by decide+kernel)];kernel_rfl)|(rw[if_neg (by decide+kernel)];exact⟨rfl,rfl⟩))
  (λos started H enc _ F=>abw os started H enc F (aa5 os H enc))
def abK (f:FuncId)(fn:Func)(hf:Tryz.pinned.checked.prog.funcNamed "berth/berthkeep.Whole" =some f)(a:Tryz.pinned.checked.prog.funcs[f]? =some fn):
 true=Tryz.pinned.checked.prog.looks []/\∀(j:Nat) t,fn.params[j]? =some t->Tryz.pinned.checked.prog.wantsStandIn t=false:=by
 obtain rfl:f=4:=adn ((show prog.funcNamed "berth/berthkeep.Whole" =some 4 by kernel_rfl).symm.trans hf)|>.symm
 obtain rfl:fn=Tryz.f4:=(adn (func4.symm.trans a)).symm;refine⟨by kernel_rfl,λj t b=>?_⟩;rw[params4]at b;have hm:=ac5 b;simp only[adA,ZW,adm,or_false]at hm;rcases hm with rfl|rfl|rfl
 .exact(show prog.wantsStandIn 25=false by kernel_rfl)
 .exact(show prog.wantsStandIn 26=false by kernel_rfl)
 .exact(show prog.wantsStandIn 29=false by kernel_rfl)
def ach:Rows.wholeUptoRow.wfByText (Rows.OpenSpec.upto Rows.wholeSpec)=true:=by kernel_rfl
def abV:true=Rows.wholeUptoRow.goesBy Tryz.pinned.checked.prog:=by kernel_rfl
def abT:Tryz.pinned.checked.prog.mainIs=some (Rows.wholeUptoCard.stood.harness.1,Rows.wholeUptoCard.stood.harness.2.toList):=by kernel_rfl
theorem wholeUpto_card:Rows.WholeUptoCardSaid:=
 ⟨Claim7.tied_new_at .later Rows.wholeUptoCard.laidKinds true (Claim7.new_of_sixth abS _ _ rfl ⟨rfl,rfl⟩ abT rfl abK) ach,(λ_ h=>(by cases h)),OG,(λh=>(by cases h)),abV⟩
end
