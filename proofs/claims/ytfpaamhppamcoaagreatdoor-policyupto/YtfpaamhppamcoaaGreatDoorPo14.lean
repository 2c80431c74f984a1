/- Policy answers true and leaves its input as it was, for every input of bulk at most the bound of its row. -/
import Derived.Test.YtfpaamhppamcoaaGreatDoorPo13
import Derived.LaidMore
import Derived.Test.YtfpaamhppamcoaaGreatDoorCards
import Derived.Lib.LaidU8T
import Derived.PinnedBridge
import Derived.Stop.LaidErr
set_option linter.all false
set_option maxRecDepth 100000
set_option maxHeartbeats 60000000
namespace Go.Proofs.YtfpaamhppamcoaaGreatDoor
open Go.Proofs.Tryz
namespace Z
open Go.RowKit
attribute [local go_sem ↓] Go.wp_at_zero Go.wp_at_succ
attribute [local go_sem] After.cell After.frozen After.const
def agh (s:BS)(c:Nat->Nat)(code:Int)(L:Nat->List Nat):Prop:=
 (code=8/\gX (eG s.D λi=>(c i:Int)) (og s.D λi=>(c i:Int)) 4 15=false)\/
    (gX (eG s.D λi=>(c i:Int)) (og s.D λi=>(c i:Int)) 4 15=true/\((code=9/\gu (eG s.D λi=>(c i:Int)) (og s.D λi=>(c i:Int)) s.m.p=none)\/
     (code=0/\∃m,gu (eG s.D λi=>(c i:Int)) (og s.D λi=>(c i:Int)) s.m.p=some m/\∀q,q<4->QQ s.D m q (c q) (L q))))
def af1 {s s':BS}{r:Value}{w':World}{K':Nat->Nat}{c:Nat->Nat}(h:zD s aaE (λi=>(c i:Int)) r s' w' K')(hm:qo (λi=>(c i:Int))=true)(hf:¬s.jQ)(f:∀x∈s.bs,x.nm≠aaE)(o:s.bs.length<12):
 ∃(code:Int) (A:Nat->Option Addr) (C:Nat->Nat) (L:Nat->List Nat) (z:Nat),r=.tuple #[aaI A C L,.int .i64 code]/\GrO w' K' z A C L/\agh s c code L:=by
 rcases h with⟨code,rfl,rfl,g⟩|⟨_,_,_,_,j,_⟩|⟨m,p,x,A,C,z,hy,_,rfl,rfl,k,l⟩
 .refine⟨code,λ_=>none,λ_=>0,λ_=>[],0,rfl,λq _=>⟨aag _ _ _ _,λb hb=>by cases hb⟩,?_⟩
  rcases g with⟨a,_⟩|⟨_,a,_⟩|⟨_,_,a,_⟩|⟨_,_,_,a,rfl⟩|⟨_,_,_,_,a,rfl⟩|⟨_,_,_,_,a,n,rfl⟩
  .exact absurd ⟨by decide,by decide⟩ a
  .exact absurd a (abv f)
  .rw[hm]at a;cases a
  .omega
  .exact .inl ⟨rfl,a⟩
  .exact .inr ⟨a,.inl ⟨rfl,n⟩⟩
 .exact absurd j hf
 .have d:∀q,q<4->QQ s.D m q (c q) (x.T q):=hy.given
  refine⟨0,A,C,x.T,z,?_,λq e=>⟨?_,λb hb=>l b ?_⟩,.inr ⟨hy.yL,.inr ⟨rfl,m,hy.mask,d⟩⟩⟩
  .unfold aaI
   rw[(d 0 (by omega)).1,(d 1 (by omega)).1,(d 2 (by omega)).1,(d 3 (by omega)).1];rfl
  .have:=k q e
   rw[show aN (λi=>((c i:Nat):Int)) q=(x.T q).length from(d q e).1.symm]at this;exact this
  .have:=k q e
   rw[show aN (λi=>((c i:Nat):Int)) q=(x.T q).length from(d q e).1.symm]at this;exact(this.lt b hb).1
def age {D:BD}(a:D.ok){c:Nat->Nat}{p:Int}(he:gX (eG D λi=>(c i:Int)) (og D λi=>(c i:Int)) 4 15=true)(h:gu (eG D λi=>(c i:Int)) (og D λi=>(c i:Int)) p=none):anyM (okA D (gq D) c (eG D λi=>(c i:Int)) p) 16=false:=af9 (agc a he h)
def agd {D:BD}(a:D.ok){c:Nat->Nat}{p:Int}{m:Nat}{G:Nat->List Nat}(h:gu (eG D λi=>(c i:Int)) (og D λi=>(c i:Int)) p=some m)(g:∀q,q<4->QQ D m q (c q) (G q)):
 anyM (okA D (gq D) c (eG D λi=>(c i:Int)) p) 16=true/\anyM (λk=>okA D (gq D) c (eG D λi=>(c i:Int)) p k&&afa (ae0 D k G) c 4) 16=true:=by
 obtain⟨⟨e,d⟩,b⟩:=agb a h;refine⟨afN e b d,afN e ?_ d⟩;rw[b,Bool.true_and,aeW];exact λq f=>Nat.le_of_eq (af7 (g q f)).symm
def af6 (M:cz)(so:Option Addr)(n cap:Nat)(T:Nat->eU)(r:Nat->Int)(a:Addr)(w:World)(hM:M.At w)(V2:∀i,i<M.n->In64 (M.S i)/\In64 (M.C i))(hp:In64 M.p)(hT:DL w so n cap T)(hr:∀i,i<4->In64 (r i))
 (hG:w.cell? ⟨0,0,none⟩=some (.iface 345 (.pointer (some a)))):
 adO 5 #[M.val,.slice so n cap,.agg #[.int .i64 (r 0),.int .i64 (r 1),.int .i64 (r 2),.int .i64 (r 3)]] w (RJ (λv _=>v=.bool true) AA):=by
 have HT:=av (aaa hT hG);have Hr:=av hr;have Zr:Hid (∀u,adN w u->adO 8 #[M.val] u λe w'=>∃m G F ra rc,e=.returned (.agg #[.slice G m.n F,.slice ra m.r rc,.int .i64 m.p])/\kX w' u.heap.size m (.slice G m.n F) (.slice ra m.r rc)/\adN u w'):=λu hu=>CV M u (hM.ext hu) V2 hp
 clear hM V2 hp hT hG hr;unfold cz.val at*
 go_enter (pf func5 (by rfl)),ntmps5
 go_wp2_with fail;have Ξ:Hid (adN w ((w.alloc (.cells #[.slice M.ao M.n M.cap,.slice M.ro M.r M.gD,.int .i64 M.p] 25)).alloc (.cells #[.int .i64 (r 0),.int .i64 (r 1),.int .i64 (r 2),.int .i64 (r 3)] 29 (0,0)))/\((w.alloc (.cells #[.slice M.ao M.n M.cap,.slice M.ro M.r M.gD,.int .i64 M.p] 25)).alloc (.cells #[.int .i64 (r 0),.int .i64 (r 1),.int .i64 (r 2),.int .i64 (r 3)] 29 (0,0))).heap[w.heap.size+1]? =some (.cells #[.int .i64 (r 0),.int .i64 (r 1),.int .i64 (r 2),.int .i64 (r 3)] 29 (0,0))):=⟨((aab _ _).alloc (ZL _) _).alloc (by simp) _,aam _ _ _⟩;refine(Zr.out _ Ξ.out.1).mono ?_;rintro e w1 ⟨m,G,F,ra,rc,rfl,acy,hb1⟩;have H1:=av (aaa acy (aaa (ai Ξ.out.1 hb1) (bJ hb1 Ξ.out.2)));clear acy hb1 Ξ;go_wp2_with fail;obtain⟨W1,hW1⟩:∃W,W=w1.alloc (.cells #[.slice G m.n F,.slice ra m.r rc,.int .i64 m.p] 25 (0,0)):=⟨_,rfl⟩
 have H2:Hid (adN w W1/\W1.heap[w.heap.size+1]? =some (.cells #[.int .i64 (r 0),.int .i64 (r 1),.int .i64 (r 2),.int .i64 (r 3)] 29 (0,0))/\W1.heap[w1.heap.size]? =some (.cells #[.slice G m.n F,.slice ra m.r rc,.int .i64 m.p] 25 (0,0))/\kX W1 (w.heap.size+2) m (.slice G m.n F) (.slice ra m.r rc)):=by
  rw[hW1];have hb:adN w1 (w1.alloc (.cells #[.slice G m.n F,.slice ra m.r rc,.int .i64 m.p] 25 (0,0))):=(aab _ _).alloc (ZL _) _;refine⟨ai H1.out.2.1 hb,bJ hb H1.out.2.2,aae _ _,?_⟩;have:=H1.out.1.below hb;simpa using this
 rw[<-hW1];clear hW1;refine(Hu m G ra so F rc _ n cap T a W1 H2.out.2.2.2 (HT.out.1.below H2.out.1) (keeps H2.out.1 HT.out.2)).mono ?_;intro e w2 he;rcases e with r'|ch|_
 rotate_left
 .exact⟨rfl,he⟩
 .exact he.elim
 obtain⟨base,bb,s0,K,rfl,Z,I,Q,ο⟩:=he;have Y:∀b,b<W1.heap.size->K b=0:=λb hb=>I.zero (ZO hb Z)
 obtain⟨mo,hmo⟩:∃o:Obj,o=.cells #[.slice G m.n F,.slice ra m.r rc,.int .i64 m.p] 25 (0,0):=⟨_,rfl⟩;have Ψ:Hid (∀(u:World) b,u.heap[b]? =some mo->∀j,u.cell? ⟨b,j,none⟩=(#[.slice G m.n F,.slice ra m.r rc,.int .i64 m.p]:Array Value)[j]?):=λu b h=>(blk (h.trans (congrArg some hmo))).1
 obtain⟨ro,hro⟩:∃o:Obj,o=.cells #[.int .i64 (r 0),.int .i64 (r 1),.int .i64 (r 2),.int .i64 (r 3)] 29 (0,0):=⟨_,rfl⟩;have Bro:Hid (∀(u:World) b,u.heap[b]? =some ro->∀j,u.cell? ⟨b,j,none⟩=(#[.int .i64 (r 0),.int .i64 (r 1),.int .i64 (r 2),.int .i64 (r 3)]:Array Value)[j]?):=λu b h=>(blk (h.trans (congrArg some hro))).1
 have H3:Hid (adN w w2/\Kp w2 K [(w1.heap.size,mo),(w.heap.size+1,ro)]/\kX w2 (w.heap.size+2) m (.slice G m.n F) (.slice ra m.r rc)/\(∀b,(Value.slice G m.n F).ownBlock=some b\/(Value.slice ra m.r rc).ownBlock=some b->K b=0)/\Bd w2 base bb s0 K/\s0.m=m/\pR s0 (eO m T n)/\s0.inv/\s0.no<=400000000/\w.heap.size<=base):=by
  have k1:=(ZK.1 H2.out.2.1).1;have k2:=(ZK.1 H2.out.2.2.1).1;refine⟨ai H2.out.1 ο,?_,H2.out.2.2.2.below ο,?_,I,Q.keeps.1,Q.told,Q.inv H2.out.2.2.2.ok,by have:=Q.keeps.2;have:=HT.out.1.many;omega,ZP H2.out.1.size Z⟩
  .intro p hp
   simp only[ZW,adm,or_false]at hp;rcases hp with rfl|rfl
   .exact⟨by rw[hmo];exact bJ ο H2.out.2.2.1,Y _ k2⟩
   .exact⟨by rw[hro];exact bJ ο H2.out.2.1,Y _ k1⟩
  .rintro b (hb|hb)
   .exact Y b (H2.out.2.2.2.dA.lt b hb).2
   .exact Y b (H2.out.2.2.2.res.lt b hb).2
 clear I Q ο Z Y hmo hro;go_wp2_with fail;refine(IM base bb (-1) s0 K w2 H3.out.2.2.2.2.1 (by unfold In64;omega)).mono ?_;rintro e w3 ⟨rfl,I,O⟩;obtain⟨s,hs⟩:∃s,s=s0.IP (-1):=⟨_,rfl⟩;rw[<-hs]at I;have XJ:0<base:=by have h1:=aan HT.out.2;have h2:=H3.out.2.2.2.2.2.2.2.2.2;exact ZO h1 h2
 have HS:Hid (s.inv/\s.m=m/\pR s (eO m T n)/\s.no<=400000000/\s.fl=false):=by
  subst hs;exact⟨H3.out.2.2.2.2.2.2.2.1.IP _,H3.out.2.2.2.2.2.1,⟨H3.out.2.2.2.2.2.2.1.dn,H3.out.2.2.2.2.2.2.1.dN,H3.out.2.2.2.2.2.2.1.dH⟩,H3.out.2.2.2.2.2.2.2.2.1,rfl⟩
 have H4:Hid (Bd w3 base bb s K/\adN w w3/\Kp w3 K [(w1.heap.size,mo),(w.heap.size+1,ro)]/\(kX w3 (w.heap.size+2) m (.slice G m.n F) (.slice ra m.r rc)/\∀b,(Value.slice G m.n F).ownBlock=some b\/(Value.slice ra m.r rc).ownBlock=some b->K b=0)/\w3.cell? ⟨0,0,none⟩=some (.iface 345 (.pointer (some a)))):=
  ⟨I,H3.out.1.trans (O.below H3.out.1.size λb hb=>H3.out.2.2.2.2.1.zero (ZO hb H3.out.2.2.2.2.2.2.2.2.2)),H3.out.2.1.aaq O,H3.out.2.2.1.aaq O H3.out.2.2.2.1,aaH H3.out.2.2.2.2.1 XJ (keeps H3.out.1 HT.out.2) O⟩
 clear I O hs;go_wp2_with fail;refine(Ij m so n cap T w3 (HT.out.1.below H4.out.2.1)).mono ?_;rintro e w4 ⟨v,rfl,d,rfl,κ,ξ⟩
 have y:∀k,k<3->w4.ownsRow w3.heap.size 75 2 (d k) (s.dn k) (rO s k):=λk hk=>by
  have h1:=κ k hk;have h2:=HS.out.2.2.1.dv k;rw[h2.1,h2.2]at h1;exact h1
 obtain⟨a0,k0,e0⟩:=aj (y 0 (by omega));obtain⟨a1,k1,e1⟩:=aj (y 1 (by omega));obtain⟨a2,k2,e2⟩:=aj (y 2 (by omega));rw[e0,e1,e2];obtain⟨W4,hW4⟩:∃W,W=w4.alloc (.cells #[.slice a0 (s.dn 0) k0,.slice a1 (s.dn 1) k1,.slice a2 (s.dn 2) k2] 34 (0,0)):=⟨_,rfl⟩;obtain⟨dO,hdO⟩:∃o:Obj,o=.cells #[.slice a0 (s.dn 0) k0,.slice a1 (s.dn 1) k1,.slice a2 (s.dn 2) k2] 34 (0,0):=⟨_,rfl⟩;have Ω:Hid (∀(u:World) b,u.heap[b]? =some dO->∀j,u.cell? ⟨b,j,none⟩=(#[.slice a0 (s.dn 0) k0,.slice a1 (s.dn 1) k1,.slice a2 (s.dn 2) k2]:Array Value)[j]?):=λu b h=>(blk (h.trans (congrArg some hdO))).1
 have H5:Hid (Bd W4 base bb s K/\dJ w3 W4 K K/\Kp W4 K [(w4.heap.size,dO),(w1.heap.size,mo),(w.heap.size+1,ro)]/\∀k,k<3->W4.ownsRow w3.heap.size 75 2 (d k) (s.dn k) (rO s k)):=by
  rw[hW4,hdO];have hb:adN w4 (w4.alloc (.cells #[.slice a0 (s.dn 0) k0,.slice a1 (s.dn 1) k1,.slice a2 (s.dn 2) k2] 34 (0,0))):=(aab _ _).alloc (ZL _) _;exact⟨(H4.out.1.below ξ).alloc _,(dJ.fq ξ).alloc _,(H4.out.2.2.1.aaq (dJ.fq ξ)).alloc (H4.out.1.fresh ξ.size),λk hk=>au (y k hk) hb⟩
 clear κ y ξ hdO;go_wp2_with fail;rw[<-hW4];clear hW4;refine(aaY base bb s K W4 H5.out.1).mono ?_;rintro e w5 ⟨v5,l,rfl,hbx,hal,hb5⟩;obtain⟨lo,lc,rfl⟩:=aj hbx.row;have H6:Hid (Bd w5 base bb s K/\adN W4 w5/\aar w5 W4.heap.size (.slice lo l.length lc) l/\l5 s.bs l):=⟨H5.out.1.below hb5,hb5,hbx,hal⟩;clear hbx hal hb5
 by_cases h12:12<=l.length
 .have hl:(12:Int)<=((l.length:Nat):Int):=by omega
  have hlb:decide ((12:Int)<=((l.length:Nat):Int))=true:=ady hl;go_wp2_with fail;go_ret;rfl
 have hl:¬(12:Int)<=((l.length:Nat):Int):=by omega
 have hlb:decide ((12:Int)<=((l.length:Nat):Int))=false:=adg hl;go_wp2_with fail;clear hl hlb;have H12:Hid (s.bs.length<12):=by have:=H6.out.2.2.2.1;show _<_;omega
 clear h12;refine(aaX base bb s K w5 H6.out.1).mono ?_;rintro e P ⟨A,C,rfl,Θ,ν⟩;obtain⟨L,hL⟩:∃L,L=gq s.D:=⟨_,rfl⟩;rw[<-hL]at Θ⊢;have HL:=av hL;clear hL;obtain⟨W6,σ⟩:∃W,W=P.alloc (aaF A C L):=⟨_,rfl⟩
 have H7:Hid (WhI m (.slice G m.n F) (.slice ra m.r rc) (w.heap.size+2) w3.heap.size W4.heap.size w5.heap.size s d (.slice lo l.length lc) l A C L K W6/\Kp W6 K [(P.heap.size,aaF A C L),(w4.heap.size,dO),(w1.heap.size,mo),(w.heap.size+1,ro)]/\Bd W6 base bb s K/\dJ w3 W6 K K):=by
  rw[σ];have hb:=ai H6.out.2.1 ν;have ho:dJ w3 P K K:=H5.out.2.1.trans (dJ.fq hb);obtain⟨m1,m2⟩:=H4.out.2.2.2.1.1.aaq ho H4.out.2.2.2.1.2;refine⟨WhI.alloc ⟨m1,m2,λk hk=>au (H5.out.2.2.2 k hk) hb,λk hk b hb=>H4.out.1.fresh ((H5.out.2.2.2 k hk).lt b hb).1,H6.out.2.2.1.below ν,λb hb=>H5.out.1.fresh (H6.out.2.2.1.row.lt b hb).1,λx hx q z b hb=>H5.out.1.fresh ((H6.out.2.2.1.rows x hx q z).lt b hb).1,λq z=>⟨Θ q z,λb hb=>H6.out.1.fresh ((Θ q z).lt b hb).1⟩⟩ _,(H5.out.2.2.1.aaq (dJ.fq hb)).alloc (H6.out.1.fresh ν.size),(H6.out.1.below ν).alloc _,ho.alloc _⟩
 clear Θ ν;have Δ:Hid s.D.ok:=HS.out.1.d
 have HRS:Hid (∀u (q n:Nat),q<4->adN W6 u->n=Q0 s.D q->adO 27 #[.slice (A q) (L q).length (C q),.int .i64 n] u λe w'=>e=.returned (.bool true)/\adN u w'):=λu q n z hu hn=>by
  refine ab7 _ _ _ _ u ((H7.out.1.gr.aaM q z).ext hu) λi hi=>?_
  have h1:=II s.D q;have h2:=yx s.D q;rw[<-HL.out]at h1 h2;simp only[getD_at hi];have h3:=h2 _ (acY hi);subst hn;unfold Q0;refine⟨by omega,?_,λhi0=>?_⟩
  .by_cases e:q=0
   .rw[if_pos e]at h3⊢;omega
   .rw[if_neg e]at h3⊢;omega
  rw[getD_at (by omega)];have:=aaW h1 hi (show i-1<i by omega);omega
 unfold aaI;have q7:=Ψ.out _ _ H7.out.2.1.tail.tail.head;rw[σ]at q7;unfold aaF at σ q7;go_wp2_with fail;rw[<-σ];clear σ q7;refine(HRS.out W6 0 m.n (by omega) (aab _ _) (by rw[<-HS.out.2.1];rfl)).mono ?_;rintro e w7 ⟨rfl,hb7⟩;have H8:=av hb7;clear hb7;go_wp2_with fail
 go_loopw [12,13] (λth i wr=>∃k:Nat,k<=3/\i=.int .i64 k/\th=.bool true/\adN W6 wr) (λ_ i _=>3-(intOf i).toNat)
 case atStart=>exact⟨0,by omega,rfl,rfl,H8.out⟩
 case round=>
  obtain⟨k,hk,rfl,rfl,hb⟩:=hrel;have HB:=av hb;have H9:Hid (WhI m (.slice G m.n F) (.slice ra m.r rc) (w.heap.size+2) w3.heap.size W4.heap.size w5.heap.size s d (.slice lo l.length lc) l A C L K wr/\Kp wr K [(P.heap.size,aaF A C L),(w4.heap.size,dO),(w1.heap.size,mo),(w.heap.size+1,ro)]/\Bd wr base bb s K/\dJ w3 wr K K):=⟨H7.out.1.below hb,H7.out.2.1.aaq (dJ.fq hb),H7.out.2.2.1.below hb,H7.out.2.2.2.trans (dJ.fq hb)⟩;clear hb
  by_cases Y:k<3
  .have kn:(k:Int)<3:=by omega
   obtain⟨ak,kk,ek⟩:=aj (H9.out.1.dr k Y)
   have c0:wr.cell? ⟨P.heap.size,1+k,none⟩=some (.slice (A (1+k)) (L (1+k)).length (C (1+k))):=by
        rw[(blk H9.out.2.1.head).1];exact nZ (λq=>.slice (A q) (L q).length (C q)) (by omega)
   have c1:wr.cell? ⟨w4.heap.size,k,none⟩=some (.slice ak (s.dn k) kk):=by
        rw[Ω.out _ _ H9.out.2.1.tail.head,<-ek,<-e0,<-e1,<-e2];obtain rfl|rfl|rfl:k=0\/k=1\/k=2:=by omega
        all_goals rfl
   have HS0:Hid (SO2 wr ⟨P.heap.size,1+k,none⟩ (.slice (A (1+k)) (L (1+k)).length (C (1+k))) ⟨w4.heap.size,k,none⟩ (.slice ak (s.dn k) kk) wr):=⟨c0,c1,aab _ _⟩;have HR2:Hid (∀u,SO2 wr ⟨P.heap.size,1+k,none⟩ (.slice (A (1+k)) (L (1+k)).length (C (1+k))) ⟨w4.heap.size,k,none⟩ (.slice ak (s.dn k) kk) u->adO 27 #[.slice (A (1+k)) (L (1+k)).length (C (1+k)),.int .i64 (s.dn k)] u λe w'=>e=.returned (.bool true)/\adN u w'):=λu hu=>HRS.out u (1+k) _ (by omega) (ai HB.out hu.2.2) (by unfold Q0;rw[if_neg (by omega),ada];rfl)
   clear c0 c1 ek;go_wp2_with fail
   go_region_held3(SO2 wr ⟨P.heap.size,1+k,none⟩ (.slice (A (1+k)) (L (1+k)).length (C (1+k))) ⟨w4.heap.size,k,none⟩ (.slice ak (s.dn k) kk)) (with_reducible (first|exact acg HS0.out|exact acn (by assumption) (by assumption)))
        (first|(go_at_call 27;refine(HR2.out _ (by assumption)).mono ?_;rintro e w8 ⟨rfl,XO⟩))
   rename_i hS;have HS8:=av hS;clear hS XO;go_wp2_with fail;go_roundw
   case rel=>exact⟨k+1,by omega,by go_num,rfl,ai HB.out HS8.out.2.2⟩
   case measure=>simp[intOf];omega
  .have kn:¬(k:Int)<3:=by omega
   obtain rfl:k=3:=(by omega);have qr:=Bro.out _ _ H9.out.2.1.tail.tail.tail.head;go_wp2_with fail;refine(EO r wr Hr.out).mono ?_;rintro e w9 ⟨rfl,ε⟩;clear qr;obtain⟨c,hc⟩:∃c:Nat->Nat,c=dD r:=⟨_,rfl⟩;rw[<-hc];obtain⟨W9,hW9⟩:∃W,W=w9.alloc (.cells #[.int .i64 (c 0:Nat),.int .i64 (c 1:Nat),.int .i64 (c 2:Nat),.int .i64 (c 3:Nat)] 29 (0,0)):=⟨_,rfl⟩;obtain⟨nO,hnO⟩:∃o:Obj,o=.cells #[.int .i64 (c 0:Nat),.int .i64 (c 1:Nat),.int .i64 (c 2:Nat),.int .i64 (c 3:Nat)] 29 (0,0):=⟨_,rfl⟩;have ψ:Hid (∀(u:World) b,u.heap[b]? =some nO->∀j,u.cell? ⟨b,j,none⟩=(#[.int .i64 (c 0:Nat),.int .i64 (c 1:Nat),.int .i64 (c 2:Nat),.int .i64 (c 3:Nat)]:Array Value)[j]?):=λu b h=>(blk (h.trans (congrArg some hnO))).1
   have η:Hid (WhI m (.slice G m.n F) (.slice ra m.r rc) (w.heap.size+2) w3.heap.size W4.heap.size w5.heap.size s d (.slice lo l.length lc) l A C L K W9/\Kp W9 K [(w9.heap.size,nO),(P.heap.size,aaF A C L),(w4.heap.size,dO),(w1.heap.size,mo),(w.heap.size+1,ro)]/\Bd W9 base bb s K/\dJ w3 W9 K K):=by
        rw[hW9,hnO];exact⟨(H9.out.1.below ε).alloc _,(H9.out.2.1.aaq (dJ.fq ε)).alloc (H9.out.2.2.1.fresh ε.size),(H9.out.2.2.1.below ε).alloc _,(H9.out.2.2.2.trans (dJ.fq ε)).alloc _⟩
   have HC:=av hc;clear ε hnO hc;go_wp2_with fail;rw[<-hW9];clear hW9
   have ζ:Hid (bM W9 (LB W9) bb s.D/\s.ok/\LB W9 bb):=by
        obtain⟨_,_,_,_,_,_,hP⟩:=η.out.2.2.1;exact⟨hP.Jm,hP.ok,_,_,hP.blk⟩
   refine(GL s.D bb (λi=>((c i:Nat):Int)) (LB W9) W9 ζ.out.1 ζ.out.2.1.d (JN _) ζ.out.2.2).mono ?_;intro e ι he;rcases e with r'|ch|_
   rotate_left
   .exact⟨rfl,he⟩
   .exact he.elim
   obtain⟨rfl,N⟩:=he;obtain⟨g,hg⟩:∃g:Nat->Int,g=eG s.D λi=>((c i:Nat):Int):=⟨_,rfl⟩
   rw[<-hg];have HG:=av hg;clear hg;have hgi:aQ g= #[.int .i64 (g 0),.int .i64 (g 1),.int .i64 (g 2),.int .i64 (g 3)]:=rfl;rw[hgi];obtain⟨X,γ⟩:∃W,W=ι.alloc (.cells #[.int .i64 (g 0),.int .i64 (g 1),.int .i64 (g 2),.int .i64 (g 3)] 37 (0,0)):=⟨_,rfl⟩;obtain⟨lO,hlO⟩:∃o:Obj,o=.cells #[.int .i64 (g 0),.int .i64 (g 1),.int .i64 (g 2),.int .i64 (g 3)] 37 (0,0):=⟨_,rfl⟩;have BlO:Hid (∀(u:World) b,u.heap[b]? =some lO->∀j,u.cell? ⟨b,j,none⟩=(#[.int .i64 (g 0),.int .i64 (g 1),.int .i64 (g 2),.int .i64 (g 3)]:Array Value)[j]?):=λu b h=>(blk (h.trans (congrArg some hlO))).1
   have J:Hid (WhI m (.slice G m.n F) (.slice ra m.r rc) (w.heap.size+2) w3.heap.size W4.heap.size w5.heap.size s d (.slice lo l.length lc) l A C L K X/\Kp X K [(ι.heap.size,lO),(w9.heap.size,nO),(P.heap.size,aaF A C L),(w4.heap.size,dO),(w1.heap.size,mo),(w.heap.size+1,ro)]/\Bd X base bb s K/\dJ w3 X K K):=by
        rw[γ,hlO];exact⟨(η.out.1.below N).alloc _,(η.out.2.1.aaq (dJ.fq N)).alloc (η.out.2.2.1.fresh N.size),(η.out.2.2.1.below N).alloc _,(η.out.2.2.2.trans (dJ.fq N)).alloc _⟩
   clear N hlO hgi;have q7:=Ψ.out _ _ J.out.2.1.tail.tail.tail.tail.head;have q9:=Ω.out _ _ J.out.2.1.tail.tail.tail.head;obtain⟨H,_⟩:=blk (show X.heap[P.heap.size]? =some (.cells #[.slice (A 0) (L 0).length (C 0),.slice (A 1) (L 1).length (C 1),.slice (A 2) (L 2).length (C 2),.slice (A 3) (L 3).length (C 3)] 41 (0,0))from J.out.2.1.tail.tail.head);rw[γ]at q7 q9 H;go_wp2_with fail;rw[<-γ];clear γ q7 q9 H;rw[<-e0,<-e1,<-e2]
   have υ:Hid (∀q,q<4->(L q).length<=1000000/\∀x∈L q,x<Q0 s.D q):=λq z=>by
        have h1:=mi Δ.out z;have h2:=yx s.D q;rw[<-HL.out]at h1 h2;refine⟨by omega,λx hx=>?_⟩;have h3:=h2 x hx;unfold Q0
        by_cases e:q=0
        .rw[if_pos e]at h3⊢;exact h3
        .rw[if_neg e]at h3⊢;exact h3
   refine(ME m G ra F rc _ _ _ s d (λq=>.slice (A q) (L q).length (C q)) L 15 X J.out.1.mr J.out.1.dr HS.out.2.1 ζ.out.2.1 (λq z=>(J.out.1.gr q z).1) υ.out (by omega)).mono ?_;rintro e w11 ⟨rfl,acE⟩;obtain⟨ρ,hρ⟩:∃ρ:Nat->Nat,ρ=ae0 s.D 15 L:=⟨_,rfl⟩;have agi:(λq=>kU s.D 15 q (L q) (L q).length)=ρ:=hρ.symm;rw[agi,e0,e1,e2];have Hρ:=av hρ;clear hρ agi;unfold o8;obtain⟨τ,β⟩:∃W,W=w11.alloc (.cells #[.int .i64 (ρ 0:Nat),.int .i64 (ρ 1:Nat),.int .i64 (ρ 2:Nat),.int .i64 (ρ 3:Nat)] 29 (0,0)):=⟨_,rfl⟩
   have χ:Hid (WhI m (.slice G m.n F) (.slice ra m.r rc) (w.heap.size+2) w3.heap.size W4.heap.size w5.heap.size s d (.slice lo l.length lc) l A C L K τ/\Kp τ K [(ι.heap.size,lO),(w9.heap.size,nO),(P.heap.size,aaF A C L),(w4.heap.size,dO),(w1.heap.size,mo),(w.heap.size+1,ro)]/\Bd τ base bb s K/\dJ w3 τ K K):=by
        rw[β];have hb:adN X _:=ai acE ((aab _ _).alloc (ZL _) (.cells #[.int .i64 (ρ 0:Nat),.int .i64 (ρ 1:Nat),.int .i64 (ρ 2:Nat),.int .i64 (ρ 3:Nat)] 29 (0,0)));exact⟨J.out.1.below hb,J.out.2.1.aaq (dJ.fq hb),J.out.2.2.1.below hb,J.out.2.2.2.trans (dJ.fq hb)⟩
   clear acE;have E:=ψ.out _ _ χ.out.2.1.tail.head;rw[β]at E;go_wp2_with fail;rw[<-β];clear β E;refine(afl ρ c τ).mono ?_;rintro e θ ⟨rfl,V⟩;obtain⟨b,hb⟩:∃b,b=afa ρ c 4:=⟨_,rfl⟩;rw[<-hb]
   have HBb:Hid (b=gX (eG s.D λi=>(c i:Int)) (og s.D λi=>(c i:Int)) 4 15):=by
        show b=_
        rw[hb,Hρ.out,HL.out];exact ae9 Δ.out (by omega)
   have φ:Hid (WhI m (.slice G m.n F) (.slice ra m.r rc) (w.heap.size+2) w3.heap.size W4.heap.size w5.heap.size s d (.slice lo l.length lc) l A C L K θ/\Kp θ K [(ι.heap.size,lO),(w9.heap.size,nO),(P.heap.size,aaF A C L),(w4.heap.size,dO),(w1.heap.size,mo),(w.heap.size+1,ro)]/\Bd θ base bb s K/\dJ w3 θ K K):=⟨χ.out.1.below V,χ.out.2.1.aaq (dJ.fq V),χ.out.2.2.1.below V,χ.out.2.2.2.trans (dJ.fq V)⟩;clear hb V;have E:=ψ.out _ _ φ.out.2.1.tail.head;go_wp2_with fail;have hno:=HS.out.2.2.2.1;refine(LX base bb s K aaE (λi=>((c i:Nat):Int)) a θ φ.out.2.2.1 (by decide) (by omega) (aaH H4.out.1 XJ H4.out.2.2.2.2 φ.out.2.2.2) XJ).mono ?_;clear E;intro e w13 he;rcases e with r'|ch|_
   rotate_left
   .exact⟨rfl,he⟩
   .exact he.elim
   obtain⟨s',K',agk,I,O⟩:=he;have hnt:=ab9 HS.out.1 (nm:=aaE) (by decide);have agj:qo (λi=>((c i:Nat):Int))=true:=(by rw[HC.out];exact ab8 r);obtain⟨code,A1,C1,L1,zz,rfl,hg1,hwe⟩:=af1 agk agj (λk=>by have:=k.1;rw[HS.out.2.2.2.2]at this;cases this) hnt H12.out;have HW:=av hwe;unfold aaI;obtain⟨α,B⟩:∃W,W=w13.alloc (aaF A1 C1 L1):=⟨_,rfl⟩
   have f:Hid (WhI m (.slice G m.n F) (.slice ra m.r rc) (w.heap.size+2) w3.heap.size W4.heap.size w5.heap.size s d (.slice lo l.length lc) l A C L K' α/\Kp α K' [(w13.heap.size,aaF A1 C1 L1),(ι.heap.size,lO),(w9.heap.size,nO),(P.heap.size,aaF A C L),(w4.heap.size,dO),(w1.heap.size,mo),(w.heap.size+1,ro)]/\GrO α K' zz A1 C1 L1):=by
        rw[B];exact⟨(φ.out.1.aaq O).alloc _,(φ.out.2.1.aaq O).alloc (I.fresh (ZL _)),hg1.alloc _⟩
   clear agk I O hg1 hwe hno hnt agj;unfold aaF at B;rcases HW.out with⟨rfl,U⟩|⟨U,⟨rfl,μ⟩|⟨rfl,mk,μ,R⟩⟩
   .obtain rfl:b=false:=HBb.out.trans U
    clear U;go_wp2_with fail;go_ret;rfl
   .obtain rfl:b=true:=HBb.out.trans U
    have HZ:=av (aaa U μ);clear U μ;have q7:=Ψ.out _ _ f.out.2.1.tail.tail.tail.tail.tail.head;have q9:=Ω.out _ _ f.out.2.1.tail.tail.tail.tail.head;obtain⟨H,_⟩:=blk (show α.heap[P.heap.size]? =some (.cells #[.slice (A 0) (L 0).length (C 0),.slice (A 1) (L 1).length (C 1),.slice (A 2) (L 2).length (C 2),.slice (A 3) (L 3).length (C 3)] 41 (0,0))from f.out.2.1.tail.tail.tail.head);have E:=ψ.out _ _ f.out.2.1.tail.tail.head;have Γ:=BlO.out _ _ f.out.2.1.tail.head;rw[B]at q7 q9 H E Γ;go_wp2_with fail;rw[<-B];clear B q7 q9 H E Γ;rw[<-e0,<-e1,<-e2];refine(afn m G ra F rc _ _ _ 0 s d A (λ_=>none) C (λ_=>0) L (λ_=>[]) c g α f.out.1.mr f.out.1.dr HS.out.2.1 ζ.out.2.1 (λq z=>(f.out.1.gr q z).1) υ.out (λq _=>aag _ _ _ _) (λq _=>⟨by show(0:Nat)<=_;omega,λx hx=>by cases hx⟩)).mono ?_;rintro e ω ⟨rfl,t⟩;have hz:anyM (okA s.D L c g m.p) 16=false:=(by rw[HL.out,HG.out,<-HS.out.2.1];exact age Δ.out HZ.out.1 HZ.out.2);rw[hz];obtain⟨v2,hv2⟩:∃v:Bool,v=anyM (λk=>okA s.D L c g m.p k&&afa (ae0 s.D k λ_=>[]) c 4) 16:=⟨_,rfl⟩;rw[<-hv2];clear hv2 hz t;go_wp2_with fail;go_ret;rfl
   .obtain rfl:b=true:=HBb.out.trans U
    have HZ:=av (aaa μ R);clear U μ;have E:=ψ.out _ _ f.out.2.1.tail.tail.head;obtain⟨H,_⟩:=blk (show α.heap[P.heap.size]? =some (.cells #[.slice (A 0) (L 0).length (C 0),.slice (A 1) (L 1).length (C 1),.slice (A 2) (L 2).length (C 2),.slice (A 3) (L 3).length (C 3)] 41 (0,0))from f.out.2.1.tail.tail.tail.head);rw[B]at H E
    have δ:Hid (∀q,q<4->(L1 q).length<=1000000/\(∀x∈L1 q,x∈L q)/\∀x∈L1 q,x<Q0 s.D q):=λq z=>by
     have hx:∀x∈L1 q,x∈L q:=λx hx=>by rw[HL.out];exact((R q z).2.2 x hx).1
     refine⟨?_,hx,λx h=>(υ.out q z).2 x (hx x h)⟩;rw[(R q z).1,HC.out];have h3:=ik (r 0) (show 0<25 by omega);have h4:=ik (r q) (show 0<17 by omega);unfold dD;split<;>split<;>omega
    have HGI:=acd A1 A C1 C L1 L α f.out.2.2.aaM f.out.1.gr.aaM λq z=>⟨(υ.out q z).1,(δ.out q z).1,(δ.out q z).2.1⟩
    rw[(R 0 (by omega)).1,(R 1 (by omega)).1,(R 2 (by omega)).1,(R 3 (by omega)).1]at HGI;have HG':=av HGI;clear R HGI;go_wp2_with fail;rw[<-B];clear B H E;refine HG'.out.mono ?_;rintro e ω ⟨rfl,t⟩;have q7:=Ψ.out _ _ (f.out.2.1.aaq (dJ.fq t)).tail.tail.tail.tail.tail.head;have q9:=Ω.out _ _ (f.out.2.1.aaq (dJ.fq t)).tail.tail.tail.tail.head;obtain⟨H,_⟩:=blk (show ω.heap[P.heap.size]? =some (.cells #[.slice (A 0) (L 0).length (C 0),.slice (A 1) (L 1).length (C 1),.slice (A 2) (L 2).length (C 2),.slice (A 3) (L 3).length (C 3)] 41 (0,0))from(f.out.2.1.aaq (dJ.fq t)).tail.tail.tail.head);have E:=ψ.out _ _ (f.out.2.1.aaq (dJ.fq t)).tail.tail.head;have Γ:=BlO.out _ _ (f.out.2.1.aaq (dJ.fq t)).tail.head;obtain⟨q19,_⟩:=blk (show ω.heap[w13.heap.size]? =some (.cells #[.slice (A1 0) (L1 0).length (C1 0),.slice (A1 1) (L1 1).length (C1 1),.slice (A1 2) (L1 2).length (C1 2),.slice (A1 3) (L1 3).length (C1 3)] 41 (0,0))from(f.out.2.1.aaq (dJ.fq t)).head);have Φ:=av t;clear t;go_wp2_with fail;clear q7 q9 H E Γ q19;rw[<-e0,<-e1,<-e2];refine(afn m G ra F rc _ _ _ _ s d A A1 C C1 L L1 c g ω (f.out.1.below Φ.out).mr (f.out.1.below Φ.out).dr HS.out.2.1 ζ.out.2.1 (λq z=>((f.out.1.below Φ.out).gr q z).1) υ.out (λq z=>((f.out.2.2.below Φ.out) q z).1) (λq z=>⟨(δ.out q z).1,(δ.out q z).2.2⟩)).mono ?_;rintro e w15 ⟨rfl,agn⟩;have hz:anyM (okA s.D L c g m.p) 16=true/\anyM (λk=>okA s.D L c g m.p k&&afa (ae0 s.D k L1) c 4) 16=true:=(by rw[HL.out,HG.out,<-HS.out.2.1];exact agd Δ.out HZ.out.1 HZ.out.2);rw[hz.1,hz.2];clear hz agn;go_wp2_with fail;go_ret;rfl
end Z
section
open Go Go.Conc
namespace af8
def rt:Nat:=5
def Xz:List Nat:=[8,9,10,11,12,14,15,16,17,18,21,24,25,27,28,29,33,35,36,39,40,41,43,44,45,46,47,48,51,52,53,54,55,56,57,58,60,61,64,65]
def Xy:List Nat:=[66,67,72,75,76,77,78,79,80,81,82,83,84,85,86,87,89,90,91,93,94,95,102,117,119,126,127,128,129,130,131,132,133,134,135,136,137,138,139,140]
def Xx:List Nat:=[146,148,149,150,157,163,164,166,168,169,170,171,172,180,181,192,193,194,195,196,197,198,204,212,214,215,216,217,218,219,220,221,222,223,224,225,226,251,252,253]
def Xw:List Nat:=[254,255,256,277,304,320]
def lD:List Nat:=Xz++(Xy++(Xx++(Xw)))
def lW:List Nat:=[71,73,116,118,120]
def tK:iG:={fns:=lD++RD,sp:=RD,mark:=λ_=>false,sg:=id,root:=rt,rt:=1000000,jh:=true,dd:=[],kd:=.normal,pv:=λ_=>false,okF:=λ_ _=>True,gl:=Uw,ext:=Lp,hx:=[147],rx:=[309],ID:=true,sd:=false,bare:=true,Oa:=λ_ _=>rfl}
def qA:iG:={fns:=(rt::(lD++(lW++RE)))++OD,sp:=OD,mark:=λ_=>false,sg:=id,root:=1000000,rt:=0,jh:=false,dd:=[],kd:=.normal,pv:=λ_=>false,okF:=λ_ _=>True,gl:=Uw,ext:=Lp,hx:=[147],rx:=[309],ID:=true,sd:=true}
def PY:j6 tK:=⟨λ_ _=>rfl,λ_=>rfl,λ_=>rfl,λ_=>rfl,λ_ h=>Bool.noConfusion h,λ_ _ _ _ _=>trivial,λ_ _ _ _ _ _ _ _ _=>trivial⟩
def PZ:j6 qA:=⟨λ_ _=>rfl,λ_=>rfl,λ_=>rfl,λ_=>rfl,λ_ h=>Bool.noConfusion h,λ_ _ _ _ _=>trivial,λ_ _ _ _ _ _ _ _ _=>trivial⟩
def pt {g:Nat}{fn:Func}(h:prog.funcs[g]? =some fn)(k:(!(g==42||g==69||g==88||ae.contains g)&&(okB tK (patch ae prog) g fn&&okB qA (patch ae prog) g fn))=true):PB tK (patch ae prog) prog g/\PB qA (patch ae prog) (patch ae prog) g:=by
 rw[ZQ,ZQ,Bool.not_eq_true']at k;exact⟨KR (pf h k.1) h k.2.1,KR (pf h k.1) (pf h k.1) k.2.2⟩
def pw {g:Nat}{fn:Func}(h:prog.funcs[g]? =some fn)(k:(!(g==42||g==69||g==88||ae.contains g)&&okB qA (patch ae prog) g fn)=true):PB qA (patch ae prog) (patch ae prog) g:=by
 rw[ZQ,Bool.not_eq_true']at k;exact KR (pf h k.1) (pf h k.1) k.2
def ptL {l:List Nat}(h:(l.all λg=>match prog.funcs[g]? with
 |some fn=> !(g==42||g==69||g==88||ae.contains g)&&(okB tK (patch ae prog) g fn&&okB qA (patch ae prog) g fn)
 |none=>false)=true):∀g∈l,PB tK (patch ae prog) prog g/\PB qA (patch ae prog) (patch ae prog) g:=λg a=>by
 have k:=ZU.1 h g a;cases e:prog.funcs[g]? with
 |none=>rw[e]at k;cases k
 |some fn=>rw[e]at k;exact pt e k
def Yd:∀g∈Xz,PB tK (patch ae prog) prog g/\PB qA (patch ae prog) (patch ae prog) g:=ptL (by kernel_rfl)
def Yc:∀g∈Xy,PB tK (patch ae prog) prog g/\PB qA (patch ae prog) (patch ae prog) g:=ptL (by kernel_rfl)
def Yb:∀g∈Xx,PB tK (patch ae prog) prog g/\PB qA (patch ae prog) (patch ae prog) g:=ptL (by kernel_rfl)
def Ya:∀g∈Xw,PB tK (patch ae prog) prog g/\PB qA (patch ae prog) (patch ae prog) g:=ptL (by kernel_rfl)
def Xo:∀g∈lD,PB tK (patch ae prog) prog g/\PB qA (patch ae prog) (patch ae prog) g:=rU Yd (rU Yc (rU Yb (Ya)))
def Yg:∀g∈lD,PB tK (patch ae prog) prog g:=λg a=>(Xo g a).1
def Wt:∀g∈lW,PB qA (patch ae prog) (patch ae prog) g:=
 all_cons (pw func71 (by kernel_rfl))<|
 all_cons (pw func73 (by kernel_rfl))<|
 all_cons (pw func116 (by kernel_rfl))<|
 all_cons (pw func118 (by kernel_rfl))<|
 all_cons (pw func120 (by kernel_rfl))<|
 all_nil
def Wu:∀g∈RE,PB qA (patch ae prog) (patch ae prog) g:=
 all_cons ⟨_,_,sK,by kernel_rfl,jK,sK,by kernel_rfl⟩<|
 all_cons ⟨_,_,jq,by kernel_rfl,kr,jq,by kernel_rfl⟩<|
 all_cons ⟨_,_,AX,by kernel_rfl,lh,AX,by kernel_rfl⟩<|
 all_cons ⟨_,_,pS func62 ⟨rfl,rfl⟩,by kernel_rfl,rfl,pS func62 ⟨rfl,rfl⟩,by kernel_rfl⟩<|
 all_cons ⟨_,_,pS func63 ⟨rfl,rfl⟩,by kernel_rfl,rfl,pS func63 ⟨rfl,rfl⟩,by kernel_rfl⟩<|
 all_nil
def Yh:∀g∈rt::(lD++(lW++RE)),PB qA (patch ae prog) (patch ae prog) g:=all_cons (pw func5 (by kernel_rfl)) (rU (λg a=>(Xo g a).2) (rU Wt Wu))
def Wn:∀g∈RD,PS (patch ae prog) prog g:=
 all_cons O'<|all_cons Q8<|
 all_cons ⟨_,_,_,pS func62 ⟨rfl,rfl⟩,by kernel_rfl,rfl,func62,by kernel_rfl,by kernel_rfl⟩<|
 all_cons ⟨_,_,_,pS func63 ⟨rfl,rfl⟩,by kernel_rfl,rfl,func63,by kernel_rfl,by kernel_rfl⟩<|
 all_nil
def OU:∀g∈ae,∃f',(patch ae prog).funcs[g]? =some (shut f'):=
 all_cons ⟨_,pS func62 ⟨rfl,rfl⟩⟩<|
 all_cons ⟨_,pS func63 ⟨rfl,rfl⟩⟩<|
 all_nil
def sJ:aH tK (patch ae prog) prog:=
 aH.of PY PE Q6 NF (λg a=>by
  have h:(dS.all λg=>(lD++RD).contains g)=true:=by kernel_rfl
  have:=ZU.1 h g a;exact adv this) lD (λg=>abz) (λg a hl=>by
  have b:(RD.all λg=> !lD.contains g)=true:=by kernel_rfl
  have:=ZU.1 b g a;simp[hl]at this) (λg a e=>by
  have c:g=rt:=e;subst c;exact absurd a (adj (show decide (¬rt∈lD)=true by kernel_rfl))) Yg Wn
def xG:aH qA (patch ae prog) (patch ae prog):=
 aH.of PZ NM O4 Le (λg a=>by
  have h:(dS.all λg=>((rt::(lD++(lW++RE)))++OD).contains g)=true:=by kernel_rfl
  have:=ZU.1 h g a;exact adv this) (rt::(lD++(lW++RE))) (λg=>abz) (λg a hl=>by
  have b:(OD.all λg=> !(rt::(lD++(lW++RE))).contains g)=true:=by kernel_rfl
  have:=ZU.1 b g a;simp[hl]at this) (λg a e=>by
  have c:g=1000000:=e;subst c;exact absurd a (adj (show decide (¬1000000∈rt::(lD++(lW++RE)))=true by kernel_rfl))) Yh Wo
def KG:∃c,Func.body Tryz.f5=some c/\bA tK (patch ae prog) rt c=true/\uq tK c=c/\(∃k,Func.results Tryz.f5= #[.tmp k]):=⟨_,rfl,by kernel_rfl,by kernel_rfl,_,rfl⟩
def Us:QM tK qA rt Tryz.f5:=
 {sJ:=sJ,xG:=xG,sp:=rfl,Qt:=rfl,sd:=rfl,root:=rfl,rt:=rfl,mark:=λ_=>rfl,QB:=λ_=>rfl,gl:=rfl,XX:=rfl,okF:=λ_ _=>trivial,V6:=rfl,dd:=rfl,kd:=rfl,pv:=λ_=>rfl,X0:=rfl,XZ:=rfl,XA:=rfl,
  init:=by kernel_rfl,Sk:=by kernel_rfl,Uk:=by kernel_rfl,Xv:=by kernel_rfl,Xu:=by kernel_rfl,Xt:=by kernel_rfl,pr:=pf func5 (by rfl),ar:=func5,body:=KG,ntmps:=adj (by kernel_rfl)}
end af8
end
section
open Go.RowKit Go.Conc Go.ConcN
def af4 (M:Z.cz)(so:Option Addr)(n cap:Nat)(T:Nat->Z.eU)(r:Nat->Int)(a:Addr)(w:World)(hE:Az w (CB w))(g:M.At w)(K:∀i,i<M.n->Z.In64 (M.S i)/\Z.In64 (M.C i))(hp:Z.In64 M.p)(G:Z.DL w so n cap T)(hr:∀i,i<4->Z.In64 (r i))
 (hF:w.cell? ⟨0,0,none⟩=some (.iface 345 (.pointer (some a))))(N:CB w a.block)(hG:prog.globals.size<=w.heap.size)
 (ha:∀x,M.ao=some x->CB w x.block\/(M.n=0/\M.cap=0))(hb:∀x,M.ro=some x->CB w x.block\/(M.r=0/\M.gD=0))(hc:∀x,so=some x->CB w x.block\/(n=0/\cap=0))
 (hd:∀i,i<n->∀x,(T i).ao=some x->CB w x.block\/((T i).n=0/\(T i).cap=0)):
 Qq 5 #[M.val,.slice so n cap,.agg #[.int .i64 (r 0),.int .i64 (r 1),.int .i64 (r 2),.int .i64 (r 3)]] w:=by
 have h0:CB w 0:=jY hF;obtain⟨t,lv,hl,y,z,hs,_,_,hcell⟩:=wU True ((patch ae prog)).globals.size (λ_=>False) (CB w) w hG (λb h=>h) h0 (λ_ h=>h.elim)
 have L:WR ((patch ae prog)).globals.size (CB w) (DV True (CB w)) t w:=by
  have e:(λc=>CB w c/\¬False)=CB w:=by funext c;simp
  rw[e]at y;exact y
 have cell:∀{a v},w.cell? a=some v->t.cell? a=some (lv v):=λh=>(hcell _ _ h).2 (λh=>h)
 have same:∀{a v},w.cell? a=some v->jH (CB w) v->t.cell? a=some v:=λh q=>by rw[cell h,hl.same _ q]
 obtain⟨m,W,ka⟩:=mD hl M.ao M.n M.cap ha;obtain⟨l,V,kb⟩:=mD hl M.ro M.r M.gD hb;obtain⟨s,U,kc⟩:=mD hl so n cap hc
 obtain⟨A,hA⟩:=PT (R:=λi x=>i<n->lv (.slice (T i).ao (T i).n (T i).cap)=.slice x (T i).n (T i).cap/\(0< (T i).cap->x=(T i).ao)) (λi=>by
  by_cases d:i<n
  .obtain⟨x,D,P⟩:=mD hl (T i).ao (T i).n (T i).cap (hd i d)
   exact⟨x,λ_=>⟨D,P⟩⟩
  .exact⟨none,λh=>absurd h d⟩)
 have J:∀f,Z.cz.At {M with ao:=m,ro:=l} (ay t f):=λf=>⟨g.qW,g.Ig,λh=>(ka (ZO h g.qW)).trans (g.addr h),λi d=>⟨same (g.dA i d).1 trivial,same (g.dA i d).2.1 trivial,same (g.dA i d).2.2 trivial⟩,g.rc,g.Hg,λh=>(kb (ZO h g.rc)).trans (g.mQ h),λi d=>same (g.ints i d) trivial⟩
 have I:∀f,Z.DL (ay t f) s n cap (λi=>{T i with ao:=A i}):=λf=>by
  refine⟨G.room,G.many,λE=>?_,λi d=>?_⟩
  .obtain⟨b,o,e,hcs⟩:=G.cells E
   refine⟨b,o,(kc (ZO E G.room)).trans e,λi d j u hu=>?_⟩
   have key:∀u',(T i).cells[j]? =some u'->jH (CB w) u'->(Z.eU.cells {T i with ao:=A i})[j]? =some u'->t.cell? ⟨b,o+i*9+j,none⟩=some u:=λu' D P h3=>by
        rw[h3]at hu;cases hu;exact same (hcs i d j _ D) P
   have hj:j<9:=by
        have:=(ZK.1 hu).1;simpa[Z.eU.cells] using this
   obtain rfl|rfl|rfl|rfl|rfl|rfl|rfl|rfl|rfl:j=0\/j=1\/j=2\/j=3\/j=4\/j=5\/j=6\/j=7\/j=8:=by omega
   .exact key _ rfl trivial rfl
   .exact key _ rfl trivial rfl
   .exact key _ rfl trivial rfl
   .exact key _ rfl trivial rfl
   .exact key _ rfl trivial rfl
   .exact key _ rfl trivial rfl
   .exact key _ rfl trivial rfl
   .have D:=cell (hcs i d 7 (.slice (T i).ao (T i).n (T i).cap) rfl)
    rw[(hA i d).1]at D;have H:some (Value.slice (A i) (T i).n (T i).cap)=some u:=hu;cases H;exact D
   .exact key _ rfl trivial rfl
  .have h:=G.steps i d
   obtain⟨ao,cp,e,d1,d2,d3⟩:=h.dC;cases e;refine⟨h.kind,h.A,h.B,h.r,⟨A i,(T i).cap,rfl,d1,d2,λE=>?_⟩,h.qF⟩;obtain⟨b,o,e,F⟩:=d3 E;exact⟨b,o,((hA i d).2 (ZO E d1)).trans e,λk Q=>⟨same (F k Q).1 trivial,same (F k Q).2 trivial⟩⟩
 have O:∀f,(ay t f).cell? ⟨0,0,none⟩=some (.iface 345 (.pointer (some a))):=λf=>same hF ⟨by decide,N⟩
 refine Fp af8.Us af8.OU (vd:=Z.zF) Z.Ee Z.D3 Z.Io (la:= #[.agg #[.slice m M.n M.cap,.slice l M.r M.gD,.int .i64 M.p],.slice s n cap,.agg #[.int .i64 (r 0),.int .i64 (r 1),.int .i64 (r 2),.int .i64 (r 3)]]) (by show 3<1000;omega) hE z L ?_ ?_ λf=>?_
 .refine aF.same λv q=>?_
  simp only[adA,ZW,adm,or_false]at q;rcases q with rfl|rfl|rfl
  .refine VR.agg (aF.same λv q=>?_)
   simp only[adA,ZW,adm,or_false]at q;rcases q with rfl|rfl|rfl
   .rw[<-W];exact hl.self _
   .rw[<-V];exact hl.self _
   .exact VR.int _ _
  .rw[<-U];exact hl.self _
  .refine VR.agg (aF.same λv q=>?_)
   simp only[adA,ZW,adm,or_false]at q;rcases q with rfl|rfl|rfl|rfl
   all_goals exact VR.int _ _
 .have k1:VR (DV True (CB w)) (.slice m M.n M.cap) (.slice M.ao M.n M.cap):=by rw[<-W];exact hl.alike _
  have k2:VR (DV True (CB w)) (.slice l M.r M.gD) (.slice M.ro M.r M.gD):=by rw[<-V];exact hl.alike _
  have k3:VR (DV True (CB w)) (.slice s n cap) (.slice so n cap):=by rw[<-U];exact hl.alike _
  have Y:VR (DV True (CB w)) (.agg #[.slice m M.n M.cap,.slice l M.r M.gD,.int .i64 M.p]) M.val:=VR.agg (((aF.empty.push k1).push k2).push (VR.int _ _));have X:VR (DV True (CB w)) (.agg #[.int .i64 (r 0),.int .i64 (r 1),.int .i64 (r 2),.int .i64 (r 3)]) (.agg #[.int .i64 (r 0),.int .i64 (r 1),.int .i64 (r 2),.int .i64 (r 3)]):=VR.agg ((((aF.empty.push (VR.int _ _)).push (VR.int _ _)).push (VR.int _ _)).push (VR.int _ _));exact((aF.empty.push Y).push k3).push X
 .exact Z.af6 {M with ao:=m,ro:=l} s n cap (λi=>{T i with ao:=A i}) r a (ay t f) (J f) K hp (I f) hr (O f)
end
section
open Go.ChangeShapes Go.WideShapes Go.ChangeAt Go.RowKit Go.Conc Go.ConcN Go.Deep Go.Joins
def eZ {n}(h:(Lit.int .i64 n).wf=true):Z.In64 n:=by
 simp only[Lit.wf,IntKind.min,IntKind.max,IntKind.signed,IntKind.bits,ZQ,decide_eq_true_eq,if_true]at h;unfold Z.In64;omega
def FU {w}{b}{x}(h:w.shape? b=some x):CB w b:=by
 unfold World.shape? at h;cases a:w.heap[b]? with
 |none=>rw[a]at h;cases h
 |some o=>
  rw[a]at h;cases o with
  |cells xs t g=>exact⟨_,_,_,a⟩
  |_=>cases h
def mF {P}{w}{r}{base}{t e}{a}{l c}(hu:P.underlying t=some (.slice e))(h:Cell.okWide P w r base t (.slice (some a) l c)):CB w a.block:=by
 unfold Cell.okWide at h;rw[hu]at h;simp only[Cell.ok,hu]at h;obtain⟨_,_,_,_,row,cells,b,_⟩:=h;exact FU b
def N7 {H}(d:DataW H):1<=Rows.uptoBulk d:=by
 cases d with
 |lit l=>cases l<;>simp[Rows.uptoBulk]
 |nil=>simp[Rows.uptoBulk]
 |ptr d=>simp[Rows.uptoBulk]
 |slice elems spare=>simp[Rows.uptoBulk]
 |agg parts=>simp[Rows.uptoBulk]
 |iface t d=>simp[Rows.uptoBulk]
 |map entries=>simp[Rows.uptoBulk]
 |held h=>simp[Rows.uptoBulk]
def By {H}{d}{l:List (DataW H)}(h:d∈l):Rows.uptoBulk d<=Rows.uptoBulkAll l:=by
 induction l with
 |nil=>cases h
 |cons x r a=>
  simp only[Rows.uptoBulkAll];cases ZW.1 h with
  |inl e=>subst e;omega
  |inr e=>have:=a e;omega
def uQ {H}(l:List (DataW H)):l.length<=Rows.uptoBulkAll l:=by
 induction l with
 |nil=>simp[Rows.uptoBulkAll]
 |cons x r a=>have:=N7 x;simp only[Rows.uptoBulkAll,adt];omega
def Ji {H}(elems spare:List (DataW H)):elems.length<=Rows.uptoBulk (.slice elems spare):=by
 have a:=uQ elems;simp only[Rows.uptoBulk];omega
def Dr {H}{enc}{W}{n}{a}{cs}{x:DataW H×List MemPlace}{sp}(hc:W.cells? 0 a 3=some cs)(h:DataW.trod enc prog W 0 sp true n 81 cs=some x):
 ∃z:Int×Int×Int,W.cell? a=some (.int .i64 z.1)/\W.cell? (a.add 1)=some (.int .i64 z.2.1)/\W.cell? (a.add 2)=some (.int .i64 z.2.2)/\Z.In64 z.1/\Z.In64 z.2.2:=by
 obtain⟨p,o,m,k,rfl,hl,e,d,c⟩:=trod_struct3 underlying81 h;obtain⟨_,hlen,b⟩:=World.cells?_some hc
 match cs,hlen with
 |[c0,q,c2],_=>
  have l:prog.cellsOf 3=1:=by kernel_rfl
  simp only[l,List.drop,List.take]at e d c;obtain⟨z0,i,_,j⟩:=DataW.trod_int underlying3 e;obtain⟨z1,g,_,_⟩:=DataW.trod_int underlying3 d;obtain⟨z2,f,_,w2⟩:=DataW.trod_int underlying3 c;simp only[ac0,and_true]at i g f;subst i g f;exact⟨(z0,z1,z2),by simpa[Addr.add] using b 0 (by omega),b 1 (by omega),b 2 (by omega),eZ j,eZ w2⟩
def Ak {H:Type}{enc:TypeId×Value->H}{W:World}{base:Nat}{v0:Value}{d0:DataW H}{A:List MemPlace}(E:Value.okWide prog W .any base 25 v0)
 (h:DataW.Trod enc prog W 0 (λ_=>true) true 25 v0 d0 A)(e:∀x∈d0.weights prog 25,x<=reachBytes):∃m:Z.cz,v0=m.val/\m.At W/\(∀i,i<m.n->Z.In64 (m.S i)/\Z.In64 (m.C i))/\Z.In64 m.p:=by
 obtain⟨c0,L,c2,Q,P,O,n,rfl,rfl,rfl,J,I,G⟩:=open_agg3 underlying25 (by kernel_rfl) (by kernel_rfl) E h;obtain⟨p,v,_,wp⟩:=DataW.trod_int underlying3 G;simp only[ac0,and_true]at v;subst v;have b3:prog.bytesOf 3=8:=by kernel_rfl
 have M:prog.bytesOf 81=24:=by kernel_rfl
 have F:∃(ro:Option Addr) (rb rp r gD:Nat) (R:Nat->Int),L=.slice ro r gD/\r<=gD/\r*8<=140737488355328/\(0<r->ro=some ⟨rb,rp,none⟩)/\Z.gM W rb rp r R:=by
  rcases open_ints underlying23 underlying3 (by kernel_rfl) I with⟨hcs,hx⟩|⟨a,len,cap,zs,hcs,_,hl,hm,u,hx,hcell,B⟩
  .simp only[ac0,and_true]at hcs
   subst hcs;exact⟨none,0,0,0,0,λ_=>0,rfl,ZL _,by omega,λh=>absurd h (by omega),λi d=>absurd d (by omega)⟩
  .simp only[ac0,and_true]at hcs
   subst hcs;subst hx;simp only[if_true]at u
   have hs:(len+(cap-len))*8<=reachBytes:=by
        have:=e ((len+(cap-len))*8) (by simp[DataW.weights,DataW.weightsEach,underlying25,underlying23,b3,lits,u,Nat.min_eq_left hl]);exact this
   obtain⟨rb,rp,spot⟩:=a;refine⟨_,rb,rp,len,cap,λi=>zs.getD i 0,rfl,hl,by simp only[reachBytes]at hs;omega,λf=>?_,λi d=>?_⟩
   .have c:spot=none:=by simpa[Addr.add] using World.cell?_spot (hcell 0 (by omega))
    rw[c]
   .have hc:=hcell i (by omega)
    have c:spot=none:=by simpa[Addr.add] using World.cell?_spot (hcell 0 (by omega))
    subst c;rw[Go.WideShapes.add_plain]at hc;exact hc
 have t:∃(ao:Option Addr) (b o k cap:Nat) (S N C:Nat->Int),c0=.slice ao k cap/\k<=cap/\k*24<=140737488355328/\(0<k->ao=some ⟨b,o,none⟩)/\Z.dK W b o k S N C/\∀i,i<k->Z.In64 (S i)/\Z.In64 (C i):=by
  rcases open_slice underlying22 J with⟨hcs,hx⟩|⟨a,len,cap,m,T,D,U,hcs,_,hl,hm,g,hx,j⟩
  .simp only[ac0,and_true]at hcs
   subst hcs;exact⟨none,0,0,0,0,λ_=>0,λ_=>0,λ_=>0,rfl,ZL _,by omega,λh=>absurd h (by omega),λi d=>absurd d (by omega),λi d=>absurd d (by omega)⟩
  .simp only[ac0,and_true]at hcs
   subst hcs;subst hx;simp only[if_true]at g;subst g;have K:prog.cellsOf 81=3:=(by kernel_rfl);rw[K]at j
   have hs:(len+(m-len))*24<=reachBytes:=by
        have:=e ((len+(m-len))*24) (by simp[DataW.weights,DataW.weightsEach,underlying25,underlying22,M]);exact this
   obtain⟨Z,l⟩:=choose_lt (α:=Int×Int×Int) (p:=λi z=>W.cell? (a.add (i*3))=some (.int .i64 z.1)/\W.cell? ((a.add (i*3)).add 1)=some (.int .i64 z.2.1)/\W.cell? ((a.add (i*3)).add 2)=some (.int .i64 z.2.2)/\Z.In64 z.1/\Z.In64 z.2.2) (λi d=>by
        obtain⟨cs,s,q⟩:=j i d;exact Dr s q)
   obtain⟨b,o,spot⟩:=a;refine⟨_,b,o,len,m,λi=>(Z i).1,λi=>(Z i).2.1,λi=>(Z i).2.2,rfl,hl,by simp only[reachBytes]at hs;omega,λf=>?_,λi d=>?_,λi d=>(l i (by omega)).2.2.2⟩
   .have c:spot=none:=by simpa[Addr.add] using World.cell?_spot (l 0 (by omega)).1
    rw[c]
   .have hc:=l i (by omega)
    have c:spot=none:=by simpa[Addr.add] using World.cell?_spot (l 0 (by omega)).1
    subst c;simp only[Go.WideShapes.add_plain]at hc;exact⟨hc.1,hc.2.1,hc.2.2.1⟩
 obtain⟨ro,rb,rp,r,gD,R,rfl,s,q,y,w⟩:=F;obtain⟨ao,b,o,k,cap,S,N,C,rfl,u1,u2,u3,u4,u5⟩:=t;exact⟨⟨ao,b,o,k,cap,S,N,C,ro,rb,rp,r,gD,R,p⟩,rfl,⟨u1,u2,u3,u4,s,q,y,w⟩,u5,eZ wp⟩
section
variable {H:Type}{enc:TypeId×Value->H}{W:World}
def FL {n}{a}{cs}{x}{sp}(hc:W.cells? 0 a 2=some cs)(h:DataW.trod enc prog W 0 sp true n 75 cs=some x):
 ∃z:Int×Bool,W.cell? a=some (.int .i64 z.1)/\W.cell? (a.add 1)=some (.bool z.2)/\Z.In64 z.1:=by
 obtain⟨l,j,k,rfl,hl,d,c⟩:=trod_struct2 underlying75 h;obtain⟨_,hlen,b⟩:=World.cells?_some hc
 match cs,hlen with
 |[c0,m],_=>
  have i:prog.cellsOf 3=1:=by kernel_rfl
  have i2:prog.cellsOf 4=1:=by kernel_rfl
  simp only[i,i2,List.drop,List.take]at d c;obtain⟨z0,f,_,g⟩:=DataW.trod_int underlying3 d;obtain⟨z1,e,_⟩:=DataW.trod_bool underlying4 c;simp only[ac0,and_true]at f e;subst f e;exact⟨(z0,z1),by simpa[Addr.add] using b 0 (by omega),b 1 (by omega),eZ g⟩
def Dp {n}{c}{y}(h:DataW.trod enc prog W 0 (λ_=>true) true n 33 [c]=some y):
 ∃(k:Option Addr) (dn d u e:Nat) (v:Nat->Int) (C:Nat->Bool),c=.slice k dn d/\dn<=d/\dn<=Rows.uptoBulk y.1/\(0<dn->k=some ⟨u,e,none⟩)/\Z.rZ W u e dn v C/\(∀x,k=some x->CB W x.block\/(dn=0/\d=0))/\∀i,i<dn->Z.In64 (v i):=by
 rcases open_slice underlying33 h with⟨hcs,hx⟩|⟨a,len,cap,m,E,D,F,hcs,_,hl,hm,l,hx,q⟩
 .simp only[ac0,and_true]at hcs
  subst hcs;exact⟨none,0,0,0,0,λ_=>0,λ_=>false,rfl,ZL _,adl _,λh=>absurd h (by omega),λi g=>absurd g (by omega),λx hx=>(by cases hx),λi g=>absurd g (by omega)⟩
 .simp only[ac0,and_true]at hcs
  subst hcs;subst hx;simp only[if_true]at l;subst l;have B:prog.cellsOf 75=2:=by kernel_rfl
  rw[B]at q
  obtain⟨Z,r⟩:=choose_lt (α:=Int×Bool) (p:=λi z=>W.cell? (a.add (i*2))=some (.int .i64 z.1)/\W.cell? ((a.add (i*2)).add 1)=some (.bool z.2)/\Z.In64 z.1) (λi g=>by
   obtain⟨cs,A,w⟩:=q i g;exact FL A w)
  obtain⟨b,o,spot⟩:=a;refine⟨_,len,m,b,o,λi=>(Z i).1,λi=>(Z i).2,rfl,hl,?_,λt=>?_,λi g=>?_,λx hx=>?_,λi g=>(r i (by omega)).2.2⟩
  .have:=Ji ((List.range len).map D) ((List.range (m-len)).map λj=>D (len+j))
   simpa using this
  .have f:spot=none:=by simpa[Addr.add] using World.cell?_spot (r 0 (by omega)).1
   rw[f]
  .have hc:=r i (by omega)
   have f:spot=none:=by simpa[Addr.add] using World.cell?_spot (r 0 (by omega)).1
   subst f;simp only[Go.WideShapes.add_plain]at hc;exact⟨hc.1,hc.2.1⟩
  .cases hx
   rcases Nat.eq_zero_or_pos m with s|s
   .exact .inr ⟨by omega,s⟩
   .exact .inl (jY (a:=(⟨b,o,spot⟩:Addr).add (0*2)) (r 0 s).1)
def Cc {P}{t}{f0 f1 f2 f3 f4 f5}{base fuel}{sp}{held}{cs}{x}(e:P.underlying t=some (.struct #[f0,f1,f2,f3,f4,f5]))(h:DataW.trod enc P W base sp held fuel t cs=some x):
 ∃d c b y3 y4 a n q,x=(.agg [d.1,c.1,b.1,y3.1,y4.1,a.1],q)/\DataW.trod enc P W base sp held n f0.type ((cs.drop f0.offset).take (P.cellsOf f0.type))=some d/\DataW.trod enc P W base sp held n f1.type ((cs.drop f1.offset).take (P.cellsOf f1.type))=some c/\DataW.trod enc P W base sp held n f2.type ((cs.drop f2.offset).take (P.cellsOf f2.type))=some b/\DataW.trod enc P W base sp held n f3.type ((cs.drop f3.offset).take (P.cellsOf f3.type))=some y3/\DataW.trod enc P W base sp held n f4.type ((cs.drop f4.offset).take (P.cellsOf f4.type))=some y4/\DataW.trod enc P W base sp held n f5.type ((cs.drop f5.offset).take (P.cellsOf f5.type))=some a:=by
 obtain⟨xs,n,_,rfl,hl,hlen,hf⟩:=DataW.trod_struct e h
 match xs,hlen with
 |[d,c,b,y3,y4,a],_=>exact⟨d,c,b,y3,y4,a,n,_,rfl,by simpa using hf 0 f0 rfl,by simpa using hf 1 f1 rfl,by simpa using hf 2 f2 rfl,by simpa using hf 3 f3 rfl,by simpa using hf 4 f4 rfl,by simpa using hf 5 f5 rfl⟩
structure DK (W:World)(a:Addr)(s:Z.eU)(Se:Nat):Prop where
 cells:∀j u,s.cells[j]? =some u->W.cell? (a.add j)=some u
 at_:s.n<=Se->Se<=1048576->s.at W
 qF:s.n<=Se
 cb:∀x,s.ao=some x->CB W x.block\/(s.n=0/\s.cap=0)
def zU {n}{a}{cs}{x}(hc:W.cells? 0 a 9=some cs)(h:DataW.trod enc prog W 0 (λ_=>true) true n 84 cs=some x):
 ∃s:Z.eU,DK W a s (Rows.uptoBulk x.1):=by
 obtain⟨A,z,y,y3,y4,w,m,q,rfl,f0,f1,f2,f3,f4,f5⟩:=Cc underlying84 h;obtain⟨_,c,p⟩:=World.cells?_some hc
 match cs,c with
 |[c0,c1,c2,c3,c4,c5,c6,c7,c8],_=>
  have o:prog.cellsOf 3=1:=by kernel_rfl
  have i2:prog.cellsOf 4=1:=by kernel_rfl
  have i4:prog.cellsOf 29=4:=by kernel_rfl
  have i5:prog.cellsOf 33=1:=by kernel_rfl
  have i8:prog.cellsOf 27=3:=by kernel_rfl
  simp only[o,i2,i4,i5,List.drop,List.take]at f0 f1 f2 f3 f4 f5;obtain⟨z0,J,_,P⟩:=DataW.trod_int underlying3 f0;obtain⟨z1,I,_,w1⟩:=DataW.trod_int underlying3 f1;obtain⟨z2,H,_,w2⟩:=DataW.trod_int underlying3 f2;obtain⟨g0,g1,Y,_,_,f,e⟩:=trod_struct2 underlying29 f3;simp only[o,i8,List.drop,List.take]at f e;obtain⟨z4,G,_,w4⟩:=DataW.trod_int underlying3 f;obtain⟨g5,g6,g7,X,_,v,t,r⟩:=trod_array3 underlying27 o e;obtain⟨z5,F,_,O⟩:=DataW.trod_int underlying3 v;obtain⟨L,E,_,N⟩:=DataW.trod_int underlying3 t;obtain⟨K,D,_,M⟩:=DataW.trod_int underlying3 r;obtain⟨l,dn,b,T,g,U,V,rfl,d1,d2,d3,d4,d5,d6⟩:=Dp f4;obtain⟨z9,C,_⟩:=DataW.trod_bool underlying4 f5;simp only[ac0,and_true]at J I H G F E D C;subst J I H G F E D C
  have d:dn<=Rows.uptoBulk (DataW.agg [A.1,z.1,y.1,y3.1,y4.1,w.1]):=by
        refine ZP d2 ?_;have B:Rows.uptoBulk y4.1<=Rows.uptoBulkAll [A.1,z.1,y.1,y3.1,y4.1,w.1]:=By (by simp);simp only[Rows.uptoBulk];omega
  refine⟨⟨z0,z1,z2,λk=>match k with|0=>z4|1=>z5|2=>L|_=>K,l,dn,b,U,V,z9⟩,⟨λj u hu=>?_,λB S=>⟨eZ P,eZ w1,eZ w2,λi hi=>?_,⟨l,b,rfl,d1,d6,λQ=>⟨T,g,d3 Q,d4⟩⟩,ZP (ZP B S) (by omega)⟩,d,d5⟩⟩
  .have R:j<9:=by
    have:=(ZK.1 hu).1;simpa[Z.eU.cells] using this
   rw[p j R,<-hu];obtain rfl|rfl|rfl|rfl|rfl|rfl|rfl|rfl|rfl:j=0\/j=1\/j=2\/j=3\/j=4\/j=5\/j=6\/j=7\/j=8:=by omega
   all_goals rfl
  .obtain rfl|rfl|rfl|rfl:i=0\/i=1\/i=2\/i=3:=by omega
   .exact eZ w4
   .exact eZ O
   .exact eZ N
   .exact eZ M
end
def xU:laidOutB prog=true:=by kernel_rfl
section
variable {H:Type}{enc:TypeId×Value->H}{W:World}
def vg {base:Nat}{v1:Value}{d1:DataW H}{B:List MemPlace}(g:Value.okWide prog W .any base 26 v1)
 (h:DataW.Trod enc prog W 0 (λ_=>true) true 26 v1 d1 B)(y:Rows.uptoBulk d1<=1048576):
 ∃(so:Option Addr) (n cap:Nat) (T:Nat->Z.eU),v1=.slice so n cap/\Z.DL W so n cap T/\(∀x,so=some x->CB W x.block\/(n=0/\cap=0))/\(∀i,i<n->∀x,(T i).ao=some x->CB W x.block\/((T i).n=0/\(T i).cap=0)):=by
 obtain⟨fuel,h⟩:=h
 have hcell:v1.cells.toList=[v1]:=by
  unfold Value.okWide at g;rw[underlying26]at g;simp only[Cell.okWide,underlying26]at g;cases v1<;>first|rfl|(simp[Cell.ok,underlying26]at g)
 rw[hcell]at h;rcases open_slice underlying26 h with⟨hcs,hx⟩|⟨a,len,cap,m,I,D,J,hcs,_,hl,hm,l,hx,q⟩
 .simp only[ac0,and_true]at hcs
  subst hcs;exact⟨none,0,0,λ_=>⟨0,0,0,λ_=>0,none,0,0,λ_=>0,λ_=>false,false⟩,rfl,⟨ZL _,by omega,λh=>absurd h (by omega),λi d=>absurd d (by omega)⟩,λx hx=>(by cases hx),λi d=>absurd d (by omega)⟩
 .simp only[ac0,and_true]at hcs
  subst hcs;simp only[if_true]at l;subst l;have G:prog.cellsOf 84=9:=by kernel_rfl
  rw[G]at q;have v:d1=.slice ((List.range len).map D) ((List.range (m-len)).map λj=>D (len+j)):=congrArg Prod.fst hx
  have e:Rows.uptoBulkAll ((List.range len).map D)<=1048576:=by
   rw[v]at y;simp only[Rows.uptoBulk]at y;omega
  have hlen:len<=1048576:=by
   have:=uQ ((List.range len).map D);simp only[adH,adI]at this;omega
  haveI:Inhabited Z.eU:=⟨⟨0,0,0,λ_=>0,none,0,0,λ_=>0,λ_=>false,false⟩⟩
  obtain⟨S,C⟩:=choose_lt (α:=Z.eU) (p:=λi s=>i<len->DK W (a.add (i*9)) s 1048576) (n:=m) (λi d=>by
   obtain⟨cs,A,z⟩:=q i d;obtain⟨s,hs⟩:=zU A z;refine⟨s,λt=>?_⟩;have r:Rows.uptoBulk (D i)<=Rows.uptoBulkAll ((List.range len).map D):=By (adz.2 ⟨i,Z9.2 t,rfl⟩);exact⟨hs.cells,λ_ _=>hs.at_ hs.qF (ZP r e),ZP hs.qF (ZP r e),hs.cb⟩)
  have f:∀i,i<len->DK W (a.add (i*9)) (S i) 1048576:=λi d=>C i (by omega) d
  obtain⟨b,o,spot⟩:=a
  have k:0<len->spot=none:=λc=>by
   have F:=(f 0 c).cells 0 _ rfl;simpa[Addr.add] using World.cell?_spot F
  have w:CB W b:=by
   unfold Value.okWide at g;rw[underlying26]at g;exact mF (a:=⟨b,o,spot⟩) underlying26 g
  refine⟨some ⟨b,o,spot⟩,len,m,S,rfl,⟨hl,by omega,λc=>⟨b,o,by rw[k c],λi d j u hu=>?_⟩,λi d=>(f i d).at_ (f i d).qF (ZL _)⟩,λx hx=>?_,λi d=>(f i d).cb⟩
  .have r:=(f i d).cells j u hu
   have E:=k c;subst E;rw[Go.WideShapes.add_plain,Go.WideShapes.add_plain]at r;exact r
  .cases hx
   exact .inl w
def Ah {base:Nat}{v2:Value}{d2:DataW H}{p2:List MemPlace}(v:Value.okWide prog W .any base 29 v2)
 (h:DataW.Trod enc prog W 0 (λ_=>true) true 29 v2 d2 p2):∃r:Nat->Int,v2=.agg #[.int .i64 (r 0),.int .i64 (r 1),.int .i64 (r 2),.int .i64 (r 3)]/\∀i,i<4->Z.In64 (r i):=by
 obtain⟨cs,rfl,c⟩:=okWide_struct underlying29 v;have hC:prog.cellsOf 29=4:=by kernel_rfl
 obtain⟨c0,w,c2,c3,rfl⟩:=array4 (c.trans hC);obtain⟨fuel,hf⟩:=h;have d:DataW.trod enc prog W 0 (λ_=>true) true fuel 29 [c0,w,c2,c3]=some (d2,p2):=hf;have j:prog.cellsOf 3=1:=by kernel_rfl
 have i8:prog.cellsOf 27=3:=by kernel_rfl
 obtain⟨g0,g1,y,_,_,b,a⟩:=trod_struct2 underlying29 d;simp only[j,i8,List.drop,List.take]at b a;obtain⟨z4,o,_,w4⟩:=DataW.trod_int underlying3 b;obtain⟨g5,g6,g7,x,_,g,f,e⟩:=trod_array3 underlying27 j a;obtain⟨z5,n,_,u⟩:=DataW.trod_int underlying3 g;obtain⟨q,m,_,t⟩:=DataW.trod_int underlying3 f;obtain⟨p,l,_,s⟩:=DataW.trod_int underlying3 e;simp only[ac0,and_true]at o n m l;subst o n m l;refine⟨λk=>match k with|0=>z4|1=>z5|2=>q|_=>p,rfl,λi z=>?_⟩;obtain rfl|rfl|rfl|rfl:i=0\/i=1\/i=2\/i=3:=by omega
 .exact eZ w4
 .exact eZ u
 .exact eZ t
 .exact eZ s
def M7 {base:Nat}{m:Z.cz}(a:Value.okWide prog W .any base 25 m.val):(∀x,m.ao=some x->CB W x.block)/\(∀x,m.ro=some x->CB W x.block):=by
 obtain⟨ao,b,o,n,cap,S,N,C,ro,rb,rp,r,gD,R,p⟩:=m;unfold Value.okWide at a;rw[underlying25]at a;obtain⟨cs,e,_,ts,g,_,f⟩:=a;cases e;have h:prog.cellTypes prog.depth 25=some [22,23,3]:=by kernel_rfl
 rw[h]at g;cases g;refine⟨λx hx=>?_,λx hx=>?_⟩
 .simp only at hx
  subst hx;obtain⟨u,d,c⟩:=f 0 _ rfl;cases d;exact mF underlying22 c
 .simp only at hx
  subst hx;obtain⟨u,d,c⟩:=f 1 _ rfl;cases d;exact mF underlying23 c
end
end
section
open Go.Lib Go.RowKit
def gZ {w}{n}{g t e N}{k}{zs}(j:prog.globalNamed n=some g)(i:(prog.globals[g]?).map (·.type)=some t)(hu:prog.underlying t=some (.array N e))(he:prog.underlying e=some (.int k))(d:prog.cellsOf e=1)(c:prog.cellsOf t=N)
 (h:VarReads prog w n (tabData k zs)):TabIs prog w n k zs:=by
 obtain⟨g0,t0,cs,fuel,p,b,a,f,hd⟩:=h;obtain rfl:=adn (j.symm.trans b);obtain rfl:=adn (i.symm.trans a);have hcs:=cells_of_tab hu he d c hd;unfold TabIs;rw[f];obtain⟨l⟩:=cs;exact congrArg (λl=>some (Array.mk l)) hcs
def Tk:Go.Shelf.Ren:=⟨λx=>x,λn=>if n=5 then 5 else if n=119 then 316 else if n=138 then 318 else 319,λn=>if n=3 then 4 else 5⟩
def OJ:U8Types prog Tk:=⟨by kernel_rfl,by kernel_rfl,by kernel_rfl,by kernel_rfl⟩
def OK:U8Extra prog Tk:=⟨by kernel_rfl,by kernel_rfl,by kernel_rfl,by kernel_rfl,by kernel_rfl,by kernel_rfl,by kernel_rfl⟩
def Hq:(Rows.laid_internal_strconv_uint64pow10:DataW Unit)=tabData .u64 Lib.pow10Tab:=by kernel_rfl
def Bq:(Rows.laid_math_bits_deBruijn64tab:DataW Unit)=tabData .u8 (Lib.deBruijn64tab.map λn=>((n:Nat):Int)):=by kernel_rfl
def Gb:(Rows.laid_unicode_utf8_acceptRanges:DataW Unit)=acceptData:=by kernel_rfl
def yC:Rows.laid_unicode_utf8_first=firstData:=Pinned.utf8First_eq
def Dl {w}(hs:prog.globals.size<=w.heap.size)
 (f:VarReads prog w "internal/strconv.uint64pow10" Rows.laid_internal_strconv_uint64pow10)(d:VarReads prog w "unicode/utf8.first" Rows.laid_unicode_utf8_first)(c:VarReads prog w "unicode/utf8.acceptRanges" Rows.laid_unicode_utf8_acceptRanges)
 (b:VarReads prog w "math/bits.deBruijn64tab" Rows.laid_math_bits_deBruijn64tab):gY w:=by
 rw[Hq]at f;rw[yC]at d;rw[Gb]at c;rw[Bq]at b;have i:prog.globals.size=14:=by kernel_rfl
 refine⟨by omega,
  gZ (g:=3) (t:=310) (e:=125) (N:=20) (by kernel_rfl) (by kernel_rfl) (by kernel_rfl) (by kernel_rfl) (by kernel_rfl) (by kernel_rfl) f,utf8Tabs_of_readsT OJ OK d c,λj a=>?_⟩
 have h:=gZ (g:=13) (t:=343) (e:=5) (N:=64) (by kernel_rfl) (by kernel_rfl) (by kernel_rfl) (by kernel_rfl) (by kernel_rfl) (by kernel_rfl) b;have:=h.cell (g:=13) (by kernel_rfl) j (by simpa using a);rw[this];simp[List.getD,a]
end
section
open Go.Lib Go.RowKit Go.ChangeShapes
def Ej: "*errors.errorString" = "*" ++ "errors.errorString" :=by decide
def O6 (u)(h:prog.typeName? 3 u=some "*errors.errorString"):u=345:=
 typeName_ptr_named (nm:= "errors.errorString") (by rw[<-Ej];kernel_rfl) (by kernel_rfl) (by decide) u (by rw[<-Ej];exact h)
def rM {W}(h:laidMet prog Rows.widthsUptoRow.laid W):∃a,W.cell? ⟨0,0,none⟩=some (.iface 345 (.pointer (some a)))/\CB W a.block:=by
 obtain⟨a,s,b,hc,_⟩:=laid_sentinel (n:= "berth/disk.ErrFailed") (g:=0) (ti:=148) (te:=347) (ts:=9) (laidMet.tail (laidMet.tail (laidMet.tail (laidMet.tail h)))) (by kernel_rfl) (by kernel_rfl) underlying148 O6 underlying345 underlying347 rfl rfl underlying9 (by kernel_rfl) (by kernel_rfl);refine⟨a,?_,jY hc⟩;rw[World.var?_cell (show prog.globalNamed "berth/disk.ErrFailed" =some 0 by kernel_rfl) b 0];rfl
def IE {w}(h:w.ShapedOpen prog){g}(b:g<prog.globals.size)(a:(((begin prog (λ_ _=>0) default).world.heap[g]?).bind Obj.row?).isSome=true):CB w g:=by
 obtain⟨⟨zero,t⟩,e⟩:=Option.isSome_iff_exists.1 a;obtain⟨cs,hc,_⟩:=h.1 g zero t b e;exact⟨_,_,_,hc⟩
def Sn {w}(h:w.ShapedOpen prog):∀g,g∈QD->CB w g:=λg a=>by
 have key:(QD.all λg=>decide (g<14)&&(((begin prog (λ_ _=>0) default).world.heap[g]?).bind Obj.row?).isSome)=true:=by kernel_rfl
 have:=ZU.1 key g a;simp only[ZQ,decide_eq_true_eq]at this;exact IE h (by rw[show prog.globals.size=14 by kernel_rfl];exact this.1) this.2
def Rx (d:DataW Unit):List Int:=match d with
 |.agg ps=>ps.map λp=>match p with|.lit (.int _ z)=>z|_=>0
 |_=>[]
def Lt:(Rows.laid_math_bits_deBruijn32tab:DataW Unit)=tabData .u8 (Rx Rows.laid_math_bits_deBruijn32tab):=by kernel_rfl
def xc {w}{n}{g}{k}{zs}(c:prog.globalNamed n=some g)(h:TabIs prog w n k zs):∃xs e f,w.heap[g]? =some (.cells xs e f)/\∀v∈xs.toList,∃k n,v=.int k n:=by
 unfold TabIs World.var? at h;rw[c]at h;simp only[Option.bind_some]at h;cases b:w.heap[g]? with
 |none=>rw[b]at h;cases h
 |some o=>
  rw[b]at h;cases o with
  |cells cs e f=>
   simp only[ac2]at h;refine⟨cs,e,f,rfl,λv a=>?_⟩;rw[h]at a;simp only[adz]at a;obtain⟨z,_,rfl⟩:=a;exact⟨_,_,rfl⟩
  |_=>cases h
def Gc {w}(b:w.ShapedOpen prog)(h:Utf8Tabs 4 5 w):∃xs e f,w.heap[(5:Nat)]? =some (.cells xs e f)/\∀v∈xs.toList,∃k n,v=.int k n:=by
 have a:((((begin prog (λ_ _=>0) default).world.heap[(5:Nat)]?).bind Obj.row?).map λx=>x.1.size)=some 32:=by kernel_rfl
 cases e:((begin prog (λ_ _=>0) default).world.heap[(5:Nat)]?).bind Obj.row? with
 |none=>rw[e]at a;cases a
 |some x=>
  obtain⟨zero,t⟩:=x;rw[e]at a;have l:zero.size=32:=adn a;obtain⟨cs,hc,hs,_⟩:=b.1 _ zero t (by rw[show prog.globals.size=14 by kernel_rfl];decide) e;refine⟨cs,_,_,hc,λv g=>?_⟩;obtain⟨i,d,c⟩:=List.getElem_of_mem g;have j:i<32:=by rw[adG]at d;omega
  have hcell:w.cell? ⟨5,i,none⟩=some v:=by
   rw[(blk hc).1 i,<-adF,ZT d,c]
  have hu:=h.2 (i/2) (by omega);rcases(show i=2*(i/2)\/i=2*(i/2)+1 by omega)with e|e
  .rw[e,hu.1]at hcell
   exact⟨_,_,(adn hcell).symm⟩
  .rw[e,hu.2]at hcell
   exact⟨_,_,(adn hcell).symm⟩
end
section
open Go Go.ChangeShapes Go.WideShapes Go.ChangeAt Go.RowKit Go.Conc Go.Lib
def MO:ownKnob prog.godebug=none:=by kernel_rfl
def uI {w:World}(h:w.ShapedOpen prog):prog.globals.size<=w.heap.size:=by
 obtain⟨b,_⟩:=h;have a:prog.globals.size=14:=by kernel_rfl
 have hs:(((begin prog (λ_ _=>0) default).world.heap[13]?).bind Obj.row?).isSome=true:=by kernel_rfl
 obtain⟨⟨zero,t⟩,e⟩:=Option.isSome_iff_exists.1 hs;obtain⟨cs,hc,_⟩:=b 13 zero t (by rw[a];omega) e;have:=(ZK.1 hc).1;omega
def FJ {w}(hs:prog.globals.size<=w.heap.size)(f:w.ShapedOpen prog)(h:laidMet prog Rows.widthsUptoRow.laid w.memory):Az w (CB w)/\∃a,w.cell? ⟨0,0,none⟩=some (.iface 345 (.pointer (some a)))/\CB w a.block:=by
 have q:VarReads prog w.memory "internal/strconv.uint64pow10" Rows.laid_internal_strconv_uint64pow10:=laidMet.reads h (by simp[Rows.widthsUptoRow]);have l:VarReads prog w.memory "unicode/utf8.first" Rows.laid_unicode_utf8_first:=laidMet.reads h (by simp[Rows.widthsUptoRow])
 have p:VarReads prog w.memory "unicode/utf8.acceptRanges" Rows.laid_unicode_utf8_acceptRanges:=laidMet.reads h (by simp[Rows.widthsUptoRow]);have k:VarReads prog w.memory "math/bits.deBruijn64tab" Rows.laid_math_bits_deBruijn64tab:=laidMet.reads h (by simp[Rows.widthsUptoRow]);have m:VarReads prog w.memory "math/bits.deBruijn32tab" Rows.laid_math_bits_deBruijn32tab:=laidMet.reads h (by simp[Rows.widthsUptoRow]);have b:=Dl (w:=w.memory) hs q l p k;have env:gY w:=⟨b.size,b.pow,b.Mf,b.Ls⟩;obtain⟨a,k1,o⟩:=rM h;have d:w.cell? ⟨0,0,none⟩=some (.iface 345 (.pointer (some a))):=k1;have c:CB w a.block:=o;refine⟨⟨env,λg j=>?_,λg j=>?_,Sn f⟩,a,d,c⟩
 .have e:g=0:=adi.1 j
  subst e;exact⟨_,a,d,by decide,c⟩
 .have i:g=4\/g=5\/g=12\/g=13:=by
   have:g∈[4,5,12,13]:=j;simpa using this
  rcases i with rfl|rfl|rfl|rfl
  .rw[yC]at l
   have t:=xc (w:=w.memory) (n:= "unicode/utf8.first") (g:=4) (by kernel_rfl) (gZ (g:=4) (t:=316) (e:=5) (N:=256) (by kernel_rfl) (by kernel_rfl) (by kernel_rfl) (by kernel_rfl) (by kernel_rfl) (by kernel_rfl) l);exact t
  .exact Gc f env.Mf
  .rw[Lt]at m
   have t:=xc (w:=w.memory) (n:= "math/bits.deBruijn32tab") (g:=12) (by kernel_rfl) (gZ (g:=12) (t:=342) (e:=5) (N:=32) (by kernel_rfl) (by kernel_rfl) (by kernel_rfl) (by kernel_rfl) (by kernel_rfl) (by kernel_rfl) m);exact t
  .rw[Bq]at k
   have t:=xc (w:=w.memory) (n:= "math/bits.deBruijn64tab") (g:=13) (by kernel_rfl) (gZ (g:=13) (t:=343) (e:=5) (N:=64) (by kernel_rfl) (by kernel_rfl) (by kernel_rfl) (by kernel_rfl) (by kernel_rfl) (by kernel_rfl) k);exact t
end
section
open Go Go.ChangeShapes Go.WideShapes Go.ChangeAt Go.RowKit Go.Conc Go.ConcN Go.Deep Go.Joins Go.Lib
def afp (H:Type)(enc:TypeId×Value->H)(W:World)(base:Nat)(args:Array Value)(ds gs:List (DataW H))(before:List MemPlace)(M:Az W (CB W))(a:Addr)(hF:W.cell? ⟨0,0,none⟩=some (.iface 345 (.pointer (some a))))(w:CB W a.block)(L:prog.globals.size<=W.heap.size)
 (b:∀(j:Nat) t v,Tryz.f5.params[j]? =some t->args[j]? =some v->Value.okWide prog W .any base t v)
 (hW:DataW.Whole enc prog Tryz.f5.params.toList Rows.policySpec.vars false W args.toList ds gs before)
 (f:(DataW.weightsEach prog (Tryz.f5.params.toList++Rows.policySpec.plain.varTypes prog) (ds++gs)).all (·<=reachBytes)=true)
 (F:Rows.uptoSmall H (ds++gs)=true):
 ∃N last o w' i,runNT prog (N+1) (solo (G (Frame.enter prog 5 args .normal) []) W) #[]=(.ended o w',i)/\runN prog N (solo (G (Frame.enter prog 5 args .normal) []) W)=.next last/\
  step prog last=.ended o w'/\Conc.Good prog (λv O=>Rows.policySpec.post enc prog Tryz.f5 false true false false W args v O) last o w' i:=by
 have e:=hW;obtain⟨p,q,g,J,rfl,_,_⟩:=hW;have hA:DataW.TrodAll enc prog W 0 (λ_=>true) true Tryz.f5.params.toList args.toList ds p:=g;have hval:=b;rw[params5]at hA hval f;obtain⟨v0,v1,v2,d0,d1,d2,z,y,p2,rfl,rfl,rfl,C,B,A⟩:=trodAll_three hA;obtain⟨rfl,rfl⟩:=trodVars_none J;have k:∀x∈d0.weights prog 25,x<=reachBytes:=λx hx=>adj (ZU.1 f x (DataW.weights_mem_each (j:=0) rfl rfl x hx))
 obtain⟨m,rfl,hm,s,hp⟩:=Ak (hval 0 25 v0 rfl rfl) C k
 have u:Rows.uptoBulk d1<=1048576:=by
  have h:=adj F;simp only[List.append_nil,Rows.uptoBulkAll]at h;omega
 obtain⟨so,n,cap,T,rfl,K,hc,hd⟩:=vg (hval 1 26 v1 rfl rfl) B u;obtain⟨r,rfl,E⟩:=Ah (hval 2 29 v2 rfl rfl) A;obtain⟨I,hb⟩:=M7 (hval 0 25 m.val rfl rfl);clear g b;simp only[List.append_nil]at e;have d:∀x∈z++y++p2,x.block<W.heap.size:=λx hx=>by simpa using e.lt x hx
 obtain⟨N,last,o,w',i,g1,g2,g3,g4⟩:=af4 m so n cap T r a W M hm s hp K E hF w L (λx hx=>.inl (I x hx)) (λx hx=>.inl (hb x hx)) hc hd;refine⟨N,last,o,w',i,g1,g2,g3,?_⟩;obtain⟨v,D,⟨l,hb⟩,c⟩:=g4;refine⟨v,D,?_,c⟩;subst l;refine⟨_,_,_,[],z++y++p2,[],e,?_,?_,rfl,hb.frame _,λh=>by cases h⟩
 .exact trodAll_mk1 (shut_bool underlying4 true)
 .rw[adu]
  exact trodAll_cons_mk (Below.trod xU (by kernel_rfl) (adj (by kernel_rfl)) C hb λx hx=>d x (List.mem_append_left _ (List.mem_append_left _ hx)))
   (trodAll_cons_mk (Below.trod xU (by kernel_rfl) (adj (by kernel_rfl)) B hb λx hx=>d x (List.mem_append_left _ (List.mem_append_right _ hx)))
     (trodAll_mk1 (Below.trod xU (by kernel_rfl) (adj (by kernel_rfl)) A hb λx hx=>d x (List.mem_append_right _ hx))))
def afo (os:Os)(H:Type)(enc:TypeId×Value->H):Prop:=
    ∃(w:World) (tape:Tape) (i:Input),w.os=os/\(w.forCall tape i).Shaped Tryz.checked.prog/\i.vars=[]/\Input.okWide Tryz.checked.prog (w.forCall tape i) .any w.heap.size 5 i/\
     (((Rows.OpenSpec.upto Rows.policySpec).pre enc Tryz.checked.prog Tryz.f5 [] false (w.forCall tape i).memory i.args/\laidMetH prog Rows.policyUptoRow.laid (w.forCall tape i).memory)/\sizedMet enc Tryz.checked.prog Tryz.f5 (Rows.OpenSpec.upto Rows.policySpec) false (w.forCall tape i).memory i.args)/\
     ({}:Assume).holds Tryz.checked.prog (lone (Frame.enter Tryz.checked.prog 5 i.args .normal) [] (w.forCall tape i))
def afO (os:Os)(started:os.Started)(H:Type)(enc:TypeId×Value->H)(F:Stop.Interp)(d:afo os H enc):
 ReturnsInLeavingWide {} Tryz.checked os 5 .any (λw args=>((Rows.OpenSpec.upto Rows.policySpec).pre enc prog Tryz.f5 [] false w args/\laidMetH prog Rows.policyUptoRow.laid w)/\sizedMet enc prog Tryz.f5 (Rows.OpenSpec.upto Rows.policySpec) false w args)
  (((Rows.OpenSpec.upto Rows.policySpec).at F).post enc prog Tryz.f5 false true false false):=by
 refine returnsInLeavingWide_of_good (C:=Tryz.checked) MO started d ?_;intro w tape i _ b _ l f _;obtain⟨_,_,_,m,g,_,_,_,_,hval⟩:=l;have e:m=Tryz.f5:=adn (g.symm.trans func5);subst e;obtain⟨⟨j,n⟩,r⟩:=f;rw[MakeChecks.laidMetH_plain _ _ _ (by kernel_rfl)]at n;obtain⟨x,a,k1,q⟩:=FJ (uI b) b n;obtain⟨ds,gs,before,hw,_,u⟩:=(OpenSpec.pre_some (s:=Rows.OpenSpec.upto Rows.policySpec) (k:=Rows.uptoSmall) rfl _ _ _ _).1 j;have h:=DataW.Whole.of_heap (w':=w.forCall tape i) (by rfl) hw;obtain⟨N,last,o,w',p,g1,g2,g3,g4⟩:=afp H enc (w.forCall tape i) w.heap.size i.args ds gs before x a k1 q (uI b) hval h (r.weights hw) u;refine⟨N,last,o,w',p,g1,g2,g3,?_⟩;obtain⟨v,t,hp,c⟩:=g4;exact⟨v,t,ChangeSpec.post_blind hp,c⟩
end
section
open Go Go.ChangeShapes Go.WideShapes Go.ChangeAt Go.RowKit Go.Conc
def afk:Array Value:= #[.agg #[.slice none 0 0,.slice none 0 0,.int .i64 0],.slice none 0 0,.agg #[.int .i64 0,.int .i64 0,.int .i64 0,.int .i64 0]]
def afq (os:Os)(H:Type)(enc:TypeId×Value->H):afo os H enc:=by
 have a:Input.okWideB Tryz.checked.prog (({World.settled prog os with heap:=iJ (World.settled prog os).heap}:World).forCall (λ_ _=>0) ⟨#[],afk,[]⟩) 5 ⟨#[],afk,[]⟩=true:=by kernel_rfl
 have hx:DataW.whole enc Tryz.checked.prog (({World.settled prog os with heap:=iJ (World.settled prog os).heap}:World).forCall (λ_ _=>0) ⟨#[],afk,[]⟩).memory (Func.params Tryz.f5).toList Rows.policySpec.vars false afk.toList 8=some ([.agg [.nil,.nil,.lit (.int .i64 0)],.nil,.agg [.lit (.int .i64 0),.agg [.lit (.int .i64 0),.lit (.int .i64 0),.lit (.int .i64 0)]]],[],[]):=by kernel_rfl
 have b:Rows.policySpec.sizedB enc Tryz.checked.prog Tryz.f5 false (({World.settled prog os with heap:=iJ (World.settled prog os).heap}:World).forCall (λ_ _=>0) ⟨#[],afk,[]⟩).memory afk 8=true:=by kernel_rfl
 refine⟨{World.settled prog os with heap:=iJ (World.settled prog os).heap},λ_ _=>0,⟨#[],afk,[]⟩,rfl,zT os _,(Input.okWide_of_okWideB (base:=0) a).1,(Input.okWide_of_okWideB a).2,
  ⟨⟨(OpenSpec.pre_some (s:=Rows.OpenSpec.upto Rows.policySpec) (k:=Rows.uptoSmall) rfl [] false _ _).2 ⟨_,_,_,DataW.Whole_of_whole hx,rfl,by kernel_rfl⟩,GU os _⟩,sizedMet_of_sizedB b⟩,?_⟩
 simp only[Assume.holds];exact⟨by simp,by simp,λ_=>Modest.zero,by simp,by simp⟩
def af2:Rows.PolicyUptoSaid:=
 mZ 5 Tryz.f5 rfl rfl rfl rfl rfl rfl rfl ⟨rfl,rfl,rfl,rfl,rfl⟩ rfl rfl rfl rfl rfl (by kernel_rfl) func5 afm
  (adj (by kernel_rfl)) (by unfold Func.isWrapper;first|(rw[if_pos (by decide+kernel)];kernel_rfl)|(rw[if_neg (by decide+kernel)];exact⟨rfl,rfl⟩))
  (λos started H enc _ F=>afO os started H enc F (afq os H enc))
def af0 (f:FuncId)(fn:Func)(hf:Tryz.pinned.checked.prog.funcNamed "berth/berthkeep.Policy" =some f)(a:Tryz.pinned.checked.prog.funcs[f]? =some fn):
 true=Tryz.pinned.checked.prog.looks []/\∀(j:Nat) t,fn.params[j]? =some t->Tryz.pinned.checked.prog.wantsStandIn t=false:=by
 obtain rfl:f=5:=adn ((show prog.funcNamed "berth/berthkeep.Policy" =some 5 by kernel_rfl).symm.trans hf)|>.symm
 obtain rfl:fn=Tryz.f5:=(adn (func5.symm.trans a)).symm;refine⟨by kernel_rfl,λj t b=>?_⟩;rw[params5]at b;have hm:=ac5 b;simp only[adA,ZW,adm,or_false]at hm;rcases hm with rfl|rfl|rfl
 .exact(show prog.wantsStandIn 25=false by kernel_rfl)
 .exact(show prog.wantsStandIn 26=false by kernel_rfl)
 .exact(show prog.wantsStandIn 29=false by kernel_rfl)
def aga:Rows.policyUptoRow.wfByText (Rows.OpenSpec.upto Rows.policySpec)=true:=by kernel_rfl
def af5:true=Rows.policyUptoRow.goesBy Tryz.pinned.checked.prog:=by kernel_rfl
def af3:Tryz.pinned.checked.prog.mainIs=some (Rows.policyUptoCard.stood.harness.1,Rows.policyUptoCard.stood.harness.2.toList):=by kernel_rfl
theorem policyUpto_card:Rows.PolicyUptoCardSaid:=
 ⟨Claim7.tied_new_at .later Rows.policyUptoCard.laidKinds true (Claim7.new_of_sixth af2 _ _ rfl ⟨rfl,rfl⟩ af3 rfl af0) aga,(λ_ h=>(by cases h)),OG,(λh=>(by cases h)),af5⟩
end
