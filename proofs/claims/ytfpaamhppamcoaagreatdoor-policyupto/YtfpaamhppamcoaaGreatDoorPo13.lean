/- Part 13 of the proof. -/
import Derived.Test.YtfpaamhppamcoaaGreatDoorPo12
set_option linter.all false
set_option maxRecDepth 100000
set_option maxHeartbeats 60000000
namespace Go.Proofs.YtfpaamhppamcoaaGreatDoor
open Go.Proofs.Tryz
namespace Z
open Go.RowKit
attribute [local go_sem ↓] Go.wp_at_zero Go.wp_at_succ
attribute [local go_sem] After.cell After.frozen After.const
def Aw {s s'}{l}{r}(h:o5 s l r s')(a:s.jQ->s.ah<4):s'.m=s.m/\s'.no<=s.no+4:=by
 rcases h with⟨hf,_,rfl⟩|⟨_,_,rfl⟩
 .have:=a hf
  refine⟨rfl,?_⟩;show s.no+s.ah.toNat<=s.no+4
  omega
 .exact⟨rfl,ZL _⟩
def zV {s s'}{t}(h:vR s t s'):s'.m=s.m/\s'.no<=s.no+4:=by
 rcases h with⟨_,h⟩|⟨_,r,h⟩|⟨_,rfl⟩|⟨_,r,h⟩|⟨_,rfl⟩
 .rcases h with⟨rfl,_⟩|⟨m,p,x,_,hf,rfl⟩|⟨m,p,x,_,hf,rfl⟩
  .exact⟨rfl,by omega⟩
  .refine⟨rfl,?_⟩
   have:=hf.2;show s.no+s.ah.toNat<=s.no+4
   omega
  .exact⟨rfl,ZL _⟩
 .rcases h with⟨_,_,rfl⟩|⟨p,_,h⟩
  .exact⟨rfl,by omega⟩
  .exact Aw h (λh=>h.2)
 .exact⟨rfl,Nat.le_add_right _ _⟩
 .rcases h with⟨_,_,rfl⟩|⟨_,_,_,rfl⟩|⟨_,_,_,rfl⟩
  .exact⟨rfl,by omega⟩
  .exact⟨rfl,by omega⟩
  .exact⟨rfl,Nat.le_add_right _ _⟩
 .exact⟨rfl,Nat.le_add_right _ _⟩
def Sv (m:cz)(T:Nat->eU):Nat->BS->Prop
 |0,s=>s=BS.new m
 |n+1,s'=>∃s,Sv m T n s/\vR s (T n) s'
def Sv.keeps {m}{T}{n}{s}(h:Sv m T n s):s.m=m/\s.no<=4*n:=by
 induction n generalizing s with
 |zero=>cases h;exact⟨rfl,ZL _⟩
 |succ n a=>
  obtain⟨s1,b,hd⟩:=h;have a:=a b;obtain⟨c,d⟩:=zV hd;exact⟨c.trans a.1,by have:=a.2;omega⟩
structure DL (w:World)(so:Option Addr)(n cap:Nat)(T:Nat->eU):Prop where
 room:n<=cap
 many:n<=100000000
 cells:0<n->∃b o,so=some ⟨b,o,none⟩/\∀i,i<n->∀j u,(T i).cells[j]? =some u->w.cell? ⟨b,o+i*9+j,none⟩=some u
 steps:∀i,i<n->(T i).at w
def DL.below {w w'}{so}{n cap}{T}(h:DL w so n cap T)(hb:adN w w'):DL w' so n cap T:=
 ⟨h.room,h.many,λc=>let ⟨b,o,e,hc⟩:=h.cells c;⟨b,o,e,λi a j u hu=>keeps hb (hc i a j u hu)⟩,λi a=>(h.steps i a).below hb⟩
def dJ.below {w w'}{K K'}(h:dJ w w' K K'){B}(c:B<=w.heap.size)(a:∀b,b<B->K b=0):Below B w w':=⟨h.os,h.tape,h.output,h.size,λb hb=>h.block b (by omega) (.inl (a b hb))⟩
def Bd.zero {w}{base bb}{s}{K}(h:Bd w base bb s K){b}(hb:b<base):K b=0:=by
 obtain⟨_,_,_,_,_,_,h⟩:=h
 by_cases a:K b=0
 .exact a
 .have:=(h.tk b a).1;omega
def eU.cell {t:eU}{w:World}{b o}(h:∀j u,t.cells[j]? =some u->w.cell? ⟨b,o+j,none⟩=some u):
 w.cell? ⟨b,o,none⟩=some (.int .i64 t.kind)/\w.cell? ⟨b,o+1,none⟩=some (.int .i64 t.A)/\w.cell? ⟨b,o+2,none⟩=some (.int .i64 t.B)/\w.cell? ⟨b,o+3,none⟩=some (.int .i64 (t.r 0))/\w.cell? ⟨b,o+4,none⟩=some (.int .i64 (t.r 1))/\
 w.cell? ⟨b,o+5,none⟩=some (.int .i64 (t.r 2))/\w.cell? ⟨b,o+6,none⟩=some (.int .i64 (t.r 3))/\w.cell? ⟨b,o+7,none⟩=some (.slice t.ao t.n t.cap)/\w.cell? ⟨b,o+8,none⟩=some (.bool t.yes):=
 ⟨h 0 _ rfl,h 1 _ rfl,h 2 _ rfl,h 3 _ rfl,h 4 _ rfl,h 5 _ rfl,h 6 _ rfl,h 7 _ rfl,h 8 _ rfl⟩
def Jr (w:World)(m:cz)(n:Nat)(T:Nat->eU)(v:Value)(w':World):Prop:=∃base bb s K,v=.pointer (some ⟨bb,0,none⟩)/\w.heap.size<=base/\Bd w' base bb s K/\Sv m T n s/\adN w w'
def Hu (m)(A ra so)(y rc base n cap)(T)(a)(w)(h:kX w base m (.slice A m.n y) (.slice ra m.r rc))(D:DL w so n cap T)
 (F:w.cell? ⟨0,0,none⟩=some (.iface 345 (.pointer (some a)))):
 adO 9 #[.agg #[.slice A m.n y,.slice ra m.r rc,.int .i64 m.p],.slice so n cap] w (RJ (Jr w m n T) AA):=by
 have B:=av (aaa D F);have N:Hid (∀u,adN w u->adO 33 #[.agg #[.slice A m.n y,.slice ra m.r rc,.int .i64 m.p]] u λe w'=>∃bb K,e=.returned (.tuple #[.pointer (some ⟨bb,0,none⟩),.int .i64 0])/\Bd w' u.heap.size bb (BS.new m) K/\adN u w'):=λu hu=>GY m A ra y rc base u (h.below hu)
 have C:=D.many;clear h D F
 go_enter (pf func9 (by rfl)),ntmps9
 go_wp2_with fail;refine(N.out _ ((aab _ _).alloc (ZL _) _)).mono ?_;rintro e w1 ⟨bb,K,rfl,c,q⟩;have v:=q.size;have H1:=av (aaa c (aaa (ai ((aab w.heap.size w).alloc (ZL _) _) q) (show w.heap.size+1<=w1.heap.size by simpa using v)));rw[aao]at H1;clear c q v;go_wp2_with fail
 go_loopw [7] (λi wr=>∃(j:Nat) (s:BS) (K':Nat->Nat),j<=n/\i=.int .i64 j/\Sv m T j s/\Bd wr (w.heap.size+1) bb s K'/\dJ w1 wr K K') (λi _=>n-(intOf i).toNat)
 case atStart=>exact⟨0,BS.new m,K,adl _,rfl,rfl,H1.out.1,dJ.refl _ _⟩
 case round=>
  obtain⟨j,s,K',O,rfl,g,c,d⟩:=hrel;have l:adN w wr:=H1.out.2.1.trans (d.below (by have:=H1.out.2.2;omega) (λb hb=>H1.out.1.zero (by omega)));have f:=av (aaa g (aaa c (aaa d l)));clear g c d l
  by_cases x:j<n
  .have jn:(j:Int)<n:=by omega
   obtain⟨b,o,rfl,hc⟩:=B.out.1.cells (by omega);obtain⟨c0,L,c2,c3,c4,c5,J,I,H⟩:=eU.cell (t:=T j) (w:=wr) (b:=b) (o:=o+j*9) (λk u hu=>keeps f.out.2.2.2 (hc j x k u hu));clear hc;go_wp2_with fail;have G:=f.out.1.keeps.2;refine(R9 (w.heap.size+1) bb s K' (T j) a wr f.out.2.1 ((B.out.1.steps j x).below f.out.2.2.2) (by omega) (keeps f.out.2.2.2 B.out.2) (by have:=aan B.out.2;simp only at this;omega)).mono ?_;intro e w4 he;cases e with
   |outgrown=>exact he.elim
   |panicked ch=>exact⟨rfl,he⟩
   |returned r=>
    obtain⟨⟨z,rfl⟩,s',M,hd,c,d⟩:=he;have E:=av (aaa hd (aaa c d));clear hd c d c0 L c2 c3 c4 c5 J I H;go_wp2_with fail;go_roundw
    case rel=>exact⟨j+1,s',M,by omega,by go_num,⟨s,f.out.1,E.out.1⟩,E.out.2.1,f.out.2.2.1.trans E.out.2.2⟩
    case measure=>simp[intOf];omega
  .have jn:¬(j:Int)<n:=by omega
   obtain rfl:j=n:=(by omega);go_wp2_with fail;go_ret;exact⟨_,bb,s,K',rfl,by omega,f.out.2.1,f.out.1,f.out.2.2.2⟩
def nz (s:BS)(t:eU):BS:=if aK t.kind 5=2 then s.reg (aK t.A 3) (min t.n 16) (il t.X) t.H else if aK t.kind 5=3/\aK t.B 16<s.dn (aK t.A 3)then s.fJ (aK t.A 3) (aK t.B 16) t.yes else s
def eO (m:cz)(T:Nat->eU):Nat->BS
 |0=>BS.new m
 |n+1=>nz (eO m T n) (T n)
structure pR (s s':BS):Prop where
 dn:s.dn=s'.dn
 dN:s.dN=s'.dN
 dH:s.dH=s'.dH
def yX {s s'}{l}{r}(h:o5 s l r s'):pR s' s:=by
 rcases h with⟨_,_,rfl⟩|⟨_,_,rfl⟩
 .exact⟨rfl,rfl,rfl⟩
 .exact⟨rfl,rfl,rfl⟩
def pR.told {s s' s2}{t}(h:pR s s')(hd:vR s t s2):pR s2 (nz s' t):=by
 have other:∀{x},pR x s->aK t.kind 5≠2->aK t.kind 5≠3->pR x (nz s' t):=fun{x} hx d c=>by
  unfold nz;rw[if_neg d,if_neg (λe=>c e.1)];exact⟨hx.dn.trans h.dn,hx.dN.trans h.dN,hx.dH.trans h.dH⟩
 rcases hd with⟨a,hd⟩|⟨a,r,hd⟩|⟨a,rfl⟩|⟨a,r,hd⟩|⟨a,rfl⟩
 .refine other ?_ (by omega) (by omega)
  rcases hd with⟨rfl,_⟩|⟨m,p,x,_,_,rfl⟩|⟨m,p,x,_,_,rfl⟩
  all_goals exact⟨rfl,rfl,rfl⟩
 .refine other ?_ (by omega) (by omega)
  rcases hd with⟨_,_,rfl⟩|⟨p,_,hd⟩
  .exact⟨rfl,rfl,rfl⟩
  .exact yX hd
 .unfold nz
  rw[if_pos a];unfold BS.reg;exact⟨by simp only[h.dn],by simp only[h.dN],by simp only[h.dH]⟩
 .have c:=ik t.A (show 0<3 by omega)
  unfold nz;rw[if_neg (by omega)];rcases hd with⟨hA,_,_⟩|⟨_,b,_,rfl⟩|⟨_,b,_,rfl⟩
  .exact absurd ⟨by omega,by omega⟩ hA
  .rw[acX]at b
   rw[if_neg (λe=>b ⟨by omega,by rw[h.dn];have:=e.2;omega⟩)];exact h
  .rw[acX]at b
   rw[if_pos ⟨a,by have:=b.2;rw[h.dn]at this;omega⟩,acX,acX];unfold BS.fJ;exact⟨h.dn,h.dN,by simp only[h.dH]⟩
 .exact other ⟨rfl,rfl,rfl⟩ (by omega) (by omega)
def Sv.told {m}{T}{n}{s}(h:Sv m T n s):pR s (eO m T n):=by
 induction n generalizing s with
 |zero=>cases h;exact⟨rfl,rfl,rfl⟩
 |succ n a=>
  obtain⟨s1,b,hd⟩:=h;exact(a b).told hd
structure kH (w:World)(s:BS)(d:Nat->Value)(wr:World):Prop where
 b0:wr.heap[w.heap.size]? =some (.cells #[.slice none 0 0,.slice none 0 0,.slice none 0 0] 34 (0,0))
 b1:wr.heap[w.heap.size+1]? =some (.cells #[d 0,d 1,d 2] 34 (0,0))
 rows:∀k,k<3->wr.ownsRow (w.heap.size+2) 75 2 (d k) (s.dn k) (rO s k)
 apart:∀k,k<3->∀k',k'<3->k≠k'->∀b,(d k).ownBlock=some b->(d k').ownBlock≠some b
 below:adN w wr
 size:w.heap.size+2<=wr.heap.size
section
variable {w wr W2:World}{s:BS}{d:Nat->Value}
def kH.alloc (h:kH w s d wr)(o):kH w s d (wr.alloc o):=
 have k:∀{b a},wr.heap[b]? =some a->(wr.alloc o).heap[b]? =some a:=λhb=>(aac _ _ _ (ZK.1 hb).1).trans hb
 ⟨k h.b0,k h.b1,λi c=>(h.rows i c).alloc _,h.apart,h.below.alloc (by have:=h.size;omega) _,by have:=h.size;rw[aao];omega⟩
def kH.drew (h:kH w s d wr):kH w s d wr.drew:=⟨h.b0,h.b1,λi a=>au (h.rows i a) (aab _ _).drew,h.apart,h.below.drew,h.size⟩
def kH.list (h:kH w s d wr){k n}{v}{N}{H}(u:k<3)(q:W2.ownsRow wr.heap.size 75 2 v n (yP n N H))(hb:adN wr W2):kH w (s.reg k n N H) (λi=>if i=k then v else d i) (W2.setCell ⟨w.heap.size+1,k,none⟩ v):=by
 have hs:=h.size;have r:=hb.size;have g:∀b,v.ownBlock=some b->wr.heap.size<=b:=λb e=>(q.lt b e).1
 have j:∀i,i<3->∀b,(d i).ownBlock=some b->b<wr.heap.size:=λi c b e=>(h.rows i c|>.lt b e).2
 refine⟨dP _ (bJ hb h.b0) (by show w.heap.size≠w.heap.size+1;omega),?_,λi c=>?_,λi c p l f b a=>?_,(h.below.trans (hb.mono (by omega))).setCell (Nat.le_succ _) _,by simp;omega⟩
 .have m:=aD (i:=k) v (bJ hb h.b1)
  refine m.trans ?_;obtain rfl|rfl|rfl:k=0\/k=1\/k=2:=by omega
  all_goals rfl
 .by_cases e:i=k
  .subst e
   rw[if_pos rfl,J4,show(s.reg i n N H).dn i=n from by unfold BS.reg;simp];exact aB (aaf q (by show w.heap.size+1<wr.heap.size;omega) _) (by omega)
  .rw[if_neg e,(vO s e).1,(vO s e).2]
   exact aaf (au (h.rows i c) hb) (by show w.heap.size+1<w.heap.size+2;omega) _
 .by_cases e:i=k
  .rw[if_pos e]at a
   have t:=g b a;rw[if_neg (λo=>f (e.trans o.symm))];intro m;have:=j p l b m;omega
  .rw[if_neg e]at a
   have t:=j i c b a
   by_cases o:p=k
   .rw[if_pos o]
    intro m;have:=g b m;omega
   .rw[if_neg o]
    exact h.apart i c p l f b a
def kH.fJ (h:kH w s d wr){k i g}(l:k<3)(o:i<s.dn k)(f:(d k).ownBlock=some g)(b):kH w (s.fJ k i b) d (wr.setCell ⟨g,i*2+1,none⟩ (.bool b)):=by
 have m:=(h.rows k l).lt g f;have a:∀x,x≠g->(wr.setCell ⟨g,i*2+1,none⟩ (.bool b)).heap[x]? =wr.heap[x]?:=λx hx=>aad _ _ _ _ hx
 refine⟨(a _ (by omega)).trans h.b0,(a _ (by omega)).trans h.b1,λj c=>?_,h.apart,h.below.setCell (by show w.heap.size<=g;omega) _,by simpa using h.size⟩
 by_cases e:j=k
 .subst e
  rw[<-J2];exact AZ (h.rows j c) f (by omega) _
 .rw[Bo s b e]
  exact aJ (h.rows j c) λx hx=>a x (λn=>h.apart j c k l e x hx (by rw[n];exact f))
end
def oJ (f:Nat->Value){k}(a:k<3):(#[f 0,f 1,f 2]:Array Value)[k]? =some (f k):=by
 obtain rfl|rfl|rfl:k=0\/k=1\/k=2:=by omega
 all_goals rfl
def Ou (w:World)(s:BS)(v:Value)(w':World):Prop:=∃d:Nat->Value,v=.agg #[d 0,d 1,d 2]/\(∀k,k<3->w'.ownsRow w.heap.size 75 2 (d k) (s.dn k) (rO s k))/\adN w w'
def Ij (m)(so)(n cap)(T)(w)(U:DL w so n cap T):
 adO 10 #[.slice so n cap] w λe w'=>∃v,e=.returned v/\Ou w (eO m T n) v w':=by
 have G:=av U;have R:=U.many;clear U
 go_enter (pf func10 (by rfl)),ntmps10
 go_wp2_with fail
 go_loopw [4] (λi wr=>∃(j:Nat) (d:Nat->Value),j<=n/\i=.int .i64 j/\kH w (eO m T j) d wr) (λi _=>n-(intOf i).toNat)
 case atStart=>
  refine⟨0,λ_=>.slice none 0 0,adl _,rfl,aap _ _ _,aam _ _ _,λk _=>aag _ _ _ _,λk _ k' _ _ b hb=>(by cases hb),((aab _ _).alloc (ZL _) _).alloc (by simp) _,by simp⟩
 case round=>
  obtain⟨j,d,hj,rfl,s⟩:=hrel;have Z:=av s;obtain⟨a0,k0,e0⟩:=aj (s.rows 0 (by omega));obtain⟨a1,k1,e1⟩:=aj (s.rows 1 (by omega));obtain⟨a2,Q,e2⟩:=aj (s.rows 2 (by omega))
  by_cases f:j<n
  .have jn:(j:Int)<n:=by omega
   obtain⟨b,o,rfl,hc⟩:=G.out.cells (by omega);obtain⟨c0,c1,c2,c3,c4,c5,c6,c7,c8⟩:=eU.cell (t:=T j) (w:=wr) (b:=b) (o:=o+j*9) (λk u hu=>keeps s.below (hc j f k u hu));have hA:=((G.out.steps j f).A);have M:=((G.out.steps j f).B);have L:=((G.out.steps j f).kind);have K:=av (aaa (G.out.steps j f).dC (G.out.steps j f).qF);have Y:Hid (∀u,adO 39 #[.int .i64 (T j).A,.int .i64 3] u λe w'=>e=.returned (.int .i64 (aK (T j).A 3:Nat))/\w'=u):=λu=>dG (T j).A 3 u hA (by omega)
   have N:Hid (∀u,adO 39 #[.int .i64 (T j).B,.int .i64 16] u λe w'=>e=.returned (.int .i64 (aK (T j).B 16:Nat))/\w'=u):=λu=>dG (T j).B 16 u M (by omega)
   have V:Hid (∀u,adO 39 #[.int .i64 (T j).kind,.int .i64 5] u λe w'=>e=.returned (.int .i64 (aK (T j).kind 5:Nat))/\w'=u):=λu=>dG (T j).kind 5 u L (by omega)
   have F:=ik (T j).A (show 0<3 by omega);have c:Hid (eO m T (j+1)=nz (eO m T j) (T j)):=rfl;clear hc hA M L;go_wp2_with fail;obtain⟨y,E⟩:∃W,W=wr.alloc (.cells #[.int .i64 (T j).kind,.int .i64 (T j).A,.int .i64 (T j).B,.int .i64 ((T j).r 0),.int .i64 ((T j).r 1),.int .i64 ((T j).r 2),.int .i64 ((T j).r 3),.slice (T j).ao (T j).n (T j).cap,.bool (T j).yes] 84):=⟨_,rfl⟩
   have H1:Hid (kH w (eO m T j) d y/\y.heap[wr.heap.size]? =some (.cells #[.int .i64 (T j).kind,.int .i64 (T j).A,.int .i64 (T j).B,.int .i64 ((T j).r 0),.int .i64 ((T j).r 1),.int .i64 ((T j).r 2),.int .i64 ((T j).r 3),.slice (T j).ao (T j).n (T j).cap,.bool (T j).yes] 84 (0,0))):=by
        rw[E];exact⟨Z.out.alloc _,aae _ _⟩
   rw[<-E];clear E c0 c1 c2 c3 c4 c5 c6 c7 c8 s;obtain⟨q0,P⟩:=blk H1.out.2;refine(Y.out y).mono ?_;rintro e w1 ⟨rfl,hw⟩;obtain rfl:=hw.symm;go_wp2_with fail;refine(N.out y).mono ?_;rintro e w1 ⟨rfl,hw⟩;obtain rfl:=hw.symm;go_wp2_with fail;refine(V.out y).mono ?_;rintro e w1 ⟨rfl,hw⟩;obtain rfl:=hw.symm
   by_cases p:aK (T j).kind 5=2
   .have I:=av p
    rw[p];clear p
    have C:Hid (eO m T (j+1)=(eO m T j).reg (aK (T j).A 3) (min (T j).n 16) (il (T j).X) (T j).H):=by
     rw[c.out];unfold nz;rw[if_pos I.out];exact av rfl
    go_wp2_with fail;refine(uL (T j).n (T j).X (T j).H _ y (K.out.1.below H1.out.1.below) K.out.2).mono ?_;rintro e w2 ⟨v2,rfl,h,D⟩;obtain⟨va,vc,rfl⟩:=aj h;have H2:=av (H1.out.1.list F h D);have a:=blk (bJ D H1.out.1.b1);obtain⟨x,hx⟩:∃x,w2.cell? ⟨w.heap.size+1,aK (T j).A 3,none⟩=some x:=⟨_,(a.1 _).trans (oJ d F)⟩;have ζ:=a.2 (aK (T j).A 3);clear h D a q0 P;go_wp2_with fail;go_roundw
    case rel=>exact⟨j+1,_,by omega,by go_num,by rw[C.out];exact H2.out⟩
    case measure=>simp[intOf];omega
   .by_cases q:aK (T j).kind 5=3
    .have l:=av q
     rw[q];clear q p;obtain⟨ak,ck,O⟩:=aj (H1.out.1.rows _ F);have a:=blk H1.out.1.b1;have x0:y.cell? ⟨w.heap.size+1,aK (T j).A 3,none⟩=some (.slice ak ((eO m T j).dn (aK (T j).A 3)) ck):=(by rw[a.1,oJ d F,O]);clear a
     by_cases hd:aK (T j).B 16< (eO m T j).dn (aK (T j).A 3)
     .have C:Hid (eO m T (j+1)=(eO m T j).fJ (aK (T j).A 3) (aK (T j).B 16) (T j).yes):=by
          rw[c.out];unfold nz;rw[if_neg (by rw[l.out];omega),if_pos ⟨l.out,hd⟩];exact av rfl
      have S:((aK (T j).B 16:Nat):Int)< ((eO m T j).dn (aK (T j).A 3):Nat):=(by omega);obtain⟨θ,α,e',r1,_,r3,_⟩:=dV (H1.out.1.rows _ F);rw[O]at e';cases e';obtain⟨g,rfl,η,_,J⟩:=r3 (by omega);have H2:=av (H1.out.1.drew.fJ F hd (by rw[O];rfl) (T j).yes);have y2:=(yN J hd).2
      have y3:y.drew.cell? ⟨g,aK (T j).B 16*2+1,none⟩=some (.bool ((eO m T j).dH (aK (T j).A 3) (aK (T j).B 16))):=by
          rw[show(⟨g,aK (T j).B 16*2+1,none⟩:Addr)=⟨g,0+2*aK (T j).B 16+1,none⟩ by rw[Z8,Nat.mul_comm]];exact y2
      obtain⟨cur,z⟩:=sM (H1.out.1.rows _ F) (b:=g) (by rw[O];rfl);have y4:y.drew.frozen? ⟨g,aK (T j).B 16*2+1,none⟩=false:=(blk z).2 _;clear r1 r3 J y2 z;go_wp2_with fail
      go_region
      go_wp2_with fail;go_roundw
      case rel=>exact⟨j+1,_,by omega,by go_num,by rw[C.out];exact H2.out⟩
      case measure=>simp[intOf];omega
     .have C:Hid (eO m T (j+1)=eO m T j):=by
          rw[c.out];unfold nz;rw[if_neg (by rw[l.out];omega),if_neg (λe=>hd e.2)];exact av rfl
      have S:¬((aK (T j).B 16:Nat):Int)< ((eO m T j).dn (aK (T j).A 3):Nat):=(by omega);go_wp2_with fail;go_roundw
      case rel=>exact⟨j+1,_,by omega,by go_num,by rw[C.out];exact H1.out.1⟩
      case measure=>simp[intOf];omega
    .have C:Hid (eO m T (j+1)=eO m T j):=by
      rw[c.out];unfold nz;rw[if_neg p,if_neg (λe=>q e.1)];exact av rfl
     have Q:(((aK (T j).kind 5:Nat):Int)==2)=false:=acZ.2 (by omega);have k3:(((aK (T j).kind 5:Nat):Int)==3)=false:=acZ.2 (by omega);have ε:((aK (T j).kind 5:Nat):Int)≠2:=(by omega);have δ:((aK (T j).kind 5:Nat):Int)≠3:=(by omega);go_wp2_with fail;go_roundw
     case rel=>exact⟨j+1,_,by omega,by go_num,by rw[C.out];exact H1.out.1⟩
     case measure=>simp[intOf];omega
  .have jn:¬(j:Int)<n:=by omega
   obtain rfl:j=n:=(by omega);have a:=s.b1;rw[e0,e1,e2]at a;obtain⟨m1,β⟩:=blk a;obtain⟨m0,γ⟩:=blk s.b0;clear s a;go_wp2_with fail;obtain⟨z0,z1,z2⟩:=KC (.slice a0 ((eO m T j).dn 0) k0) (.slice a1 ((eO m T j).dn 1) k1) (.slice a2 ((eO m T j).dn 2) Q) (m0 0) (m0 1) (m0 2);refine bodyPost_ret (v:=.agg #[.slice a0 ((eO m T j).dn 0) k0,.slice a1 ((eO m T j).dn 1) k1,.slice a2 ((eO m T j).dn 2) Q]) ?_ rfl ⟨_,rfl,d,by rw[e0,e1,e2],λk hk=>?_,?_⟩
   .simp[results,results10,go_sem,z0,z1,z2]
   .exact aB (aaf (aaf (aaf (Z.out.rows k hk) (by show w.heap.size<w.heap.size+2;omega) _) (by show w.heap.size<w.heap.size+2;omega) _) (by show w.heap.size<w.heap.size+2;omega) _) (by omega)
   .exact((Z.out.below.setCell (ZL _) _).setCell (ZL _) _).setCell (ZL _) _
def Ps (a)(n c)(R)(x)(w)(h:Ints w (.slice a n c) n R)(p:n<=1000000):
 adO 44 #[.slice a n c,.int .i64 x] w λe w'=>lg (∃i,i<n/\R i=x) e/\w'=w:=by
 have m:=av h;clear h
 go_enter (pf func44 (by rfl)),ntmps44
 go_wp2_with fail
 go_loop [5] (λi=>∃j:Nat,j<=n/\i=.int .i64 j/\Hid (∀k,k<j->R k≠x)) (λi=>n-(intOf i).toNat)
 case atStart=>exact⟨0,adl _,rfl,av (λk f=>absurd f (ZV _))⟩
 case round=>
  obtain⟨j,q,rfl,hR⟩:=hrel
  by_cases d:j<n
  .have jn:(j:Int)<n:=by omega
   obtain⟨ao,cap,e,_,_,g⟩:=m.out;cases e;obtain⟨b,o,rfl,hc⟩:=g (by omega);have c0:=hc j d;clear hc g
   by_cases hx:R j=x
   .subst hx
    go_wp2_with fail;go_ret;exact⟨.yes ⟨j,d,rfl⟩,rfl⟩
   .have l:(R j==x)=false:=acZ.2 hx
    go_wp2_with fail;go_round
    case rel=>exact⟨j+1,by omega,by go_num,av (λk f=>by
     by_cases e:k=j
     .subst e;exact hx
     .exact hR.out k (by omega))⟩
    case measure=>simp[intOf];omega
  .have jn:¬(j:Int)<n:=by omega
   go_wp2_with fail;go_ret;exact⟨.no (fun⟨i,r,e⟩=>hR.out i (by omega) e),rfl⟩
def Ta (G:Nat->Value)(q:Nat)(v:Value):Nat->Value:=λa=>if a=q then v else G a
def nZ (f:Nat->Value){k}(a:k<4):(#[f 0,f 1,f 2,f 3]:Array Value)[k]? =some (f k):=by
 obtain rfl|rfl|rfl|rfl:k=0\/k=1\/k=2\/k=3:=by omega
 all_goals rfl
section
variable {w wr w2:World}{mc lc:Array Value}{L:Nat->List Nat}{G:Nat->Value}
end
def Ma (m:Nat)(h:m<16)(w):adO 15 #[.int .i64 m] w λe w'=>e=.returned (.int .i64 (pop m))/\w'=w:=by
 go_enter (pf func15 (by rfl)),ntmps15
 go_wp2_with fail;refine wp_loop_rounds 5 ?_;rw[aal];go_wp2_with fail;rw[aal];go_wp2_with fail;rw[aal];go_wp2_with fail;rw[aal];go_wp2_with fail;rw[aal];go_wp2_with fail;go_ret;refine⟨?_,rfl⟩;obtain rfl|rfl|rfl|rfl|rfl|rfl|rfl|rfl|rfl|rfl|rfl|rfl|rfl|rfl|rfl|rfl:m=0\/m=1\/m=2\/m=3\/m=4\/m=5\/m=6\/m=7\/m=8\/m=9\/m=10\/m=11\/m=12\/m=13\/m=14\/m=15:=by omega
 all_goals kernel_rfl
def IA (D:BD)(mask q x:Nat):Bool:=has mask (bG D q x).toNat
def kU (D:BD)(mask q:Nat)(l:List Nat)(j:Nat):Nat:=(l.take j).countP (IA D mask q)
def Q0 (D:BD)(q:Nat):Nat:=if q=0 then D.n else D.dn (q-1)
def oZ (D)(mask q)(l){j x}(h:l[j]? =some x):kU D mask q l (j+1)=kU D mask q l j+if IA D mask q x=true then 1 else 0:=by
 unfold kU;rw[adq,h,List.countP_append]
 by_cases hx:IA D mask q x=true
 .rw[if_pos hx];simp[hx]
 .rw[if_neg hx];simp[hx]
def yU (D)(mask q)(l)(j):kU D mask q l j<=j:=by
 unfold kU;have b:=List.countP_le_length (p:=IA D mask q) (l:=l.take j);have a:=List.length_take_le j l;omega
def jb (D:BD)(mask:Nat)(L:Nat->List Nat)(k i:Nat)(q:Nat):Nat:=if q=0 then kU D mask 0 (L 0) (L 0).length else if q-1<k then kU D mask q (L q) (L q).length else if q-1=k then kU D mask q (L q) i else 0
def lu (D:BD)(mask:Nat)(L:Nat->List Nat)(j:Nat)(q:Nat):Nat:=if q=0 then kU D mask 0 (L 0) j else 0
def o8 (c:Nat->Nat):Array Value:= #[.int .i64 (c 0:Nat),.int .i64 (c 1:Nat),.int .i64 (c 2:Nat),.int .i64 (c 3:Nat)]
structure mX (w:World)(mc lc gc:Array Value)(c:Nat->Nat)(wr:World):Prop where
 b0:wr.heap[w.heap.size]? =some (.cells mc 25 (0,0))
 b1:wr.heap[w.heap.size+1]? =some (.cells lc 34 (0,0))
 b2:wr.heap[w.heap.size+1+1]? =some (.cells gc 41 (0,0))
 b3:wr.heap[w.heap.size+1+1+1]? =some (.cells #[.int .i64 0,.int .i64 0,.int .i64 0,.int .i64 0] 29 (0,0))
 b4:wr.heap[w.heap.size+1+1+1+1]? =some (.cells (o8 c) 29 (0,0))
 below:adN w wr
def yj (c){q}(a:q<4):(o8 c)[q]? =some (.int .i64 (c q:Nat)):=by
 obtain rfl|rfl|rfl|rfl:q=0\/q=1\/q=2\/q=3:=by omega
 all_goals rfl
section
variable {w wr:World}{mc lc gc:Array Value}{c:Nat->Nat}
def mX.drew (h:mX w mc lc gc c wr):mX w mc lc gc c wr.drew:=⟨h.b0,h.b1,h.b2,h.b3,h.b4,h.below.drew⟩
def mX.congr {a}(h:mX w mc lc gc c wr)(he:∀q,q<4->c q=a q):mX w mc lc gc a wr:=⟨h.b0,h.b1,h.b2,h.b3,by
 have:o8 c=o8 a:=by unfold o8;rw[he 0 (by omega),he 1 (by omega),he 2 (by omega),he 3 (by omega)]
 rw[<-this];exact h.b4,h.below⟩
def mX.inc (h:mX w mc lc gc c wr){q}(e:q<4):mX w mc lc gc (λd=>if d=q then c q+1 else c d) (wr.setCell ⟨w.heap.size+1+1+1+1,q,none⟩ (.int .i64 ((c q:Nat)+1))):=by
 have a:∀b,b≠w.heap.size+1+1+1+1->(wr.setCell ⟨w.heap.size+1+1+1+1,q,none⟩ (.int .i64 ((c q:Nat)+1))).heap[b]? =wr.heap[b]?:=λb hb=>aad _ _ _ _ hb
 refine⟨(a _ (by omega)).trans h.b0,(a _ (by omega)).trans h.b1,(a _ (by omega)).trans h.b2,(a _ (by omega)).trans h.b3,?_,h.below.setCell (by show w.heap.size<=w.heap.size+1+1+1+1;omega) _⟩;refine(aD (i:=q) _ h.b4).trans ?_;unfold o8;obtain rfl|rfl|rfl|rfl:q=0\/q=1\/q=2\/q=3:=by omega
 all_goals simp
end
def nX (w:World)(o){b}(hb:b=w.heap.size):(w.alloc o).heap[b]? =some o:=by
 subst hb;exact aae _ _
def J7 (mask:Nat)(k:Int)(hm:mask<16)(a:0<=k/\k<4):bits BinOp.and IntKind.i64 ((mask:Int)/2^k.toNat) 1=if has mask k.toNat=true then 1 else 0:=by
 obtain⟨n,rfl⟩:∃n:Nat,k=n:=⟨k.toNat,by omega⟩;rw[acX];obtain rfl|rfl|rfl|rfl:n=0\/n=1\/n=2\/n=3:=by omega
 all_goals(
  obtain rfl|rfl|rfl|rfl|rfl|rfl|rfl|rfl|rfl|rfl|rfl|rfl|rfl|rfl|rfl|rfl:mask=0\/mask=1\/mask=2\/mask=3\/mask=4\/mask=5\/mask=6\/mask=7\/mask=8\/mask=9\/mask=10\/mask=11\/mask=12\/mask=13\/mask=14\/mask=15:=by omega
  all_goals kernel_rfl)
def KJ {D}{mask}{L}{j x}(h:(L 0)[j]? =some x)(hx:IA D mask 0 x=true)(q):(if q=0 then lu D mask L j 0+1 else lu D mask L j q)=lu D mask L (j+1) q:=by
 unfold lu
 by_cases e:q=0
 .rw[if_pos e,if_pos rfl,if_pos e,oZ _ _ _ _ h,if_pos hx]
 .rw[if_neg e,if_neg e,if_neg e]
def Hf {D}{mask}{L}{j x}(h:(L 0)[j]? =some x)(hx:IA D mask 0 x=false)(q):lu D mask L j q=lu D mask L (j+1) q:=by
 have e:kU D mask 0 (L 0) (j+1)=kU D mask 0 (L 0) j:=by rw[oZ _ _ _ _ h,if_neg (by rw[hx];exact Bool.false_ne_true)];rfl
 unfold lu;rw[e]
def He (D)(mask)(L)(q):lu D mask L (L 0).length q=jb D mask L 0 0 q:=by
 unfold lu jb
 by_cases h:q=0
 .rw[if_pos h,if_pos h]
 .rw[if_neg h,if_neg h,if_neg (by omega)]
  by_cases a:q-1=0
  .rw[if_pos a];rfl
  .rw[if_neg a]
def KH (D)(mask)(L)(k q):jb D mask L k (L (1+k)).length q=jb D mask L (k+1) 0 q:=by
 unfold jb
 by_cases h:q=0
 .rw[if_pos h,if_pos h]
 .rw[if_neg h,if_neg h]
  by_cases c:q-1<k
  .rw[if_pos c,if_pos (by omega)]
  .rw[if_neg c]
   by_cases b:q-1=k
   .rw[if_pos b,if_pos (by omega),show 1+k=q by omega]
   .rw[if_neg b,if_neg (by omega)]
    by_cases a:q-1=k+1
    .rw[if_pos a];rfl
    .rw[if_neg a]
def nE (D)(mask)(L)(k i):jb D mask L k i (1+k)=kU D mask (1+k) (L (1+k)) i:=by
 unfold jb;rw[if_neg (by omega),if_neg (by omega),if_pos (by omega)]
def MF {D}{mask}{L}{k i x}(h:(L (1+k))[i]? =some x)(hx:IA D mask (1+k) x=true)(q):(if q=1+k then jb D mask L k i (1+k)+1 else jb D mask L k i q)=jb D mask L k (i+1) q:=by
 by_cases e:q=1+k
 .subst e
  rw[if_pos rfl,nE,nE,oZ _ _ _ _ h,if_pos hx]
 .rw[if_neg e]
  unfold jb
  by_cases b:q=0
  .rw[if_pos b,if_pos b]
  .rw[if_neg b,if_neg b]
   by_cases a:q-1<k
   .rw[if_pos a,if_pos a]
   .rw[if_neg a,if_neg a,if_neg (by omega),if_neg (by omega)]
def KI {D}{mask}{L}{k i x}(h:(L (1+k))[i]? =some x)(hx:IA D mask (1+k) x=false)(q):jb D mask L k i q=jb D mask L k (i+1) q:=by
 by_cases e:q=1+k
 .subst e
  rw[nE,nE,oZ _ _ _ _ h,if_neg (by rw[hx];exact Bool.false_ne_true)];rfl
 .unfold jb
  by_cases b:q=0
  .rw[if_pos b,if_pos b]
  .rw[if_neg b,if_neg b]
   by_cases a:q-1<k
   .rw[if_pos a,if_pos a]
   .rw[if_neg a,if_neg a,if_neg (by omega),if_neg (by omega)]
def qP (D)(mask)(L)(q)(a:q<4):jb D mask L 3 0 q=kU D mask q (L q) (L q).length:=by
 unfold jb
 by_cases h:q=0
 .rw[if_pos h,h]
 .rw[if_neg h,if_pos (by omega)]
def ME (m)(ca ra)(V rc base base2 J)(s)(d G:Nat->Value)(L:Nat->List Nat)(mask:Nat)(w)(h:kX w base m (.slice ca m.n V) (.slice ra m.r rc))(hd:∀k,k<3->w.ownsRow base2 75 2 (d k) (s.dn k) (rO s k))(hs:s.m=m)(δ:s.ok)
 (P:∀q,q<4->w.ownsRow J 3 1 (G q) (L q).length (aT (L q)))(Y:∀q,q<4->(L q).length<=1000000/\∀x∈L q,x<Q0 s.D q)(hm:mask<16):
 adO 14 #[.agg #[.slice ca m.n V,.slice ra m.r rc,.int .i64 m.p],.agg #[d 0,d 1,d 2],.agg #[G 0,G 1,G 2,G 3],.int .i64 mask] w λe w'=>e=.returned (.agg (o8 λq=>kU s.D mask q (L q) (L q).length))/\adN w w':=by
 obtain⟨f1,f2,f3⟩:=h.qF;obtain⟨a0,k0,e0⟩:=aj (hd 0 (by omega));obtain⟨a1,k1,e1⟩:=aj (hd 1 (by omega));obtain⟨a2,k2,e2⟩:=aj (hd 2 (by omega));obtain⟨g0,c0,I⟩:=aj (P 0 (by omega));obtain⟨g1,c1,H⟩:=aj (P 1 (by omega));obtain⟨g2,c2,F⟩:=aj (P 2 (by omega));obtain⟨g3,c3,E⟩:=aj (P 3 (by omega));obtain⟨ao,cap,e,r1,_,M,_⟩:=dV h.dA;cases e;obtain⟨cb,rfl,_,_,S⟩:=M (by omega)
 have HC:Hid (∀W,adN w W->∀i,i<m.n->W.cell? ⟨cb,i*3+1,none⟩=some (.int .i64 (m.N i))/\0<=m.N i/\m.N i<4):=λW hW i O=>⟨by
  have:=keeps hW (vP S O).2.1;rw[Z8]at this;exact this,((h.ok.2.2.1 i O).1).2.2.1,((h.ok.2.2.1 i O).1).2.2.2.1⟩
 have HG:Hid (∀W,adN w W->∀q,q<4->∀(j x:Nat),(L q)[j]? =some x->∃g c,G q=.slice (some ⟨g,0,none⟩) (L q).length c/\W.cell? ⟨g,j,none⟩=some (.int .i64 x)/\x<Q0 s.D q):=λW hW q X j x hx=>by
  have hj:j< (L q).length:=(ZZ.1 hx).1;obtain⟨ao,cap,e,_,_,M,_⟩:=dV (P q X);obtain⟨g,rfl,_,_,hg⟩:=M (by omega);refine⟨g,cap,e,?_,(Y q X).2 x (List.mem_iff_getElem?.2 ⟨j,hx⟩)⟩;have:=keeps hW (C5 hg hj);rw[Z8,hx]at this;exact this
 have HD:Hid (∀W,adN w W->∀k,k<3->∀i,i<s.dn k->∃g c,d k=.slice (some ⟨g,0,none⟩) (s.dn k) c/\W.cell? ⟨g,i*2,none⟩=some (.int .i64 (s.dN k i))/\0<=s.dN k i/\s.dN k i<4):=λW hW k hk i O=>by
  obtain⟨ao,cap,e,_,_,M,_⟩:=dV (hd k hk);obtain⟨g,rfl,_,_,hg⟩:=M (by omega);have h4:=(δ.d.dC k hk).2 i O;refine⟨g,cap,e,?_,h4.1,h4.2⟩;have:=keeps hW (yN hg O).1;rw[Z8,Nat.mul_comm]at this;exact this
 have HL:=av (λq (X:q<4)=>(Y q X).1);have ν:=(Y 0 (by omega)).1;have ε:Hid (Q0 s.D 0=m.n):=by subst hs;rfl
 have ζ:Hid (∀i,bG s.D 0 i=m.N i):=λi=>by subst hs;rfl
 clear hd P Y h r1 M S;rw[e0,e1,e2,I,H,F,E]
 go_enter (pf func14 (by rfl)),ntmps14
 go_wp2_with fail
 go_loopw [10] (λi wr=>∃j:Nat,j<=(L 0).length/\i=.int .i64 j/\mX w #[.slice (some ⟨cb,0,none⟩) m.n V,.slice ra m.r rc,.int .i64 m.p] #[.slice a0 (s.dn 0) k0,.slice a1 (s.dn 1) k1,.slice a2 (s.dn 2) k2] #[.slice g0 (L 0).length c0,.slice g1 (L 1).length c1,.slice g2 (L 2).length c2,.slice g3 (L 3).length c3] (lu s.D mask L j) wr) (λi _=>(L 0).length-(intOf i).toNat)
 case atStart=>
  have e4:o8 (lu s.D mask L 0)= #[.int .i64 0,.int .i64 0,.int .i64 0,.int .i64 0]:=rfl;refine⟨0,adl _,rfl,?_,?_,?_,?_,?_,?_⟩
  .rw[aac _ _ _ (by simp;omega),aac _ _ _ (by simp;omega)];exact kR _ _ _ _
  .rw[aac _ _ _ (by first|(simp;done)|(simp;omega)),aac _ _ _ (by simp)];exact kQ _ _ _ _
  .rw[aac _ _ _ (by simp),aac _ _ _ (by simp)];exact kP _ _ _ _
  .rw[aac _ _ _ (by simp)]
   exact nX _ _ (by simp)
  .rw[e4]
   exact nX _ _ (by simp)
  .exact(((((aab _ _).alloc (ZL _) _).alloc (by simp) _).alloc (by simp;omega) _).alloc (by simp;omega) _).alloc (by simp;omega) _
 case round=>
  obtain⟨j,hj,rfl,a⟩:=hrel;have t:=av a;obtain⟨b2,η⟩:=blk a.b2;obtain⟨b0,θ⟩:=blk a.b0
  by_cases A:j< (L 0).length
  .have jn:(j:Int)< (L 0).length:=by omega
   obtain⟨x,hx⟩:∃x,(L 0)[j]? =some x:=⟨_,ZT A⟩;obtain⟨g,c,U,y1,K⟩:=HG.out wr.drew a.below.drew 0 (by omega) j x hx;rw[I]at U;cases U;rw[ε.out]at K;obtain⟨y3,y4,y5⟩:=HC.out wr.drew a.below.drew x K;have β:(x:Int)<m.n:=(by omega);have y:=av hx;have o:=blk t.out.drew.b4;have y6:wr.drew.cell? ⟨w.heap.size+1+1+1+1,0,none⟩=some (.int .i64 (lu s.D mask L j 0:Nat)):=(by rw[o.1,yj _ (by omega)]);have α:=o.2 0;have hlen:lu s.D mask L j 0<=j:=yU _ _ _ _ _;have f:=J7 mask (m.N x) hm ⟨y4,y5⟩;have R:IA s.D mask 0 x=has mask (m.N x).toNat:=(by unfold IA;rw[ζ.out]);have b:=av R;clear a hx o R
   by_cases u:has mask (m.N x).toNat=true
   .rw[if_pos u]at f
    have l:=av u;have H2:=av (t.out.drew.inc (q:=0) (by omega));clear u;go_wp2_with fail
    go_region
    go_wp2_with fail;go_roundw
    case rel=>exact⟨j+1,by omega,by go_num,H2.out.congr (λq _=>KJ y.out (b.out.trans l.out) q)⟩
    case measure=>simp[intOf];omega
   .rw[if_neg u]at f
    have l:=av u;clear u;go_wp2_with fail
    go_region
    go_wp2_with fail;go_roundw
    case rel=>exact⟨j+1,by omega,by go_num,t.out.drew.congr (λq _=>Hf y.out (b.out.trans (by simpa using l.out)) q)⟩
    case measure=>simp[intOf];omega
  .have jn:¬(j:Int)< (L 0).length:=by omega
   obtain rfl:j=(L 0).length:=(by omega);clear a;go_wp2_with fail;clear b2 η b0 θ
   go_loopw [11] (λi wr=>∃k:Nat,k<=3/\i=.int .i64 k/\mX w #[.slice (some ⟨cb,0,none⟩) m.n V,.slice ra m.r rc,.int .i64 m.p] #[.slice a0 (s.dn 0) k0,.slice a1 (s.dn 1) k1,.slice a2 (s.dn 2) k2] #[.slice g0 (L 0).length c0,.slice g1 (L 1).length c1,.slice g2 (L 2).length c2,.slice g3 (L 3).length c3] (jb s.D mask L k 0) wr) (λi _=>3-(intOf i).toNat)
   case atStart=>exact⟨0,by omega,rfl,t.out.congr (λq _=>He s.D mask L q)⟩
   case round=>
        clear t;obtain⟨k,hk,rfl,a⟩:=hrel;have t:=av a
        by_cases Q:k<3
        .have kn:(k:Int)<3:=by omega
         have ξ:=HL.out (1+k) (by omega);clear a;go_wp2_with fail
         go_loopw [12] (λi wr=>∃i':Nat,i'<=(L (1+k)).length/\i=.int .i64 i'/\mX w #[.slice (some ⟨cb,0,none⟩) m.n V,.slice ra m.r rc,.int .i64 m.p] #[.slice a0 (s.dn 0) k0,.slice a1 (s.dn 1) k1,.slice a2 (s.dn 2) k2] #[.slice g0 (L 0).length c0,.slice g1 (L 1).length c1,.slice g2 (L 2).length c2,.slice g3 (L 3).length c3] (jb s.D mask L k i') wr) (λi _=>(L (1+k)).length-(intOf i).toNat)
         case atStart=>exact⟨0,by omega,rfl,t.out⟩
         case round=>
          clear t;obtain⟨j,hj,rfl,a⟩:=hrel;have t:=av a
          obtain⟨Z,gc,U⟩:∃Z gc,G (1+k)=.slice Z (L (1+k)).length gc:=by
           obtain rfl|rfl|rfl:k=0\/k=1\/k=2:=by omega
           .exact⟨_,_,H⟩
           .exact⟨_,_,F⟩
           .exact⟨_,_,E⟩
          have B:=blk a.b2;rw[<-I,<-H,<-F,<-E]at B;have x0:wr.cell? ⟨w.heap.size+1+1,1+k,none⟩=some (.slice Z (L (1+k)).length gc):=(by rw[B.1,nZ G (by omega),U]);have μ:wr.drew.cell? ⟨w.heap.size+1+1,1+k,none⟩=some (.slice Z (L (1+k)).length gc):=x0;clear B
          by_cases A:j< (L (1+k)).length
          .have xn:(j:Int)< (L (1+k)).length:=by omega
           obtain⟨x,hx⟩:∃x,(L (1+k))[j]? =some x:=⟨_,ZT A⟩;obtain⟨g,c,T,y1,K⟩:=HG.out wr.drew a.below.drew (1+k) (by omega) j x hx;rw[U]at T;cases T
           have γ:x<s.dn k:=by
            have:Q0 s.D (1+k)=s.dn k:=(by unfold Q0;rw[if_neg (by omega),show 1+k-1=k by omega];rfl);rw[this]at K;exact K
           have β:(x:Int)<s.dn k:=(by omega);obtain⟨gd,cd,ed,y3,y4,y5⟩:=HD.out wr.drew a.below.drew k Q x γ;have C:=blk a.b1;rw[<-e0,<-e1,<-e2]at C;have x1:wr.drew.cell? ⟨w.heap.size+1,k,none⟩=some (.slice (some ⟨gd,0,none⟩) (s.dn k) cd):=(show wr.cell? _=_ by rw[C.1,oJ d Q,ed]);have o:=blk t.out.drew.b4;have y6:wr.drew.cell? ⟨w.heap.size+1+1+1+1,1+k,none⟩=some (.int .i64 (jb s.D mask L k j (1+k):Nat)):=(by rw[o.1,yj _ (by omega)]);have α:=o.2 (1+k);have hlen:jb s.D mask L k j (1+k)<=j:=(by rw[nE];exact yU _ _ _ _ _);have f:=J7 mask (s.dN k x) hm ⟨y4,y5⟩
           have b:Hid (IA s.D mask (1+k) x=has mask (s.dN k x).toNat):=by
            unfold IA bG;rw[if_neg (by omega),show 1+k-1=k by omega];exact av rfl
           have y:=av hx;clear a hx o C K
           by_cases u:has mask (s.dN k x).toNat=true
           .rw[if_pos u]at f
            have l:=av u;have H2:=av (t.out.drew.inc (q:=1+k) (by omega));clear u;go_wp2_with fail
            go_region
            go_wp2_with fail;go_roundw
            case rel=>exact⟨j+1,by omega,by go_num,H2.out.congr (λq _=>MF y.out (b.out.trans l.out) q)⟩
            case measure=>simp[intOf];omega
           .rw[if_neg u]at f
            have l:=av u;clear u;go_wp2_with fail
            go_region
            go_wp2_with fail;go_roundw
            case rel=>exact⟨j+1,by omega,by go_num,t.out.drew.congr (λq _=>KI y.out (b.out.trans (by simpa using l.out)) q)⟩
            case measure=>simp[intOf];omega
          .have xn:¬(j:Int)< (L (1+k)).length:=by omega
           obtain rfl:j=(L (1+k)).length:=(by omega);clear a;go_wp2_with fail;go_roundw
           case rel=>exact⟨k+1,by omega,by go_num,t.out.congr (λq _=>KH s.D mask L k q)⟩
           case measure=>simp[intOf];omega
        .have kn:¬(k:Int)<3:=by omega
         obtain rfl:k=3:=(by omega);obtain⟨y4,ι⟩:=blk a.b4;obtain⟨y3,κ⟩:=blk a.b3;unfold o8 at y4;clear a;go_wp2_with fail;have z3:=aD (i:=3) (.int .i64 (jb s.D mask L 3 0 3:Nat)) (aD (i:=2) (.int .i64 (jb s.D mask L 3 0 2:Nat)) (aD (i:=1) (.int .i64 (jb s.D mask L 3 0 1:Nat)) (aD (i:=0) (.int .i64 (jb s.D mask L 3 0 0:Nat)) t.out.b3)));simp only[ZN,ZR,ZS]at z3;obtain⟨z,_⟩:=blk z3;have hle:∀i,w.heap.size<=(⟨w.heap.size+1+1+1,i,none⟩:Addr).block:=λ_=>by show w.heap.size<=w.heap.size+1+1+1;omega
         refine bodyPost_ret (v:=.agg (o8 (jb s.D mask L 3 0))) ?_ rfl ⟨?_,(((t.out.below.setCell (hle 0) _).setCell (hle 1) _).setCell (hle 2) _).setCell (hle 3) _⟩
         .simp[results,results14,go_sem,z,o8]
         .have:o8 (jb s.D mask L 3 0)=o8 λq=>kU s.D mask q (L q) (L q).length:=by
           unfold o8;rw[qP _ _ _ 0 (by omega),qP _ _ _ 1 (by omega),qP _ _ _ 2 (by omega),qP _ _ _ 3 (by omega)]
          rw[this]
def JD {m}(h:1<=m)(a:m<16):1<=pop m:=by
 have key:(List.range 16).all (λm=>m==0||decide (1<=pop m))=true:=by kernel_rfl
 have:=ZU.1 key m (Z9.2 a);simp at this;omega
def Ao (c:Nat->Int)(want:Int):Nat->Int
 |0=>0
 |m+1=>if 1<=m/\want<=fM c m 4/\(Ao c want m=0\/(pop m:Int)<Ao c want m)then(pop m:Nat)else Ao c want m
def NJ (c)(want)(M)(n:M<=16):(Ao c want M=0/\∀m,1<=m->m<M->¬want<=fM c m 4)\/(∃m,1<=m/\m<M/\want<=fM c m 4/\Ao c want M=(pop m:Nat)/\∀m',1<=m'->m'<M->want<=fM c m' 4->pop m<=pop m'):=by
 induction M with
 |zero=>exact .inl ⟨rfl,λm _ h=>absurd h (ZV _)⟩
 |succ M b=>
  have b:=b (by omega);unfold Ao
  by_cases h:1<=M/\want<=fM c M 4/\(Ao c want M=0\/(pop M:Int)<Ao c want M)
  .rw[if_pos h]
   obtain⟨l,k,f⟩:=h;refine .inr ⟨M,l,by omega,k,rfl,λm' k1 i a=>?_⟩
   by_cases e:m'=M
   .rw[e];exact ZL _
   .rcases b with⟨_,d⟩|⟨m,g,a2,a3,a4,a5⟩
    .exact absurd a (d m' k1 (by omega))
    .have:=a5 m' k1 (by omega) a
     have:=JD g (by omega);rcases f with f|f
     .omega
     .omega
  .rw[if_neg h]
   rcases b with⟨j,d⟩|⟨m,g,a2,a3,a4,a5⟩
   .refine .inl ⟨j,λm k1 i a=>?_⟩
    by_cases e:m=M
    .subst e;exact h ⟨k1,a,.inl j⟩
    .exact d m k1 (by omega) a
   .refine .inr ⟨m,g,by omega,a3,a4,λm' k1 i a=>?_⟩
    by_cases e:m'=M
    .subst e
     have:¬(pop m':Int)<Ao c want m':=λe=>h ⟨k1,a,.inr e⟩
     omega
    .exact a5 m' k1 (by omega) a
def ma (c)(want):∀l:List Nat,l.Pairwise (λa b=>pop a<=pop b)->(gP c want l= -1/\∀m∈l,¬want<=fM c m 4)\/(∃m∈l,want<=fM c m 4/\gP c want l=(pop m:Nat)/\∀m'∈l,want<=fM c m' 4->pop m<=pop m')
 |[],_=>.inl ⟨rfl,λm h=>by cases h⟩
 |a::l,hp=>by
  obtain⟨e,p2⟩:=List.pairwise_cons.1 hp;unfold gP
  by_cases h:want<=fM c a 4
  .rw[if_pos h]
   refine .inr ⟨a,ZX ..,h,rfl,λm' d _=>?_⟩;rcases ZW.1 d with rfl|d
   .exact ZL _
   .exact e m' d
  .rw[if_neg h]
   rcases ma c want l p2 with⟨g,f⟩|⟨m,i,a3,a4,a5⟩
   .refine .inl ⟨g,λm hm=>?_⟩
    rcases ZW.1 hm with rfl|hm
    .exact h
    .exact f m hm
   .refine .inr ⟨m,ac1 _ i,a3,a4,λm' d k=>?_⟩
    rcases ZW.1 d with rfl|d
    .exact absurd k h
    .exact a5 m' d k
def vJ {m}:m∈ord↔1<=m/\m<16:=by
 rw[CG];simp only[ZW,adm,or_false];omega
def xL:ord.Pairwise (λa b=>pop a<=pop b):=by
 rw[CG]
 decide
def Lh (c)(want):l9 c want=if Ao c want 16=0 then -1 else Ao c want 16:=by
 unfold l9;rcases NJ c want 16 (by omega)with⟨e,a⟩|⟨m,b,a2,a3,a4,a5⟩
 .rw[if_pos e]
  rcases ma c want ord xL with⟨d,_⟩|⟨m',b1,b2,_⟩
  .exact d
  .obtain⟨b3,b4⟩:=vJ.1 b1
   exact absurd b2 (a m' b3 b4)
 .have:=JD b a2
  rw[if_neg (by omega),a4];rcases ma c want ord xL with⟨_,a⟩|⟨m',b1,b2,b4,b5⟩
  .exact absurd a3 (a m (vJ.2 ⟨b,a2⟩))
  .obtain⟨f,c2⟩:=vJ.1 b1
   have h:=a5 m' f c2 b2;have g:=b5 m (vJ.2 ⟨b,a2⟩) a3;rw[b4];omega
def Ki (D)(q x mask)(l)(hx:0<=bG D q x/\bG D q x<4):fM (dz D q (x::l)) mask 4=fM (dz D q l) mask 4+if IA D mask q x=true then 1 else 0:=by
 have e:∀k,dz D q (x::l) k=dz D q l k+if bG D q x=(k:Int)then 1 else 0:=λk=>by
  unfold dz;rw[List.countP_cons]
  by_cases h:bG D q x=(k:Int)
  .simp[h]
  .simp[h]
 have hm:IA D mask q x=has mask (bG D q x).toNat:=rfl;rw[hm];simp only[fM,e];generalize a:bG D q x=v at*;obtain rfl|rfl|rfl|rfl:v=0\/v=1\/v=2\/v=3:=by omega
 all_goals
  simp
  repeat' split
  all_goals omega
def MC (D)(q mask)(l)(h:∀x∈l,0<=bG D q x/\bG D q x<4):((kU D mask q l l.length:Nat):Int)=fM (dz D q l) mask 4:=by
 unfold kU;rw[List.take_length]
 induction l with
 |nil=>
  show(0:Int)=_
  have:∀k,dz D q [] k=0:=λk=>rfl
  simp[fM,this]
 |cons x l a=>
  rw[Ki D q x mask l (h x (ZX ..)),<-a (λy hy=>h y (ac1 _ hy)),List.countP_cons]
  by_cases hx:IA D mask q x=true
  .rw[if_pos hx,if_pos hx];omega
  .rw[if_neg hx,if_neg hx];omega
def pR.dv {s s'}(h:pR s s')(k):s'.dn k=s.dn k/\rO s' k=rO s k:=by
 refine⟨by rw[h.dn],?_⟩;unfold rO iB;rw[h.dn,h.dN,h.dH]
def mg (c){q}(a:q<4):(aQ c)[q]? =some (.int .i64 (c q)):=by
 obtain rfl|rfl|rfl|rfl:q=0\/q=1\/q=2\/q=3:=by omega
 all_goals rfl
end Z
section
open Go Go.Conc
namespace Jp
end Jp
end
section
open Go.RowKit Go.Conc Go.ConcN
def PT {α}{R:Nat->α->Prop}(h:∀i,∃v,R i v):∃V:Nat->α,∀i,R i (V i):=
 ⟨λi=>(h i).choose,λi=>(h i).choose_spec⟩
def mD {Z}{lv}(hl:DT True Z lv)(ao)(n cap)(h:∀x,ao=some x->Z x.block\/(n=0/\cap=0)):∃a',lv (.slice ao n cap)=.slice a' n cap/\(0<cap->a'=ao):=by
 cases ao with
 |none=>exact⟨none,hl.same _ trivial,λ_=>rfl⟩
 |some x=>
  rcases h x rfl with a|⟨rfl,rfl⟩
  .exact⟨some x,hl.same _ a,λ_=>rfl⟩
  .obtain⟨a',b,_⟩:=hl.none trivial x
   exact⟨some a',b,λh=>absurd h (aby _)⟩
def Qq (f:Nat)(args:Array Value)(w:World):Prop:=∃N last o w' a,runNT prog (N+1) (solo (G (Frame.enter prog f args .normal) []) w) #[]=(.ended o w',a)/\runN prog N (solo (G (Frame.enter prog f args .normal) []) w)=.next last/\
 step prog last=.ended o w'/\Conc.Good prog (λv u=>v=.bool true/\Below w.heap.size w u) last o w' a
end
namespace Z
open Go.RowKit
structure BS.inv (s:BS):Prop where
 d:s.D.ok
 fine:s.fine
 many:s.bs.length<=12
 nm:∀x∈s.bs,x.nm.size=1
def BS.fine.ZJ {s s':BS}(h:s.fine)(hb:s'.bs=s.bs)(hm:s'.m=s.m):s'.fine:=⟨by rw[hb,hm];exact h.box,by rw[hb];exact h.aaR,by rw[hb];exact h.apart⟩
def BS.inv.new {m:cz}(h:m.ok):(BS.new m).inv:=⟨(BS.Rs h).d,⟨λx hx=>(by cases hx),List.Pairwise.nil,List.Pairwise.nil⟩,adl _,λx hx=>(by cases hx)⟩
def sj.asks {s:BS}{nm:ByteArray}{c:Nat->Int}{m p:Nat}{x:fH}(h:sj s nm c m p x):∃q,q<4/\0<aN c q:=by
 have hm:=h.may;unfold qo BC at hm;simp only[ZQ,List.any_eq_true,Z9,decide_eq_true_eq]at hm;obtain⟨_,q,a,hc⟩:=hm;exact⟨q,a,by unfold aN;omega⟩
def sj.fine {s:BS}{nm:ByteArray}{c:Nat->Int}{m p:Nat}{x:fH}(h:sj s nm c m p x)(hs:s.fine)(hd:s.D.ok):(s.ins p x).fine:=
 BS.fine.ins (m:=m) (c:=aN c) hs (by rw[h.nm];exact h.name) (by rw[h.nm];exact h.at_) h.given h.asks hd
def BS.inv.step {s s':BS}{t:eU}(h:s.inv)(hd:vR s t s'):s'.inv:=by
 rcases hd with⟨_,hA⟩|⟨_,r,hR⟩|⟨_,rfl⟩|⟨_,r,c⟩|⟨_,rfl⟩
 .rcases hA with⟨rfl,_⟩|⟨m,p,x,_,_,rfl⟩|⟨m,p,x,hy,_,rfl⟩
  .exact h
  .exact⟨BS.UO h.d rfl rfl rfl rfl,h.fine.ZJ rfl rfl,h.many,h.nm⟩
  .refine⟨BS.UO h.d rfl rfl rfl rfl,(hy.fine h.fine h.d).ZJ rfl rfl,?_,λy a=>?_⟩
   .have f:=hy.room
    show(s.bs.take p++x::s.bs.drop p).length<=12
    simp;omega
   .rcases qZ a with rfl|a
    .rw[hy.nm];rfl
    .exact h.nm y a
 .rcases hR with⟨_,_,rfl⟩|⟨p,_,⟨_,_,rfl⟩|⟨_,_,rfl⟩⟩
  .exact h
  .exact⟨BS.UO h.d rfl rfl rfl rfl,h.fine.ZJ rfl rfl,h.many,h.nm⟩
  .refine⟨BS.UO h.d rfl rfl rfl rfl,(h.fine.del (p:=p)).ZJ rfl rfl,?_,λy hy=>h.nm y (List.mem_of_mem_eraseIdx hy)⟩
   have f:=h.many;have g:=List.length_eraseIdx_le s.bs p;show(s.bs.eraseIdx p).length<=12
   omega
 .refine⟨⟨h.d.qF,h.d.nodes,h.d.res,λk' b=>?_⟩,h.fine.ZJ rfl rfl,h.many,h.nm⟩
  show(if k'=aK t.A 3 then min t.n 16 else s.dn k')<=16/\∀i,i< (if k'=aK t.A 3 then min t.n 16 else s.dn k')->0<=(if k'=aK t.A 3 then il t.X else s.dN k') i/\(if k'=aK t.A 3 then il t.X else s.dN k') i<4
  by_cases e:k'=aK t.A 3
  .simp only[if_pos e];exact⟨by omega,λi _=>M0 t.X i⟩
  .simp only[if_neg e];exact h.d.dC k' b
 .rcases c with⟨_,_,rfl⟩|⟨_,_,_,rfl⟩|⟨_,_,_,rfl⟩
  .exact h
  .exact h
  .exact⟨⟨h.d.qF,h.d.nodes,h.d.res,h.d.dC⟩,h.fine.ZJ rfl rfl,h.many,h.nm⟩
 .exact⟨BS.UO h.d rfl rfl rfl rfl,h.fine.ZJ rfl rfl,h.many,h.nm⟩
def Sv.inv {m:cz}{T:Nat->eU}{n:Nat}{s:BS}(h:Sv m T n s)(hm:m.ok):s.inv:=by
 induction n generalizing s with
 |zero=>cases h;exact .new hm
 |succ n a=>
  obtain⟨s1,b,hd⟩:=h;exact(a b).step hd
def l5 (l l':List fH):Prop:=l.length=l'.length/\∀i (h:i<l.length) (a:i<l'.length),l[i].nm=l'[i].nm/\∀q,q<4->l[i].T q=l'[i].T q
def l5.refl (l:List fH):l5 l l:=⟨rfl,λ_ _ _=>⟨rfl,λ_ _=>rfl⟩⟩
attribute [local go_sem ↓] Go.wp_at_zero Go.wp_at_succ
attribute [local go_sem] After.cell After.frozen After.const
abbrev SO2 (W:World)(a:Addr)(v1:Value)(a2:Addr)(v2:Value)(w':World):Prop:=w'.cell? a=some v1/\w'.cell? a2=some v2/\adN W w'
def acg {W w1:World}{a a2:Addr}{v1 v2:Value}(h:SO2 W a v1 a2 v2 w1):SO2 W a v1 a2 v2 w1.drew:=⟨h.1,h.2.1,h.2.2.drew⟩
def acn {W w1 w2:World}{a a2:Addr}{v1 v2:Value}(h:SO2 W a v1 a2 v2 w1)(hb:adN w1 w2):SO2 W a v1 a2 v2 w2:=⟨keeps hb h.1,keeps hb h.2.1,ai h.2.2 hb⟩
def ab2 (v:Value)(l:List Nat)(x:Nat)(w:World)(h:aas w v l)(c:l.length<=1000000):
 adO 44 #[v,.int .i64 x] w λe w'=>lg (x∈l) e/\w'=w:=by
 obtain⟨ao,cap,rfl,_⟩:=id h;refine(Ps ao l.length cap _ x w h c).mono λe w' hA=>⟨let ⟨r,e,b⟩:=hA.1;⟨r,e,b.trans ?_⟩,hA.2⟩
 constructor
 .rintro⟨i,a,e⟩
  rw[getD_at a]at e;have:l[i]=x:=by omega
  rw[<-this];exact acY a
 .intro hx
  obtain⟨i,a,rfl⟩:=ado.1 hx;exact⟨i,a,by rw[getD_at a]⟩
def ab0 {c:Nat->Int}(h:∀i,i<4->0<=c i/\c i<=A7 i)(b:∃q,q<4/\0<c q):qo c=true:=by
 unfold qo;rw[ZQ];refine⟨@decide_eq_true _ (Ut c 4) h,?_⟩;obtain⟨q,a,hc⟩:=b;unfold BC;rw[List.any_eq_true];exact⟨q,Z9.2 a,ady hc⟩
def acs {a b:ByteArray}(h:Dv a b=0):a=b:=by
 obtain⟨⟨l⟩⟩:=a;obtain⟨⟨k⟩⟩:=b;have:l=k:=abQ h;rw[this]
def abv {s:BS}{nm:ByteArray}(h:∀x∈s.bs,x.nm≠nm):¬there s nm:=by
 rintro⟨p,hp⟩;obtain⟨b,a⟩:=hp.2.2.2.1 rfl;rw[M4 b]at a;exact h _ (acY b) (acs a)
structure aco (w:World)(b3:Nat)(G:Nat->Value)(L:Nat->List Nat)(k:Nat)(wr:World):Prop where
 b0:wr.heap[w.heap.size]? =some (.cells #[.slice none 0 0,.slice none 0 0,.slice none 0 0,.slice none 0 0] 41 (0,0))
 bg:wr.heap[b3]? =some (.cells #[G 0,G 1,G 2,G 3] 41 (0,0))
 rows:∀q,q<=k->wr.ownsRow (w.heap.size+1) 3 1 (G q) (L q).length (aT (L q))/\(G q).ownBlock≠some b3
 below:adN w wr
 lt:w.heap.size<b3
def aco.step {w wr w2:World}{b3 k:Nat}{G:Nat->Value}{L:Nat->List Nat}{v:Value}(h:aco w b3 G L k wr)(o:k<3)(hb:adN wr w2)(f:w2.ownsRow wr.heap.size 3 1 v (L (1+k)).length (aT (L (1+k)))):
 aco w b3 (Ta G (1+k) v) L (k+1) (w2.setCell ⟨b3,1+k,none⟩ v):=by
 have l:b3<wr.heap.size:=(ZK.1 h.bg).1;have j:=h.lt;have a:∀b,b≠b3->(w2.setCell ⟨b3,1+k,none⟩ v).heap[b]? =w2.heap[b]?:=λb hb=>aad _ _ _ _ hb
 refine⟨(a _ (by omega)).trans (bJ hb h.b0),?_,λq n=>?_,(ai h.below hb).setCell (by show w.heap.size<=b3;omega) _,h.lt⟩
 .refine(aD (i:=1+k) _ (bJ hb h.bg)).trans ?_
  obtain rfl|rfl|rfl:k=0\/k=1\/k=2:=by omega
  all_goals rfl
 .unfold Ta
  by_cases e:q=1+k
  .subst e
   rw[if_pos rfl];have d:v.ownBlock≠some b3:=λe=>by have:=(f.lt b3 e).1;omega
   exact⟨aB (aJ f λb c=>a b (λe=>d (by rw[<-e];exact c))) (by have:=h.below.size;omega),d⟩
  .rw[if_neg e]
   obtain⟨m,g⟩:=h.rows q (by omega);exact⟨aJ (au m hb) λb c=>a b (λe=>g (by rw[<-e];exact c)),g⟩
def Bd.ow {w:World}{base bb:Nat}{s:BS}{K:Nat->Nat}(h:Bd w base bb s K):aW w bb s.D/\s.ok:=by
 obtain⟨_,_,_,_,_,_,h⟩:=h;exact⟨h.Si.ow,h.ok⟩
def aaX (base bb:Nat)(s:BS)(K:Nat->Nat)(w:World)(h:Bd w base bb s K):
 adO 18 #[.pointer (some ⟨bb,0,none⟩)] w λe w'=>∃A C,e=.returned (aaI A C (gq s.D))/\(∀q,q<4->w'.ownsRow w.heap.size 3 1 (.slice (A q) (gq s.D q).length (C q)) (gq s.D q).length (aT (gq s.D q)))/\adN w w':=by
 have L:Hid (∀u,adN w u->∀r:Nat,r<4->adO 48 #[.pointer (some ⟨bb,0,none⟩),.int .i64 r] u λe w'=>∃v,e=.returned v/\w'.ownsRow u.heap.size 3 1 v (gq s.D r).length (aT (gq s.D r))/\adN u w'):=λu hu r z=>
  lK bb r s.D u z (h.below hu).ow.1 h.ow.2.d (ZP (ku h.ow.2.d z) (by decide))
 clear h
 go_enter (pf func18 (by rfl)),ntmps18
 go_wp2_with fail;refine(L.out _ ((aab _ _).alloc (ZL _) _) 0 (by omega)).mono ?_;rintro e w1 ⟨v0,rfl,c,g⟩;obtain⟨T,m⟩:∃W,W=w1.alloc (.cells #[v0,.slice none 0 0,.slice none 0 0,.slice none 0 0] 41):=⟨_,rfl⟩;have y:=g.size;rw[aao]at y
 have H1:Hid (aco w w1.heap.size (Ta (λ_=>.slice none 0 0) 0 v0) (gq s.D) 0 T):=by
  rw[m];have l:adN w1 (w1.alloc (.cells #[v0,.slice none 0 0,.slice none 0 0,.slice none 0 0] 41)):=(aab _ _).alloc (ZL _) _;refine⟨bJ l ((g.block w.heap.size (by simp)).trans (aae _ _)),aae _ _,λq n=>?_,ai (ai ((aab _ _).alloc (ZL _) _) g) l,by omega⟩;obtain rfl:q=0:=by omega
  rw[aao]at c;exact⟨au c l,λe=>by have:=(c.lt _ e).2;omega⟩
 obtain⟨X,vc,rfl⟩:=aj c;clear c g y;go_wp2_with fail;rw[<-m];clear m
 go_loopw [8] (λi wr=>∃(k:Nat) (G:Nat->Value),k<=3/\i=.int .i64 k/\aco w w1.heap.size G (gq s.D) k wr) (λi _=>3-(intOf i).toNat)
 case atStart=>exact⟨0,_,by omega,rfl,H1.out⟩
 case round=>
  obtain⟨k,G,Z,rfl,B⟩:=hrel;have a:=av B;clear B
  by_cases x:k<3
  .have S:(k:Int)<3:=by omega
   have k1:IntKind.i64.wrap (1+(k:Int))=((1+k:Nat):Int):=(by rw[IntKind.wrap_i64];omega);go_wp2_with fail;refine(L.out wr a.out.below (1+k) (by omega)).mono ?_;rintro e w2 ⟨v,rfl,t,hb⟩;have U:=av (a.out.step x hb t);obtain⟨v2,c2,rfl⟩:=aj t;have n:=blk (bJ hb a.out.bg);have V:w2.cell? ⟨w1.heap.size,1+k,none⟩=some (G (1+k)):=(by rw[n.1];exact nZ G (by omega));have M:=n.2 (1+k);clear t hb n;go_wp2_with fail;go_roundw
   case rel=>exact⟨k+1,_,by omega,by go_num,U.out⟩
   case measure=>simp[intOf];omega
  .have S:¬(k:Int)<3:=by omega
   obtain rfl:k=3:=(by omega);obtain⟨Q,P⟩:=blk a.out.bg;obtain⟨a0,c0,J⟩:=aj (a.out.rows 0 (by omega)).1;obtain⟨p,o,I⟩:=aj (a.out.rows 1 (by omega)).1;obtain⟨a2,c2,H⟩:=aj (a.out.rows 2 (by omega)).1;obtain⟨a3,c3,F⟩:=aj (a.out.rows 3 (by omega)).1;rw[J,I,H,F]at Q;obtain⟨Y,R⟩:=blk a.out.b0;obtain⟨O,N⟩:=blk (KB (.slice a0 (gq s.D 0).length c0) (.slice p (gq s.D 1).length o) (.slice a2 (gq s.D 2).length c2) (.slice a3 (gq s.D 3).length c3) a.out.b0);go_wp2_with fail;refine bodyPost_ret (v:=.agg #[.slice a0 (gq s.D 0).length c0,.slice p (gq s.D 1).length o,.slice a2 (gq s.D 2).length c2,.slice a3 (gq s.D 3).length c3]) (by simp[results,go_sem,O]) rfl ?_;refine⟨λq=>if q=0 then a0 else if q=1 then p else if q=2 then a2 else a3,λq=>if q=0 then c0 else if q=1 then o else if q=2 then c2 else c3,rfl,λq n=>?_,?_⟩
   .have E:=(a.out.rows q (by omega)).1
    have j:World.ownsRow _ _ _ _ _ _ _:=aB (aJ E λb hb=>show((((wr.setCell ⟨w.heap.size,0,none⟩ (.slice a0 (gq s.D 0).length c0)).setCell ⟨w.heap.size,1,none⟩ (.slice p (gq s.D 1).length o)).setCell ⟨w.heap.size,2,none⟩ (.slice a2 (gq s.D 2).length c2)).setCell ⟨w.heap.size,3,none⟩ (.slice a3 (gq s.D 3).length c3)).heap[b]? =wr.heap[b]? from by
     have f:b≠w.heap.size:=λe=>by have:=(E.lt b hb).1;omega
     exact(aad _ _ _ _ f).trans ((aad _ _ _ _ f).trans ((aad _ _ _ _ f).trans (aad _ _ _ _ f)))) (show w.heap.size<=w.heap.size+1 by omega)
    obtain rfl|rfl|rfl|rfl:q=0\/q=1\/q=2\/q=3:=by omega
    .rw[J]at j;exact j
    .rw[I]at j;exact j
    .rw[H]at j;exact j
    .rw[F]at j;exact j
   .exact(((a.out.below.setCell (ZL _) _).setCell (ZL _) _).setCell (ZL _) _).setCell (ZL _) _
def fH.put (x:fH)(A:Nat->Option Addr)(C:Nat->Nat):fH:=⟨x.nm,A,C,x.T⟩
def abJ (l:List fH){i:Nat}(b:i<l.length)(A:Nat->Option Addr)(C:Nat->Nat):
 ((((aR l).set (i*5+1) (.slice (A 0) (l[i].T 0).length (C 0))).set (i*5+1+1) (.slice (A 1) (l[i].T 1).length (C 1))).set (i*5+1+2) (.slice (A 2) (l[i].T 2).length (C 2))).set (i*5+1+3) (.slice (A 3) (l[i].T 3).length (C 3))=aR (l.set i (l[i].put A C)):=by
 refine List.ext_getElem? λj=>?_
 obtain⟨p,r,a,rfl⟩:∃p r,r<5/\j=p*5+r:=⟨j/5,j%5,Nat.mod_lt _ (by omega),by omega⟩;have hlen:(aR l).length=l.length*5:=fe l
 by_cases hp:p<l.length
 .rw[DD (l:=l.set i (l[i].put A C)) (by simpa using hp) a]
  by_cases e:p=i
  .subst e
   rw[List.getElem_set_self];have c:=DD b a;obtain rfl|rfl|rfl|rfl|rfl:r=0\/r=1\/r=2\/r=3\/r=4:=by omega
   .rw[ac8 (by omega),ac8 (by omega),ac8 (by omega),ac8 (by omega),c];rfl
   .rw[ac8 (by omega),ac8 (by omega),ac8 (by omega),List.getElem?_set_self (by omega)];rfl
   .rw[ac8 (by omega),ac8 (by omega),show p*5+2=p*5+1+1 by omega,List.getElem?_set_self (by simp;omega)];rfl
   .rw[ac8 (by omega),show p*5+3=p*5+1+2 by omega,List.getElem?_set_self (by simp;omega)];rfl
   .rw[show p*5+4=p*5+1+3 by omega,List.getElem?_set_self (by simp;omega)];rfl
  .rw[List.getElem_set_ne (λh=>e h.symm),ac8 (by omega),ac8 (by omega),ac8 (by omega),ac8 (by omega),DD hp a]
 .rw[List.getElem?_eq_none (by simp;omega),List.getElem?_eq_none (by rw[fe];simp;omega)]
def aaU {w:World}{base ty c g n cap:Nat}{xs:List Value}(h:w.ownsRow base ty c (.slice (some ⟨g,0,none⟩) n cap) n xs)(j:Nat):w.frozen? ⟨g,j,none⟩=false:=by
 rcases h.2 with⟨e,_⟩|⟨g',b,cur,e,d,a,_⟩
 .cases e
 .cases e;exact(blk a).2 j
structure CpI (w:World)(g c:Nat)(l0:List fH)(i:Nat)(l:List fH)(wr:World):Prop where
 row:wr.ownsRow w.heap.size 98 5 (.slice (some ⟨g,0,none⟩) l.length c) l.length (aR l)
 alike:l5 l0 l
 mine:∀j (h:j<l.length),j<i->∀q,q<4->wr.ownsRow w.heap.size 3 1 (l[j].sl q) (l[j].T q).length (aT (l[j].T q))/\(l[j].sl q).ownBlock≠some g
 rest:∀j (h:j<l.length) (h':j<l0.length),i<=j->l[j]=l0[j]
 below:adN w wr
 lt:w.heap.size<=g
def CpI.step {w wr w2:World}{g c i:Nat}{o l:List fH}{A:Nat->Option Addr}{C:Nat->Nat}(h:CpI w g c o i l wr)(t:i<l.length)(hb:adN wr w2)(u:g<wr.heap.size)
 (hA:∀q,q<4->w2.ownsRow wr.heap.size 3 1 (.slice (A q) (l[i].T q).length (C q)) (l[i].T q).length (aT (l[i].T q))):
 CpI w g c o (i+1) (l.set i (l[i].put A C)) ((((w2.setCell ⟨g,i*5+1,none⟩ (.slice (A 0) (l[i].T 0).length (C 0))).setCell ⟨g,i*5+1+1,none⟩ (.slice (A 1) (l[i].T 1).length (C 1))).setCell ⟨g,i*5+1+2,none⟩ (.slice (A 2) (l[i].T 2).length (C 2))).setCell ⟨g,i*5+1+3,none⟩ (.slice (A 3) (l[i].T 3).length (C 3))):=by
 have f:∀b,b≠g->((((w2.setCell ⟨g,i*5+1,none⟩ (.slice (A 0) (l[i].T 0).length (C 0))).setCell ⟨g,i*5+1+1,none⟩ (.slice (A 1) (l[i].T 1).length (C 1))).setCell ⟨g,i*5+1+2,none⟩ (.slice (A 2) (l[i].T 2).length (C 2))).setCell ⟨g,i*5+1+3,none⟩ (.slice (A 3) (l[i].T 3).length (C 3))).heap[b]? =w2.heap[b]?:=λb hb=>(aad _ _ _ _ hb).trans ((aad _ _ _ _ hb).trans ((aad _ _ _ _ hb).trans (aad _ _ _ _ hb)))
 refine⟨?_,⟨by simpa using h.alike.1,λj a m=>?_⟩,λj a s q p=>?_,λj a m s=>?_,((((ai h.below hb).setCell h.lt _).setCell h.lt _).setCell h.lt _).setCell h.lt _,h.lt⟩
 .rw[<-abJ l t A C]
  simp only[List.length_set];exact JH (JH (JH (JH (au h.row hb) rfl _) rfl _) rfl _) rfl _
 .rw[List.length_set]at m
  by_cases e:i=j
  .subst e
   rw[List.getElem_set_self];exact h.alike.2 i a m
  .rw[List.getElem_set_ne e]
   exact h.alike.2 j a m
 .rw[List.length_set]at a
  by_cases e:i=j
  .subst e
   simp only[List.getElem_set_self];have n:=hA q p;have k:(fH.sl (l[i].put A C) q).ownBlock≠some g:=λe=>by have:=(n.lt g e).1;omega
   exact⟨aB (aJ n λb d=>f b (λe=>k (by rw[<-e];exact d))) h.below.size,k⟩
  .simp only[List.getElem_set_ne e]
   obtain⟨n,r⟩:=h.mine j a (by omega) q p;exact⟨aJ (au n hb) λb d=>f b (λe=>r (by rw[<-e];exact d)),r⟩
 .rw[List.length_set]at a
  rw[List.getElem_set_ne (by omega)];exact h.rest j a m (by omega)
structure aar (w:World)(z:Nat)(v:Value)(l:List fH):Prop where
 row:w.ownsRow z 98 5 v l.length (aR l)
 rows:∀x∈l,∀q,q<4->w.ownsRow z 3 1 (x.sl q) (x.T q).length (aT (x.T q))
def aar.below {w w':World}{z:Nat}{v:Value}{l:List fH}(h:aar w z v l)(hb:adN w w'):aar w' z v l:=⟨au h.row hb,λx hx q a=>au (h.rows x hx q a) hb⟩
def aaY (base bb:Nat)(s:BS)(K:Nat->Nat)(w:World)(h:Bd w base bb s K):
 adO 17 #[.pointer (some ⟨bb,0,none⟩)] w λe w'=>∃v l,e=.returned v/\aar w' w.heap.size v l/\l5 s.bs l/\adN w w':=by
 obtain⟨vc,vr,vb,vo,d,ys,G⟩:=h;obtain⟨ao,cap,rfl,Y,_,X,_⟩:=dV G.boxes;have P:w.cell? ⟨bb,6,none⟩=some (.slice ao s.bs.length cap):=G.cell 6;have HP:=av G;have M:=G.ok.many;have U:=av (uM ao s.bs.length cap (aR s.bs) w (by omega) (fe _) iD Y (λp=>let ⟨g,e,_,_,hc⟩:=X p;⟨g,0,e,hc⟩))
 have S:Hid (∀u (x:fH),(∀q,q<4->aas u (x.sl q) (x.T q)/\(x.T q).length<=24)->adO 47 #[.agg #[.slice (x.A 0) (x.T 0).length (x.C 0),.slice (x.A 1) (x.T 1).length (x.C 1),.slice (x.A 2) (x.T 2).length (x.C 2),.slice (x.A 3) (x.T 3).length (x.C 3)]] u (Ox u (λq=>(x.T q).length) (λq j=>(((x.T q)[j]?.getD 0:Nat):Int)))):=λu x hx=>
  Bv x.A (λq=>(x.T q).length) x.C (λq j=>(((x.T q)[j]?.getD 0:Nat):Int)) u λq f=>⟨(hx q f).1,by have:=(hx q f).2;omega⟩
 clear Y X G
 go_enter (pf func17 (by rfl)),ntmps17
 go_wp2_with fail;refine U.out.mono ?_;rintro e w1 ⟨a',c',rfl,n,F⟩;have H1:=av (aaa n F);clear n F P;go_wp2_with fail;obtain⟨p1,p2,e1,n1,n2,n3,_⟩:=dV H1.out.1;cases e1
 go_loopw [12] (λi wr=>∃(j:Nat) (l:List fH),j<=s.bs.length/\i=.int .i64 j/\l.length=s.bs.length/\adN w wr/\(0<s.bs.length->∃g,a'=some ⟨g,0,none⟩/\CpI w g c' s.bs j l wr)/\(s.bs.length=0->wr=w1)) (λi _=>s.bs.length-(intOf i).toNat)
 case atStart=>
  refine⟨0,s.bs,adl _,rfl,rfl,H1.out.2,λp=>?_,λ_=>rfl⟩;obtain⟨g,e,_,O,_⟩:=n3 p;subst e;exact⟨g,rfl,H1.out.1,l5.refl _,λj h W=>absurd W (ZV _),λ_ _ _ _=>rfl,H1.out.2,O⟩
 case round=>
  obtain⟨j,l,W,rfl,D,E,L,Z⟩:=hrel
  by_cases r:j<s.bs.length
  .have jn:(j:Int)<s.bs.length:=by omega
   obtain⟨g,rfl,m⟩:=L (by omega);have z:=av m;have k:j<l.length:=(by omega);have hx:=m.rest j k r (ZL _);obtain⟨_,_,e,_,_,B,_⟩:=dV m.row;cases e;obtain⟨g',e,N,_,c⟩:=B (by omega);cases e;obtain⟨_,b⟩:=Jk c k;have I:0+5*j=j*5:=(by omega);rw[I]at b;have c0:=b 0 (by omega);have Q:=b 1 (by omega);have c2:=b 2 (by omega);have c3:=b 3 (by omega);unfold fH.sl at c0 Q c2 c3
   have J:=av (S.out wr l[j] (λq f=>by
        rw[hx];exact⟨.own (au (HP.out.rows _ (acY r) q f).1 E),((HP.out.ok.small _ (acY r)).2 q f).1⟩))
   obtain⟨x,o⟩:∃x,x=l[j]:=⟨_,rfl⟩;rw[<-o]at c0 Q c2 c3 J;have R:=av o;clear L Z m B c b I hx o;go_wp2_with fail;refine J.out.mono ?_;rintro e w2 ⟨A,C,rfl,hA,a⟩
   have V:=av (z.out.step (A:=A) (C:=C) k a N (λq f=>by
        have:=hA q f;rw[Bf (l:=x.T q) rfl]at this;rw[<-R.out];exact this))
   obtain⟨_,_,e,_,_,B,_⟩:=dV (au z.out.row a);cases e;obtain⟨g',e,_,_,c⟩:=B (by omega);cases e;obtain⟨_,b⟩:=Jk c k;have I:0+5*j=j*5:=(by omega);rw[I]at b;have d0:=b 0 (by omega);have d1:=b 1 (by omega);have d2:=b 2 (by omega);have d3:=b 3 (by omega);rw[<-R.out]at d0 d1 d2 d3;unfold fH.sl at d0 d1 d2 d3;have f0:=aaU (au z.out.row a) (j*5+1);have f1:=aaU (au z.out.row a) (j*5+1+1);have f2:=aaU (au z.out.row a) (j*5+1+2);have f3:=aaU (au z.out.row a) (j*5+1+3);rw[<-R.out]at V;have α:=av (ai z.out.below a);clear hA a B c b I c0 Q c2 c3;go_wp2_with fail;go_roundw
   case rel=>exact⟨j+1,l.set j (x.put A C),by omega,by go_num,by simpa using D,V.out.below,λ_=>⟨g,rfl,V.out⟩,λh=>by omega⟩
   case measure=>simp[intOf];omega
  .have jn:¬(j:Int)<s.bs.length:=by omega
   obtain rfl:j=s.bs.length:=(by omega);go_wp2_with fail;go_ret;refine⟨_,rfl,l,?_,?_,E⟩
   .by_cases p:0<s.bs.length
    .obtain⟨g,rfl,m⟩:=L p
     refine⟨by rw[<-D];exact m.row,λx hx q f=>?_⟩;obtain⟨i,hi,rfl⟩:=ado.1 hx;exact(m.mine i hi (by omega) q f).1
    .have H:s.bs.length=0:=by omega
     have y:s.bs=[]:=List.length_eq_zero_iff.1 H;have t:l=[]:=List.length_eq_zero_iff.1 (by omega);subst t;obtain rfl:=Z H;refine⟨?_,λx hx=>(by cases hx)⟩;have:=H1.out.1;rw[y]at this⊢;exact this
   .by_cases p:0<s.bs.length
    .obtain⟨g,rfl,m⟩:=L p
     exact m.alike
    .have y:s.bs=[]:=List.length_eq_zero_iff.1 (by omega)
     have t:l=[]:=List.length_eq_zero_iff.1 (by omega);rw[y,t];exact l5.refl _
def GrO (w:World)(K:Nat->Nat)(z:Nat)(A:Nat->Option Addr)(C:Nat->Nat)(L:Nat->List Nat):Prop:=∀q,q<4->w.ownsRow z 3 1 (.slice (A q) (L q).length (C q)) (L q).length (aT (L q))/\∀b,(Value.slice (A q) (L q).length (C q)).ownBlock=some b->K b=0
def GrO.aaM {w:World}{K:Nat->Nat}{z:Nat}{A:Nat->Option Addr}{C:Nat->Nat}{L:Nat->List Nat}(h:GrO w K z A C L):aaB w A C L:=λq a=>aas.own (h q a).1
def GrO.aaq {w w':World}{K K':Nat->Nat}{z:Nat}{A:Nat->Option Addr}{C:Nat->Nat}{L:Nat->List Nat}(h:GrO w K z A C L)(c:dJ w w' K K'):GrO w' K' z A C L:=λq e=>by
 obtain⟨a,d⟩:=h q e;exact⟨aJ a λb hb=>c.block b (a.lt b hb).2 (.inl (d b hb)),λb hb=>by rw[c.tag b (a.lt b hb).2];exact d b hb⟩
def GrO.below {w w':World}{K:Nat->Nat}{z:Nat}{A:Nat->Option Addr}{C:Nat->Nat}{L:Nat->List Nat}(h:GrO w K z A C L)(hb:adN w w'):GrO w' K z A C L:=h.aaq (dJ.fq hb)
def Kp (w:World)(K:Nat->Nat)(l:List (Nat×Obj)):Prop:=∀p∈l,w.heap[p.1]? =some p.2/\K p.1=0
def Kp.aaq {w w':World}{K K':Nat->Nat}{l:List (Nat×Obj)}(h:Kp w K l)(a:dJ w w' K K'):Kp w' K' l:=λp hp=>a.kept (h p hp).2 (h p hp).1
def Kp.alloc {w:World}{K:Nat->Nat}{l:List (Nat×Obj)}{o:Obj}(h:Kp w K l)(hf:K w.heap.size=0):Kp (w.alloc o) K ((w.heap.size,o)::l):=λp hp=>by
 rcases ZW.1 hp with rfl|hp
 .exact⟨aae _ _,hf⟩
 .exact h.aaq (dJ.fq ((aab _ _).alloc (ZL _) _)) p hp
def Kp.head {w:World}{K:Nat->Nat}{b:Nat}{o:Obj}{l:List (Nat×Obj)}(h:Kp w K ((b,o)::l)):w.heap[b]? =some o:=(h _ ZX).1
def Kp.tail {w:World}{K:Nat->Nat}{p:Nat×Obj}{l:List (Nat×Obj)}(h:Kp w K (p::l)):Kp w K l:=λq a=>h q (ac1 _ a)
def dJ.alloc {w w':World}{K K':Nat->Nat}(h:dJ w w' K K')(o:Obj):dJ w (w'.alloc o) K K':=h.trans (dJ.fq ((aab _ _).alloc (ZL _) _))
def Bd.alloc {w:World}{base bb:Nat}{s:BS}{K:Nat->Nat}(h:Bd w base bb s K)(o:Obj):Bd (w.alloc o) base bb s K:=h.below ((aab _ _).alloc (ZL _) _)
def GrO.alloc {w:World}{K:Nat->Nat}{z:Nat}{A:Nat->Option Addr}{C:Nat->Nat}{L:Nat->List Nat}(h:GrO w K z A C L)(o:Obj):GrO (w.alloc o) K z A C L:=h.aaq (dJ.fq ((aab _ _).alloc (ZL _) _))
def aaH {w w':World}{base bb:Nat}{s:BS}{K K':Nat->Nat}{g:Addr}{v:Value}(hb:Bd w base bb s K)(hl:g.block<base)(h:w.cell? g=some v)(a:dJ w w' K K'):w'.cell? g=some v:=by
 have d:=aan h;exact((a.below (B:=g.block+1) (by omega) λb c=>hb.zero (by omega)).cell (by omega)).trans h
def aaF (A:Nat->Option Addr)(C:Nat->Nat)(L:Nat->List Nat):Obj:=.cells #[.slice (A 0) (L 0).length (C 0),.slice (A 1) (L 1).length (C 1),.slice (A 2) (L 2).length (C 2),.slice (A 3) (L 3).length (C 3)] 41 (0,0)
def aaE:ByteArray:=⟨#[110,101,119,32,111,110,101]⟩
structure GvI (w:World)(gc nc fc:Array Value)(wr:World):Prop where
 b0:wr.heap[w.heap.size]? =some (.cells gc 41 (0,0))
 b1:wr.heap[w.heap.size+1]? =some (.cells nc 29 (0,0))
 b2:wr.heap[w.heap.size+1+1]? =some (.cells fc 41 (0,0))
 below:adN w wr
def GvI.ext {w wr w2:World}{gc a b:Array Value}(h:GvI w gc a b wr)(hb:adN wr w2):GvI w gc a b w2:=⟨bJ hb h.b0,bJ hb h.b1,bJ hb h.b2,ai h.below hb⟩
def acd (A c:Nat->Option Addr)(C a:Nat->Nat)(L F:Nat->List Nat)(w:World)(h:aaB w A C L)(J:aaB w c a F)(hs:∀q,q<4->(F q).length<=1000000/\(L q).length<=1000000/\∀x∈L q,x∈F q):
 adO 25 #[aaI A C L,.agg #[.int .i64 ((L 0).length:Nat),.int .i64 ((L 1).length:Nat),.int .i64 ((L 2).length:Nat),.int .i64 ((L 3).length:Nat)],aaI c a F] w λe w'=>e=.returned (.bool true)/\adN w w':=by
 have v:Hid (∀u,adN w u->∀q,q<4->∀j,j< (L q).length->∀y:Nat,y=(L q)[j]?.getD 0->adO 44 #[.slice (c q) (F q).length (a q),.int .i64 (y:Int)] u λe w'=>e=.returned (.bool true)/\w'=u):=λu hu q m j B y hy=>by
  refine(ab2 _ _ _ u ((J q m).ext hu) (hs q m).1).mono ?_;rintro e w' ⟨r,hw⟩;exact⟨r.fP ((hs q m).2.2 _ (by rw[hy,getD_at B];exact acY B)),hw⟩
 have K:=av h;have T:Hid (∀q,q<4->(L q).length<=1000000):=λq m=>(hs q m).2.1
 clear h J hs;unfold aaI
 go_enter (pf func25 (by rfl)),ntmps25
 have Q:(((L 0).length:Int) !=((L 0).length:Int))=false:=by simp
 go_wp2_with fail;obtain⟨W,hW⟩:∃W,W=((w.alloc (.cells #[.slice (A 0) (L 0).length (C 0),.slice (A 1) (L 1).length (C 1),.slice (A 2) (L 2).length (C 2),.slice (A 3) (L 3).length (C 3)] 41)).alloc (.cells #[.int .i64 ((L 0).length:Nat),.int .i64 ((L 1).length:Nat),.int .i64 ((L 2).length:Nat),.int .i64 ((L 3).length:Nat)] 29)).alloc (.cells #[.slice (c 0) (F 0).length (a 0),.slice (c 1) (F 1).length (a 1),.slice (c 2) (F 2).length (a 2),.slice (c 3) (F 3).length (a 3)] 41):=⟨_,rfl⟩
 have R:Hid (GvI w #[.slice (A 0) (L 0).length (C 0),.slice (A 1) (L 1).length (C 1),.slice (A 2) (L 2).length (C 2),.slice (A 3) (L 3).length (C 3)] #[.int .i64 ((L 0).length:Nat),.int .i64 ((L 1).length:Nat),.int .i64 ((L 2).length:Nat),.int .i64 ((L 3).length:Nat)] #[.slice (c 0) (F 0).length (a 0),.slice (c 1) (F 1).length (a 1),.slice (c 2) (F 2).length (a 2),.slice (c 3) (F 3).length (a 3)] W):=by
  rw[hW];exact⟨kR _ _ _ _,kQ _ _ _ _,kP _ _ _ _,(((aab _ _).alloc (ZL _) _).alloc (by simp) _).alloc (by simp;omega) _⟩
 rw[<-hW];clear hW
 go_loopw [7] (λi wr=>∃j:Nat,j<=(L 0).length/\i=.int .i64 j/\GvI w #[.slice (A 0) (L 0).length (C 0),.slice (A 1) (L 1).length (C 1),.slice (A 2) (L 2).length (C 2),.slice (A 3) (L 3).length (C 3)] #[.int .i64 ((L 0).length:Nat),.int .i64 ((L 1).length:Nat),.int .i64 ((L 2).length:Nat),.int .i64 ((L 3).length:Nat)] #[.slice (c 0) (F 0).length (a 0),.slice (c 1) (F 1).length (a 1),.slice (c 2) (F 2).length (a 2),.slice (c 3) (F 3).length (a 3)] wr) (λi _=>(L 0).length-(intOf i).toNat)
 case atStart=>exact⟨0,adl _,rfl,R.out⟩
 case round=>
  obtain⟨j,B,rfl,d⟩:=hrel;have f:=av d;obtain⟨D,_⟩:=blk d.b0;have l:w.heap.size<wr.heap.size:=(ZK.1 d.b0).1;have E:w.heap.size+1+1<wr.heap.size:=(ZK.1 d.b2).1
  by_cases g:j< (L 0).length
  .have jn:(j:Int)< ((L 0).length:Nat):=by omega
   obtain⟨ao,cap,e,_,_,s⟩:=(K.out 0 (by omega)).ext d.below;cases e;obtain⟨b,o,t,p⟩:=s (by omega);have u0:=p j g;have N:b<wr.heap.size:=aan u0;obtain⟨M,_⟩:=blk d.b2;rw[t]at D;clear t;clear s p d;go_wp2_with fail;have c0:wr.drew.cell? ⟨w.heap.size,0,none⟩=some (.slice (some ⟨b,o,none⟩) (L 0).length (C 0)):=D 0;have c2:wr.drew.cell? ⟨w.heap.size+1+1,0,none⟩=some (.slice (c 0) (F 0).length (a 0)):=M 0;obtain⟨y,hy⟩:∃y:Nat,y=(L 0)[j]?.getD 0:=⟨_,rfl⟩;rw[<-hy]at u0;have I:=av hy;clear hy;have H:wr.drew.cell? ⟨b,o+j,none⟩=some (.int .i64 (y:Int)):=u0;have z:=av (aab wr.heap.size wr).drew
   go_region_held3(λw'=>w'.cell? ⟨w.heap.size,0,none⟩=some (.slice (some ⟨b,o,none⟩) (L 0).length (C 0))/\w'.cell? ⟨w.heap.size+1+1,0,none⟩=some (.slice (c 0) (F 0).length (a 0))/\w'.cell? ⟨b,o+j,none⟩=some (.int .i64 (y:Int))/\w'=wr.drew) (with_reducible (first|exact⟨c0,c2,H,rfl⟩|assumption))
        (first|(go_at_call 44;with_reducible refine(v.out _ (ai f.out.below z.out) 0 (by omega) j g y I.out).mono ?_;rintro e w3 ⟨rfl,hw⟩;obtain rfl:=hw.symm))
   go_wp2_with fail;go_roundw
   case rel=>exact⟨j+1,by omega,by go_num,f.out.ext z.out⟩
   case measure=>simp[intOf];omega
  .have jn:¬(j:Int)< ((L 0).length:Nat):=by omega
   go_wp2_with fail
   go_loopw [9] (λi wr=>∃k:Nat,k<=3/\i=.int .i64 k/\GvI w #[.slice (A 0) (L 0).length (C 0),.slice (A 1) (L 1).length (C 1),.slice (A 2) (L 2).length (C 2),.slice (A 3) (L 3).length (C 3)] #[.int .i64 ((L 0).length:Nat),.int .i64 ((L 1).length:Nat),.int .i64 ((L 2).length:Nat),.int .i64 ((L 3).length:Nat)] #[.slice (c 0) (F 0).length (a 0),.slice (c 1) (F 1).length (a 1),.slice (c 2) (F 2).length (a 2),.slice (c 3) (F 3).length (a 3)] wr) (λi _=>3-(intOf i).toNat)
   case atStart=>exact⟨0,by omega,rfl,f.out⟩
   case round=>
        clear f d D l E;obtain⟨k,S,rfl,d⟩:=hrel;have f:=av d
        by_cases P:k<3
        .have O:(k:Int)<3:=by omega
         have k1:1+k<4:=(by omega);have x0:wr.cell? ⟨w.heap.size,1+k,none⟩=some (.slice (A (1+k)) (L (1+k)).length (C (1+k))):=(by rw[(blk d.b0).1];exact nZ (λq=>.slice (A q) (L q).length (C q)) k1);have x1:wr.cell? ⟨w.heap.size+1,1+k,none⟩=some (.int .i64 ((L (1+k)).length:Nat)):=(by rw[(blk d.b1).1];exact nZ (λq=>.int .i64 ((L q).length:Nat)) k1);have l:w.heap.size<wr.heap.size:=(ZK.1 d.b0).1;have G:w.heap.size+1<wr.heap.size:=(ZK.1 d.b1).1;have m:(((L (1+k)).length:Int) !=((L (1+k)).length:Int))=false:=(by simp);clear d;go_wp2_with fail;refine dx (by kernel_rfl) (by kernel_rfl) ?_
         repeat(go_big_quiet_step (fail))
         refine wpQuiet_nil ?_;rintro _ ⟨⟨w1,n⟩,rfl⟩;have H1:=av (f.out.ext n);clear x0 x1 l G n m;go_wp2_with fail
         go_loopw [10] (λi wr=>∃j:Nat,j<=(L (1+k)).length/\i=.int .i64 j/\GvI w #[.slice (A 0) (L 0).length (C 0),.slice (A 1) (L 1).length (C 1),.slice (A 2) (L 2).length (C 2),.slice (A 3) (L 3).length (C 3)] #[.int .i64 ((L 0).length:Nat),.int .i64 ((L 1).length:Nat),.int .i64 ((L 2).length:Nat),.int .i64 ((L 3).length:Nat)] #[.slice (c 0) (F 0).length (a 0),.slice (c 1) (F 1).length (a 1),.slice (c 2) (F 2).length (a 2),.slice (c 3) (F 3).length (a 3)] wr) (λi _=>(L (1+k)).length-(intOf i).toNat)
         case atStart=>exact⟨0,adl _,rfl,H1.out⟩
         case round=>
          clear f H1;obtain⟨j,B,rfl,d⟩:=hrel;have f:=av d;have x0:wr.cell? ⟨w.heap.size,1+k,none⟩=some (.slice (A (1+k)) (L (1+k)).length (C (1+k))):=(by rw[(blk d.b0).1];exact nZ (λq=>.slice (A q) (L q).length (C q)) k1);have x2:wr.cell? ⟨w.heap.size+1+1,1+k,none⟩=some (.slice (c (1+k)) (F (1+k)).length (a (1+k))):=(by rw[(blk d.b2).1];exact nZ (λq=>.slice (c q) (F q).length (a q)) k1)
          by_cases g:j< (L (1+k)).length
          .have jn:(j:Int)< ((L (1+k)).length:Nat):=by omega
           obtain⟨ao,cap,e,_,_,s⟩:=(K.out (1+k) k1).ext d.below;cases e;obtain⟨b,o,t,p⟩:=s (by omega);have u0:=p j g;rw[t]at x0;clear t s p d;go_wp2_with fail;obtain⟨y,hy⟩:∃y:Nat,y=(L (1+k))[j]?.getD 0:=⟨_,rfl⟩;rw[<-hy]at u0;have I:=av hy;clear hy;have c0:wr.drew.cell? ⟨w.heap.size,1+k,none⟩=some (.slice (some ⟨b,o,none⟩) (L (1+k)).length (C (1+k))):=x0;have c2:wr.drew.cell? ⟨w.heap.size+1+1,1+k,none⟩=some (.slice (c (1+k)) (F (1+k)).length (a (1+k))):=x2;have H:wr.drew.cell? ⟨b,o+j,none⟩=some (.int .i64 (y:Int)):=u0;have z:=av (aab wr.heap.size wr).drew
           go_region_held3(λw'=>w'.cell? ⟨w.heap.size,1+k,none⟩=some (.slice (some ⟨b,o,none⟩) (L (1+k)).length (C (1+k)))/\w'.cell? ⟨w.heap.size+1+1,1+k,none⟩=some (.slice (c (1+k)) (F (1+k)).length (a (1+k)))/\w'.cell? ⟨b,o+j,none⟩=some (.int .i64 (y:Int))/\w'=wr.drew) (with_reducible (first|exact⟨c0,c2,H,rfl⟩|assumption))
            (first|(go_at_call 44;with_reducible refine(v.out _ (ai f.out.below z.out) (1+k) k1 j g y I.out).mono ?_;rintro e w3 ⟨rfl,hw⟩;obtain rfl:=hw.symm))
           go_wp2_with fail;go_roundw
           case rel=>exact⟨j+1,by omega,by go_num,f.out.ext z.out⟩
           case measure=>simp[intOf];omega
          .have jn:¬(j:Int)< ((L (1+k)).length:Nat):=by omega
           clear d;go_wp2_with fail;go_roundw
           case rel=>exact⟨k+1,by omega,by go_num,f.out⟩
           case measure=>simp[intOf];omega
        .have O:¬(k:Int)<3:=by omega
         go_wp2_with fail;go_ret;exact⟨rfl,f.out.below⟩
structure WhI (m:cz)(vc vr:Value)(base z1 z2 z3:Nat)(s:BS)(d:Nat->Value)(v:Value)(l:List fH)(A:Nat->Option Addr)(C:Nat->Nat)(L:Nat->List Nat)(K:Nat->Nat)(wr:World):Prop where
 mr:kX wr base m vc vr
 mt:∀b,vc.ownBlock=some b\/vr.ownBlock=some b->K b=0
 dr:∀k,k<3->wr.ownsRow z1 75 2 (d k) (s.dn k) (rO s k)
 dk:∀k,k<3->∀b,(d k).ownBlock=some b->K b=0
 bx:aar wr z2 v l
 bk:∀b,v.ownBlock=some b->K b=0
 rk:∀x∈l,∀q,q<4->∀b,(x.sl q).ownBlock=some b->K b=0
 gr:GrO wr K z3 A C L
def aax {w w':World}{K K':Nat->Nat}{z:Nat}{e:TypeId}{size:Nat}{v:Value}{n:Nat}{xs:List Value}(a:dJ w w' K K')(h:w.ownsRow z e size v n xs)(c:∀b,v.ownBlock=some b->K b=0):w'.ownsRow z e size v n xs/\∀b,v.ownBlock=some b->K' b=0:=
 ⟨aJ h λb hb=>a.block b (h.lt b hb).2 (.inl (c b hb)),λb hb=>by rw[a.tag b (h.lt b hb).2];exact c b hb⟩
def aar.aaq {w w':World}{K K':Nat->Nat}{z:Nat}{v:Value}{l:List fH}(c:dJ w w' K K')(h:aar w z v l)(e:∀b,v.ownBlock=some b->K b=0)(d:∀x∈l,∀q,q<4->∀b,(x.sl q).ownBlock=some b->K b=0):aar w' z v l/\(∀b,v.ownBlock=some b->K' b=0)/\∀x∈l,∀q,q<4->∀b,(x.sl q).ownBlock=some b->K' b=0:=
 ⟨⟨(aax c h.row e).1,λx hx q a=>(aax c (h.rows x hx q a) (d x hx q a)).1⟩,(aax c h.row e).2,λx hx q a=>(aax c (h.rows x hx q a) (d x hx q a)).2⟩
def kX.aaq {w w':World}{K K':Nat->Nat}{base:Nat}{m:cz}{vc vr:Value}(a:dJ w w' K K')(h:kX w base m vc vr)(c:∀b,vc.ownBlock=some b\/vr.ownBlock=some b->K b=0):kX w' base m vc vr/\∀b,vc.ownBlock=some b\/vr.ownBlock=some b->K' b=0:=by
 obtain⟨f,c2⟩:=aax a h.dA λb hb=>c b (.inl hb)
 obtain⟨e,d⟩:=aax a h.res λb hb=>c b (.inr hb)
 exact⟨⟨h.ok,f,e⟩,λb hb=>hb.elim (c2 b) (d b)⟩
section
variable {m:cz}{vc vr:Value}{base z1 z2 z3:Nat}{s:BS}{d:Nat->Value}{v:Value}{l:List fH}{A:Nat->Option Addr}{C:Nat->Nat}{L:Nat->List Nat}{K K':Nat->Nat}{w w':World}
def WhI.aaq (h:WhI m vc vr base z1 z2 z3 s d v l A C L K w)(a:dJ w w' K K'):WhI m vc vr base z1 z2 z3 s d v l A C L K' w':=by
 obtain⟨m1,m2⟩:=h.mr.aaq a h.mt;obtain⟨b1,b2,b3⟩:=h.bx.aaq a h.bk h.rk;exact⟨m1,m2,λk b=>(aax a (h.dr k b) (h.dk k b)).1,λk b=>(aax a (h.dr k b) (h.dk k b)).2,b1,b2,b3,h.gr.aaq a⟩
def WhI.below (h:WhI m vc vr base z1 z2 z3 s d v l A C L K w)(hb:adN w w'):WhI m vc vr base z1 z2 z3 s d v l A C L K w':=h.aaq (dJ.fq hb)
def WhI.alloc (h:WhI m vc vr base z1 z2 z3 s d v l A C L K w)(o:Obj):WhI m vc vr base z1 z2 z3 s d v l A C L K (w.alloc o):=h.below ((aab _ _).alloc (ZL _) _)
end
def ab8 (r:Nat->Int):qo (λi=>((dD r i:Nat):Int))=true:=by
 have a:=ik (r 0) (show 0<25 by omega);have g:=ik (r 1) (show 0<17 by omega);have f:=ik (r 2) (show 0<17 by omega);have e:=ik (r 3) (show 0<17 by omega)
 by_cases h:aK (r 0) 25=0/\aK (r 1) 17=0/\aK (r 2) 17=0/\aK (r 3) 17=0
 .refine ab0 (λi b=>⟨Int.natCast_nonneg _,?_⟩) ⟨0,by omega,?_⟩
  .unfold dD A7
   rw[if_pos h]
   by_cases a:i=0
   .rw[if_pos a,if_pos a];decide
   .rw[if_neg a,if_neg a];decide
  .show(0:Int)< ((dD r 0:Nat):Int)
   unfold dD;rw[if_pos h,if_pos rfl]
   decide
 .refine ab0 (λi b=>⟨Int.natCast_nonneg _,?_⟩) ?_
  .unfold dD A7
   rw[if_neg h];obtain rfl|rfl|rfl|rfl:i=0\/i=1\/i=2\/i=3:=by omega
   .rw[if_pos rfl,if_pos rfl];omega
   .rw[if_neg (by omega),if_neg (by omega)];omega
   .rw[if_neg (by omega),if_neg (by omega)];omega
   .rw[if_neg (by omega),if_neg (by omega)];omega
  .have key:∀i,i<4->dD r i=if i=0 then aK (r 0) 25 else aK (r i) 17:=λi _=>by unfold dD;rw[if_neg h]
   refine Classical.byContradiction λd=>h ?_
   have z:∀i,i<4->dD r i=0:=λi b=>by
        have:¬(0:Int)< ((dD r i:Nat):Int):=λh=>d ⟨i,b,h⟩
        omega
   have a0:=z 0 (by omega);have c:=z 1 (by omega);have a2:=z 2 (by omega);have a3:=z 3 (by omega);rw[key 0 (by omega),if_pos rfl]at a0;rw[key 1 (by omega),if_neg (by omega)]at c;rw[key 2 (by omega),if_neg (by omega)]at a2;rw[key 3 (by omega),if_neg (by omega)]at a3;exact⟨a0,c,a2,a3⟩
def afa (R c:Nat->Nat)(k:Nat):Bool:=(List.range k).all λq=>decide (c q<=R q)
def afZ (R c:Nat->Nat)(k:Nat):afa R c (k+1)=(afa R c k&&decide (c k<=R k)):=by
 unfold afa;rw[Z6,List.all_append];simp
def aeW {R c:Nat->Nat}{k:Nat}:afa R c k=true↔∀q,q<k->c q<=R q:=by
 unfold afa;rw[ZU];exact⟨λh q a=>adj (h q (Z9.2 a)),λh q a=>ady (h q (Z9.1 a))⟩
structure agf (w:World)(R c:Nat->Nat)(wr:World):Prop where
 b0:wr.heap[w.heap.size]? =some (.cells #[.int .i64 (R 0:Nat),.int .i64 (R 1:Nat),.int .i64 (R 2:Nat),.int .i64 (R 3:Nat)] 29 (0,0))
 b1:wr.heap[w.heap.size+1]? =some (.cells #[.int .i64 (c 0:Nat),.int .i64 (c 1:Nat),.int .i64 (c 2:Nat),.int .i64 (c 3:Nat)] 29 (0,0))
 below:adN w wr
def agf.ext {w wr w2:World}{R c:Nat->Nat}(h:agf w R c wr)(hb:adN wr w2):agf w R c w2:=⟨bJ hb h.b0,bJ hb h.b1,ai h.below hb⟩
def afl (R c:Nat->Nat)(w:World):
 adO 28 #[.agg #[.int .i64 (R 0:Nat),.int .i64 (R 1:Nat),.int .i64 (R 2:Nat),.int .i64 (R 3:Nat)],.agg #[.int .i64 (c 0:Nat),.int .i64 (c 1:Nat),.int .i64 (c 2:Nat),.int .i64 (c 3:Nat)]] w λe w'=>e=.returned (.bool (afa R c 4))/\adN w w':=by
 go_enter (pf func28 (by rfl)),ntmps28
 obtain⟨W,hW⟩:∃W,W=(w.alloc (.cells #[.int .i64 (R 0:Nat),.int .i64 (R 1:Nat),.int .i64 (R 2:Nat),.int .i64 (R 3:Nat)] 29)).alloc (.cells #[.int .i64 (c 0:Nat),.int .i64 (c 1:Nat),.int .i64 (c 2:Nat),.int .i64 (c 3:Nat)] 29):=⟨_,rfl⟩
 have x:Hid (agf w R c W):=by
  rw[hW];exact⟨aap _ _ _,aam _ _ _,((aab _ _).alloc (ZL _) _).alloc (by simp) _⟩
 have r:afa R c 1=decide (c 0<=R 0):=by rw[afZ];simp[afa]
 have s:Hid (∃b:Bool,b=afa R c 1/\(b=true↔c 0<=R 0)):=⟨_,rfl,by rw[r];simp⟩;clear r;obtain⟨b,hb,l⟩:=s.out;have p:=av hb;clear s hb;have m:(b=true->((R 0:Nat):Int)≥((c 0:Nat):Int))/\(b=false->¬((R 0:Nat):Int)≥((c 0:Nat):Int)):=⟨λh=>by have:=l.1 h;omega,λh=>by rw[h]at l;have:¬c 0<=R 0:=λk=>Bool.noConfusion (l.2 k);omega⟩;clear l;cases b
 all_goals
  first
   |(have q:=m.1 rfl)
   |(have q:=m.2 rfl)
  clear m;go_wp2_with fail;rw[<-hW];clear hW q
  go_loopw [5,6] (λok i wr=>∃(k:Nat) (b:Bool),k<=3/\i=.int .i64 k/\ok=.bool b/\b=afa R c (k+1)/\agf w R c wr) (λ_ i _=>3-(intOf i).toNat)
  case atStart=>exact⟨0,_,by omega,rfl,rfl,p.out,x.out⟩
  case round=>
   obtain⟨k,b,B,rfl,rfl,hb,n⟩:=hrel;have g:=av (aaa hb n)
   by_cases v:k<3
   .have f:=av (afZ R c (k+1))
    obtain⟨z,_⟩:=blk n.b0;obtain⟨y,_⟩:=blk n.b1;have u:w.heap.size<wr.heap.size:=(ZK.1 n.b0).1;have t:w.heap.size+1<wr.heap.size:=(ZK.1 n.b1).1;clear hb n;rcases(show k=0\/k=1\/k=2 by omega)with rfl|rfl|rfl
    .cases b
     .go_wp2_with fail
      refine dx (by kernel_rfl) (by kernel_rfl) ?_
      repeat(go_big_quiet_step (fail))
      refine wpQuiet_nil ?_;rintro _ ⟨⟨w1,a⟩,rfl⟩;go_wp2_with fail;go_roundw
      case rel=>exact⟨1,_,by omega,by go_num,rfl,by rw[f.out,<-g.out.1,Bool.false_and],g.out.2.ext a⟩
      case measure=>simp[intOf]
     .by_cases hle:c 1<=R 1
      .have j:((R 1:Nat):Int)≥((c 1:Nat):Int):=by omega
       have d:=av hle;clear hle;go_wp2_with fail;refine dx (by kernel_rfl) (by kernel_rfl) ?_
       repeat(go_big_quiet_step (fail))
       refine wpQuiet_nil ?_;rintro _ ⟨⟨w1,a⟩,rfl⟩;go_wp2_with fail;go_roundw
       case rel=>exact⟨1,_,by omega,by go_num,rfl,by rw[f.out,<-g.out.1,ady d.out,Bool.true_and],g.out.2.ext a⟩
       case measure=>simp[intOf]
      .have j:¬((R 1:Nat):Int)≥((c 1:Nat):Int):=by omega
       have o:decide (((c 1:Nat):Int)<=((R 1:Nat):Int))=false:=adg (by omega);have d:=av hle;clear hle;go_wp2_with fail;refine dx (by kernel_rfl) (by kernel_rfl) ?_
       repeat(go_big_quiet_step (fail))
       refine wpQuiet_nil ?_;rintro _ ⟨⟨w1,a⟩,rfl⟩;go_wp2_with fail;go_roundw
       case rel=>exact⟨1,_,by omega,by go_num,rfl,by rw[f.out,<-g.out.1,adg d.out,Bool.true_and],g.out.2.ext a⟩
       case measure=>simp[intOf]
    .cases b
     .go_wp2_with fail
      refine dx (by kernel_rfl) (by kernel_rfl) ?_
      repeat(go_big_quiet_step (fail))
      refine wpQuiet_nil ?_;rintro _ ⟨⟨w1,a⟩,rfl⟩;go_wp2_with fail;go_roundw
      case rel=>exact⟨2,_,by omega,by go_num,rfl,by rw[f.out,<-g.out.1,Bool.false_and],g.out.2.ext a⟩
      case measure=>simp[intOf]
     .by_cases hle:c 2<=R 2
      .have j:((R 2:Nat):Int)≥((c 2:Nat):Int):=by omega
       have d:=av hle;clear hle;go_wp2_with fail;refine dx (by kernel_rfl) (by kernel_rfl) ?_
       repeat(go_big_quiet_step (fail))
       refine wpQuiet_nil ?_;rintro _ ⟨⟨w1,a⟩,rfl⟩;go_wp2_with fail;go_roundw
       case rel=>exact⟨2,_,by omega,by go_num,rfl,by rw[f.out,<-g.out.1,ady d.out,Bool.true_and],g.out.2.ext a⟩
       case measure=>simp[intOf]
      .have j:¬((R 2:Nat):Int)≥((c 2:Nat):Int):=by omega
       have o:decide (((c 2:Nat):Int)<=((R 2:Nat):Int))=false:=adg (by omega);have d:=av hle;clear hle;go_wp2_with fail;refine dx (by kernel_rfl) (by kernel_rfl) ?_
       repeat(go_big_quiet_step (fail))
       refine wpQuiet_nil ?_;rintro _ ⟨⟨w1,a⟩,rfl⟩;go_wp2_with fail;go_roundw
       case rel=>exact⟨2,_,by omega,by go_num,rfl,by rw[f.out,<-g.out.1,adg d.out,Bool.true_and],g.out.2.ext a⟩
       case measure=>simp[intOf]
    .cases b
     .go_wp2_with fail
      refine dx (by kernel_rfl) (by kernel_rfl) ?_
      repeat(go_big_quiet_step (fail))
      refine wpQuiet_nil ?_;rintro _ ⟨⟨w1,a⟩,rfl⟩;go_wp2_with fail;go_roundw
      case rel=>exact⟨3,_,by omega,by go_num,rfl,by rw[f.out,<-g.out.1,Bool.false_and],g.out.2.ext a⟩
      case measure=>simp[intOf]
     .by_cases hle:c 3<=R 3
      .have j:((R 3:Nat):Int)≥((c 3:Nat):Int):=by omega
       have d:=av hle;clear hle;go_wp2_with fail;refine dx (by kernel_rfl) (by kernel_rfl) ?_
       repeat(go_big_quiet_step (fail))
       refine wpQuiet_nil ?_;rintro _ ⟨⟨w1,a⟩,rfl⟩;go_wp2_with fail;go_roundw
       case rel=>exact⟨3,_,by omega,by go_num,rfl,by rw[f.out,<-g.out.1,ady d.out,Bool.true_and],g.out.2.ext a⟩
       case measure=>simp[intOf]
      .have j:¬((R 3:Nat):Int)≥((c 3:Nat):Int):=by omega
       have o:decide (((c 3:Nat):Int)<=((R 3:Nat):Int))=false:=adg (by omega);have d:=av hle;clear hle;go_wp2_with fail;refine dx (by kernel_rfl) (by kernel_rfl) ?_
       repeat(go_big_quiet_step (fail))
       refine wpQuiet_nil ?_;rintro _ ⟨⟨w1,a⟩,rfl⟩;go_wp2_with fail;go_roundw
       case rel=>exact⟨3,_,by omega,by go_num,rfl,by rw[f.out,<-g.out.1,adg d.out,Bool.true_and],g.out.2.ext a⟩
       case measure=>simp[intOf]
   .have A:¬(k:Int)<3:=by omega
    obtain rfl:k=3:=(by omega);go_wp2_with fail;go_ret;exact⟨rfl,g.out.2.below⟩
def ae0 (D:BD)(m:Nat)(L:Nat->List Nat)(q:Nat):Nat:=kU D m q (L q) (L q).length
def okA (D:BD)(L:Nat->List Nat)(c:Nat->Nat)(g:Nat->Int)(p:Int)(m:Nat):Bool:=afa (ae0 D m L) c 4&&((!(p==3)||pop m==1)&&(!(p==2)||uH g 4 m))
def anyM (f:Nat->Bool):Nat->Bool
 |0=>false
 |i+1=>anyM f i||(decide (1<=i)&&f i)
def af9 {f:Nat->Bool}:∀{k:Nat},(∀m,1<=m->m<k->f m=false)->anyM f k=false
 |0,_=>rfl
 |k+1,h=>by
  unfold anyM;rw[af9 λm b c=>h m b (by omega),Bool.false_or]
  by_cases a:1<=k
  .rw[h k a (by omega),Bool.and_false]
  .rw[adg a,Bool.false_and]
def afN {f:Nat->Bool}{m:Nat}(hm:1<=m)(hf:f m=true):∀{k:Nat},m<k->anyM f k=true
 |k+1,h=>by
  unfold anyM
  by_cases e:m=k
  .subst e
   rw[hf,ady hm];simp
  .rw[afN hm hf (show m<k by omega),Bool.true_or]
def ae4 {D:BD}{c:Nat->Int}{q:Nat}(h:0<c q):eG D c q≠0:=by
 unfold eG;rw[if_pos h,Lh];split
 .decide
 .assumption
def ae6 {m:Nat}:m∈ord↔1<=m/\m<16:=by
 rw[CG];constructor
 .intro h
  simp at h;omega
 .intro h
  simp;omega
def ae9 {D:BD}(b:D.ok){c:Nat->Nat}{m:Nat}(hm:1<=m/\m<16):afa (ae0 D m (gq D)) c 4=gX (eG D λi=>(c i:Int)) (og D λi=>(c i:Int)) 4 m:=by
 rw[Bool.eq_iff_iff,aeW];unfold gX;rw[ZU]
 have key:∀q,q<4->(c q<=ae0 D m (gq D) q↔(eG D (λi=>(c i:Int)) q==0||og D (λi=>(c i:Int)) q m)=true):=λq a=>by
  by_cases g:c q=0
  .have:eG D (λi=>(c i:Int)) q=0:=by unfold eG;exact if_neg (show ¬(0:Int)< (c q:Int) by omega)
   rw[this,g];simp
  .have hc:(0:Int)< (c q:Int):=by omega
   have f:(eG D (λi=>(c i:Int)) q==0)=false:=acZ.2 (ae4 (D:=D) (c:=λi=>(c i:Int)) hc);have e:=MC D q m (gq D q) (NI b a)
   have d:(ord.take 15).contains m=true:=by
        have:ord.take 15=ord:=(by rw[CG];rfl);rw[this];exact List.elem_eq_true_of_mem (ae6.2 hm)
   unfold og Li;rw[f,d,Bool.false_or,Bool.true_and,ady hc,Bool.true_and,decide_eq_true_iff,<-e];unfold ae0;exact⟨λh=>Int.ofNat_le.2 h,λh=>Int.ofNat_le.1 h⟩
 exact⟨λh q a=>(key q (Z9.1 a)).1 (h q (Z9.1 a)),λh q a=>(key q a).2 (h q (Z9.2 a))⟩
def agb {D:BD}(d:D.ok){c:Nat->Nat}{p:Int}{m:Nat}(h:gu (eG D λi=>(c i:Int)) (og D λi=>(c i:Int)) p=some m):(1<=m/\m<16)/\okA D (gq D) c (eG D λi=>(c i:Int)) p m=true:=by
 have fin:∀{f:Nat->Bool},ord.find? f=some m->(1<=m/\m<16)/\f m=true:=λh=>⟨ae6.1 (List.mem_of_find?_eq_some h),adD h⟩
 unfold gu at h;unfold okA
 by_cases g:p=1
 .rw[if_pos g]at h
  subst g
  have:(1<=m/\m<16)/\gX (eG D λi=>(c i:Int)) (og D λi=>(c i:Int)) 4 m=true:=by
   split at h
   .next e=>
    cases h;obtain⟨b,a⟩:=fin e;unfold nU at a;rw[ZQ]at a;exact⟨b,a.2⟩
   .exact fin h
  exact⟨this.1,by rw[ae9 d this.1,this.2];rfl⟩
 .rw[if_neg g]at h
  by_cases p2:p=2
  .rw[if_pos p2]at h
   subst p2;obtain⟨b,a⟩:=fin h;unfold nU at a;rw[ZQ]at a;exact⟨b,by rw[ae9 d b,a.2,a.1];rfl⟩
  .rw[if_neg p2]at h
   by_cases p3:p=3
   .rw[if_pos p3]at h
    subst p3;obtain⟨b,a⟩:=fin h;unfold Bc at a;rw[ZQ,decide_eq_true_iff]at a;exact⟨b,by rw[ae9 d b,a.2,a.1];rfl⟩
   .rw[if_neg p3]at h
    obtain⟨b,a⟩:=fin h;unfold isAll at a;rw[ZQ]at a;exact⟨b,by rw[ae9 d b,a.2,acZ.2 p3,acZ.2 p2];rfl⟩
def agc {D:BD}(a:D.ok){c:Nat->Nat}{p:Int}(he:gX (eG D λi=>(c i:Int)) (og D λi=>(c i:Int)) 4 15=true)(h:gu (eG D λi=>(c i:Int)) (og D λi=>(c i:Int)) p=none):∀m,1<=m->m<16->okA D (gq D) c (eG D λi=>(c i:Int)) p m=false:=by
 have m15:15∈ord:=ae6.2 (by omega);have non:∀{f:Nat->Bool},ord.find? f=none->∀m,m∈ord->f m=false:=λh m hm=>by simpa using List.find?_eq_none.1 h m hm
 unfold gu at h;intro m e d;have hm:m∈ord:=ae6.2 ⟨e,d⟩;unfold okA;rw[ae9 a ⟨e,d⟩]
 by_cases b:p=1
 .rw[if_pos b]at h
  split at h
  .cases h
  .have:=non h 15 m15
   rw[he]at this;cases this
 .rw[if_neg b]at h
  by_cases p2:p=2
  .rw[if_pos p2]at h
   subst p2;have:=non h m hm;unfold nU at this;rw[Bool.and_comm]at this;simpa using this
  .rw[if_neg p2]at h
   by_cases p3:p=3
   .rw[if_pos p3]at h
    subst p3;have:=non h m hm;unfold Bc at this;rw[Bool.and_comm]at this;simpa using this
   .rw[if_neg p3]at h
    have:=non h 15 m15;unfold isAll at this;rw[he]at this;simp at this
def af7 {D:BD}{m q k:Nat}{T:List Nat}(h:QQ D m q k T):kU D m q T T.length=k:=by
 unfold kU;rw[List.take_length];have e:T.countP (IA D m q)=T.length:=List.countP_eq_length.2 λi a=>(h.2.2 i a).2
 exact e.trans h.1
structure AlI (w:World)(mc lc fc nc gc rc:Array Value)(wr:World):Prop where
 b0:wr.heap[w.heap.size]? =some (.cells mc 25 (0,0))
 b1:wr.heap[w.heap.size+1]? =some (.cells lc 34 (0,0))
 b2:wr.heap[w.heap.size+1+1]? =some (.cells fc 41 (0,0))
 b3:wr.heap[w.heap.size+1+1+1]? =some (.cells nc 29 (0,0))
 b4:wr.heap[w.heap.size+1+1+1+1]? =some (.cells gc 37 (0,0))
 b5:wr.heap[w.heap.size+1+1+1+1+1]? =some (.cells rc 41 (0,0))
 below:adN w wr
def AlI.ext {w wr w2:World}{mc lc b a gc rc:Array Value}(h:AlI w mc lc b a gc rc wr)(hb:adN wr w2):AlI w mc lc b a gc rc w2:=⟨bJ hb h.b0,bJ hb h.b1,bJ hb h.b2,bJ hb h.b3,bJ hb h.b4,bJ hb h.b5,ai h.below hb⟩
def AlI.start (w:World)(mc lc d c gc rc:Array Value):AlI w mc lc d c gc rc ((((((w.alloc (.cells mc 25)).alloc (.cells lc 34)).alloc (.cells d 41)).alloc (.cells c 29)).alloc (.cells gc 37)).alloc (.cells rc 41)):=by
 have key:∀(u:World) (o:Obj) {b:Nat} {x:Obj},u.heap[b]? =some x->(u.alloc o).heap[b]? =some x:=λu o b x h=>(aac _ _ _ (ZK.1 h).1).trans h
 have a:∀(u:World) (o:Obj) (b:Nat),b=u.heap.size->(u.alloc o).heap[b]? =some o:=λu o b h=>nX u o h
 refine⟨key _ _ (key _ _ (key _ _ (key _ _ (key _ _ (a _ _ _ rfl))))),key _ _ (key _ _ (key _ _ (key _ _ (a _ _ _ (by simp))))),key _ _ (key _ _ (key _ _ (a _ _ _ (by simp)))),key _ _ (key _ _ (a _ _ _ (by simp))),key _ _ (a _ _ _ (by simp)),a _ _ _ (by simp),?_⟩;exact((((((aab _ _).alloc (ZL _) _).alloc (by simp) _).alloc (by simp;omega) _).alloc (by simp;omega) _).alloc (by simp;omega) _).alloc (by simp;omega) _
def afn (m:cz)(M ra:Option Addr)(K rc base base2 b3 b4:Nat)(s:BS)(d:Nat->Value)(A l:Nat->Option Addr)(C a:Nat->Nat)(L G:Nat->List Nat)(c:Nat->Nat)(g:Nat->Int)(w:World)(h:kX w base m (.slice M m.n K) (.slice ra m.r rc))(hd:∀k,k<3->w.ownsRow base2 75 2 (d k) (s.dn k) (rO s k))(hs:s.m=m)(T:s.ok)
 (hF:∀q,q<4->w.ownsRow b3 3 1 (.slice (A q) (L q).length (C q)) (L q).length (aT (L q)))(hL:∀q,q<4->(L q).length<=1000000/\∀x∈L q,x<Q0 s.D q)
 (hG:∀q,q<4->w.ownsRow b4 3 1 (.slice (l q) (G q).length (a q)) (G q).length (aT (G q)))(ζ:∀q,q<4->(G q).length<=1000000/\∀x∈G q,x<Q0 s.D q):
 adO 29 #[.agg #[.slice M m.n K,.slice ra m.r rc,.int .i64 m.p],.agg #[d 0,d 1,d 2],aaI A C L,.agg #[.int .i64 (c 0:Nat),.int .i64 (c 1:Nat),.int .i64 (c 2:Nat),.int .i64 (c 3:Nat)],.agg (aQ g),aaI l a G] w λe w'=>
  e=.returned (.tuple #[.bool (anyM (okA s.D L c g m.p) 16),.bool (anyM (λk=>okA s.D L c g m.p k&&afa (ae0 s.D k G) c 4) 16)])/\adN w w':=by
 obtain⟨a0,k0,e0⟩:=aj (hd 0 (by omega));obtain⟨a1,k1,Y⟩:=aj (hd 1 (by omega));obtain⟨a2,k2,e2⟩:=aj (hd 2 (by omega))
 have θ:Hid (∀wr (k:Nat),adN w wr->k<16->adO 14 #[.agg #[.slice M m.n K,.slice ra m.r rc,.int .i64 m.p],.agg #[d 0,d 1,d 2],aaI A C L,.int .i64 k] wr λe w'=>e=.returned (.agg (o8 (ae0 s.D k L)))/\adN wr w'):=λwr k o u=>
  ME m M ra K rc base base2 b3 s d (λq=>.slice (A q) (L q).length (C q)) L k wr (h.below o) (λk u=>au (hd k u) o) hs T (λq hq=>au (hF q hq) o) hL u
 have ι:Hid (∀wr (k:Nat),adN w wr->k<16->adO 14 #[.agg #[.slice M m.n K,.slice ra m.r rc,.int .i64 m.p],.agg #[d 0,d 1,d 2],aaI l a G,.int .i64 k] wr λe w'=>e=.returned (.agg (o8 (ae0 s.D k G)))/\adN wr w'):=λwr k o u=>
  ME m M ra K rc base base2 b4 s d (λq=>.slice (l q) (G q).length (a q)) G k wr (h.below o) (λk u=>au (hd k u) o) hs T (λq hq=>au (hG q hq) o) ζ u
 obtain⟨p,hp⟩:∃p,p=m.p:=⟨_,rfl⟩;rw[<-hp]at θ ι⊢;clear h hd hF hG hL ζ hs T hp;unfold aaI;rw[e0,Y,e2];have δ:aQ g= #[.int .i64 (g 0),.int .i64 (g 1),.int .i64 (g 2),.int .i64 (g 3)]:=rfl;rw[δ];obtain⟨P,hP⟩:∃P:World->Prop,P=AlI w #[.slice M m.n K,.slice ra m.r rc,.int .i64 p] #[.slice a0 (s.dn 0) k0,.slice a1 (s.dn 1) k1,.slice a2 (s.dn 2) k2] #[.slice (A 0) (L 0).length (C 0),.slice (A 1) (L 1).length (C 1),.slice (A 2) (L 2).length (C 2),.slice (A 3) (L 3).length (C 3)] #[.int .i64 (c 0:Nat),.int .i64 (c 1:Nat),.int .i64 (c 2:Nat),.int .i64 (c 3:Nat)] (aQ g) #[.slice (l 0) (G 0).length (a 0),.slice (l 1) (G 1).length (a 1),.slice (l 2) (G 2).length (a 2),.slice (l 3) (G 3).length (a 3)]:=⟨_,rfl⟩;have N:=av hP;clear δ hP;obtain⟨f,hf⟩:∃f:Nat->Bool,f=okA s.D L c g p:=⟨_,rfl⟩;obtain⟨f2,U⟩:∃f2:Nat->Bool,f2=λk=>f k&&afa (ae0 s.D k G) c 4:=⟨_,rfl⟩
 rw[<-hf,<-U];have Hf:Hid ((∀k,f k=okA s.D L c g p k)/\∀k,f2 k=(f k&&afa (ae0 s.D k G) c 4)):=⟨λk=>by rw[hf],λk=>by rw[U]⟩;clear hf U
 go_enter (pf func29 (by rfl)),ntmps29
 go_wp2_with fail;obtain⟨W,hW⟩:∃W,W=(((((w.alloc (.cells #[.slice M m.n K,.slice ra m.r rc,.int .i64 p] 25)).alloc (.cells #[.slice a0 (s.dn 0) k0,.slice a1 (s.dn 1) k1,.slice a2 (s.dn 2) k2] 34)).alloc (.cells #[.slice (A 0) (L 0).length (C 0),.slice (A 1) (L 1).length (C 1),.slice (A 2) (L 2).length (C 2),.slice (A 3) (L 3).length (C 3)] 41)).alloc (.cells #[.int .i64 (c 0:Nat),.int .i64 (c 1:Nat),.int .i64 (c 2:Nat),.int .i64 (c 3:Nat)] 29)).alloc (.cells #[.int .i64 (g 0),.int .i64 (g 1),.int .i64 (g 2),.int .i64 (g 3)] 37)).alloc (.cells #[.slice (l 0) (G 0).length (a 0),.slice (l 1) (G 1).length (a 1),.slice (l 2) (G 2).length (a 2),.slice (l 3) (G 3).length (a 3)] 41):=⟨_,rfl⟩
 have H0:Hid (P W):=by
  show P W
  rw[hW,N.out];exact AlI.start _ _ _ _ _ _ _
 rw[<-hW];clear hW;have HX:Hid (∀wr w',P wr->adN wr w'->P w'):=λwr w' h hb=>by rw[N.out]at h⊢;exact h.ext hb
 have α:Hid (∀wr,P wr->adN w wr):=λwr h=>by rw[N.out]at h;exact h.below
 have H6:Hid (∀wr,P wr->∀j,wr.cell? ⟨w.heap.size,j,none⟩=(#[.slice M m.n K,.slice ra m.r rc,.int .i64 p]:Array Value)[j]?):=λwr h=>by rw[N.out]at h;exact(blk h.b0).1
 have H7:Hid (∀wr,P wr->∀j,wr.cell? ⟨w.heap.size+1,j,none⟩=(#[.slice a0 (s.dn 0) k0,.slice a1 (s.dn 1) k1,.slice a2 (s.dn 2) k2]:Array Value)[j]?):=λwr h=>by rw[N.out]at h;exact(blk h.b1).1
 have H8:Hid (∀wr,P wr->∀j,wr.cell? ⟨w.heap.size+1+1,j,none⟩=(#[.slice (A 0) (L 0).length (C 0),.slice (A 1) (L 1).length (C 1),.slice (A 2) (L 2).length (C 2),.slice (A 3) (L 3).length (C 3)]:Array Value)[j]?):=λwr h=>by rw[N.out]at h;exact(blk h.b2).1
 have H9:Hid (∀wr,P wr->∀j,wr.cell? ⟨w.heap.size+1+1+1,j,none⟩=(#[.int .i64 (c 0:Nat),.int .i64 (c 1:Nat),.int .i64 (c 2:Nat),.int .i64 (c 3:Nat)]:Array Value)[j]?):=λwr h=>by rw[N.out]at h;exact(blk h.b3).1
 have Θ:Hid (∀wr,P wr->∀j,wr.cell? ⟨w.heap.size+1+1+1+1,j,none⟩=(#[.int .i64 (g 0),.int .i64 (g 1),.int .i64 (g 2),.int .i64 (g 3)]:Array Value)[j]?):=λwr h=>by rw[N.out]at h;exact(blk h.b4).1
 have Δ:Hid (∀wr,P wr->∀j,wr.cell? ⟨w.heap.size+1+1+1+1+1,j,none⟩=(#[.slice (l 0) (G 0).length (a 0),.slice (l 1) (G 1).length (a 1),.slice (l 2) (G 2).length (a 2),.slice (l 3) (G 3).length (a 3)]:Array Value)[j]?):=λwr h=>by rw[N.out]at h;exact(blk h.b5).1
 go_loopw [14,15,16] (λso li i wr=>∃(k:Nat) (b1 b2:Bool),1<=k/\k<=16/\i=.int .i64 k/\so=.bool b1/\li=.bool b2/\b1=anyM f k/\b2=anyM f2 k/\P wr) (λ_ _ i _=>16-(intOf i).toNat)
 case atStart=>exact⟨1,false,false,by omega,by omega,rfl,rfl,rfl,rfl,rfl,H0.out⟩
 case round=>
  obtain⟨k,b1,b2,β,Ξ,rfl,rfl,rfl,F,E,hI⟩:=hrel;have B:=av (aaa hI (aaa F E));clear hI F E
  by_cases u:k<16
  .have kn:(k:Int)<16:=by omega
   have q6:=H6.out _ B.out.1;have q7:=H7.out _ B.out.1;have q8:=H8.out _ B.out.1;go_wp2_with fail;rw[<-e0,<-Y,<-e2];refine(θ.out wr k (α.out _ B.out.1) u).mono ?_;rintro e w1 ⟨rfl,z⟩;obtain⟨ρ,S⟩:∃ρ:Nat->Nat,ρ=ae0 s.D k L:=⟨_,rfl⟩;rw[<-S,e0,Y,e2];have ο:=av S;clear S q6 q7 q8;obtain⟨W1,I⟩:∃W,W=w1.alloc (.cells #[.int .i64 (ρ 0:Nat),.int .i64 (ρ 1:Nat),.int .i64 (ρ 2:Nat),.int .i64 (ρ 3:Nat)] 29):=⟨_,rfl⟩;have H1:Hid (P W1):=HX.out _ _ B.out.1 (by rw[I];exact z.alloc z.size _);have q9:=H9.out _ H1.out;rw[I]at q9;unfold o8;clear z;go_wp2_with fail;rw[<-I];clear I q9;refine(afl ρ c W1).mono ?_;rintro e w2 ⟨rfl,Q⟩;obtain⟨b,hb⟩:∃b,b=afa ρ c 4:=⟨_,rfl⟩;rw[<-hb];have Hb:=av hb;have H2:=av (HX.out _ _ H1.out Q);clear hb Q;go_wp2_with fail;refine(Ma k u w2).mono ?_;rintro e w3 ⟨rfl,hw⟩;obtain rfl:=hw.symm;have q6:=H6.out _ H2.out;obtain⟨v,hv⟩:∃v:Bool,v=(b&&(!(p==3)||pop k==1)):=⟨_,rfl⟩;have Hv:=av hv;clear hv
   go_upto_if 39 with fail
   go_cut [18]from 23 to 86 (λok wx=>ok=.bool v/\wx=w2)
   case first=>
        have χ:((p==3)=true/\b=true/\pop k=1/\v=true)\/((p==3)=true/\b=true/\¬pop k=1/\v=false)\/((p==3)=true/\b=false/\v=false)\/((p==3)=false/\b=true/\v=true)\/((p==3)=false/\b=false/\v=false):=by
         rw[Hv.out]
         by_cases h1:pop k=1
         .rw[h1]
          cases p==3<;>cases b<;>simp
         .rw[acZ.2 h1]
          cases p==3<;>cases b<;>simp[h1]
        rcases χ with⟨h3,rfl,h1,t⟩|⟨h3,rfl,h1,t⟩|⟨h3,rfl,t⟩|⟨h3,rfl,t⟩|⟨h3,rfl,t⟩
        all_goals
         have HV:=av t;clear t
         try(have ν:¬((pop k:Nat):Int)=1:=by omega)
         try(have Ψ:((pop k:Nat):Int)=1:=by omega)
         try(have Ω:(((pop k:Nat):Int)==1)=false:=acZ.2 ν)
         try(have Φ:(((pop k:Nat):Int)==1)=true:=by rw[h1];rfl)
         go_wp2_with fail
         go_meet
         exact⟨by rw[HV.out],rfl⟩
   case rest=>
        obtain⟨rfl,rfl⟩:=hcut;clear q6;go_wp2_with fail
        go_loopw [18,20] (λok i wi=>∃(j:Nat) (x:Bool),j<=4/\i=.int .i64 j/\ok=.bool x/\x=(v&&(!(p==2)||uH g j k))/\((p==2)=false->j=0)/\P wi) (λ_ i _=>4-(intOf i).toNat)
        case atStart=>exact⟨0,_,by omega,rfl,rfl,by simp[uH],λ_=>rfl,H2.out⟩
        case round=>
         obtain⟨j,x,hj,rfl,rfl,hx,hz,hP⟩:=hrel;have HJ:=av (aaa hx (aaa hz hP));clear hx hz hP;have q6:=H6.out _ HJ.out.2.2
         by_cases hgo:(p==2)=true/\j<4
         .obtain⟨p2,μ⟩:=hgo
          have jn:(j:Int)<4:=(by omega);have y:wr.cell? ⟨w.heap.size+1+1+1+1,j,none⟩=some (.int .i64 (g j)):=(by rw[Θ.out _ HJ.out.2.2];exact mg g μ)
          have υ:Hid ((v&&(!(p==2)||uH g (j+1) k))=(x&&(g j==0||g j==(pop k:Int)))):=by
           show _=_
           rw[HJ.out.1,p2,yu,Bool.not_true,Bool.false_or,Bool.false_or,Bool.and_assoc]
          have φ:Hid ((p==2)=true):=p2
          have HC:(x=false/\(v&&(!(p==2)||uH g (j+1) k))=false)\/(x=true/\(g j==0)=true/\(v&&(!(p==2)||uH g (j+1) k))=true)\/(x=true/\(g j==0)=false/\(g j==(pop k:Int))=true/\(v&&(!(p==2)||uH g (j+1) k))=true)\/(x=true/\(g j==0)=false/\(g j==(pop k:Int))=false/\(v&&(!(p==2)||uH g (j+1) k))=false):=by
           rw[υ.out];cases x<;>cases g j==0<;>cases g j==(pop k:Int)<;>simp
          rcases HC with⟨rfl,hy⟩|⟨rfl,J,hy⟩|⟨rfl,J,η,hy⟩|⟨rfl,J,η,hy⟩
          all_goals
           have HY:=av hy;clear hy
           try have g0:=eq_of_beq J
           try have g0:¬g j=0:=λe=>absurd (beq_iff_eq.2 e) (by rw[J];decide)
           try have gp:¬g j=(pop k:Int):=λe=>absurd (beq_iff_eq.2 e) (by rw[η];decide)
           try clear g0
           go_wp2_with fail;go_roundw
           case rel=>exact⟨j+1,_,by omega,by go_num,rfl,HY.out.symm,(λh=>by rw[φ.out]at h;cases h),HJ.out.2.2⟩
           case measure=>simp[intOf];omega
         .obtain⟨γ,p2⟩|⟨γ,p2⟩:(j=4/\(p==2)=true)\/(j=0/\(p==2)=false):=by
           cases p2:p==2
           .exact .inr ⟨HJ.out.2.1 p2,rfl⟩
           .exact .inl ⟨Nat.le_antisymm hj (Nat.le_of_not_lt λh=>hgo ⟨p2,h⟩),rfl⟩
          all_goals
           subst γ;clear hgo;have q7:=H7.out _ HJ.out.2.2;have κ:=Δ.out _ HJ.out.2.2;go_wp2_with fail;rw[<-e0,<-Y,<-e2];refine(ι.out wr k (α.out _ HJ.out.2.2) u).mono ?_;rintro e w5 ⟨rfl,V⟩;obtain⟨O,R⟩:∃O:Nat->Nat,O=ae0 s.D k G:=⟨_,rfl⟩;rw[<-R,e0,Y,e2];have ξ:=av R;clear R q6 q7 κ;obtain⟨W5,H⟩:∃W,W=w5.alloc (.cells #[.int .i64 (O 0:Nat),.int .i64 (O 1:Nat),.int .i64 (O 2:Nat),.int .i64 (O 3:Nat)] 29):=⟨_,rfl⟩;have H5:Hid (P W5):=HX.out _ _ HJ.out.2.2 (by rw[H];exact V.alloc V.size _);have q9:=H9.out _ H5.out;rw[H]at q9;unfold o8;clear V;go_wp2_with fail;rw[<-H];clear H q9;refine(afl O c W5).mono ?_;rintro e w6 ⟨rfl,ε⟩;obtain⟨b',X⟩:∃b',b'=afa O c 4:=⟨_,rfl⟩;rw[<-X];have σ:=av X;have Γ:=av (HX.out _ _ H5.out ε);clear X ε
           have Z:Hid (f k=x):=by
            have Y:f k=_:=Hf.out.1 k;show f k=x
            rw[Y,HJ.out.1,Hv.out];unfold okA;rw[<-ο.out,<-Hb.out,p2];exact(Bool.and_assoc _ _ _).symm
           have ω:Hid (anyM f (k+1)=(b1||x)):=by
            show(anyM f k||(decide (1<=k)&&f k))=(b1||x)
            rw[Z.out,<-B.out.2.1,ady β,Bool.true_and]
           have ψ:Hid (anyM f2 (k+1)=(b2||(x&&b'))):=by
            show(anyM f2 k||(decide (1<=k)&&f2 k))=(b2||(x&&b'))
            rw[Hf.out.2 k,Z.out,<-ξ.out,<-σ.out,<-B.out.2.2,ady β,Bool.true_and]
           clear Z;cases x
           case' true=>cases b'
           all_goals
            cases b1<;>cases b2<;>(
             go_wp2_with fail;go_roundw
             case rel=>exact⟨k+1,_,_,by omega,by omega,by go_num,rfl,rfl,by rw[ω.out];rfl,by rw[ψ.out];rfl,Γ.out⟩
             case measure=>simp[intOf];omega)
  .have kn:¬(k:Int)<16:=by omega
   obtain rfl:k=16:=(by omega);have F:=B.out.2.1;have E:=B.out.2.2;subst F E;go_wp2_with fail;go_ret2;exact⟨rfl,α.out _ B.out.1⟩
def BS.inv.IP {s:BS}(h:s.inv)(n:Int):(s.IP n).inv:=⟨BS.UO h.d rfl rfl rfl rfl,h.fine.ZJ rfl rfl,h.many,h.nm⟩
def ab9 {s:BS}(h:s.inv){nm:ByteArray}(a:2<=nm.size):∀x∈s.bs,x.nm≠nm:=λx hx e=>by have:=h.nm x hx;rw[e]at this;omega
end Z
