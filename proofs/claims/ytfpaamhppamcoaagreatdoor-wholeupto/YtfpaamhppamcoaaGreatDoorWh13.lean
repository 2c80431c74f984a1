/- Part 13 of the proof. -/
import Derived.Test.YtfpaamhppamcoaaGreatDoorWh12
set_option linter.all false
set_option maxRecDepth 100000
set_option maxHeartbeats 60000000
namespace Go.Proofs.YtfpaamhppamcoaaGreatDoor
open Go.Proofs.Tryz
namespace Z
open Go.RowKit
attribute [local go_sem ↓] Go.wp_at_zero Go.wp_at_succ
attribute [local go_sem] After.cell After.frozen After.const
def Aw {s s'}{l}{r}(h:o5 s l r s')(a:s.jQ->s.ah<4):s'.m=s.m/\s'.no<=s.no+4:=by
 rcases h with⟨hf,_,rfl⟩|⟨_,_,rfl⟩
 .have:=a hf
  refine⟨rfl,?_⟩;show s.no+s.ah.toNat<=s.no+4
  omega
 .exact⟨rfl,ZL _⟩
def zV {s s'}{t}(h:vR s t s'):s'.m=s.m/\s'.no<=s.no+4:=by
 rcases h with⟨_,h⟩|⟨_,r,h⟩|⟨_,rfl⟩|⟨_,r,h⟩|⟨_,rfl⟩
 .rcases h with⟨rfl,_⟩|⟨m,p,x,_,hf,rfl⟩|⟨m,p,x,_,hf,rfl⟩
  .exact⟨rfl,by omega⟩
  .refine⟨rfl,?_⟩
   have:=hf.2;show s.no+s.ah.toNat<=s.no+4
   omega
  .exact⟨rfl,ZL _⟩
 .rcases h with⟨_,_,rfl⟩|⟨p,_,h⟩
  .exact⟨rfl,by omega⟩
  .exact Aw h (λh=>h.2)
 .exact⟨rfl,Nat.le_add_right _ _⟩
 .rcases h with⟨_,_,rfl⟩|⟨_,_,_,rfl⟩|⟨_,_,_,rfl⟩
  .exact⟨rfl,by omega⟩
  .exact⟨rfl,by omega⟩
  .exact⟨rfl,Nat.le_add_right _ _⟩
 .exact⟨rfl,Nat.le_add_right _ _⟩
def Sv (m:cz)(T:Nat->eU):Nat->BS->Prop
 |0,s=>s=BS.new m
 |n+1,s'=>∃s,Sv m T n s/\vR s (T n) s'
def Sv.keeps {m}{T}{n}{s}(h:Sv m T n s):s.m=m/\s.no<=4*n:=by
 induction n generalizing s with
 |zero=>cases h;exact⟨rfl,ZL _⟩
 |succ n a=>
  obtain⟨s1,b,hd⟩:=h;have a:=a b;obtain⟨c,d⟩:=zV hd;exact⟨c.trans a.1,by have:=a.2;omega⟩
structure DL (w:World)(so:Option Addr)(n cap:Nat)(T:Nat->eU):Prop where
 room:n<=cap
 many:n<=100000000
 cells:0<n->∃b o,so=some ⟨b,o,none⟩/\∀i,i<n->∀j u,(T i).cells[j]? =some u->w.cell? ⟨b,o+i*9+j,none⟩=some u
 steps:∀i,i<n->(T i).at w
def DL.below {w w'}{so}{n cap}{T}(h:DL w so n cap T)(hb:adN w w'):DL w' so n cap T:=
 ⟨h.room,h.many,λc=>let ⟨b,o,e,hc⟩:=h.cells c;⟨b,o,e,λi a j u hu=>keeps hb (hc i a j u hu)⟩,λi a=>(h.steps i a).below hb⟩
def dJ.below {w w'}{K K'}(h:dJ w w' K K'){B}(c:B<=w.heap.size)(a:∀b,b<B->K b=0):Below B w w':=⟨h.os,h.tape,h.output,h.size,λb hb=>h.block b (by omega) (.inl (a b hb))⟩
def Bd.zero {w}{base bb}{s}{K}(h:Bd w base bb s K){b}(hb:b<base):K b=0:=by
 obtain⟨_,_,_,_,_,_,h⟩:=h
 by_cases a:K b=0
 .exact a
 .have:=(h.tk b a).1;omega
def eU.cell {t:eU}{w:World}{b o}(h:∀j u,t.cells[j]? =some u->w.cell? ⟨b,o+j,none⟩=some u):
 w.cell? ⟨b,o,none⟩=some (.int .i64 t.kind)/\w.cell? ⟨b,o+1,none⟩=some (.int .i64 t.A)/\w.cell? ⟨b,o+2,none⟩=some (.int .i64 t.B)/\w.cell? ⟨b,o+3,none⟩=some (.int .i64 (t.r 0))/\w.cell? ⟨b,o+4,none⟩=some (.int .i64 (t.r 1))/\
 w.cell? ⟨b,o+5,none⟩=some (.int .i64 (t.r 2))/\w.cell? ⟨b,o+6,none⟩=some (.int .i64 (t.r 3))/\w.cell? ⟨b,o+7,none⟩=some (.slice t.ao t.n t.cap)/\w.cell? ⟨b,o+8,none⟩=some (.bool t.yes):=
 ⟨h 0 _ rfl,h 1 _ rfl,h 2 _ rfl,h 3 _ rfl,h 4 _ rfl,h 5 _ rfl,h 6 _ rfl,h 7 _ rfl,h 8 _ rfl⟩
def Jr (w:World)(m:cz)(n:Nat)(T:Nat->eU)(v:Value)(w':World):Prop:=∃base bb s K,v=.pointer (some ⟨bb,0,none⟩)/\w.heap.size<=base/\Bd w' base bb s K/\Sv m T n s/\adN w w'
def Hu (m)(A ra so)(y rc base n cap)(T)(a)(w)(h:kX w base m (.slice A m.n y) (.slice ra m.r rc))(D:DL w so n cap T)
 (F:w.cell? ⟨0,0,none⟩=some (.iface 345 (.pointer (some a)))):
 adO 9 #[.agg #[.slice A m.n y,.slice ra m.r rc,.int .i64 m.p],.slice so n cap] w (RJ (Jr w m n T) AA):=by
 have B:=av (aaa D F);have N:Hid (∀u,adN w u->adO 33 #[.agg #[.slice A m.n y,.slice ra m.r rc,.int .i64 m.p]] u λe w'=>∃bb K,e=.returned (.tuple #[.pointer (some ⟨bb,0,none⟩),.int .i64 0])/\Bd w' u.heap.size bb (BS.new m) K/\adN u w'):=λu hu=>GY m A ra y rc base u (h.below hu)
 have C:=D.many;clear h D F
 go_enter (pf func9 (by rfl)),ntmps9
 go_wp2_with fail;refine(N.out _ ((aab _ _).alloc (ZL _) _)).mono ?_;rintro e w1 ⟨bb,K,rfl,c,q⟩;have v:=q.size;have H1:=av (aaa c (aaa (ai ((aab w.heap.size w).alloc (ZL _) _) q) (show w.heap.size+1<=w1.heap.size by simpa using v)));rw[aao]at H1;clear c q v;go_wp2_with fail
 go_loopw [7] (λi wr=>∃(j:Nat) (s:BS) (K':Nat->Nat),j<=n/\i=.int .i64 j/\Sv m T j s/\Bd wr (w.heap.size+1) bb s K'/\dJ w1 wr K K') (λi _=>n-(intOf i).toNat)
 case atStart=>exact⟨0,BS.new m,K,adl _,rfl,rfl,H1.out.1,dJ.refl _ _⟩
 case round=>
  obtain⟨j,s,K',O,rfl,g,c,d⟩:=hrel;have l:adN w wr:=H1.out.2.1.trans (d.below (by have:=H1.out.2.2;omega) (λb hb=>H1.out.1.zero (by omega)));have f:=av (aaa g (aaa c (aaa d l)));clear g c d l
  by_cases x:j<n
  .have jn:(j:Int)<n:=by omega
   obtain⟨b,o,rfl,hc⟩:=B.out.1.cells (by omega);obtain⟨c0,L,c2,c3,c4,c5,J,I,H⟩:=eU.cell (t:=T j) (w:=wr) (b:=b) (o:=o+j*9) (λk u hu=>keeps f.out.2.2.2 (hc j x k u hu));clear hc;go_wp2_with fail;have G:=f.out.1.keeps.2;refine(R9 (w.heap.size+1) bb s K' (T j) a wr f.out.2.1 ((B.out.1.steps j x).below f.out.2.2.2) (by omega) (keeps f.out.2.2.2 B.out.2) (by have:=aan B.out.2;simp only at this;omega)).mono ?_;intro e w4 he;cases e with
   |outgrown=>exact he.elim
   |panicked ch=>exact⟨rfl,he⟩
   |returned r=>
    obtain⟨⟨z,rfl⟩,s',M,hd,c,d⟩:=he;have E:=av (aaa hd (aaa c d));clear hd c d c0 L c2 c3 c4 c5 J I H;go_wp2_with fail;go_roundw
    case rel=>exact⟨j+1,s',M,by omega,by go_num,⟨s,f.out.1,E.out.1⟩,E.out.2.1,f.out.2.2.1.trans E.out.2.2⟩
    case measure=>simp[intOf];omega
  .have jn:¬(j:Int)<n:=by omega
   obtain rfl:j=n:=(by omega);go_wp2_with fail;go_ret;exact⟨_,bb,s,K',rfl,by omega,f.out.2.1,f.out.1,f.out.2.2.2⟩
def nz (s:BS)(t:eU):BS:=if aK t.kind 5=2 then s.reg (aK t.A 3) (min t.n 16) (il t.X) t.H else if aK t.kind 5=3/\aK t.B 16<s.dn (aK t.A 3)then s.fJ (aK t.A 3) (aK t.B 16) t.yes else s
def eO (m:cz)(T:Nat->eU):Nat->BS
 |0=>BS.new m
 |n+1=>nz (eO m T n) (T n)
structure pR (s s':BS):Prop where
 dn:s.dn=s'.dn
 dN:s.dN=s'.dN
 dH:s.dH=s'.dH
def yX {s s'}{l}{r}(h:o5 s l r s'):pR s' s:=by
 rcases h with⟨_,_,rfl⟩|⟨_,_,rfl⟩
 .exact⟨rfl,rfl,rfl⟩
 .exact⟨rfl,rfl,rfl⟩
def pR.told {s s' s2}{t}(h:pR s s')(hd:vR s t s2):pR s2 (nz s' t):=by
 have other:∀{x},pR x s->aK t.kind 5≠2->aK t.kind 5≠3->pR x (nz s' t):=fun{x} hx d c=>by
  unfold nz;rw[if_neg d,if_neg (λe=>c e.1)];exact⟨hx.dn.trans h.dn,hx.dN.trans h.dN,hx.dH.trans h.dH⟩
 rcases hd with⟨a,hd⟩|⟨a,r,hd⟩|⟨a,rfl⟩|⟨a,r,hd⟩|⟨a,rfl⟩
 .refine other ?_ (by omega) (by omega)
  rcases hd with⟨rfl,_⟩|⟨m,p,x,_,_,rfl⟩|⟨m,p,x,_,_,rfl⟩
  all_goals exact⟨rfl,rfl,rfl⟩
 .refine other ?_ (by omega) (by omega)
  rcases hd with⟨_,_,rfl⟩|⟨p,_,hd⟩
  .exact⟨rfl,rfl,rfl⟩
  .exact yX hd
 .unfold nz
  rw[if_pos a];unfold BS.reg;exact⟨by simp only[h.dn],by simp only[h.dN],by simp only[h.dH]⟩
 .have c:=ik t.A (show 0<3 by omega)
  unfold nz;rw[if_neg (by omega)];rcases hd with⟨hA,_,_⟩|⟨_,b,_,rfl⟩|⟨_,b,_,rfl⟩
  .exact absurd ⟨by omega,by omega⟩ hA
  .rw[acX]at b
   rw[if_neg (λe=>b ⟨by omega,by rw[h.dn];have:=e.2;omega⟩)];exact h
  .rw[acX]at b
   rw[if_pos ⟨a,by have:=b.2;rw[h.dn]at this;omega⟩,acX,acX];unfold BS.fJ;exact⟨h.dn,h.dN,by simp only[h.dH]⟩
 .exact other ⟨rfl,rfl,rfl⟩ (by omega) (by omega)
def Sv.told {m}{T}{n}{s}(h:Sv m T n s):pR s (eO m T n):=by
 induction n generalizing s with
 |zero=>cases h;exact⟨rfl,rfl,rfl⟩
 |succ n a=>
  obtain⟨s1,b,hd⟩:=h;exact(a b).told hd
structure kH (w:World)(s:BS)(d:Nat->Value)(wr:World):Prop where
 b0:wr.heap[w.heap.size]? =some (.cells #[.slice none 0 0,.slice none 0 0,.slice none 0 0] 34 (0,0))
 b1:wr.heap[w.heap.size+1]? =some (.cells #[d 0,d 1,d 2] 34 (0,0))
 rows:∀k,k<3->wr.ownsRow (w.heap.size+2) 75 2 (d k) (s.dn k) (rO s k)
 apart:∀k,k<3->∀k',k'<3->k≠k'->∀b,(d k).ownBlock=some b->(d k').ownBlock≠some b
 below:adN w wr
 size:w.heap.size+2<=wr.heap.size
section
variable {w wr W2:World}{s:BS}{d:Nat->Value}
def kH.alloc (h:kH w s d wr)(o):kH w s d (wr.alloc o):=
 have k:∀{b a},wr.heap[b]? =some a->(wr.alloc o).heap[b]? =some a:=λhb=>(aac _ _ _ (ZK.1 hb).1).trans hb
 ⟨k h.b0,k h.b1,λi c=>(h.rows i c).alloc _,h.apart,h.below.alloc (by have:=h.size;omega) _,by have:=h.size;rw[aao];omega⟩
def kH.drew (h:kH w s d wr):kH w s d wr.drew:=⟨h.b0,h.b1,λi a=>au (h.rows i a) (aab _ _).drew,h.apart,h.below.drew,h.size⟩
def kH.list (h:kH w s d wr){k n}{v}{N}{H}(u:k<3)(q:W2.ownsRow wr.heap.size 75 2 v n (yP n N H))(hb:adN wr W2):kH w (s.reg k n N H) (λi=>if i=k then v else d i) (W2.setCell ⟨w.heap.size+1,k,none⟩ v):=by
 have hs:=h.size;have r:=hb.size;have g:∀b,v.ownBlock=some b->wr.heap.size<=b:=λb e=>(q.lt b e).1
 have j:∀i,i<3->∀b,(d i).ownBlock=some b->b<wr.heap.size:=λi c b e=>(h.rows i c|>.lt b e).2
 refine⟨dP _ (bJ hb h.b0) (by show w.heap.size≠w.heap.size+1;omega),?_,λi c=>?_,λi c p l f b a=>?_,(h.below.trans (hb.mono (by omega))).setCell (Nat.le_succ _) _,by simp;omega⟩
 .have m:=aD (i:=k) v (bJ hb h.b1)
  refine m.trans ?_;obtain rfl|rfl|rfl:k=0\/k=1\/k=2:=by omega
  all_goals rfl
 .by_cases e:i=k
  .subst e
   rw[if_pos rfl,J4,show(s.reg i n N H).dn i=n from by unfold BS.reg;simp];exact aB (aaf q (by show w.heap.size+1<wr.heap.size;omega) _) (by omega)
  .rw[if_neg e,(vO s e).1,(vO s e).2]
   exact aaf (au (h.rows i c) hb) (by show w.heap.size+1<w.heap.size+2;omega) _
 .by_cases e:i=k
  .rw[if_pos e]at a
   have t:=g b a;rw[if_neg (λo=>f (e.trans o.symm))];intro m;have:=j p l b m;omega
  .rw[if_neg e]at a
   have t:=j i c b a
   by_cases o:p=k
   .rw[if_pos o]
    intro m;have:=g b m;omega
   .rw[if_neg o]
    exact h.apart i c p l f b a
def kH.fJ (h:kH w s d wr){k i g}(l:k<3)(o:i<s.dn k)(f:(d k).ownBlock=some g)(b):kH w (s.fJ k i b) d (wr.setCell ⟨g,i*2+1,none⟩ (.bool b)):=by
 have m:=(h.rows k l).lt g f;have a:∀x,x≠g->(wr.setCell ⟨g,i*2+1,none⟩ (.bool b)).heap[x]? =wr.heap[x]?:=λx hx=>aad _ _ _ _ hx
 refine⟨(a _ (by omega)).trans h.b0,(a _ (by omega)).trans h.b1,λj c=>?_,h.apart,h.below.setCell (by show w.heap.size<=g;omega) _,by simpa using h.size⟩
 by_cases e:j=k
 .subst e
  rw[<-J2];exact AZ (h.rows j c) f (by omega) _
 .rw[Bo s b e]
  exact aJ (h.rows j c) λx hx=>a x (λn=>h.apart j c k l e x hx (by rw[n];exact f))
end
def oJ (f:Nat->Value){k}(a:k<3):(#[f 0,f 1,f 2]:Array Value)[k]? =some (f k):=by
 obtain rfl|rfl|rfl:k=0\/k=1\/k=2:=by omega
 all_goals rfl
def Ou (w:World)(s:BS)(v:Value)(w':World):Prop:=∃d:Nat->Value,v=.agg #[d 0,d 1,d 2]/\(∀k,k<3->w'.ownsRow w.heap.size 75 2 (d k) (s.dn k) (rO s k))/\adN w w'
def Ij (m)(so)(n cap)(T)(w)(U:DL w so n cap T):
 adO 10 #[.slice so n cap] w λe w'=>∃v,e=.returned v/\Ou w (eO m T n) v w':=by
 have G:=av U;have R:=U.many;clear U
 go_enter (pf func10 (by rfl)),ntmps10
 go_wp2_with fail
 go_loopw [4] (λi wr=>∃(j:Nat) (d:Nat->Value),j<=n/\i=.int .i64 j/\kH w (eO m T j) d wr) (λi _=>n-(intOf i).toNat)
 case atStart=>
  refine⟨0,λ_=>.slice none 0 0,adl _,rfl,aap _ _ _,aam _ _ _,λk _=>aag _ _ _ _,λk _ k' _ _ b hb=>(by cases hb),((aab _ _).alloc (ZL _) _).alloc (by simp) _,by simp⟩
 case round=>
  obtain⟨j,d,hj,rfl,s⟩:=hrel;have Z:=av s;obtain⟨a0,k0,e0⟩:=aj (s.rows 0 (by omega));obtain⟨a1,k1,e1⟩:=aj (s.rows 1 (by omega));obtain⟨a2,Q,e2⟩:=aj (s.rows 2 (by omega))
  by_cases f:j<n
  .have jn:(j:Int)<n:=by omega
   obtain⟨b,o,rfl,hc⟩:=G.out.cells (by omega);obtain⟨c0,c1,c2,c3,c4,c5,c6,c7,c8⟩:=eU.cell (t:=T j) (w:=wr) (b:=b) (o:=o+j*9) (λk u hu=>keeps s.below (hc j f k u hu));have hA:=((G.out.steps j f).A);have M:=((G.out.steps j f).B);have L:=((G.out.steps j f).kind);have K:=av (aaa (G.out.steps j f).dC (G.out.steps j f).qF);have Y:Hid (∀u,adO 39 #[.int .i64 (T j).A,.int .i64 3] u λe w'=>e=.returned (.int .i64 (aK (T j).A 3:Nat))/\w'=u):=λu=>dG (T j).A 3 u hA (by omega)
   have N:Hid (∀u,adO 39 #[.int .i64 (T j).B,.int .i64 16] u λe w'=>e=.returned (.int .i64 (aK (T j).B 16:Nat))/\w'=u):=λu=>dG (T j).B 16 u M (by omega)
   have V:Hid (∀u,adO 39 #[.int .i64 (T j).kind,.int .i64 5] u λe w'=>e=.returned (.int .i64 (aK (T j).kind 5:Nat))/\w'=u):=λu=>dG (T j).kind 5 u L (by omega)
   have F:=ik (T j).A (show 0<3 by omega);have c:Hid (eO m T (j+1)=nz (eO m T j) (T j)):=rfl;clear hc hA M L;go_wp2_with fail;obtain⟨y,E⟩:∃W,W=wr.alloc (.cells #[.int .i64 (T j).kind,.int .i64 (T j).A,.int .i64 (T j).B,.int .i64 ((T j).r 0),.int .i64 ((T j).r 1),.int .i64 ((T j).r 2),.int .i64 ((T j).r 3),.slice (T j).ao (T j).n (T j).cap,.bool (T j).yes] 84):=⟨_,rfl⟩
   have H1:Hid (kH w (eO m T j) d y/\y.heap[wr.heap.size]? =some (.cells #[.int .i64 (T j).kind,.int .i64 (T j).A,.int .i64 (T j).B,.int .i64 ((T j).r 0),.int .i64 ((T j).r 1),.int .i64 ((T j).r 2),.int .i64 ((T j).r 3),.slice (T j).ao (T j).n (T j).cap,.bool (T j).yes] 84 (0,0))):=by
        rw[E];exact⟨Z.out.alloc _,aae _ _⟩
   rw[<-E];clear E c0 c1 c2 c3 c4 c5 c6 c7 c8 s;obtain⟨q0,P⟩:=blk H1.out.2;refine(Y.out y).mono ?_;rintro e w1 ⟨rfl,hw⟩;obtain rfl:=hw.symm;go_wp2_with fail;refine(N.out y).mono ?_;rintro e w1 ⟨rfl,hw⟩;obtain rfl:=hw.symm;go_wp2_with fail;refine(V.out y).mono ?_;rintro e w1 ⟨rfl,hw⟩;obtain rfl:=hw.symm
   by_cases p:aK (T j).kind 5=2
   .have I:=av p
    rw[p];clear p
    have C:Hid (eO m T (j+1)=(eO m T j).reg (aK (T j).A 3) (min (T j).n 16) (il (T j).X) (T j).H):=by
     rw[c.out];unfold nz;rw[if_pos I.out];exact av rfl
    go_wp2_with fail;refine(uL (T j).n (T j).X (T j).H _ y (K.out.1.below H1.out.1.below) K.out.2).mono ?_;rintro e w2 ⟨v2,rfl,h,D⟩;obtain⟨va,vc,rfl⟩:=aj h;have H2:=av (H1.out.1.list F h D);have a:=blk (bJ D H1.out.1.b1);obtain⟨x,hx⟩:∃x,w2.cell? ⟨w.heap.size+1,aK (T j).A 3,none⟩=some x:=⟨_,(a.1 _).trans (oJ d F)⟩;have ζ:=a.2 (aK (T j).A 3);clear h D a q0 P;go_wp2_with fail;go_roundw
    case rel=>exact⟨j+1,_,by omega,by go_num,by rw[C.out];exact H2.out⟩
    case measure=>simp[intOf];omega
   .by_cases q:aK (T j).kind 5=3
    .have l:=av q
     rw[q];clear q p;obtain⟨ak,ck,O⟩:=aj (H1.out.1.rows _ F);have a:=blk H1.out.1.b1;have x0:y.cell? ⟨w.heap.size+1,aK (T j).A 3,none⟩=some (.slice ak ((eO m T j).dn (aK (T j).A 3)) ck):=(by rw[a.1,oJ d F,O]);clear a
     by_cases hd:aK (T j).B 16< (eO m T j).dn (aK (T j).A 3)
     .have C:Hid (eO m T (j+1)=(eO m T j).fJ (aK (T j).A 3) (aK (T j).B 16) (T j).yes):=by
          rw[c.out];unfold nz;rw[if_neg (by rw[l.out];omega),if_pos ⟨l.out,hd⟩];exact av rfl
      have S:((aK (T j).B 16:Nat):Int)< ((eO m T j).dn (aK (T j).A 3):Nat):=(by omega);obtain⟨θ,α,e',r1,_,r3,_⟩:=dV (H1.out.1.rows _ F);rw[O]at e';cases e';obtain⟨g,rfl,η,_,J⟩:=r3 (by omega);have H2:=av (H1.out.1.drew.fJ F hd (by rw[O];rfl) (T j).yes);have y2:=(yN J hd).2
      have y3:y.drew.cell? ⟨g,aK (T j).B 16*2+1,none⟩=some (.bool ((eO m T j).dH (aK (T j).A 3) (aK (T j).B 16))):=by
          rw[show(⟨g,aK (T j).B 16*2+1,none⟩:Addr)=⟨g,0+2*aK (T j).B 16+1,none⟩ by rw[Z8,Nat.mul_comm]];exact y2
      obtain⟨cur,z⟩:=sM (H1.out.1.rows _ F) (b:=g) (by rw[O];rfl);have y4:y.drew.frozen? ⟨g,aK (T j).B 16*2+1,none⟩=false:=(blk z).2 _;clear r1 r3 J y2 z;go_wp2_with fail
      go_region
      go_wp2_with fail;go_roundw
      case rel=>exact⟨j+1,_,by omega,by go_num,by rw[C.out];exact H2.out⟩
      case measure=>simp[intOf];omega
     .have C:Hid (eO m T (j+1)=eO m T j):=by
          rw[c.out];unfold nz;rw[if_neg (by rw[l.out];omega),if_neg (λe=>hd e.2)];exact av rfl
      have S:¬((aK (T j).B 16:Nat):Int)< ((eO m T j).dn (aK (T j).A 3):Nat):=(by omega);go_wp2_with fail;go_roundw
      case rel=>exact⟨j+1,_,by omega,by go_num,by rw[C.out];exact H1.out.1⟩
      case measure=>simp[intOf];omega
    .have C:Hid (eO m T (j+1)=eO m T j):=by
      rw[c.out];unfold nz;rw[if_neg p,if_neg (λe=>q e.1)];exact av rfl
     have Q:(((aK (T j).kind 5:Nat):Int)==2)=false:=acZ.2 (by omega);have k3:(((aK (T j).kind 5:Nat):Int)==3)=false:=acZ.2 (by omega);have ε:((aK (T j).kind 5:Nat):Int)≠2:=(by omega);have δ:((aK (T j).kind 5:Nat):Int)≠3:=(by omega);go_wp2_with fail;go_roundw
     case rel=>exact⟨j+1,_,by omega,by go_num,by rw[C.out];exact H1.out.1⟩
     case measure=>simp[intOf];omega
  .have jn:¬(j:Int)<n:=by omega
   obtain rfl:j=n:=(by omega);have a:=s.b1;rw[e0,e1,e2]at a;obtain⟨m1,β⟩:=blk a;obtain⟨m0,γ⟩:=blk s.b0;clear s a;go_wp2_with fail;obtain⟨z0,z1,z2⟩:=KC (.slice a0 ((eO m T j).dn 0) k0) (.slice a1 ((eO m T j).dn 1) k1) (.slice a2 ((eO m T j).dn 2) Q) (m0 0) (m0 1) (m0 2);refine bodyPost_ret (v:=.agg #[.slice a0 ((eO m T j).dn 0) k0,.slice a1 ((eO m T j).dn 1) k1,.slice a2 ((eO m T j).dn 2) Q]) ?_ rfl ⟨_,rfl,d,by rw[e0,e1,e2],λk hk=>?_,?_⟩
   .simp[results,results10,go_sem,z0,z1,z2]
   .exact aB (aaf (aaf (aaf (Z.out.rows k hk) (by show w.heap.size<w.heap.size+2;omega) _) (by show w.heap.size<w.heap.size+2;omega) _) (by show w.heap.size<w.heap.size+2;omega) _) (by omega)
   .exact((Z.out.below.setCell (ZL _) _).setCell (ZL _) _).setCell (ZL _) _
def Ps (a)(n c)(R)(x)(w)(h:Ints w (.slice a n c) n R)(p:n<=1000000):
 adO 44 #[.slice a n c,.int .i64 x] w λe w'=>lg (∃i,i<n/\R i=x) e/\w'=w:=by
 have m:=av h;clear h
 go_enter (pf func44 (by rfl)),ntmps44
 go_wp2_with fail
 go_loop [5] (λi=>∃j:Nat,j<=n/\i=.int .i64 j/\Hid (∀k,k<j->R k≠x)) (λi=>n-(intOf i).toNat)
 case atStart=>exact⟨0,adl _,rfl,av (λk f=>absurd f (ZV _))⟩
 case round=>
  obtain⟨j,q,rfl,hR⟩:=hrel
  by_cases d:j<n
  .have jn:(j:Int)<n:=by omega
   obtain⟨ao,cap,e,_,_,g⟩:=m.out;cases e;obtain⟨b,o,rfl,hc⟩:=g (by omega);have c0:=hc j d;clear hc g
   by_cases hx:R j=x
   .subst hx
    go_wp2_with fail;go_ret;exact⟨.yes ⟨j,d,rfl⟩,rfl⟩
   .have l:(R j==x)=false:=acZ.2 hx
    go_wp2_with fail;go_round
    case rel=>exact⟨j+1,by omega,by go_num,av (λk f=>by
     by_cases e:k=j
     .subst e;exact hx
     .exact hR.out k (by omega))⟩
    case measure=>simp[intOf];omega
  .have jn:¬(j:Int)<n:=by omega
   go_wp2_with fail;go_ret;exact⟨.no (fun⟨i,r,e⟩=>hR.out i (by omega) e),rfl⟩
def OI (L:Nat->List Nat)(q:Nat)(l:List Nat):Nat->List Nat:=λa=>if a=q then l else L a
def Ta (G:Nat->Value)(q:Nat)(v:Value):Nat->Value:=λa=>if a=q then v else G a
def nZ (f:Nat->Value){k}(a:k<4):(#[f 0,f 1,f 2,f 3]:Array Value)[k]? =some (f k):=by
 obtain rfl|rfl|rfl|rfl:k=0\/k=1\/k=2\/k=3:=by omega
 all_goals rfl
section
variable {w wr w2:World}{mc lc:Array Value}{L:Nat->List Nat}{G:Nat->Value}
end
def Bp (D)(k i):dX D k (i+1)=if D.dH k i=true then dX D k i++[i]else dX D k i:=by
 unfold dX;rw[Z6,aaj]
 by_cases h:D.dH k i=true
 .rw[if_pos h];simp[h]
 .rw[if_neg h];simp[h]
def FM (D)(k i):(dX D k i).length<=i:=by
 unfold dX;have:=aai (λj=>D.dH k j) (List.range i);simpa using this
section
variable {w wr:World}{mc lc gc:Array Value}{c:Nat->Nat}
end
def pR.dv {s s'}(h:pR s s')(k):s'.dn k=s.dn k/\rO s' k=rO s k:=by
 refine⟨by rw[h.dn],?_⟩;unfold rO iB;rw[h.dn,h.dN,h.dH]
end Z
section
open Go Go.Conc
namespace Jp
end Jp
end
section
open Go.RowKit Go.Conc Go.ConcN
def PT {α}{R:Nat->α->Prop}(h:∀i,∃v,R i v):∃V:Nat->α,∀i,R i (V i):=
 ⟨λi=>(h i).choose,λi=>(h i).choose_spec⟩
def mD {Z}{lv}(hl:DT True Z lv)(ao)(n cap)(h:∀x,ao=some x->Z x.block\/(n=0/\cap=0)):∃a',lv (.slice ao n cap)=.slice a' n cap/\(0<cap->a'=ao):=by
 cases ao with
 |none=>exact⟨none,hl.same _ trivial,λ_=>rfl⟩
 |some x=>
  rcases h x rfl with a|⟨rfl,rfl⟩
  .exact⟨some x,hl.same _ a,λ_=>rfl⟩
  .obtain⟨a',b,_⟩:=hl.none trivial x
   exact⟨some a',b,λh=>absurd h (aby _)⟩
def Qq (f:Nat)(args:Array Value)(w:World):Prop:=∃N last o w' a,runNT prog (N+1) (solo (G (Frame.enter prog f args .normal) []) w) #[]=(.ended o w',a)/\runN prog N (solo (G (Frame.enter prog f args .normal) []) w)=.next last/\
 step prog last=.ended o w'/\Conc.Good prog (λv u=>v=.bool true/\Below w.heap.size w u) last o w' a
end
namespace Z
open Go.RowKit
structure BS.inv (s:BS):Prop where
 d:s.D.ok
 fine:s.fine
 many:s.bs.length<=12
 nm:∀x∈s.bs,x.nm.size=1
def BS.fine.ZJ {s s':BS}(h:s.fine)(hb:s'.bs=s.bs)(hm:s'.m=s.m):s'.fine:=⟨by rw[hb,hm];exact h.box,by rw[hb];exact h.aaR,by rw[hb];exact h.apart⟩
def BS.inv.new {m:cz}(h:m.ok):(BS.new m).inv:=⟨(BS.Rs h).d,⟨λx hx=>(by cases hx),List.Pairwise.nil,List.Pairwise.nil⟩,adl _,λx hx=>(by cases hx)⟩
def sj.asks {s:BS}{nm:ByteArray}{c:Nat->Int}{m p:Nat}{x:fH}(h:sj s nm c m p x):∃q,q<4/\0<aN c q:=by
 have hm:=h.may;unfold qo BC at hm;simp only[ZQ,adE,Z9,decide_eq_true_eq]at hm;obtain⟨_,q,a,hc⟩:=hm;exact⟨q,a,by unfold aN;omega⟩
def sj.fine {s:BS}{nm:ByteArray}{c:Nat->Int}{m p:Nat}{x:fH}(h:sj s nm c m p x)(hs:s.fine)(hd:s.D.ok):(s.ins p x).fine:=
 BS.fine.ins (m:=m) (c:=aN c) hs (by rw[h.nm];exact h.name) (by rw[h.nm];exact h.at_) h.given h.asks hd
def BS.inv.step {s s':BS}{t:eU}(h:s.inv)(hd:vR s t s'):s'.inv:=by
 rcases hd with⟨_,hA⟩|⟨_,r,hR⟩|⟨_,rfl⟩|⟨_,r,c⟩|⟨_,rfl⟩
 .rcases hA with⟨rfl,_⟩|⟨m,p,x,_,_,rfl⟩|⟨m,p,x,hy,_,rfl⟩
  .exact h
  .exact⟨BS.UO h.d rfl rfl rfl rfl,h.fine.ZJ rfl rfl,h.many,h.nm⟩
  .refine⟨BS.UO h.d rfl rfl rfl rfl,(hy.fine h.fine h.d).ZJ rfl rfl,?_,λy a=>?_⟩
   .have f:=hy.room
    show(s.bs.take p++x::s.bs.drop p).length<=12
    simp;omega
   .rcases qZ a with rfl|a
    .rw[hy.nm];rfl
    .exact h.nm y a
 .rcases hR with⟨_,_,rfl⟩|⟨p,_,⟨_,_,rfl⟩|⟨_,_,rfl⟩⟩
  .exact h
  .exact⟨BS.UO h.d rfl rfl rfl rfl,h.fine.ZJ rfl rfl,h.many,h.nm⟩
  .refine⟨BS.UO h.d rfl rfl rfl rfl,(h.fine.del (p:=p)).ZJ rfl rfl,?_,λy hy=>h.nm y (List.mem_of_mem_eraseIdx hy)⟩
   have f:=h.many;have g:=List.length_eraseIdx_le s.bs p;show(s.bs.eraseIdx p).length<=12
   omega
 .refine⟨⟨h.d.qF,h.d.nodes,h.d.res,λk' b=>?_⟩,h.fine.ZJ rfl rfl,h.many,h.nm⟩
  show(if k'=aK t.A 3 then min t.n 16 else s.dn k')<=16/\∀i,i< (if k'=aK t.A 3 then min t.n 16 else s.dn k')->0<=(if k'=aK t.A 3 then il t.X else s.dN k') i/\(if k'=aK t.A 3 then il t.X else s.dN k') i<4
  by_cases e:k'=aK t.A 3
  .simp only[if_pos e];exact⟨by omega,λi _=>M0 t.X i⟩
  .simp only[if_neg e];exact h.d.dC k' b
 .rcases c with⟨_,_,rfl⟩|⟨_,_,_,rfl⟩|⟨_,_,_,rfl⟩
  .exact h
  .exact h
  .exact⟨⟨h.d.qF,h.d.nodes,h.d.res,h.d.dC⟩,h.fine.ZJ rfl rfl,h.many,h.nm⟩
 .exact⟨BS.UO h.d rfl rfl rfl rfl,h.fine.ZJ rfl rfl,h.many,h.nm⟩
def Sv.inv {m:cz}{T:Nat->eU}{n:Nat}{s:BS}(h:Sv m T n s)(hm:m.ok):s.inv:=by
 induction n generalizing s with
 |zero=>cases h;exact .new hm
 |succ n a=>
  obtain⟨s1,b,hd⟩:=h;exact(a b).step hd
def abX {l:List Nat}{n:Nat}(h:l.Pairwise (· < ·))(hs:∀x,x∈l↔x<n):l.length=n:=by
 have b:=nL l (List.range n) (h.imp λh=>by omega) λx hx=>Z9.2 ((hs x).1 hx)
 have a:=nL (List.range n) l List.nodup_range λx hx=>(hs x).2 (Z9.1 hx)
 simp at b a;omega
def aaP (m:cz):List Nat:=(List.range m.r).map λi=>(m.R i).toNat
def aaS {m:cz}(h:o7 m.n m.R m.r):aT (aaP m)=vk m/\(aaP m).length=m.r/\(aaP m).Pairwise (· < ·)/\∀x,x∈aaP m↔among m.R m.r (x:Int):=by
 refine⟨?_,by simp[aaP],?_,λx=>?_⟩
 .unfold aT aaP vk
  rw[List.map_map];refine List.map_congr_left λi a=>?_
  have:=(h i (Z9.1 a)).1;show Value.int .i64 (((m.R i).toNat:Nat):Int)=_
  rw[Int.toNat_of_nonneg this]
 .unfold aaP
  refine List.pairwise_map.2 ?_
  have key:∀j,j<m.r->∀i,i<j->m.R i<m.R j:=by
   intro j
   induction j with
   |zero=>intro _ i a;omega
   |succ j f=>
    intro b i a;have d:=(h (j+1) b).2.2 (by omega);rw[acW]at d
    by_cases e:i=j
    .subst e;exact d
    .have:=f (by omega) i (by omega);omega
  refine List.Pairwise.imp_of_mem ?_ List.pairwise_lt_range;intro i j a b c;have d:=key j (Z9.1 b) i c;have g:=(h i (Z9.1 a)).1;omega
 .unfold aaP among
  rw[adz];constructor
  .rintro⟨i,a,rfl⟩
   have:=(h i (Z9.1 a)).1;exact⟨i,Z9.1 a,by omega⟩
  .rintro⟨i,a,e⟩
   exact⟨i,Z9.2 a,by omega⟩
def l5 (l l':List fH):Prop:=l.length=l'.length/\∀i (h:i<l.length) (a:i<l'.length),l[i].nm=l'[i].nm/\∀q,q<4->l[i].T q=l'[i].T q
def l5.refl (l:List fH):l5 l l:=⟨rfl,λ_ _ _=>⟨rfl,λ_ _=>rfl⟩⟩
def l5.symm {l l':List fH}(h:l5 l l'):l5 l' l:=⟨h.1.symm,λi a b=>⟨(h.2 i b a).1.symm,λq c=>((h.2 i b a).2 q c).symm⟩⟩
def l5.trans {l l' d:List fH}(h:l5 l l')(k:l5 l' d):l5 l d:=⟨h.1.trans k.1,λi a b=>have c:i<l'.length:=by have:=h.1;omega
 ⟨(h.2 i a c).1.trans (k.2 i c b).1,λq e=>((h.2 i a c).2 q e).trans ((k.2 i c b).2 q e)⟩⟩
structure aay (m:cz)(l:List fH):Prop where
 box:∀x∈l,x.fine m
 aaR:l.Pairwise aaz
 apart:l.Pairwise Apart
def BS.fine.l {s:BS}(h:s.fine):aay s.m s.bs:=⟨h.box,h.aaR,h.apart⟩
def aay.alike {m:cz}{l l':List fH}(h:aay m l)(k:l5 l l'):aay m l':=by
 refine⟨λx hx=>?_,adk.2 λi j e f d=>?_,adk.2 λi j e f d=>?_⟩
 .obtain⟨i,e,rfl⟩:=ado.1 hx
  have a:i<l.length:=by have:=k.1;omega
  obtain⟨n,g⟩:=k.2 i a e;obtain⟨s,r,⟨q,c,p⟩,o⟩:=h.box _ (acY a);refine⟨by rw[<-n];exact s,by rw[<-n];exact r,⟨q,c,by rw[<-g q c];exact p⟩,λq c=>by rw[<-g q c];exact o q c⟩
 .have a:i<l.length:=by have:=k.1;omega
  have b:j<l.length:=by have:=k.1;omega
  have:=adk.1 h.aaR i j a b d;unfold aaz at this⊢;rw[<-(k.2 i a e).1,<-(k.2 j b f).1];exact this
 .have a:i<l.length:=by have:=k.1;omega
  have b:j<l.length:=by have:=k.1;omega
  have:=adk.1 h.apart i j a b d;intro q c;rw[<-(k.2 i a e).2 q c,<-(k.2 j b f).2 q c];exact this q c
structure aau (w:World)(v:Value)(l:List fH):Prop where
 at_:∃ao cap,v=.slice ao l.length cap/\l.length<=cap/\(0<l.length->∃g,ao=some ⟨g,0,none⟩/\fG w g 0 (aR l))
 rows:∀x∈l,∀q,q<4->aas w (x.sl q) (x.T q)
def fG.below {w w':World}{g o:Nat}{xs:List Value}(h:fG w g o xs)(hb:adN w w'):fG w' g o xs:=λj u a=>keeps hb (h j u a)
def aau.below {w w':World}{v:Value}{l:List fH}(h:aau w v l)(hb:adN w w'):aau w' v l:=
 ⟨let ⟨ao,cap,e,d,c⟩:=h.at_;⟨ao,cap,e,d,λb=>let ⟨g,f,hc⟩:=c b;⟨g,f,hc.below hb⟩⟩,λx hx q a=>(h.rows x hx q a).ext hb⟩
attribute [local go_sem ↓] Go.wp_at_zero Go.wp_at_succ
attribute [local go_sem] After.cell After.frozen After.const
def aau.cells {w:World}{v:Value}{l:List fH}(h:aau w v l){i:Nat}(c:i<l.length):∃g cap,v=.slice (some ⟨g,0,none⟩) l.length cap/\w.cell? ⟨g,i*5,none⟩=some (.string l[i].nm)/\
 w.cell? ⟨g,i*5+1,none⟩=some (.slice (l[i].A 0) (l[i].T 0).length (l[i].C 0))/\w.cell? ⟨g,i*5+1+1,none⟩=some (.slice (l[i].A 1) (l[i].T 1).length (l[i].C 1))/\w.cell? ⟨g,i*5+1+2,none⟩=some (.slice (l[i].A 2) (l[i].T 2).length (l[i].C 2))/\w.cell? ⟨g,i*5+1+3,none⟩=some (.slice (l[i].A 3) (l[i].T 3).length (l[i].C 3)):=by
 obtain⟨ao,cap,rfl,_,d⟩:=h.at_;obtain⟨g,rfl,hc⟩:=d (by omega);obtain⟨b,a⟩:=Jk hc c;have e:0+5*i=i*5:=by rw[Z8,Nat.mul_comm]
 rw[e]at b a;exact⟨g,cap,rfl,b,a 0 (by omega),a 1 (by omega),a 2 (by omega),a 3 (by omega)⟩
def aau.len {w:World}{v:Value}{l:List fH}(h:aau w v l):∃ao cap,v=.slice ao l.length cap:=let ⟨ao,cap,e,_⟩:=h.at_;⟨ao,cap,e⟩
def aau.aaM {w:World}{v:Value}{l:List fH}(h:aau w v l){i:Nat}(b:i<l.length):aaB w l[i].A l[i].C l[i].T:=λq a=>h.rows _ (acY b) q a
def aaK (v v':Value)(l l':List fH)(w:World)(h:aau w v l)(k:aau w v' l')(f:l5 l l')(hl:l.length<=1000):
 adO 23 #[v,v'] w λe w'=>e=.returned (.bool true)/\adN w w':=by
 obtain⟨ao,cap,rfl⟩:=h.len;obtain⟨u,o,rfl⟩:=k.len;have H:=av (aaa h (aaa k f));have hle:=f.1;clear h k f;rw[<-hle]
 go_enter (pf func23 (by rfl)),ntmps23
 go_wp2_with fail
 go_loopw [5] (λi wr=>∃j:Nat,j<=l.length/\i=.int .i64 j/\adN w wr) (λi _=>l.length-(intOf i).toNat)
 case atStart=>exact⟨0,adl _,rfl,aab _ _⟩
 case round=>
  obtain⟨j,B,rfl,hb⟩:=hrel;have p:=av hb
  by_cases c:j<l.length
  .have jn:(j:Int)<l.length:=by omega
   have a:j<l'.length:=(by omega);obtain⟨g,F,e,c0,t,c2,c3,c4⟩:=(H.out.1.below hb).cells c;cases e;obtain⟨g',s,e,d0,d1,d2,d3,d4⟩:=(H.out.2.1.below hb).cells a;cases e;obtain⟨n,m⟩:=H.out.2.2.2 j c a;rw[<-n]at d0
   have z:Hid (∀x:After wr,adO 26 #[.agg #[.slice (l[j].A 0) (l[j].T 0).length (l[j].C 0),.slice (l[j].A 1) (l[j].T 1).length (l[j].C 1),.slice (l[j].A 2) (l[j].T 2).length (l[j].C 2),.slice (l[j].A 3) (l[j].T 3).length (l[j].C 3)],.agg #[.slice (l'[j].A 0) (l'[j].T 0).length (l'[j].C 0),.slice (l'[j].A 1) (l'[j].T 1).length (l'[j].C 1),.slice (l'[j].A 2) (l'[j].T 2).length (l'[j].C 2),.slice (l'[j].A 3) (l'[j].T 3).length (l'[j].C 3)]] x.val λe d=>e=.returned (.bool true)/\∃y:After wr,d=y.val):=λx=>
        Calls.iU m (aaA l[j].A l'[j].A l[j].C l'[j].C l[j].T l'[j].T x.val (((H.out.1.below hb).aaM c).ext (After.later x)) (((H.out.2.1.below hb).aaM a).ext (After.later x)))
   have D:g<wr.heap.size:=aan c0;have r:g'<wr.heap.size:=aan d0;generalize hx:l[j]=x at*;generalize hy:l'[j]=y at*;clear hb n m hx hy;go_wp2_with fail;refine dx (by kernel_rfl) (by kernel_rfl) ?_
   repeat(go_big_quiet_step (first|(go_at_call 26;exact z.out _)))
   refine wpQuiet_nil ?_;rintro _ ⟨⟨w1,b⟩,rfl⟩;have H1:=av (ai p.out b);have E:=keeps b c0;have f0:=keeps b d0;have q:(!(x.nm.toList==x.nm.toList))=false:=(by simp);clear b c0 t c2 c3 d0 d1 d2 d3;go_wp2_with fail;go_quiet(fail);go_wp2_with fail;go_roundw
   case rel=>exact⟨j+1,by omega,by go_num,H1.out.drewN _⟩
   case measure=>simp[intOf];omega
  .have jn:¬(j:Int)<l.length:=by omega
   clear hb;go_wp2_with fail;go_ret;exact⟨rfl,p.out⟩
def Uni (l:List fH)(i q:Nat)(c:List Nat):Prop:=c.Pairwise (· < ·)/\∀x,x∈c↔∃y∈l.take i,x∈y.T q
def Uni.start (l:List fH)(q:Nat):Uni l 0 q []:=⟨List.Pairwise.nil,λx=>by simp⟩
def aat {l:List fH}{i:Nat}(a:i<l.length)(y:fH):y∈l.take (i+1)↔y∈l.take i\/y=l[i]:=by
 rw[adq,ZT a,abz,Option.toList_some,adi]
def Uni.step {l:List fH}{i q:Nat}{c c':List Nat}(h:Uni l i q c)(a:i<l.length)(hm:acT c (l[i].T q) c'):Uni l (i+1) q c':=⟨hm.1,λx=>by
 rw[hm.2,h.2];constructor
 .rintro(⟨y,hy,hx⟩|hx)
  .exact⟨y,(aat a y).2 (.inl hy),hx⟩
  .exact⟨_,(aat a _).2 (.inr rfl),hx⟩
 .rintro⟨y,hy,hx⟩
  rcases(aat a y).1 hy with hy|rfl
  .exact .inl ⟨y,hy,hx⟩
  .exact .inr hx⟩
def Uni.apart {m:cz}{l:List fH}{i q:Nat}{c:List Nat}(h:Uni l i q c)(hF:aay m l)(f:i<l.length)(d:q<4):∀x∈c,x∉l[i].T q:=λx hx g=>by
 obtain⟨y,hy,a⟩:=(h.2 x).1 hx;obtain⟨j,e,rfl⟩:=ado.1 hy;rw[List.getElem_take]at a;have b:j<i:=by simp at e;omega
 exact adk.1 hF.apart j i (by omega) f b q d x a g
def aay.lt {m:cz}{l:List fH}(hF:aay m l)(b:m.n<=24){y:fH}(hy:y∈l){q:Nat}(a:q<4):∀x∈y.T q,x<24:=λx hx=>by
 have h:=((hF.box y hy).2.2.2 q a).2 x hx
 by_cases e:q=0
 .rw[if_pos e]at h;omega
 .rw[if_neg e]at h;omega
def aaO {c:List Nat}(h:c.Pairwise (· < ·))(hl:∀x∈c,x<24):c.length<=24:=by
 have:=nL c (List.range 24) (h.imp λh=>by omega) λx hx=>Z9.2 (hl x hx)
 simpa using this
def aay.qF {m:cz}{l:List fH}(hF:aay m l)(b:m.n<=24){y:fH}(hy:y∈l){q:Nat}(a:q<4):(y.T q).length<=24:=aaO ((hF.box y hy).2.2.2 q a).1 (hF.lt b hy a)
def Uni.qF {m:cz}{l:List fH}{i q:Nat}{c:List Nat}(h:Uni l i q c)(hF:aay m l)(d:m.n<=24)(b:q<4):c.length<=24:=
 aaO h.1 λx hx=>let ⟨_,hy,a⟩:=(h.2 x).1 hx;hF.lt d (List.mem_of_mem_take hy) b x a
structure OwI (w:World)(mc:Array Value)(G:Nat->Value)(L:Nat->List Nat)(c:List Nat)(vc:Value)(wr:World):Prop where
 b0:wr.heap[w.heap.size]? =some (.cells mc 25 (0,0))
 b1:wr.heap[w.heap.size+1]? =some (.cells #[G 0,G 1,G 2] 39 (0,0))
 rows:∀k,k<3->wr.ownsRow (w.heap.size+2) 3 1 (G k) (L k).length (aT (L k))
 dA:wr.ownsRow (w.heap.size+2) 3 1 vc c.length (aT c)
 below:adN w wr
 size:w.heap.size+2<=wr.heap.size
def OwI.ext {w wr w2:World}{mc:Array Value}{G:Nat->Value}{L:Nat->List Nat}{c:List Nat}{vc:Value}(h:OwI w mc G L c vc wr)(hb:adN wr w2):OwI w mc G L c vc w2:=
 ⟨bJ hb h.b0,bJ hb h.b1,λk a=>au (h.rows k a) hb,au h.dA hb,ai h.below hb,ZP h.size hb.size⟩
def OwI.put {w wr w2:World}{mc:Array Value}{G:Nat->Value}{L:Nat->List Nat}{c:List Nat}{vc v:Value}{k:Nat}{d:List Nat}(h:OwI w mc G L c vc wr)(g:k<3)(hb:adN wr w2)(b:w2.ownsRow wr.heap.size 3 1 v d.length (aT d)):
 OwI w mc (Ta G k v) (OI L k d) c vc (w2.setCell ⟨w.heap.size+1,k,none⟩ v):=by
 have a:=h.ext hb;have hs:=h.size;refine⟨dP _ a.b0 (by show w.heap.size≠w.heap.size+1;omega),?_,λq f=>?_,aaf a.dA (by show w.heap.size+1<w.heap.size+2;omega) _,a.below.setCell (Nat.le_succ _) _,by simpa using a.size⟩
 .refine(aD (i:=k) _ a.b1).trans ?_
  obtain rfl|rfl|rfl:k=0\/k=1\/k=2:=by omega
  all_goals rfl
 .unfold Ta OI
  by_cases e:q=k
  .rw[if_pos e,if_pos e]
   exact aaf (aB b hs) (by show w.heap.size+1<w.heap.size+2;omega) _
  .rw[if_neg e,if_neg e]
   exact aaf (a.rows q f) (by show w.heap.size+1<w.heap.size+2;omega) _
def OwI.swap {w wr:World}{mc:Array Value}{G:Nat->Value}{L:Nat->List Nat}{c c':List Nat}{vc a:Value}(h:OwI w mc G L c vc wr)(b:wr.ownsRow (w.heap.size+2) 3 1 a c'.length (aT c')):OwI w mc G L c' a wr:=⟨h.b0,h.b1,h.rows,b,h.below,h.size⟩
def ab1:∀(a b:List UInt8),Lib.compareBytes b a<0->Op.bytesLess a b=false/\(a==b)=false
 |[],[],h=>absurd h (by simp[Lib.compareBytes])
 |[],_::_,h=>absurd h (by simp[Lib.compareBytes])
 |_::_,[],_=>⟨rfl,rfl⟩
 |x::a,y::b,h=>by
  unfold Lib.compareBytes at h;unfold Op.bytesLess
  by_cases g:y<x
  .have c:¬x<y:=λc=>by simp only[UInt8.lt_iff_toNat_lt]at g c;omega
   have d:(x==y)=false:=acZ.2 λe=>by subst e;simp only[UInt8.lt_iff_toNat_lt]at g;omega
   exact⟨by simp[c,d],by simp[d]⟩
  .rw[if_neg g]at h
   by_cases c:x<y
   .rw[if_pos c]at h
    omega
   .rw[if_neg c]at h
    obtain⟨d,i⟩:=ab1 a b h;have f:¬a=b:=by simpa using i
    exact⟨by simp[c,d],by simp[f]⟩
def acm {x y:fH}(h:aaz x y):(Op.bytesLess y.nm.toList x.nm.toList||y.nm.toList==x.nm.toList)=false:=by
 rw[Lib.toList_data,Lib.toList_data];obtain⟨b,a⟩:=ab1 y.nm.data.toList x.nm.data.toList h;rw[b,a];rfl
def hasB (x:fH)(k:Nat):Bool:=(List.range k).any λq=>decide (0< (x.T q).length)
def aca (x:fH)(k:Nat):hasB x (k+1)=(hasB x k||decide (0< (x.T k).length)):=by
 unfold hasB;rw[Z6,List.any_append];simp
def acb {x:fH}{m:cz}(h:x.fine m):hasB x 4=true:=by
 obtain⟨_,_,⟨q,b,a⟩,_⟩:=h;unfold hasB;rw[adE];exact⟨q,Z9.2 b,ady (List.length_pos_iff.2 a)⟩
abbrev SO2 (W:World)(a:Addr)(v1:Value)(a2:Addr)(v2:Value)(w':World):Prop:=w'.cell? a=some v1/\w'.cell? a2=some v2/\adN W w'
def acg {W w1:World}{a a2:Addr}{v1 v2:Value}(h:SO2 W a v1 a2 v2 w1):SO2 W a v1 a2 v2 w1.drew:=⟨h.1,h.2.1,h.2.2.drew⟩
def acn {W w1 w2:World}{a a2:Addr}{v1 v2:Value}(h:SO2 W a v1 a2 v2 w1)(hb:adN w1 w2):SO2 W a v1 a2 v2 w2:=⟨keeps hb h.1,keeps hb h.2.1,ai h.2.2 hb⟩
def abM (m:cz)(ca ra:Option Addr)(cc rc base:Nat)(v:Value)(l:List fH)(w:World)(h:kX w base m (.slice ca m.n cc) (.slice ra m.r rc))(hB:aau w v l)(hF:aay m l)(hl:l.length<=12):
 adO 19 #[.agg #[.slice ca m.n cc,.slice ra m.r rc,.int .i64 m.p],v] w λe w'=>e=.returned (.bool true)/\adN w w':=by
 obtain⟨f1,f2,f3⟩:=h.qF;obtain⟨ao,cap,rfl⟩:=hB.len;have d:=av (aaa hB (aaa hF h))
 have ο:Hid (∀u (x:fH) (q n:Nat),q<4->x∈l->adN w u->n=(if q=0 then m.n else 16)->adO 27 #[.slice (x.A q) (x.T q).length (x.C q),.int .i64 n] u λe w'=>e=.returned (.bool true)/\adN u w'):=λu x q n s hx hu hn=>by
  refine ab7 _ _ _ _ u ((hB.rows x hx q s).ext hu) λi hi=>?_
  obtain⟨h1,h2⟩:=(hF.box x hx).2.2.2 q s;simp only[getD_at hi];have h3:=h2 _ (acY hi);refine⟨by omega,?_,λhi0=>?_⟩
  .by_cases e:q=0
   .rw[if_pos e]at h3 hn;omega
   .rw[if_neg e]at h3 hn;omega
  rw[getD_at (by omega)];have:=aaW h1 hi (show i-1<i by omega);omega
 have ρ:Hid (∀u v0 (a:List Nat) (b0:Nat) (x:fH) (q:Nat),q<4->x∈l->adN w u->u.ownsRow b0 3 1 v0 a.length (aT a)->a.Pairwise (· < ·)->a.length<=24->(∀y∈a,y∉x.T q)->adO 49 #[v0,.slice (x.A q) (x.T q).length (x.C q)] u λe w'=>∃vo l',e=.returned (.tuple #[vo,.bool true])/\w'.ownsRow u.heap.size 3 1 vo l'.length (aT l')/\acT a (x.T q) l'/\adN u w'):=λu v0 a b0 x q s hx hu ho hs hn hd=>
  aaD v0 _ a (x.T q) u (.own ho) ((hB.rows x hx q s).ext hu) hs ((hF.box x hx).2.2.2 q s).1 hd (by omega) (by have:=hF.qF f2 hx s;omega)
 clear hB hF h
 go_enter (pf func19 (by rfl)),ntmps19
 go_wp2_with fail
 go_loopw [5,7] (λvc i wr=>∃(j:Nat) (G:Nat->Value) (L:Nat->List Nat) (c:List Nat),j<=l.length/\i=.int .i64 j/\OwI w #[.slice ca m.n cc,.slice ra m.r rc,.int .i64 m.p] G L c vc wr/\Uni l j 0 c/\∀k,k<3->Uni l j (1+k) (L k)) (λ_ i _=>l.length-(intOf i).toNat)
 case atStart=>exact⟨0,λ_=>.slice none 0 0,λ_=>[],[],adl _,rfl,⟨aap _ _ _,aam _ _ _,λk _=>aag _ _ _ _,aag _ _ _ _,((aab _ _).alloc (ZL _) _).alloc (by simp) _,by simp⟩,Uni.start l 0,λk _=>Uni.start l _⟩
 case round=>
  rename World=>t
  obtain⟨j,G,L,c,hj,rfl,S,hU,α⟩:=hrel;obtain⟨va,β,rfl⟩:=aj S.dA;have J:=av (aaa S (aaa hU α))
  by_cases o:j<l.length
  .have jn:(j:Int)<l.length:=by omega
   obtain⟨g,acS,e,c0,c1,c2,c3,c4⟩:=(d.out.1.below S.below).cells o;cases e;have Γ:=(d.out.2.1.box _ (acY o));have E:l[j]∈l:=acY o;obtain⟨n1,n2,_⟩:=Γ;obtain⟨W,hW⟩:∃W,W=t.alloc (.cells #[.slice (l[j].A 0) (l[j].T 0).length (l[j].C 0),.slice (l[j].A 1) (l[j].T 1).length (l[j].C 1),.slice (l[j].A 2) (l[j].T 2).length (l[j].C 2),.slice (l[j].A 3) (l[j].T 3).length (l[j].C 3)] 41):=⟨_,rfl⟩;have P:adN t W:=(by rw[hW];exact(aab _ _).alloc (ZL _) _);have κ:W.heap[t.heap.size]? =some (.cells #[.slice (l[j].A 0) (l[j].T 0).length (l[j].C 0),.slice (l[j].A 1) (l[j].T 1).length (l[j].C 1),.slice (l[j].A 2) (l[j].T 2).length (l[j].C 2),.slice (l[j].A 3) (l[j].T 3).length (l[j].C 3)] 41 (0,0)):=(by rw[hW];exact aae _ _);have d0:=keeps P c0;have HD0:=av d0;rw[hW]at d0
   have HC:Hid (0<j->∃D:Nat,D<l.length/\(D:Int)=(j:Int)-1/\W.cell? ⟨g,D*5,none⟩=some (.string (mU l D))/\(Op.bytesLess l[j].nm.toList (mU l D).toList||l[j].nm.toList==(mU l D).toList)=false):=λμ=>by
        obtain⟨g',cp,e',Θ,_⟩:=(d.out.1.below (ai J.out.1.below P)).cells (show j-1<l.length by omega);cases e';refine⟨j-1,by omega,by omega,?_,?_⟩
        .rw[M4 (by omega)];exact Θ
        .rw[M4 (by omega)];exact acm (adk.1 d.out.2.1.aaR (j-1) j (by omega) o (by omega))
   generalize hx:l[j]=x at*;have Q:=av (aaa hx (aaa P κ));clear S hU α P κ hx;go_wp2_with fail;rw[<-hW];clear hW c1 c2 c3 c4 d0;obtain⟨q8,υ⟩:=blk Q.out.2.2;obtain⟨q0,V⟩:=blk (bJ Q.out.2.1 J.out.1.b0);have s1:decide ((x.nm.size:Int)<1)=false:=adg (by omega);have s2:decide ((x.nm.size:Int)>20)=false:=adg (by omega);have s1n:¬(x.nm.size:Int)<1:=(by omega);have s2n:¬(x.nm.size:Int)>20:=(by omega);have HJ:Hid (j<l.length):=o;have HN:=av (aaa n1 n2)
   by_cases μ:0<j
   case' pos=>
        obtain⟨D,hj1,e1,c5,c6⟩:=HC.out μ;have d5:=HD0.out;have b3:(0:Int)<=D:=(by omega);have b4:(D:Int)<l.length:=(by omega);have b5:(j:Int)>0:=(by omega);have b7:IntKind.i64.wrap ((j:Int)-1)=D:=(by rw[<-e1,IntKind.wrap_i64];omega);have bj:((j:Int)-1)=D:=e1.symm;clear n1 n2 e1;go_wp2_with fail;go_quiet(fail)
   case' neg=>
        have b5:¬(j:Int)>0:=(by omega);have b5d:decide ((j:Int)>0)=false:=adg b5;clear n1 n2;go_wp2_with fail;go_quiet(fail)
   all_goals
        go_wp2_with fail;have HV:=av (ai J.out.1.below (ai Q.out.2.1 ((aab W.heap.size W).drewN nq)));refine(ο.out _ x 0 m.n (by omega) E HV.out rfl).mono ?_;rintro e w1 ⟨rfl,H⟩;have ξ:Hid (adN W w1):=((aab W.heap.size W).drewN nq).trans H;have H1:=av (J.out.1.ext (ai Q.out.2.1 ξ.out));have τ:=av (bJ ξ.out Q.out.2.2);obtain⟨p8,φ⟩:=blk τ.out;clear H q8 υ q0 V;go_wp2_with fail;refine(ρ.out w1 _ c _ x 0 (by omega) E H1.out.below H1.out.dA J.out.2.1.1 (J.out.2.1.qF d.out.2.1 f2 (by omega)) (by rw[<-Q.out.1];exact J.out.2.1.apart d.out.2.1 o (by omega))).mono ?_;rintro e w2 ⟨vo,c',rfl,ho,hm,Z⟩;obtain⟨δ,γ,rfl⟩:=aj ho;have H2:=av ((H1.out.ext Z).swap (aB ho H1.out.size));have Ξ:Hid (Uni l (j+1) 0 c'):=J.out.2.1.step o (by rw[Q.out.1];exact hm);have HG2:=av (bJ Z τ.out);have ψ:decide (0< (x.T 0).length)=hasB x 1:=(by unfold hasB;simp);clear Z ho hm p8 φ;go_wp2_with fail
        go_loopw [11,14] (λsm i wr=>∃(k:Nat) (G':Nat->Value) (B:Nat->List Nat),k<=3/\i=.int .i64 k/\sm=.bool (hasB x (1+k))/\OwI w #[.slice ca m.n cc,.slice ra m.r rc,.int .i64 m.p] G' B c' (.slice δ c'.length γ) wr/\wr.heap[t.heap.size]? =some (.cells #[.slice (x.A 0) (x.T 0).length (x.C 0),.slice (x.A 1) (x.T 1).length (x.C 1),.slice (x.A 2) (x.T 2).length (x.C 2),.slice (x.A 3) (x.T 3).length (x.C 3)] 41 (0,0))/\∀q,q<3->Uni l (if q<k then j+1 else j) (1+q) (B q)) (λ_ i _=>3-(intOf i).toNat)
        case atStart=>exact⟨0,G,L,by omega,rfl,rfl,H2.out,HG2.out,λq s=>by rw[if_neg (by omega)];exact J.out.2.2 q s⟩
        case round=>
         obtain⟨k,G',B,hk,rfl,rfl,hO,hg,f⟩:=hrel
         by_cases F:k<3
         .have kn:(k:Int)<3:=by omega
          obtain⟨gk,ck,ek⟩:=aj (hO.rows k F);have U:=av (aaa hO (aaa hg f));have ζ:=blk hg;have ε:=blk hO.b1;have y1:wr.cell? ⟨t.heap.size,1+k,none⟩=some (.slice (x.A (1+k)) (x.T (1+k)).length (x.C (1+k))):=(by rw[ζ.1];exact nZ (λq=>.slice (x.A q) (x.T q).length (x.C q)) (by omega));have y2:wr.cell? ⟨w.heap.size+1,k,none⟩=some (.slice gk (B k).length ck):=(by rw[ε.1,oJ G' F,ek]);have Y:=av (aaa y1 y2);clear hO hg f ζ ε;go_wp2_with fail;refine(ο.out wr x (1+k) 16 (by omega) E U.out.1.below (by rw[if_neg (by omega)])).mono ?_;rintro e w3 ⟨rfl,z⟩;have H3:=av (aaa (U.out.1.ext z) (aaa (bJ z U.out.2.1) z));have S0:SO2 w3 ⟨t.heap.size,1+k,none⟩ (.slice (x.A (1+k)) (x.T (1+k)).length (x.C (1+k))) ⟨w.heap.size+1,k,none⟩ (.slice gk (B k).length ck) w3:=⟨keeps z Y.out.1,keeps z Y.out.2,aab _ _⟩
          have Ω:Hid (∀u,SO2 w3 ⟨t.heap.size,1+k,none⟩ (.slice (x.A (1+k)) (x.T (1+k)).length (x.C (1+k))) ⟨w.heap.size+1,k,none⟩ (.slice gk (B k).length ck) u->adO 49 #[.slice gk (B k).length ck,.slice (x.A (1+k)) (x.T (1+k)).length (x.C (1+k))] u λe w'=>∃vo l',e=.returned (.tuple #[vo,.bool true])/\w'.ownsRow w3.heap.size 3 1 vo l'.length (aT l')/\acT (B k) (x.T (1+k)) l'/\adN u w'):=λu hu=>by
           have s:=U.out.2.2 k F;rw[if_neg (aby k)]at s;refine(ρ.out u _ (B k) (w.heap.size+2) x (1+k) (by omega) E (ai H3.out.1.below hu.2.2) (by rw[<-ek];exact au (H3.out.1.rows k F) hu.2.2) s.1 (s.qF d.out.2.1 f2 (by omega)) (by rw[<-Q.out.1];exact s.apart d.out.2.1 o (by omega))).mono ?_;rintro e w' ⟨vo,l',rfl,h1,h2,h3⟩;exact⟨vo,l',rfl,aB h1 hu.2.2.size,h2,h3⟩
          have Φ:=av S0;have kk:(k:Int)<3:=(by omega);clear z y1 y2 S0;go_wp2_with fail
          go_region_held3(SO2 w3 ⟨t.heap.size,1+k,none⟩ (.slice (x.A (1+k)) (x.T (1+k)).length (x.C (1+k))) ⟨w.heap.size+1,k,none⟩ (.slice gk (B k).length ck)) (with_reducible (first|exact acg Φ.out|exact acn (by assumption) (by assumption)))
           (first|(go_at_call 49;refine(Ω.out _ (by assumption)).mono ?_;rintro e w4 ⟨vo4,d4,rfl,X,η,Δ⟩;obtain⟨N,M,rfl⟩:=aj X))
          all_goals
           rename_i Q5 K4 ν I;simp only[Exit.then];refine ν _ _ ?_;clear ν;have H4:Hid (OwI w #[.slice ca m.n cc,.slice ra m.r rc,.int .i64 m.p] (Ta G' k (.slice N d4.length M)) (OI B k d4) c' (.slice δ c'.length γ) (w4.setCell ⟨w.heap.size+1,k,none⟩ (.slice N d4.length M))):=H3.out.1.put F I.2.2 X;have K:Hid ((w4.setCell ⟨w.heap.size+1,k,none⟩ (.slice N d4.length M)).heap[t.heap.size]? =some (.cells #[.slice (x.A 0) (x.T 0).length (x.C 0),.slice (x.A 1) (x.T 1).length (x.C 1),.slice (x.A 2) (x.T 2).length (x.C 2),.slice (x.A 3) (x.T 3).length (x.C 3)] 41 (0,0))):=dP _ (bJ I.2.2 H3.out.2.1) (by show t.heap.size≠w.heap.size+1;have:=J.out.1.size;omega);have σ:=av η;have z1:=I.2.1;have z1f:w4.frozen? ⟨w.heap.size+1,k,none⟩=false:=(blk (H3.out.1.ext I.2.2).b1).2 k;have z2:(w4.setCell ⟨w.heap.size+1,k,none⟩ (.slice N d4.length M)).cell? ⟨t.heap.size,1+k,none⟩=some (.slice (x.A (1+k)) (x.T (1+k)).length (x.C (1+k))):=(by rw[(blk K.out).1];exact nZ (λq=>.slice (x.A q) (x.T q).length (x.C q)) (by omega))
           have R:Hid (∀q,q<3->Uni l (if q<k+1 then j+1 else j) (1+q) (OI B k d4 q)):=λq s=>by
            unfold OI;have f:=U.out.2.2 q s
            by_cases e:q=k
            .subst e
             rw[if_pos rfl,if_pos (Z4 _)];rw[if_neg (aby _)]at f;exact f.step o (by rw[Q.out.1];exact σ.out)
            .rw[if_neg e]
             by_cases e2:q<k
             .rw[if_pos (by omega)];rw[if_pos e2]at f;exact f
             .rw[if_neg (by omega)];rw[if_neg e2]at f;exact f
           have hd:(x.T (1+k)).length>0->d4.length>0:=λh=>by
            obtain⟨y,hy⟩:=List.exists_mem_of_length_pos h;exact List.length_pos_of_mem ((σ.out.2 y).2 (.inr hy))
           clear X η Δ I;have b:=aca x (1+k);cases hs:hasB x (1+k)with
           |true=>
            rw[hs]at b;go_wp2_with fail;go_roundw
            case rel=>exact⟨k+1,_,_,by omega,by go_num,by rw[<-Nat.add_assoc,b];rfl,H4.out,K.out,R.out⟩
            case measure=>simp[intOf];omega
           |false=>
            rw[hs]at b
            by_cases ω:d4.length>0
            .have ι:(d4.length:Int)>0:=by omega
             by_cases O:(x.T (1+k)).length>0
             .have θ:((x.T (1+k)).length:Int)>0:=by omega
              go_wp2_with fail;go_roundw
              case rel=>exact⟨k+1,_,_,by omega,by go_num,by rw[<-Nat.add_assoc,b,ady O];rfl,H4.out,K.out,R.out⟩
              case measure=>simp[intOf];omega
             .have θ:¬((x.T (1+k)).length:Int)>0:=by omega
              go_wp2_with fail;go_roundw
              case rel=>exact⟨k+1,_,_,by omega,by go_num,by rw[<-Nat.add_assoc,b,adg O];rfl,H4.out,K.out,R.out⟩
              case measure=>simp[intOf];omega
            .have ι:¬(d4.length:Int)>0:=by omega
             have O:¬(x.T (1+k)).length>0:=λh=>ω (hd h)
             go_wp2_with fail;go_roundw
             case rel=>exact⟨k+1,_,_,by omega,by go_num,by rw[<-Nat.add_assoc,b,adg O];rfl,H4.out,K.out,R.out⟩
             case measure=>simp[intOf];omega
         .have kn:¬(k:Int)<3:=by omega
          obtain rfl:k=3:=(by omega);have hh:hasB x (1+3)=true:=acb (d.out.2.1.box x E);have U:=av (aaa hO f);clear hO f;rw[hh];go_wp2_with fail;go_roundw
          case rel=>exact⟨j+1,G',B,c',by have:=HJ.out;omega,by go_num,U.out.1,Ξ.out,λq s=>by have:=U.out.2 q s;rw[if_pos s]at this;exact this⟩
          case measure=>simp[intOf];have:=HJ.out;omega
  .have jn:¬(j:Int)<l.length:=by omega
   obtain rfl:j=l.length:=(by omega);obtain⟨r1,r2,r3,r4⟩:=aaS d.out.2.2.ok.2.2.2.1;obtain⟨q0,V⟩:=blk S.b0
   have Ψ:=av (aaD (.slice va c.length β) (.slice ra m.r rc) c (aaP m) t (.own S.dA) (aas.ext (show aas w (.slice ra m.r rc) (aaP m)from .own (by rw[r1,r2];exact d.out.2.2.res)) S.below) hU.1 r3 (λx hx hr=>by
        obtain⟨y,hy,χ⟩:=(hU.2 x).1 hx;have:=((d.out.2.1.box y (List.mem_of_mem_take hy)).2.2.2 0 (by omega)).2 x χ;rw[if_pos rfl]at this;exact this.2 ((r4 x).1 hr)) (by have:=hU.qF d.out.2.1 f2 (show 0<4 by omega);omega) (by rw[r2];omega))
   have acA:(l.length:Int)<=12:=(by omega);clear S hU α r1 r2 r3 r4;go_wp2_with fail;refine Ψ.out.mono ?_;rintro e w1 ⟨vo,l',rfl,_,_,H⟩;have H1:=av (ai J.out.1.below H);clear H q0 V;go_wp2_with fail;go_ret;exact⟨rfl,H1.out⟩
def abO {D:BD}{r i:Nat}:i∈gq D r↔i∈dL D r/\¬CE D r i:=by
 refine⟨aaG,λh=>?_⟩;unfold gq kept;exact adp.2 ⟨h.1,by simpa using h.2⟩
def aaQ {s:BS}{l:List fH}(b:l5 s.bs l){q:Nat}(d:q<4)(x:Nat):CE s.D q x↔∃y∈l,x∈y.T q:=by
 constructor
 .intro h
  obtain⟨y,hy,hx⟩:=ack h;obtain⟨i,c,rfl⟩:=ado.1 hy;have a:i<l.length:=by have:=b.1;omega
  exact⟨_,acY a,by rw[<-(b.2 i c a).2 q d];exact hx⟩
 .rintro⟨y,hy,hx⟩
  obtain⟨i,c,rfl⟩:=ado.1 hy;have a:i<s.bs.length:=by have:=b.1;omega
  exact abN (acY a) (by rw[(b.2 i a c).2 q d];exact hx)
def Gat (s:BS)(l:List fH)(i:Nat)(c:List Nat):Prop:=c.Pairwise (· < ·)/\∀x,x∈c↔(x∈gq s.D 0\/x∈aaP s.m)\/∃y∈l.take i,x∈y.T 0
def acu {s:BS}{x:Nat}:x∈dL s.D 0↔x<s.m.n/\¬among s.m.R s.m.r (x:Int):=by
 unfold dL bS;rw[if_pos rfl,adp,Z9];have:=lz (OC s.D 0) x;constructor
 .rintro⟨b,a⟩
  refine⟨b,λd=>?_⟩;rw[this.2 d]at a;cases a
 .rintro⟨b,a⟩
  refine⟨b,?_⟩;cases c:lY (OC s.D 0) x
  .rfl
  .exact absurd (this.1 c) a
def Gat.start {s:BS}{l:List fH}{c:List Nat}(h:acT (gq s.D 0) (aaP s.m) c):Gat s l 0 c:=⟨h.1,λx=>by rw[h.2];simp⟩
def Gat.step {s:BS}{l:List fH}{i:Nat}{c c':List Nat}(h:Gat s l i c)(a:i<l.length)(hm:acT c (l[i].T 0) c'):Gat s l (i+1) c':=⟨hm.1,λx=>by
 rw[hm.2,h.2];constructor
 .rintro((hx|⟨y,hy,hx⟩)|hx)
  .exact .inl hx
  .exact .inr ⟨y,(aat a y).2 (.inl hy),hx⟩
  .exact .inr ⟨_,(aat a _).2 (.inr rfl),hx⟩
 .rintro(hx|⟨y,hy,hx⟩)
  .exact .inl (.inl hx)
  .rcases(aat a y).1 hy with hy|rfl
   .exact .inl (.inr ⟨y,hy,hx⟩)
   .exact .inr hx⟩
def Gat.lt {s:BS}{l:List fH}{i:Nat}{c:List Nat}(h:Gat s l i c)(hf:aay s.m l)(a:o7 s.m.n s.m.R s.m.r):∀x∈c,x<s.m.n:=λx hx=>by
 rcases(h.2 x).1 hx with(hx|hx)|⟨y,hy,hx⟩
 .exact(acu.1 (aaG hx).1).1
 .obtain⟨k,b,e⟩:=((aaS a).2.2.2 x).1 hx
  have:=(a k b).2.1;omega
 .have:=((hf.box y (List.mem_of_mem_take hy)).2.2.2 0 (by omega)).2 x hx
  rw[if_pos rfl]at this;exact this.1
def Gat.apart {s:BS}{l:List fH}{i:Nat}{c:List Nat}(h:Gat s l i c)(hf:aay s.m l)(f:o7 s.m.n s.m.R s.m.r)(k:l5 s.bs l)(d:i<l.length):∀x∈c,x∉l[i].T 0:=λx hx e=>by
 rcases(h.2 x).1 hx with(hx|hx)|⟨y,hy,a⟩
 .exact(aaG hx).2 ((aaQ k (by omega) x).2 ⟨_,acY d,e⟩)
 .have:=((hf.box _ (acY d)).2.2.2 0 (by omega)).2 x e
  rw[if_pos rfl]at this;exact this.2 (((aaS f).2.2.2 x).1 hx)
 .obtain⟨j,g,rfl⟩:=ado.1 hy
  rw[List.getElem_take]at a;have b:j<i:=by simp at g;omega
  exact adk.1 hf.apart j i (by omega) d b 0 (by omega) x a e
def Gat.all {s:BS}{l:List fH}{c:List Nat}(h:Gat s l l.length c)(hf:aay s.m l)(a:o7 s.m.n s.m.R s.m.r)(e:l5 s.bs l):c.length=s.m.n:=by
 refine abX h.1 λx=>⟨h.lt hf a x,λhx=>(h.2 x).2 ?_⟩
 by_cases d:among s.m.R s.m.r (x:Int)
 .exact .inl (.inr (((aaS a).2.2.2 x).2 d))
 .by_cases b:CE s.D 0 x
  .obtain⟨y,hy,hx⟩:=(aaQ e (by omega) x).1 b
   exact .inr ⟨y,by rw[List.take_length];exact hy,hx⟩
  .exact .inl (.inl (abO.2 ⟨acu.2 ⟨hx,d⟩,b⟩))
def y5 (D:BD)(k i:Nat):List Nat:= @kept (λx=>CE D (1+k) x) (MP D (1+k)) (dX D k i)
def ab5 {D:BD}{k i:Nat}(h:D.dH k i=true)(a:¬CE D (1+k) i):y5 D k (i+1)=y5 D k i++[i]:=by
 unfold y5;rw[Bp,if_pos h];unfold kept;rw[aaj];simp[a]
def abW {D:BD}{k i:Nat}(h:D.dH k i=false\/CE D (1+k) i):y5 D k (i+1)=y5 D k i:=by
 unfold y5;rw[Bp]
 by_cases a:D.dH k i=true
 .have b:CE D (1+k) i:=h.resolve_left (by rw[a];exact Bool.noConfusion)
  rw[if_pos a];unfold kept;rw[aaj];simp[b]
 .rw[if_neg a]
def ab6 (D:BD)(k:Nat):y5 D k (D.dn k)=gq D (1+k):=by
 unfold y5 gq dL dX;rw[if_neg (by omega),ada]
def ab4 (D:BD)(k i:Nat):(y5 D k i).length<=i:=ZP (by unfold y5 kept;exact aai _ _) (FM D k i)
structure PaI (w:World)(mc lc gc:Array Value)(wr:World):Prop where
 b0:wr.heap[w.heap.size]? =some (.cells mc 25 (0,0))
 b1:wr.heap[w.heap.size+1]? =some (.cells lc 34 (0,0))
 b2:wr.heap[w.heap.size+1+1]? =some (.cells gc 41 (0,0))
 below:adN w wr
def PaI.ext {w wr w2:World}{mc lc gc:Array Value}(h:PaI w mc lc gc wr)(hb:adN wr w2):PaI w mc lc gc w2:=⟨bJ hb h.b0,bJ hb h.b1,bJ hb h.b2,ai h.below hb⟩
def ab2 (v:Value)(l:List Nat)(x:Nat)(w:World)(h:aas w v l)(c:l.length<=1000000):
 adO 44 #[v,.int .i64 x] w λe w'=>lg (x∈l) e/\w'=w:=by
 obtain⟨ao,cap,rfl,_⟩:=id h;refine(Ps ao l.length cap _ x w h c).mono λe w' hA=>⟨let ⟨r,e,b⟩:=hA.1;⟨r,e,b.trans ?_⟩,hA.2⟩
 constructor
 .rintro⟨i,a,e⟩
  rw[getD_at a]at e;have:l[i]=x:=by omega
  rw[<-this];exact acY a
 .intro hx
  obtain⟨i,a,rfl⟩:=ado.1 hx;exact⟨i,a,by rw[getD_at a]⟩
def aaL (m:cz)(Z ra:Option Addr)(Y rc base base2:Nat)(s:BS)(d:Nat->Value)(v:Value)(l:List fH)(A:Nat->Option Addr)(C:Nat->Nat)(w:World)(h:kX w base m (.slice Z m.n Y) (.slice ra m.r rc))(hd:∀k,k<3->w.ownsRow base2 75 2 (d k) (s.dn k) (rO s k))(hs:s.m=m)(K:s.ok)(hf:s.fine)
 (hB:aau w v l)(W:l5 s.bs l)(hG:aaB w A C (gq s.D)):
 adO 20 #[.agg #[.slice Z m.n Y,.slice ra m.r rc,.int .i64 m.p],.agg #[d 0,d 1,d 2],v,aaI A C (gq s.D)] w λe w'=>e=.returned (.bool true)/\adN w w':=by
 obtain⟨i1,ξ,κ,ι,θ⟩:=info_parts Tryz.gQ;have ν:=((ax ae prog 23).trans underlying23);subst hs;obtain⟨f1,f2,f3⟩:=h.qF;have f:aay s.m l:=hf.l.alike W;have hlen:l.length<=12:=by have:=W.1;have:=K.many;omega
 have hr:=h.ok.2.2.2.1;obtain⟨r1,r2,r3,r4⟩:=aaS hr;obtain⟨ao,cap,rfl⟩:=hB.len;obtain⟨a0,k0,e0⟩:=aj (hd 0 (by omega));obtain⟨a1,k1,e1⟩:=aj (hd 1 (by omega));obtain⟨a2,k2,e2⟩:=aj (hd 2 (by omega));have N:∀q,q<4->(gq s.D q).length<=24:=λq hq=>mi K.d hq
 have HR:Hid (aas w (.slice ra s.m.r rc) (aaP s.m)):=.own (by rw[r1,r2];exact h.res)
 have τ:Hid (∀u,adN w u->adO 49 #[.slice (A 0) (gq s.D 0).length (C 0),.slice ra s.m.r rc] u λe w'=>∃vo l',e=.returned (.tuple #[vo,.bool true])/\w'.ownsRow u.heap.size 3 1 vo l'.length (aT l')/\acT (gq s.D 0) (aaP s.m) l'/\adN u w'):=λu hu=>
  aaD _ _ (gq s.D 0) (aaP s.m) u ((hG 0 (by omega)).ext hu) (HR.out.ext hu) (II s.D 0) r3 (λx hx μ=>(acu.1 (aaG hx).1).2 ((r4 x).1 μ)) (by have:=N 0 (by omega);omega) (by rw[r2];omega)
 have σ:Hid (∀u (c:List Nat) vc (j:Nat) (R:j<l.length),adN w u->aas u vc c->Gat s l j c->adO 49 #[vc,.slice (l[j].A 0) (l[j].T 0).length (l[j].C 0)] u λe w'=>∃vo l',e=.returned (.tuple #[vo,.bool true])/\w'.ownsRow u.heap.size 3 1 vo l'.length (aT l')/\acT c (l[j].T 0) l'/\adN u w'):=λu c vc j R hu hc I=>
  aaD vc _ c (l[j].T 0) u hc ((hB.rows _ (acY R) 0 (by omega)).ext hu) I.1 ((f.box _ (acY R)).2.2.2 0 (by omega)).1 (I.apart f hr W R) (by have:=aaO I.1 (λx hx=>by have:=I.lt f hr x hx;omega);omega) (by have:=f.qF f2 (acY R) (show 0<4 by omega);omega)
 have ζ:Hid (∀c,Gat s l l.length c->c.length=s.m.n):=λc hc=>hc.all f hr W
 have HB:=av hB;have HD:=av (aaa hd K);have HO:Hid (∀k,k<3->∀x:Nat,CE s.D (1+k) x↔∃y∈l,x∈y.T (1+k)):=λk hk x=>aaQ W (by omega) x
 have φ:=av hG;have ε:=av (aaa f f2);clear hd hG hB h K hf W f hr r1 r2 r3 r4 N;unfold aaI;rw[e0,e1,e2]
 go_enter (pf func20 (by rfl)),ntmps20
 go_wp2_with fail;obtain⟨W0,U⟩:∃W0,W0=((w.alloc (.cells #[.slice Z s.m.n Y,.slice ra s.m.r rc,.int .i64 s.m.p] 25)).alloc (.cells #[.slice a0 (s.dn 0) k0,.slice a1 (s.dn 1) k1,.slice a2 (s.dn 2) k2] 34)).alloc (.cells #[.slice (A 0) (gq s.D 0).length (C 0),.slice (A 1) (gq s.D 1).length (C 1),.slice (A 2) (gq s.D 2).length (C 2),.slice (A 3) (gq s.D 3).length (C 3)] 41):=⟨_,rfl⟩
 have H0:Hid (PaI w #[.slice Z s.m.n Y,.slice ra s.m.r rc,.int .i64 s.m.p] #[.slice a0 (s.dn 0) k0,.slice a1 (s.dn 1) k1,.slice a2 (s.dn 2) k2] #[.slice (A 0) (gq s.D 0).length (C 0),.slice (A 1) (gq s.D 1).length (C 1),.slice (A 2) (gq s.D 2).length (C 2),.slice (A 3) (gq s.D 3).length (C 3)] W0):=by
  rw[U];exact⟨kR _ _ _ _,kQ _ _ _ _,kP _ _ _ _,(((aab _ _).alloc (ZL _) _).alloc (by simp) _).alloc (by simp;omega) _⟩
 rw[<-U];clear U;refine(τ.out W0 H0.out.below).mono ?_;rintro e w1 ⟨vo,c1,rfl,z,hm,F⟩;obtain⟨va,vc,rfl⟩:=aj z;have H1:=av (aaa (H0.out.ext F) (aaa (aas.own z) (Gat.start (l:=l) hm)));clear z hm F;go_wp2_with fail
 go_loopw [9,10,11] (λvc ok i wr=>∃(j:Nat) (c:List Nat),j<=l.length/\i=.int .i64 j/\ok=.bool true/\PaI w #[.slice Z s.m.n Y,.slice ra s.m.r rc,.int .i64 s.m.p] #[.slice a0 (s.dn 0) k0,.slice a1 (s.dn 1) k1,.slice a2 (s.dn 2) k2] #[.slice (A 0) (gq s.D 0).length (C 0),.slice (A 1) (gq s.D 1).length (C 1),.slice (A 2) (gq s.D 2).length (C 2),.slice (A 3) (gq s.D 3).length (C 3)] wr/\aas wr vc c/\Gat s l j c) (λ_ _ i _=>l.length-(intOf i).toNat)
 case atStart=>exact⟨0,c1,adl _,rfl,rfl,H1.out.1,H1.out.2.1,H1.out.2.2⟩
 case round=>
  obtain⟨j,c,R,rfl,rfl,L,hc,I⟩:=hrel;obtain⟨Γ,ψ,rfl,_⟩:=id hc;have HI:=av (aaa L (aaa hc I))
  by_cases G:j<l.length
  .have jn:(j:Int)<l.length:=by omega
   obtain⟨g,P,e,c0,d0,d1,d2,d3⟩:=(HB.out.below L.below).cells G;cases e;have ρ:=av (σ.out wr c _ j G L.below hc I);have V:=av (λc'=>I.step (c':=c') G);generalize hx:l[j]=x at*;clear L hc I;go_wp2_with fail;refine ρ.out.mono ?_;rintro e w2 ⟨vo,c',rfl,z,hm,J⟩;obtain⟨ω,α,rfl⟩:=aj z;have H2:=av (aaa (HI.out.1.ext J) (aaa (aas.own z) (V.out c' hm)));clear z hm J c0 d0 d1 d2 d3;go_wp2_with fail;go_roundw
   case rel=>exact⟨j+1,c',by omega,by go_num,rfl,H2.out.1,H2.out.2.1,H2.out.2.2⟩
   case measure=>simp[intOf];omega
  .have jn:¬(j:Int)<l.length:=by omega
   obtain rfl:j=l.length:=(by omega);have ο:=ζ.out c I;have χ:((c.length:Int) !=(s.m.n:Int))=false:=(by rw[ο];simp);obtain⟨q0,η⟩:=blk L.b0;clear L hc I;go_wp2_with fail;clear q0 η
   go_loopw [14] (λi wr=>∃k:Nat,k<=3/\i=.int .i64 k/\PaI w #[.slice Z s.m.n Y,.slice ra s.m.r rc,.int .i64 s.m.p] #[.slice a0 (s.dn 0) k0,.slice a1 (s.dn 1) k1,.slice a2 (s.dn 2) k2] #[.slice (A 0) (gq s.D 0).length (C 0),.slice (A 1) (gq s.D 1).length (C 1),.slice (A 2) (gq s.D 2).length (C 2),.slice (A 3) (gq s.D 3).length (C 3)] wr) (λi _=>3-(intOf i).toNat)
   case atStart=>exact⟨0,by omega,rfl,HI.out.1⟩
   case round=>
        obtain⟨k,hk,rfl,L⟩:=hrel;have HK:=av L;clear L
        by_cases B:k<3
        .have kn:(k:Int)<3:=by omega
         have Ξ:s.dn k<=16:=(HD.out.2.d.dC k B).1;go_wp2_with fail
         rename World=>M
         go_loopw [15,16] (λvo i wr=>∃x:Nat,x<=s.dn k/\i=.int .i64 x/\wr.ownsRow M.heap.size 3 1 vo (y5 s.D k x).length (aT (y5 s.D k x))/\adN M wr) (λ_ i _=>s.dn k-(intOf i).toNat)
         case atStart=>exact⟨0,adl _,rfl,by rw[show y5 s.D k 0=[]from rfl];exact aag _ _ _ _,aab _ _⟩
         case round=>
          obtain⟨x,hx,rfl,a,S⟩:=hrel;obtain⟨vo,α,rfl⟩:=aj a;have t:=av (aaa a S);have X:=HK.out.ext S;have HP:=av X;have F:=blk X.b1;rw[<-e0,<-e1,<-e2]at F;obtain⟨ak,ck,ek⟩:=aj (HD.out.1 k B);have x0:wr.cell? ⟨w.heap.size+1,k,none⟩=some (.slice ak (s.dn k) ck):=(by rw[F.1,oJ d B,ek]);clear F a S
          by_cases G:x<s.dn k
          .have xn:(x:Int)<s.dn k:=by omega
           obtain⟨Φ,P,e',r1,_,r3,_⟩:=dV (HD.out.1 k B);rw[ek]at e';cases e';obtain⟨g,rfl,Θ,_,γ⟩:=r3 (by omega);have y2:=(yN γ G).2
           have y3:wr.cell? ⟨g,x*2+1,none⟩=some (.bool (s.dH k x)):=by
            rw[show(⟨g,x*2+1,none⟩:Addr)=⟨g,0+2*x+1,none⟩ by rw[Z8,Nat.mul_comm]];exact keeps X.below y2
           clear r1 r3 γ y2 X;go_wp2_with fail
           go_loop [17,18] (λow i=>∃(j:Nat) (o:Bool),j<=l.length/\i=.int .i64 j/\ow=.bool o/\Hid (o=true↔(s.dH k x=false\/∃y∈l.take j,x∈y.T (1+k)))) (λ_ i=>l.length-(intOf i).toNat)
           case atStart=>exact⟨0, !s.dH k x,adl _,rfl,rfl,av (by simp)⟩
           case round=>
            obtain⟨j,o,R,rfl,rfl,z⟩:=hrel
            by_cases E:j<l.length
            .have jn:(j:Int)<l.length:=by omega
             obtain⟨g',P,e,c0,d0,d1,d2,d3⟩:=(HB.out.below HP.out.below).cells E;cases e
             have z1:wr.cell? ⟨g',j*5+1+1+k,none⟩=some (.slice (l[j].A (1+k)) (l[j].T (1+k)).length (l[j].C (1+k))):=by
                 obtain rfl|rfl|rfl:k=0\/k=1\/k=2:=by omega
                 .exact d1
                 .exact d2
                 .exact d3
             have υ:=av (ab2 _ _ x wr ((HB.out.below HP.out.below).rows _ (acY E) (1+k) (by omega)) (by have:=ε.out.1.qF ε.out.2 (acY E) (show 1+k<4 by omega);omega))
             have V:Hid (∀b:Bool,(b=true↔(o=true\/x∈l[j].T (1+k)))->Hid (b=true↔(s.dH k x=false\/∃y∈l.take (j+1),x∈y.T (1+k)))):=λb hb=>hb.trans (by
                 rw[z.out];constructor
                 .rintro((h|⟨y,hy,h⟩)|h)
                  .exact .inl h
                  .exact .inr ⟨y,(aat E y).2 (.inl hy),h⟩
                  .exact .inr ⟨_,(aat E _).2 (.inr rfl),h⟩
                 .rintro(h|⟨y,hy,h⟩)
                  .exact .inl (.inl h)
                  .rcases(aat E y).1 hy with hy|rfl
                   .exact .inl (.inr ⟨y,hy,h⟩)
                   .exact .inr h)
             clear c0 d0 d1 d2 d3;go_wp2_with fail;refine υ.out.mono ?_;rintro e w6 ⟨O,hw⟩;obtain rfl:=hw.symm;rcases O.cases with⟨β,rfl⟩|⟨β,rfl⟩
             all_goals clear O
             all_goals cases o
             all_goals go_wp2_with fail
             all_goals go_round
             all_goals first|exact⟨j+1,_,by omega,by go_num,rfl,V.out _ (by simp[β])⟩|(simp[intOf];omega)
            .have jn:¬(j:Int)<l.length:=by omega
             obtain rfl:j=l.length:=(by omega);rw[List.take_length]at z;cases o with
             |true=>
              have HW:Hid (y5 s.D k (x+1)=y5 s.D k x):=abW ((z.out.1 rfl).imp id λh=>(HO.out k B x).2 h);clear z;go_wp2_with fail;go_roundw
              case rel=>exact⟨x+1,by omega,by go_num,by rw[HW.out];exact t.out.1,t.out.2⟩
              case measure=>simp[intOf];omega
             |false=>
              have Q:¬(s.dH k x=false\/∃y∈l,x∈y.T (1+k)):=λh=>Bool.noConfusion (z.out.2 h)
              have HW:Hid (y5 s.D k (x+1)=y5 s.D k x++[x]):=ab5 (show s.dH k x=true by have:¬s.dH k x=false:=λh=>Q (.inl h);simpa using this) (λh=>Q (.inr ((HO.out k B x).1 h)));have Δ:(y5 s.D k x).length<=x:=ab4 _ _ _;have hz:M.heap.size<=wr.heap.size:=t.out.2.size;clear z Q;go_wp2_with(at_builtin;refine adJ _ rfl _ _ _ rfl M.heap.size 3 i1 _ 1 8 ν ξ κ ι θ rfl (by omega) _ (y5 s.D k x).length (aT (y5 s.D k x)) rfl (t.out.1.alloc _) ⟨wr.heap.size,0,none⟩ 1 1 [.int .i64 (x:Nat)] rfl rfl (adM _ _ _) (by intro u hu;simp at hu;subst hu;rfl) (by unfold maxLen;omega) (by omega) (by simp;omega) ?_;intro v' w6 a H _)
              have HN:Hid (w6.ownsRow M.heap.size 3 1 v' (y5 s.D k (x+1)).length (aT (y5 s.D k (x+1)))/\adN M w6):=by
                  rw[HW.out];exact⟨by simpa[aT] using a,(t.out.2.alloc (by simpa using hz) _).grown H (by simp;omega) (λq hq=>(t.out.1.lt q hq).1)⟩
              clear a H;go_wp2_with(first|(go_at_call 102;go_enter (pf func102 (by rfl)),ntmps102)|(go_at_call 65;go_enter (pf func65 (by rfl)),ntmps65));go_roundw
              case rel=>exact⟨x+1,by omega,by go_num,HN.out.1,HN.out.2⟩
              case measure=>simp[intOf];omega
          .have xn:¬(x:Int)<s.dn k:=by omega
           obtain rfl:x=s.dn k:=(by omega);have J:=blk X.b2;have x2:wr.cell? ⟨w.heap.size+1+1,1+k,none⟩=some (.slice (A (1+k)) (gq s.D (1+k)).length (C (1+k))):=(by rw[J.1];exact nZ (λq=>.slice (A q) (gq s.D q).length (C q)) (by omega));have HS:Hid (adO 50 #[.slice vo (y5 s.D k (s.dn k)).length α,.slice (A (1+k)) (gq s.D (1+k)).length (C (1+k))] wr λe w'=>e=.returned (.bool true)/\adN wr w'):=(aaw _ _ _ _ _ _ wr (aas.own t.out.1) ((φ.out (1+k) (by omega)).ext HP.out.below)).mono λe w' hA=>⟨hA.1.fP (aaN.2 (ab6 s.D k)),hA.2⟩
           clear X J;go_wp2_with fail;refine HS.out.mono ?_;rintro e w6 ⟨rfl,δ⟩;have HN:=av (HP.out.ext δ);clear δ;go_wp2_with fail;go_roundw
           case rel=>exact⟨k+1,by omega,by go_num,HN.out⟩
           case measure=>simp[intOf];omega
        .have kn:¬(k:Int)<3:=by omega
         go_wp2_with fail;go_ret;exact⟨rfl,HK.out.below⟩
def ab0 {c:Nat->Int}(h:∀i,i<4->0<=c i/\c i<=A7 i)(b:∃q,q<4/\0<c q):qo c=true:=by
 unfold qo;rw[ZQ];refine⟨@decide_eq_true _ (Ut c 4) h,?_⟩;obtain⟨q,a,hc⟩:=b;unfold BC;rw[adE];exact⟨q,Z9.2 a,ady hc⟩
def acs {a b:ByteArray}(h:Dv a b=0):a=b:=by
 obtain⟨⟨l⟩⟩:=a;obtain⟨⟨k⟩⟩:=b;have:l=k:=abQ h;rw[this]
def abv {s:BS}{nm:ByteArray}(h:∀x∈s.bs,x.nm≠nm):¬there s nm:=by
 rintro⟨p,hp⟩;obtain⟨b,a⟩:=hp.2.2.2.1 rfl;rw[M4 b]at a;exact h _ (acY b) (acs a)
def abY {l:List fH}{p q:Nat}{t:Bool}(h:l.Pairwise aaz)(hp:p<l.length)(hf:jw l.length (mU l) l[p].nm q t):q=p/\t=true:=by
 obtain⟨n,m,k,j⟩:=hf;have f:=adk.1 h;have self:∀x:fH,Dv x.nm x.nm=0:=λx=>acf _
 have e:q=p:=by
  rcases Nat.lt_trichotomy q p with g|e|g
  .have a:=k (by omega)
   rw[M4 (show q<l.length by omega)]at a;have b:Dv l[q].nm l[p].nm<0:=f q p (by omega) hp g;omega
  .exact e
  .have i:q-1<l.length:=by omega
   have a:=m (by omega);rw[M4 i]at a
   by_cases e:q-1=p
   .subst e
    have:=self l[q-1];omega
   .have b:aaz l[p] l[q-1]:=f p (q-1) hp i (by omega)
    have c:aaz l[p] l[p]:=b.trans a;have d:Dv l[p].nm l[p].nm<0:=c;have:=self l[p];omega
 subst e;exact⟨rfl,j.2 ⟨hp,by rw[M4 hp];exact self _⟩⟩
def acw {l:List fH}{p:Nat}{x:fH}(hp:p<=l.length):∃h:p< (l.take p++x::l.drop p).length,(l.take p++x::l.drop p)[p]=x:=by
 have hl:(l.take p).length=p:=by rw[adh];omega
 refine⟨by simp;omega,?_⟩;rw[List.getElem_append_right (by omega)];simp[hl]
def acr {l:List fH}{p:Nat}{x:fH}(hp:p<=l.length):(l.take p++x::l.drop p).eraseIdx p=l:=by
 have hl:(l.take p).length=p:=by rw[adh];omega
 rw[List.eraseIdx_append_of_length_le (by omega),hl,Nat.sub_self,List.eraseIdx_cons_zero,List.take_append_drop]
def abL {s s1 s':BS}{p:Nat}{x:fH}{r:Value}(h:qD s1 x.nm r s')(hb:s1.bs=(s.ins p x).bs)(hp:p<=s.bs.length)(hf:¬s1.jQ)(f:s1.fine):r=.int .i64 0/\s'=s1.written s.bs:=by
 obtain⟨c,i⟩:=acw (x:=x) hp
 have key:∀q t,jw s1.bs.length (mU s1.bs) x.nm q t->q=p/\t=true:=λq t a=>by
  have b:p<s1.bs.length:=by rw[hb];exact c
  have d:s1.bs[p]=x:=by
   have:s1.bs[p]? =some x:=(by rw[hb];exact(ZZ.2 ⟨c,i⟩));obtain⟨_,e⟩:=ZZ.1 this;exact e
  exact abY f.aaR b (by rw[d];exact a)
 rcases h with⟨⟨q,a⟩,_⟩|⟨q,a,he⟩
 .cases(key q _ a).2
 .obtain⟨rfl,_⟩:=key q _ a
  rcases he with⟨g,_⟩|⟨_,f,hs⟩
  .exact absurd g hf
  .refine⟨f,?_⟩
   rw[hs,hb];exact congrArg _ (acr hp)
structure aco (w:World)(b3:Nat)(G:Nat->Value)(L:Nat->List Nat)(k:Nat)(wr:World):Prop where
 b0:wr.heap[w.heap.size]? =some (.cells #[.slice none 0 0,.slice none 0 0,.slice none 0 0,.slice none 0 0] 41 (0,0))
 bg:wr.heap[b3]? =some (.cells #[G 0,G 1,G 2,G 3] 41 (0,0))
 rows:∀q,q<=k->wr.ownsRow (w.heap.size+1) 3 1 (G q) (L q).length (aT (L q))/\(G q).ownBlock≠some b3
 below:adN w wr
 lt:w.heap.size<b3
def aco.step {w wr w2:World}{a k:Nat}{G:Nat->Value}{L:Nat->List Nat}{v:Value}(h:aco w a G L k wr)(p:k<3)(hb:adN wr w2)(g:w2.ownsRow wr.heap.size 3 1 v (L (1+k)).length (aT (L (1+k)))):
 aco w a (Ta G (1+k) v) L (k+1) (w2.setCell ⟨a,1+k,none⟩ v):=by
 have m:a<wr.heap.size:=(ZK.1 h.bg).1;have l:=h.lt;have c:∀b,b≠a->(w2.setCell ⟨a,1+k,none⟩ v).heap[b]? =w2.heap[b]?:=λb hb=>aad _ _ _ _ hb
 refine⟨(c _ (by omega)).trans (bJ hb h.b0),?_,λq o=>?_,(ai h.below hb).setCell (by show w.heap.size<=a;omega) _,h.lt⟩
 .refine(aD (i:=1+k) _ (bJ hb h.bg)).trans ?_
  obtain rfl|rfl|rfl:k=0\/k=1\/k=2:=by omega
  all_goals rfl
 .unfold Ta
  by_cases e:q=1+k
  .subst e
   rw[if_pos rfl];have f:v.ownBlock≠some a:=λe=>by have:=(g.lt a e).1;omega
   exact⟨aB (aJ g λb d=>c b (λe=>f (by rw[<-e];exact d))) (by have:=h.below.size;omega),f⟩
  .rw[if_neg e]
   obtain⟨n,j⟩:=h.rows q (by omega);exact⟨aJ (au n hb) λb d=>c b (λe=>j (by rw[<-e];exact d)),j⟩
def Bd.ow {w:World}{base bb:Nat}{s:BS}{K:Nat->Nat}(h:Bd w base bb s K):aW w bb s.D/\s.ok:=by
 obtain⟨_,_,_,_,_,_,h⟩:=h;exact⟨h.Si.ow,h.ok⟩
def aaX (base bb:Nat)(s:BS)(K:Nat->Nat)(w:World)(h:Bd w base bb s K):
 adO 18 #[.pointer (some ⟨bb,0,none⟩)] w λe w'=>∃A C,e=.returned (aaI A C (gq s.D))/\(∀q,q<4->w'.ownsRow w.heap.size 3 1 (.slice (A q) (gq s.D q).length (C q)) (gq s.D q).length (aT (gq s.D q)))/\adN w w':=by
 have L:Hid (∀u,adN w u->∀r:Nat,r<4->adO 48 #[.pointer (some ⟨bb,0,none⟩),.int .i64 r] u λe w'=>∃v,e=.returned v/\w'.ownsRow u.heap.size 3 1 v (gq s.D r).length (aT (gq s.D r))/\adN u w'):=λu hu r z=>
  lK bb r s.D u z (h.below hu).ow.1 h.ow.2.d (ZP (ku h.ow.2.d z) (by decide))
 clear h
 go_enter (pf func18 (by rfl)),ntmps18
 go_wp2_with fail;refine(L.out _ ((aab _ _).alloc (ZL _) _) 0 (by omega)).mono ?_;rintro e w1 ⟨v0,rfl,c,g⟩;obtain⟨T,m⟩:∃W,W=w1.alloc (.cells #[v0,.slice none 0 0,.slice none 0 0,.slice none 0 0] 41):=⟨_,rfl⟩;have y:=g.size;rw[aao]at y
 have H1:Hid (aco w w1.heap.size (Ta (λ_=>.slice none 0 0) 0 v0) (gq s.D) 0 T):=by
  rw[m];have l:adN w1 (w1.alloc (.cells #[v0,.slice none 0 0,.slice none 0 0,.slice none 0 0] 41)):=(aab _ _).alloc (ZL _) _;refine⟨bJ l ((g.block w.heap.size (by simp)).trans (aae _ _)),aae _ _,λq n=>?_,ai (ai ((aab _ _).alloc (ZL _) _) g) l,by omega⟩;obtain rfl:q=0:=by omega
  rw[aao]at c;exact⟨au c l,λe=>by have:=(c.lt _ e).2;omega⟩
 obtain⟨X,vc,rfl⟩:=aj c;clear c g y;go_wp2_with fail;rw[<-m];clear m
 go_loopw [8] (λi wr=>∃(k:Nat) (G:Nat->Value),k<=3/\i=.int .i64 k/\aco w w1.heap.size G (gq s.D) k wr) (λi _=>3-(intOf i).toNat)
 case atStart=>exact⟨0,_,by omega,rfl,H1.out⟩
 case round=>
  obtain⟨k,G,Z,rfl,B⟩:=hrel;have a:=av B;clear B
  by_cases x:k<3
  .have S:(k:Int)<3:=by omega
   have k1:IntKind.i64.wrap (1+(k:Int))=((1+k:Nat):Int):=(by rw[IntKind.wrap_i64];omega);go_wp2_with fail;refine(L.out wr a.out.below (1+k) (by omega)).mono ?_;rintro e w2 ⟨v,rfl,t,hb⟩;have U:=av (a.out.step x hb t);obtain⟨v2,c2,rfl⟩:=aj t;have n:=blk (bJ hb a.out.bg);have V:w2.cell? ⟨w1.heap.size,1+k,none⟩=some (G (1+k)):=(by rw[n.1];exact nZ G (by omega));have M:=n.2 (1+k);clear t hb n;go_wp2_with fail;go_roundw
   case rel=>exact⟨k+1,_,by omega,by go_num,U.out⟩
   case measure=>simp[intOf];omega
  .have S:¬(k:Int)<3:=by omega
   obtain rfl:k=3:=(by omega);obtain⟨Q,P⟩:=blk a.out.bg;obtain⟨a0,c0,J⟩:=aj (a.out.rows 0 (by omega)).1;obtain⟨p,o,I⟩:=aj (a.out.rows 1 (by omega)).1;obtain⟨a2,c2,H⟩:=aj (a.out.rows 2 (by omega)).1;obtain⟨a3,c3,F⟩:=aj (a.out.rows 3 (by omega)).1;rw[J,I,H,F]at Q;obtain⟨Y,R⟩:=blk a.out.b0;obtain⟨O,N⟩:=blk (KB (.slice a0 (gq s.D 0).length c0) (.slice p (gq s.D 1).length o) (.slice a2 (gq s.D 2).length c2) (.slice a3 (gq s.D 3).length c3) a.out.b0);go_wp2_with fail;refine bodyPost_ret (v:=.agg #[.slice a0 (gq s.D 0).length c0,.slice p (gq s.D 1).length o,.slice a2 (gq s.D 2).length c2,.slice a3 (gq s.D 3).length c3]) (by simp[results,go_sem,O]) rfl ?_;refine⟨λq=>if q=0 then a0 else if q=1 then p else if q=2 then a2 else a3,λq=>if q=0 then c0 else if q=1 then o else if q=2 then c2 else c3,rfl,λq n=>?_,?_⟩
   .have E:=(a.out.rows q (by omega)).1
    have j:World.ownsRow _ _ _ _ _ _ _:=aB (aJ E λb hb=>show((((wr.setCell ⟨w.heap.size,0,none⟩ (.slice a0 (gq s.D 0).length c0)).setCell ⟨w.heap.size,1,none⟩ (.slice p (gq s.D 1).length o)).setCell ⟨w.heap.size,2,none⟩ (.slice a2 (gq s.D 2).length c2)).setCell ⟨w.heap.size,3,none⟩ (.slice a3 (gq s.D 3).length c3)).heap[b]? =wr.heap[b]? from by
     have f:b≠w.heap.size:=λe=>by have:=(E.lt b hb).1;omega
     exact(aad _ _ _ _ f).trans ((aad _ _ _ _ f).trans ((aad _ _ _ _ f).trans (aad _ _ _ _ f)))) (show w.heap.size<=w.heap.size+1 by omega)
    obtain rfl|rfl|rfl|rfl:q=0\/q=1\/q=2\/q=3:=by omega
    .rw[J]at j;exact j
    .rw[I]at j;exact j
    .rw[H]at j;exact j
    .rw[F]at j;exact j
   .exact(((a.out.below.setCell (ZL _) _).setCell (ZL _) _).setCell (ZL _) _).setCell (ZL _) _
def fH.put (x:fH)(A:Nat->Option Addr)(C:Nat->Nat):fH:=⟨x.nm,A,C,x.T⟩
def abJ (l:List fH){i:Nat}(b:i<l.length)(A:Nat->Option Addr)(C:Nat->Nat):
 ((((aR l).set (i*5+1) (.slice (A 0) (l[i].T 0).length (C 0))).set (i*5+1+1) (.slice (A 1) (l[i].T 1).length (C 1))).set (i*5+1+2) (.slice (A 2) (l[i].T 2).length (C 2))).set (i*5+1+3) (.slice (A 3) (l[i].T 3).length (C 3))=aR (l.set i (l[i].put A C)):=by
 refine List.ext_getElem? λj=>?_
 obtain⟨p,r,a,rfl⟩:∃p r,r<5/\j=p*5+r:=⟨j/5,j%5,Nat.mod_lt _ (by omega),by omega⟩;have hlen:(aR l).length=l.length*5:=fe l
 by_cases hp:p<l.length
 .rw[DD (l:=l.set i (l[i].put A C)) (by simpa using hp) a]
  by_cases e:p=i
  .subst e
   rw[List.getElem_set_self];have c:=DD b a;obtain rfl|rfl|rfl|rfl|rfl:r=0\/r=1\/r=2\/r=3\/r=4:=by omega
   .rw[ac8 (by omega),ac8 (by omega),ac8 (by omega),ac8 (by omega),c];rfl
   .rw[ac8 (by omega),ac8 (by omega),ac8 (by omega),List.getElem?_set_self (by omega)];rfl
   .rw[ac8 (by omega),ac8 (by omega),show p*5+2=p*5+1+1 by omega,List.getElem?_set_self (by simp;omega)];rfl
   .rw[ac8 (by omega),show p*5+3=p*5+1+2 by omega,List.getElem?_set_self (by simp;omega)];rfl
   .rw[show p*5+4=p*5+1+3 by omega,List.getElem?_set_self (by simp;omega)];rfl
  .rw[List.getElem_set_ne (λh=>e h.symm),ac8 (by omega),ac8 (by omega),ac8 (by omega),ac8 (by omega),DD hp a]
 .rw[List.getElem?_eq_none (by simp;omega),List.getElem?_eq_none (by rw[fe];simp;omega)]
def aaU {w:World}{base ty c g n cap:Nat}{xs:List Value}(h:w.ownsRow base ty c (.slice (some ⟨g,0,none⟩) n cap) n xs)(j:Nat):w.frozen? ⟨g,j,none⟩=false:=by
 rcases h.2 with⟨e,_⟩|⟨g',b,cur,e,d,a,_⟩
 .cases e
 .cases e;exact(blk a).2 j
structure CpI (w:World)(g c:Nat)(l0:List fH)(i:Nat)(l:List fH)(wr:World):Prop where
 row:wr.ownsRow w.heap.size 98 5 (.slice (some ⟨g,0,none⟩) l.length c) l.length (aR l)
 alike:l5 l0 l
 mine:∀j (h:j<l.length),j<i->∀q,q<4->wr.ownsRow w.heap.size 3 1 (l[j].sl q) (l[j].T q).length (aT (l[j].T q))/\(l[j].sl q).ownBlock≠some g
 rest:∀j (h:j<l.length) (h':j<l0.length),i<=j->l[j]=l0[j]
 below:adN w wr
 lt:w.heap.size<=g
def CpI.step {w wr w2:World}{g c i:Nat}{o l:List fH}{A:Nat->Option Addr}{C:Nat->Nat}(h:CpI w g c o i l wr)(t:i<l.length)(hb:adN wr w2)(u:g<wr.heap.size)
 (hA:∀q,q<4->w2.ownsRow wr.heap.size 3 1 (.slice (A q) (l[i].T q).length (C q)) (l[i].T q).length (aT (l[i].T q))):
 CpI w g c o (i+1) (l.set i (l[i].put A C)) ((((w2.setCell ⟨g,i*5+1,none⟩ (.slice (A 0) (l[i].T 0).length (C 0))).setCell ⟨g,i*5+1+1,none⟩ (.slice (A 1) (l[i].T 1).length (C 1))).setCell ⟨g,i*5+1+2,none⟩ (.slice (A 2) (l[i].T 2).length (C 2))).setCell ⟨g,i*5+1+3,none⟩ (.slice (A 3) (l[i].T 3).length (C 3))):=by
 have f:∀b,b≠g->((((w2.setCell ⟨g,i*5+1,none⟩ (.slice (A 0) (l[i].T 0).length (C 0))).setCell ⟨g,i*5+1+1,none⟩ (.slice (A 1) (l[i].T 1).length (C 1))).setCell ⟨g,i*5+1+2,none⟩ (.slice (A 2) (l[i].T 2).length (C 2))).setCell ⟨g,i*5+1+3,none⟩ (.slice (A 3) (l[i].T 3).length (C 3))).heap[b]? =w2.heap[b]?:=λb hb=>(aad _ _ _ _ hb).trans ((aad _ _ _ _ hb).trans ((aad _ _ _ _ hb).trans (aad _ _ _ _ hb)))
 refine⟨?_,⟨by simpa using h.alike.1,λj a m=>?_⟩,λj a s q p=>?_,λj a m s=>?_,((((ai h.below hb).setCell h.lt _).setCell h.lt _).setCell h.lt _).setCell h.lt _,h.lt⟩
 .rw[<-abJ l t A C]
  simp only[List.length_set];exact JH (JH (JH (JH (au h.row hb) rfl _) rfl _) rfl _) rfl _
 .rw[List.length_set]at m
  by_cases e:i=j
  .subst e
   rw[List.getElem_set_self];exact h.alike.2 i a m
  .rw[List.getElem_set_ne e]
   exact h.alike.2 j a m
 .rw[List.length_set]at a
  by_cases e:i=j
  .subst e
   simp only[List.getElem_set_self];have n:=hA q p;have k:(fH.sl (l[i].put A C) q).ownBlock≠some g:=λe=>by have:=(n.lt g e).1;omega
   exact⟨aB (aJ n λb d=>f b (λe=>k (by rw[<-e];exact d))) h.below.size,k⟩
  .simp only[List.getElem_set_ne e]
   obtain⟨n,r⟩:=h.mine j a (by omega) q p;exact⟨aJ (au n hb) λb d=>f b (λe=>r (by rw[<-e];exact d)),r⟩
 .rw[List.length_set]at a
  rw[List.getElem_set_ne (by omega)];exact h.rest j a m (by omega)
structure aar (w:World)(z:Nat)(v:Value)(l:List fH):Prop where
 row:w.ownsRow z 98 5 v l.length (aR l)
 rows:∀x∈l,∀q,q<4->w.ownsRow z 3 1 (x.sl q) (x.T q).length (aT (x.T q))
def aar.l {w:World}{z:Nat}{v:Value}{l:List fH}(h:aar w z v l):aau w v l:=
 ⟨let ⟨ao,cap,e,d,_,c,_⟩:=dV h.row;⟨ao,cap,e,d,λb=>let ⟨g,f,_,_,hc⟩:=c b;⟨g,f,hc⟩⟩,λx hx q a=>.own (h.rows x hx q a)⟩
def aar.below {w w':World}{z:Nat}{v:Value}{l:List fH}(h:aar w z v l)(hb:adN w w'):aar w' z v l:=⟨au h.row hb,λx hx q a=>au (h.rows x hx q a) hb⟩
def aaY (base bb:Nat)(s:BS)(K:Nat->Nat)(w:World)(h:Bd w base bb s K):
 adO 17 #[.pointer (some ⟨bb,0,none⟩)] w λe w'=>∃v l,e=.returned v/\aar w' w.heap.size v l/\l5 s.bs l/\adN w w':=by
 obtain⟨vc,vr,vb,vo,d,ys,G⟩:=h;obtain⟨ao,cap,rfl,Y,_,X,_⟩:=dV G.boxes;have P:w.cell? ⟨bb,6,none⟩=some (.slice ao s.bs.length cap):=G.cell 6;have HP:=av G;have M:=G.ok.many;have U:=av (uM ao s.bs.length cap (aR s.bs) w (by omega) (fe _) iD Y (λp=>let ⟨g,e,_,_,hc⟩:=X p;⟨g,0,e,hc⟩))
 have S:Hid (∀u (x:fH),(∀q,q<4->aas u (x.sl q) (x.T q)/\(x.T q).length<=24)->adO 47 #[.agg #[.slice (x.A 0) (x.T 0).length (x.C 0),.slice (x.A 1) (x.T 1).length (x.C 1),.slice (x.A 2) (x.T 2).length (x.C 2),.slice (x.A 3) (x.T 3).length (x.C 3)]] u (Ox u (λq=>(x.T q).length) (λq j=>(((x.T q)[j]?.getD 0:Nat):Int)))):=λu x hx=>
  Bv x.A (λq=>(x.T q).length) x.C (λq j=>(((x.T q)[j]?.getD 0:Nat):Int)) u λq f=>⟨(hx q f).1,by have:=(hx q f).2;omega⟩
 clear Y X G
 go_enter (pf func17 (by rfl)),ntmps17
 go_wp2_with fail;refine U.out.mono ?_;rintro e w1 ⟨a',c',rfl,n,F⟩;have H1:=av (aaa n F);clear n F P;go_wp2_with fail;obtain⟨p1,p2,e1,n1,n2,n3,_⟩:=dV H1.out.1;cases e1
 go_loopw [12] (λi wr=>∃(j:Nat) (l:List fH),j<=s.bs.length/\i=.int .i64 j/\l.length=s.bs.length/\adN w wr/\(0<s.bs.length->∃g,a'=some ⟨g,0,none⟩/\CpI w g c' s.bs j l wr)/\(s.bs.length=0->wr=w1)) (λi _=>s.bs.length-(intOf i).toNat)
 case atStart=>
  refine⟨0,s.bs,adl _,rfl,rfl,H1.out.2,λp=>?_,λ_=>rfl⟩;obtain⟨g,e,_,O,_⟩:=n3 p;subst e;exact⟨g,rfl,H1.out.1,l5.refl _,λj h W=>absurd W (ZV _),λ_ _ _ _=>rfl,H1.out.2,O⟩
 case round=>
  obtain⟨j,l,W,rfl,D,E,L,Z⟩:=hrel
  by_cases r:j<s.bs.length
  .have jn:(j:Int)<s.bs.length:=by omega
   obtain⟨g,rfl,m⟩:=L (by omega);have z:=av m;have k:j<l.length:=(by omega);have hx:=m.rest j k r (ZL _);obtain⟨_,_,e,_,_,B,_⟩:=dV m.row;cases e;obtain⟨g',e,N,_,c⟩:=B (by omega);cases e;obtain⟨_,b⟩:=Jk c k;have I:0+5*j=j*5:=(by omega);rw[I]at b;have c0:=b 0 (by omega);have Q:=b 1 (by omega);have c2:=b 2 (by omega);have c3:=b 3 (by omega);unfold fH.sl at c0 Q c2 c3
   have J:=av (S.out wr l[j] (λq f=>by
        rw[hx];exact⟨.own (au (HP.out.rows _ (acY r) q f).1 E),((HP.out.ok.small _ (acY r)).2 q f).1⟩))
   obtain⟨x,o⟩:∃x,x=l[j]:=⟨_,rfl⟩;rw[<-o]at c0 Q c2 c3 J;have R:=av o;clear L Z m B c b I hx o;go_wp2_with fail;refine J.out.mono ?_;rintro e w2 ⟨A,C,rfl,hA,a⟩
   have V:=av (z.out.step (A:=A) (C:=C) k a N (λq f=>by
        have:=hA q f;rw[Bf (l:=x.T q) rfl]at this;rw[<-R.out];exact this))
   obtain⟨_,_,e,_,_,B,_⟩:=dV (au z.out.row a);cases e;obtain⟨g',e,_,_,c⟩:=B (by omega);cases e;obtain⟨_,b⟩:=Jk c k;have I:0+5*j=j*5:=(by omega);rw[I]at b;have d0:=b 0 (by omega);have d1:=b 1 (by omega);have d2:=b 2 (by omega);have d3:=b 3 (by omega);rw[<-R.out]at d0 d1 d2 d3;unfold fH.sl at d0 d1 d2 d3;have f0:=aaU (au z.out.row a) (j*5+1);have f1:=aaU (au z.out.row a) (j*5+1+1);have f2:=aaU (au z.out.row a) (j*5+1+2);have f3:=aaU (au z.out.row a) (j*5+1+3);rw[<-R.out]at V;have α:=av (ai z.out.below a);clear hA a B c b I c0 Q c2 c3;go_wp2_with fail;go_roundw
   case rel=>exact⟨j+1,l.set j (x.put A C),by omega,by go_num,by simpa using D,V.out.below,λ_=>⟨g,rfl,V.out⟩,λh=>by omega⟩
   case measure=>simp[intOf];omega
  .have jn:¬(j:Int)<s.bs.length:=by omega
   obtain rfl:j=s.bs.length:=(by omega);go_wp2_with fail;go_ret;refine⟨_,rfl,l,?_,?_,E⟩
   .by_cases p:0<s.bs.length
    .obtain⟨g,rfl,m⟩:=L p
     refine⟨by rw[<-D];exact m.row,λx hx q f=>?_⟩;obtain⟨i,hi,rfl⟩:=ado.1 hx;exact(m.mine i hi (by omega) q f).1
    .have H:s.bs.length=0:=by omega
     have y:s.bs=[]:=List.length_eq_zero_iff.1 H;have t:l=[]:=List.length_eq_zero_iff.1 (by omega);subst t;obtain rfl:=Z H;refine⟨?_,λx hx=>(by cases hx)⟩;have:=H1.out.1;rw[y]at this⊢;exact this
   .by_cases p:0<s.bs.length
    .obtain⟨g,rfl,m⟩:=L p
     exact m.alike
    .have y:s.bs=[]:=List.length_eq_zero_iff.1 (by omega)
     have t:l=[]:=List.length_eq_zero_iff.1 (by omega);rw[y,t];exact l5.refl _
def GrO (w:World)(K:Nat->Nat)(z:Nat)(A:Nat->Option Addr)(C:Nat->Nat)(L:Nat->List Nat):Prop:=∀q,q<4->w.ownsRow z 3 1 (.slice (A q) (L q).length (C q)) (L q).length (aT (L q))/\∀b,(Value.slice (A q) (L q).length (C q)).ownBlock=some b->K b=0
def GrO.aaM {w:World}{K:Nat->Nat}{z:Nat}{A:Nat->Option Addr}{C:Nat->Nat}{L:Nat->List Nat}(h:GrO w K z A C L):aaB w A C L:=λq a=>aas.own (h q a).1
def GrO.aaq {w w':World}{K K':Nat->Nat}{z:Nat}{A:Nat->Option Addr}{C:Nat->Nat}{L:Nat->List Nat}(h:GrO w K z A C L)(c:dJ w w' K K'):GrO w' K' z A C L:=λq e=>by
 obtain⟨a,d⟩:=h q e;exact⟨aJ a λb hb=>c.block b (a.lt b hb).2 (.inl (d b hb)),λb hb=>by rw[c.tag b (a.lt b hb).2];exact d b hb⟩
def GrO.below {w w':World}{K:Nat->Nat}{z:Nat}{A:Nat->Option Addr}{C:Nat->Nat}{L:Nat->List Nat}(h:GrO w K z A C L)(hb:adN w w'):GrO w' K z A C L:=h.aaq (dJ.fq hb)
def acj {P Q:Value->World->Prop}{A:List PanicEntry->World->Prop}{e:Ending}{w:World}(h:RJ P A e w)(a:∀v,P v w->Q v w):RJ Q A e w:=by
 rcases e with v|ch|_
 .exact a v h
 .exact h
 .exact h
def aaZ (base bb p:Nat)(x:fH)(s s1:BS)(K:Nat->Nat)(a:Addr)(u:World)(h:Bd u base bb s1 K)(hb:s1.bs=(s.ins p x).bs)(hp:p<=s.bs.length)(hf:¬s1.jQ)(i:s1.fine)(c:s1.no+4<=1000000000)
 (k:u.cell? ⟨0,0,none⟩=some (.iface 345 (.pointer (some a))))(f:0<base):
 adO 24 #[.pointer (some ⟨bb,0,none⟩),.string x.nm] u
  (RJ (λv w'=>∃K':Nat->Nat,v=.int .i64 0/\Bd w' base bb (s1.written s.bs) K'/\dJ u w' K K') AA):=by
 refine(Ev base bb s1 K x.nm a u h c k f).mono λe w' he=>acj he λv g=>?_
 obtain⟨s',K',b,d,j⟩:=g;obtain⟨rfl,rfl⟩:=abL b hb hp hf i;exact⟨K',rfl,d,j⟩
def Kp (w:World)(K:Nat->Nat)(l:List (Nat×Obj)):Prop:=∀p∈l,w.heap[p.1]? =some p.2/\K p.1=0
def Kp.aaq {w w':World}{K K':Nat->Nat}{l:List (Nat×Obj)}(h:Kp w K l)(a:dJ w w' K K'):Kp w' K' l:=λp hp=>a.kept (h p hp).2 (h p hp).1
def Kp.alloc {w:World}{K:Nat->Nat}{l:List (Nat×Obj)}{o:Obj}(h:Kp w K l)(hf:K w.heap.size=0):Kp (w.alloc o) K ((w.heap.size,o)::l):=λp hp=>by
 rcases ZW.1 hp with rfl|hp
 .exact⟨aae _ _,hf⟩
 .exact h.aaq (dJ.fq ((aab _ _).alloc (ZL _) _)) p hp
def Kp.head {w:World}{K:Nat->Nat}{b:Nat}{o:Obj}{l:List (Nat×Obj)}(h:Kp w K ((b,o)::l)):w.heap[b]? =some o:=(h _ ZX).1
def Kp.tail {w:World}{K:Nat->Nat}{p:Nat×Obj}{l:List (Nat×Obj)}(h:Kp w K (p::l)):Kp w K l:=λq a=>h q (ac1 _ a)
def dJ.alloc {w w':World}{K K':Nat->Nat}(h:dJ w w' K K')(o:Obj):dJ w (w'.alloc o) K K':=h.trans (dJ.fq ((aab _ _).alloc (ZL _) _))
def Bd.alloc {w:World}{base bb:Nat}{s:BS}{K:Nat->Nat}(h:Bd w base bb s K)(o:Obj):Bd (w.alloc o) base bb s K:=h.below ((aab _ _).alloc (ZL _) _)
def GrO.alloc {w:World}{K:Nat->Nat}{z:Nat}{A:Nat->Option Addr}{C:Nat->Nat}{L:Nat->List Nat}(h:GrO w K z A C L)(o:Obj):GrO (w.alloc o) K z A C L:=h.aaq (dJ.fq ((aab _ _).alloc (ZL _) _))
def aaH {w w':World}{base bb:Nat}{s:BS}{K K':Nat->Nat}{g:Addr}{v:Value}(hb:Bd w base bb s K)(hl:g.block<base)(h:w.cell? g=some v)(a:dJ w w' K K'):w'.cell? g=some v:=by
 have d:=aan h;exact((a.below (B:=g.block+1) (by omega) λb c=>hb.zero (by omega)).cell (by omega)).trans h
def aaF (A:Nat->Option Addr)(C:Nat->Nat)(L:Nat->List Nat):Obj:=.cells #[.slice (A 0) (L 0).length (C 0),.slice (A 1) (L 1).length (C 1),.slice (A 2) (L 2).length (C 2),.slice (A 3) (L 3).length (C 3)] 41 (0,0)
def aaE:ByteArray:=⟨#[110,101,119,32,111,110,101]⟩
structure GvI (w:World)(gc nc fc:Array Value)(wr:World):Prop where
 b0:wr.heap[w.heap.size]? =some (.cells gc 41 (0,0))
 b1:wr.heap[w.heap.size+1]? =some (.cells nc 29 (0,0))
 b2:wr.heap[w.heap.size+1+1]? =some (.cells fc 41 (0,0))
 below:adN w wr
def GvI.ext {w wr w2:World}{gc a b:Array Value}(h:GvI w gc a b wr)(hb:adN wr w2):GvI w gc a b w2:=⟨bJ hb h.b0,bJ hb h.b1,bJ hb h.b2,ai h.below hb⟩
def acd (A c:Nat->Option Addr)(C a:Nat->Nat)(L F:Nat->List Nat)(w:World)(h:aaB w A C L)(J:aaB w c a F)(hs:∀q,q<4->(F q).length<=1000000/\(L q).length<=1000000/\∀x∈L q,x∈F q):
 adO 25 #[aaI A C L,.agg #[.int .i64 ((L 0).length:Nat),.int .i64 ((L 1).length:Nat),.int .i64 ((L 2).length:Nat),.int .i64 ((L 3).length:Nat)],aaI c a F] w λe w'=>e=.returned (.bool true)/\adN w w':=by
 have v:Hid (∀u,adN w u->∀q,q<4->∀j,j< (L q).length->∀y:Nat,y=(L q)[j]?.getD 0->adO 44 #[.slice (c q) (F q).length (a q),.int .i64 (y:Int)] u λe w'=>e=.returned (.bool true)/\w'=u):=λu hu q m j B y hy=>by
  refine(ab2 _ _ _ u ((J q m).ext hu) (hs q m).1).mono ?_;rintro e w' ⟨r,hw⟩;exact⟨r.fP ((hs q m).2.2 _ (by rw[hy,getD_at B];exact acY B)),hw⟩
 have K:=av h;have T:Hid (∀q,q<4->(L q).length<=1000000):=λq m=>(hs q m).2.1
 clear h J hs;unfold aaI
 go_enter (pf func25 (by rfl)),ntmps25
 have Q:(((L 0).length:Int) !=((L 0).length:Int))=false:=by simp
 go_wp2_with fail;obtain⟨W,hW⟩:∃W,W=((w.alloc (.cells #[.slice (A 0) (L 0).length (C 0),.slice (A 1) (L 1).length (C 1),.slice (A 2) (L 2).length (C 2),.slice (A 3) (L 3).length (C 3)] 41)).alloc (.cells #[.int .i64 ((L 0).length:Nat),.int .i64 ((L 1).length:Nat),.int .i64 ((L 2).length:Nat),.int .i64 ((L 3).length:Nat)] 29)).alloc (.cells #[.slice (c 0) (F 0).length (a 0),.slice (c 1) (F 1).length (a 1),.slice (c 2) (F 2).length (a 2),.slice (c 3) (F 3).length (a 3)] 41):=⟨_,rfl⟩
 have R:Hid (GvI w #[.slice (A 0) (L 0).length (C 0),.slice (A 1) (L 1).length (C 1),.slice (A 2) (L 2).length (C 2),.slice (A 3) (L 3).length (C 3)] #[.int .i64 ((L 0).length:Nat),.int .i64 ((L 1).length:Nat),.int .i64 ((L 2).length:Nat),.int .i64 ((L 3).length:Nat)] #[.slice (c 0) (F 0).length (a 0),.slice (c 1) (F 1).length (a 1),.slice (c 2) (F 2).length (a 2),.slice (c 3) (F 3).length (a 3)] W):=by
  rw[hW];exact⟨kR _ _ _ _,kQ _ _ _ _,kP _ _ _ _,(((aab _ _).alloc (ZL _) _).alloc (by simp) _).alloc (by simp;omega) _⟩
 rw[<-hW];clear hW
 go_loopw [7] (λi wr=>∃j:Nat,j<=(L 0).length/\i=.int .i64 j/\GvI w #[.slice (A 0) (L 0).length (C 0),.slice (A 1) (L 1).length (C 1),.slice (A 2) (L 2).length (C 2),.slice (A 3) (L 3).length (C 3)] #[.int .i64 ((L 0).length:Nat),.int .i64 ((L 1).length:Nat),.int .i64 ((L 2).length:Nat),.int .i64 ((L 3).length:Nat)] #[.slice (c 0) (F 0).length (a 0),.slice (c 1) (F 1).length (a 1),.slice (c 2) (F 2).length (a 2),.slice (c 3) (F 3).length (a 3)] wr) (λi _=>(L 0).length-(intOf i).toNat)
 case atStart=>exact⟨0,adl _,rfl,R.out⟩
 case round=>
  obtain⟨j,B,rfl,d⟩:=hrel;have f:=av d;obtain⟨D,_⟩:=blk d.b0;have l:w.heap.size<wr.heap.size:=(ZK.1 d.b0).1;have E:w.heap.size+1+1<wr.heap.size:=(ZK.1 d.b2).1
  by_cases g:j< (L 0).length
  .have jn:(j:Int)< ((L 0).length:Nat):=by omega
   obtain⟨ao,cap,e,_,_,s⟩:=(K.out 0 (by omega)).ext d.below;cases e;obtain⟨b,o,t,p⟩:=s (by omega);have u0:=p j g;have N:b<wr.heap.size:=aan u0;obtain⟨M,_⟩:=blk d.b2;rw[t]at D;clear t;clear s p d;go_wp2_with fail;have c0:wr.drew.cell? ⟨w.heap.size,0,none⟩=some (.slice (some ⟨b,o,none⟩) (L 0).length (C 0)):=D 0;have c2:wr.drew.cell? ⟨w.heap.size+1+1,0,none⟩=some (.slice (c 0) (F 0).length (a 0)):=M 0;obtain⟨y,hy⟩:∃y:Nat,y=(L 0)[j]?.getD 0:=⟨_,rfl⟩;rw[<-hy]at u0;have I:=av hy;clear hy;have H:wr.drew.cell? ⟨b,o+j,none⟩=some (.int .i64 (y:Int)):=u0;have z:=av (aab wr.heap.size wr).drew
   go_region_held3(λw'=>w'.cell? ⟨w.heap.size,0,none⟩=some (.slice (some ⟨b,o,none⟩) (L 0).length (C 0))/\w'.cell? ⟨w.heap.size+1+1,0,none⟩=some (.slice (c 0) (F 0).length (a 0))/\w'.cell? ⟨b,o+j,none⟩=some (.int .i64 (y:Int))/\w'=wr.drew) (with_reducible (first|exact⟨c0,c2,H,rfl⟩|assumption))
        (first|(go_at_call 44;with_reducible refine(v.out _ (ai f.out.below z.out) 0 (by omega) j g y I.out).mono ?_;rintro e w3 ⟨rfl,hw⟩;obtain rfl:=hw.symm))
   go_wp2_with fail;go_roundw
   case rel=>exact⟨j+1,by omega,by go_num,f.out.ext z.out⟩
   case measure=>simp[intOf];omega
  .have jn:¬(j:Int)< ((L 0).length:Nat):=by omega
   go_wp2_with fail
   go_loopw [9] (λi wr=>∃k:Nat,k<=3/\i=.int .i64 k/\GvI w #[.slice (A 0) (L 0).length (C 0),.slice (A 1) (L 1).length (C 1),.slice (A 2) (L 2).length (C 2),.slice (A 3) (L 3).length (C 3)] #[.int .i64 ((L 0).length:Nat),.int .i64 ((L 1).length:Nat),.int .i64 ((L 2).length:Nat),.int .i64 ((L 3).length:Nat)] #[.slice (c 0) (F 0).length (a 0),.slice (c 1) (F 1).length (a 1),.slice (c 2) (F 2).length (a 2),.slice (c 3) (F 3).length (a 3)] wr) (λi _=>3-(intOf i).toNat)
   case atStart=>exact⟨0,by omega,rfl,f.out⟩
   case round=>
        clear f d D l E;obtain⟨k,S,rfl,d⟩:=hrel;have f:=av d
        by_cases P:k<3
        .have O:(k:Int)<3:=by omega
         have k1:1+k<4:=(by omega);have x0:wr.cell? ⟨w.heap.size,1+k,none⟩=some (.slice (A (1+k)) (L (1+k)).length (C (1+k))):=(by rw[(blk d.b0).1];exact nZ (λq=>.slice (A q) (L q).length (C q)) k1);have x1:wr.cell? ⟨w.heap.size+1,1+k,none⟩=some (.int .i64 ((L (1+k)).length:Nat)):=(by rw[(blk d.b1).1];exact nZ (λq=>.int .i64 ((L q).length:Nat)) k1);have l:w.heap.size<wr.heap.size:=(ZK.1 d.b0).1;have G:w.heap.size+1<wr.heap.size:=(ZK.1 d.b1).1;have m:(((L (1+k)).length:Int) !=((L (1+k)).length:Int))=false:=(by simp);clear d;go_wp2_with fail;refine dx (by kernel_rfl) (by kernel_rfl) ?_
         repeat(go_big_quiet_step (fail))
         refine wpQuiet_nil ?_;rintro _ ⟨⟨w1,n⟩,rfl⟩;have H1:=av (f.out.ext n);clear x0 x1 l G n m;go_wp2_with fail
         go_loopw [10] (λi wr=>∃j:Nat,j<=(L (1+k)).length/\i=.int .i64 j/\GvI w #[.slice (A 0) (L 0).length (C 0),.slice (A 1) (L 1).length (C 1),.slice (A 2) (L 2).length (C 2),.slice (A 3) (L 3).length (C 3)] #[.int .i64 ((L 0).length:Nat),.int .i64 ((L 1).length:Nat),.int .i64 ((L 2).length:Nat),.int .i64 ((L 3).length:Nat)] #[.slice (c 0) (F 0).length (a 0),.slice (c 1) (F 1).length (a 1),.slice (c 2) (F 2).length (a 2),.slice (c 3) (F 3).length (a 3)] wr) (λi _=>(L (1+k)).length-(intOf i).toNat)
         case atStart=>exact⟨0,adl _,rfl,H1.out⟩
         case round=>
          clear f H1;obtain⟨j,B,rfl,d⟩:=hrel;have f:=av d;have x0:wr.cell? ⟨w.heap.size,1+k,none⟩=some (.slice (A (1+k)) (L (1+k)).length (C (1+k))):=(by rw[(blk d.b0).1];exact nZ (λq=>.slice (A q) (L q).length (C q)) k1);have x2:wr.cell? ⟨w.heap.size+1+1,1+k,none⟩=some (.slice (c (1+k)) (F (1+k)).length (a (1+k))):=(by rw[(blk d.b2).1];exact nZ (λq=>.slice (c q) (F q).length (a q)) k1)
          by_cases g:j< (L (1+k)).length
          .have jn:(j:Int)< ((L (1+k)).length:Nat):=by omega
           obtain⟨ao,cap,e,_,_,s⟩:=(K.out (1+k) k1).ext d.below;cases e;obtain⟨b,o,t,p⟩:=s (by omega);have u0:=p j g;rw[t]at x0;clear t s p d;go_wp2_with fail;obtain⟨y,hy⟩:∃y:Nat,y=(L (1+k))[j]?.getD 0:=⟨_,rfl⟩;rw[<-hy]at u0;have I:=av hy;clear hy;have c0:wr.drew.cell? ⟨w.heap.size,1+k,none⟩=some (.slice (some ⟨b,o,none⟩) (L (1+k)).length (C (1+k))):=x0;have c2:wr.drew.cell? ⟨w.heap.size+1+1,1+k,none⟩=some (.slice (c (1+k)) (F (1+k)).length (a (1+k))):=x2;have H:wr.drew.cell? ⟨b,o+j,none⟩=some (.int .i64 (y:Int)):=u0;have z:=av (aab wr.heap.size wr).drew
           go_region_held3(λw'=>w'.cell? ⟨w.heap.size,1+k,none⟩=some (.slice (some ⟨b,o,none⟩) (L (1+k)).length (C (1+k)))/\w'.cell? ⟨w.heap.size+1+1,1+k,none⟩=some (.slice (c (1+k)) (F (1+k)).length (a (1+k)))/\w'.cell? ⟨b,o+j,none⟩=some (.int .i64 (y:Int))/\w'=wr.drew) (with_reducible (first|exact⟨c0,c2,H,rfl⟩|assumption))
            (first|(go_at_call 44;with_reducible refine(v.out _ (ai f.out.below z.out) (1+k) k1 j g y I.out).mono ?_;rintro e w3 ⟨rfl,hw⟩;obtain rfl:=hw.symm))
           go_wp2_with fail;go_roundw
           case rel=>exact⟨j+1,by omega,by go_num,f.out.ext z.out⟩
           case measure=>simp[intOf];omega
          .have jn:¬(j:Int)< ((L (1+k)).length:Nat):=by omega
           clear d;go_wp2_with fail;go_roundw
           case rel=>exact⟨k+1,by omega,by go_num,f.out⟩
           case measure=>simp[intOf];omega
        .have O:¬(k:Int)<3:=by omega
         go_wp2_with fail;go_ret;exact⟨rfl,f.out.below⟩
structure WhI (m:cz)(vc vr:Value)(base z1 z2 z3:Nat)(s:BS)(d:Nat->Value)(v:Value)(l:List fH)(A:Nat->Option Addr)(C:Nat->Nat)(L:Nat->List Nat)(K:Nat->Nat)(wr:World):Prop where
 mr:kX wr base m vc vr
 mt:∀b,vc.ownBlock=some b\/vr.ownBlock=some b->K b=0
 dr:∀k,k<3->wr.ownsRow z1 75 2 (d k) (s.dn k) (rO s k)
 dk:∀k,k<3->∀b,(d k).ownBlock=some b->K b=0
 bx:aar wr z2 v l
 bk:∀b,v.ownBlock=some b->K b=0
 rk:∀x∈l,∀q,q<4->∀b,(x.sl q).ownBlock=some b->K b=0
 gr:GrO wr K z3 A C L
def aax {w w':World}{K K':Nat->Nat}{z:Nat}{e:TypeId}{size:Nat}{v:Value}{n:Nat}{xs:List Value}(a:dJ w w' K K')(h:w.ownsRow z e size v n xs)(c:∀b,v.ownBlock=some b->K b=0):w'.ownsRow z e size v n xs/\∀b,v.ownBlock=some b->K' b=0:=
 ⟨aJ h λb hb=>a.block b (h.lt b hb).2 (.inl (c b hb)),λb hb=>by rw[a.tag b (h.lt b hb).2];exact c b hb⟩
def aar.aaq {w w':World}{K K':Nat->Nat}{z:Nat}{v:Value}{l:List fH}(c:dJ w w' K K')(h:aar w z v l)(e:∀b,v.ownBlock=some b->K b=0)(d:∀x∈l,∀q,q<4->∀b,(x.sl q).ownBlock=some b->K b=0):aar w' z v l/\(∀b,v.ownBlock=some b->K' b=0)/\∀x∈l,∀q,q<4->∀b,(x.sl q).ownBlock=some b->K' b=0:=
 ⟨⟨(aax c h.row e).1,λx hx q a=>(aax c (h.rows x hx q a) (d x hx q a)).1⟩,(aax c h.row e).2,λx hx q a=>(aax c (h.rows x hx q a) (d x hx q a)).2⟩
def kX.aaq {w w':World}{K K':Nat->Nat}{base:Nat}{m:cz}{vc vr:Value}(a:dJ w w' K K')(h:kX w base m vc vr)(c:∀b,vc.ownBlock=some b\/vr.ownBlock=some b->K b=0):kX w' base m vc vr/\∀b,vc.ownBlock=some b\/vr.ownBlock=some b->K' b=0:=by
 obtain⟨f,c2⟩:=aax a h.dA λb hb=>c b (.inl hb)
 obtain⟨e,d⟩:=aax a h.res λb hb=>c b (.inr hb)
 exact⟨⟨h.ok,f,e⟩,λb hb=>hb.elim (c2 b) (d b)⟩
section
variable {m:cz}{vc vr:Value}{base z1 z2 z3:Nat}{s:BS}{d:Nat->Value}{v:Value}{l:List fH}{A:Nat->Option Addr}{C:Nat->Nat}{L:Nat->List Nat}{K K':Nat->Nat}{w w':World}
def WhI.aaq (h:WhI m vc vr base z1 z2 z3 s d v l A C L K w)(a:dJ w w' K K'):WhI m vc vr base z1 z2 z3 s d v l A C L K' w':=by
 obtain⟨m1,m2⟩:=h.mr.aaq a h.mt;obtain⟨b1,b2,c⟩:=h.bx.aaq a h.bk h.rk;exact⟨m1,m2,λk b=>(aax a (h.dr k b) (h.dk k b)).1,λk b=>(aax a (h.dr k b) (h.dk k b)).2,b1,b2,c,h.gr.aaq a⟩
def WhI.below (h:WhI m vc vr base z1 z2 z3 s d v l A C L K w)(hb:adN w w'):WhI m vc vr base z1 z2 z3 s d v l A C L K w':=h.aaq (dJ.fq hb)
def WhI.alloc (h:WhI m vc vr base z1 z2 z3 s d v l A C L K w)(o:Obj):WhI m vc vr base z1 z2 z3 s d v l A C L K (w.alloc o):=h.below ((aab _ _).alloc (ZL _) _)
end
def ab8 (r:Nat->Int):qo (λi=>((dD r i:Nat):Int))=true:=by
 have a:=ik (r 0) (show 0<25 by omega);have g:=ik (r 1) (show 0<17 by omega);have f:=ik (r 2) (show 0<17 by omega);have e:=ik (r 3) (show 0<17 by omega)
 by_cases h:aK (r 0) 25=0/\aK (r 1) 17=0/\aK (r 2) 17=0/\aK (r 3) 17=0
 .refine ab0 (λi b=>⟨Int.natCast_nonneg _,?_⟩) ⟨0,by omega,?_⟩
  .unfold dD A7
   rw[if_pos h]
   by_cases a:i=0
   .rw[if_pos a,if_pos a];decide
   .rw[if_neg a,if_neg a];decide
  .show(0:Int)< ((dD r 0:Nat):Int)
   unfold dD;rw[if_pos h,if_pos rfl]
   decide
 .refine ab0 (λi b=>⟨Int.natCast_nonneg _,?_⟩) ?_
  .unfold dD A7
   rw[if_neg h];obtain rfl|rfl|rfl|rfl:i=0\/i=1\/i=2\/i=3:=by omega
   .rw[if_pos rfl,if_pos rfl];omega
   .rw[if_neg (by omega),if_neg (by omega)];omega
   .rw[if_neg (by omega),if_neg (by omega)];omega
   .rw[if_neg (by omega),if_neg (by omega)];omega
  .have key:∀i,i<4->dD r i=if i=0 then aK (r 0) 25 else aK (r i) 17:=λi _=>by unfold dD;rw[if_neg h]
   refine Classical.byContradiction λd=>h ?_
   have z:∀i,i<4->dD r i=0:=λi b=>by
        have:¬(0:Int)< ((dD r i:Nat):Int):=λh=>d ⟨i,b,h⟩
        omega
   have a0:=z 0 (by omega);have c:=z 1 (by omega);have a2:=z 2 (by omega);have a3:=z 3 (by omega);rw[key 0 (by omega),if_pos rfl]at a0;rw[key 1 (by omega),if_neg (by omega)]at c;rw[key 2 (by omega),if_neg (by omega)]at a2;rw[key 3 (by omega),if_neg (by omega)]at a3;exact⟨a0,c,a2,a3⟩
def aa4 (s:BS)(c:Nat->Nat)(code:Int)(L:Nat->List Nat)(s':BS):Prop:=
 (code≠0/\(∀q,q<4->L q=[])/\s'=s/\((code=7/\s.bs.length=12)\/(s.bs.length<12/\(code=8\/code=9))))\/
    (code=0/\∃p x,p<=s.bs.length/\x.nm=aaE/\s.bs.length<12/\(s.ins p x).fine/\s'=s.written (s.ins p x).bs/\∀q,q<4->(L q).length=c q/\∀i∈L q,i∈gq s.D q)
def abR {s s':BS}{r:Value}{w':World}{K':Nat->Nat}{c:Nat->Nat}(h:zD s aaE (λi=>(c i:Int)) r s' w' K')(hm:qo (λi=>(c i:Int))=true)(hf:¬s.jQ)(g:s.inv)(j:∀x∈s.bs,x.nm≠aaE):
 ∃(code:Int) (A:Nat->Option Addr) (C:Nat->Nat) (L:Nat->List Nat) (z:Nat),r=.tuple #[aaI A C L,.int .i64 code]/\GrO w' K' z A C L/\aa4 s c code L s':=by
 have u:GrO w' K' 0 (λ_=>none) (λ_=>0) (λ_=>[]):=λq _=>⟨aag _ _ _ _,λb hb=>by cases hb⟩
 have l:=g.many;rcases h with⟨code,rfl,rfl,k⟩|⟨_,_,_,_,n,_⟩|⟨m,p,x,A,C,z,hy,_,rfl,rfl,t,v⟩
 .refine⟨code,λ_=>none,λ_=>0,λ_=>[],0,rfl,u,.inl ?_⟩
  rcases k with⟨f,_⟩|⟨_,f,_⟩|⟨_,_,f,_⟩|⟨_,_,_,f,rfl⟩|⟨_,_,_,o,_,rfl⟩|⟨_,_,_,o,_,_,rfl⟩
  .exact absurd ⟨by decide,by decide⟩ f
  .exact absurd f (abv j)
  .rw[hm]at f;cases f
  .exact⟨by decide,λ_ _=>rfl,rfl,.inl ⟨rfl,by omega⟩⟩
  .exact⟨by decide,λ_ _=>rfl,rfl,.inr ⟨o,.inl rfl⟩⟩
  .exact⟨by decide,λ_ _=>rfl,rfl,.inr ⟨o,.inr rfl⟩⟩
 .exact absurd n hf
 .have e:∀q,q<4->(x.T q).length=aN (λi=>(c i:Int)) q/\∀i∈x.T q,i∈gq s.D q:=λq a=>⟨(hy.given q a).1,λi g=>((hy.given q a).2.2 i g).1⟩
  have hc:∀q,aN (λi=>(c i:Int)) q=c q:=λq=>by show((c q:Nat):Int).toNat=c q;omega
  refine⟨0,A,C,x.T,z,?_,λq a=>⟨?_,λb hb=>v b ?_⟩,.inr ⟨rfl,p,x,hy.at_.1,hy.nm,hy.room,hy.fine g.fine g.d,rfl,λq a=>⟨(e q a).1.trans (hc q),(e q a).2⟩⟩⟩
  .unfold aaI
   rw[(e 0 (by omega)).1,(e 1 (by omega)).1,(e 2 (by omega)).1,(e 3 (by omega)).1]
  .have:=t q a
   rw[<-(e q a).1]at this;exact this
  .have:=t q a
   rw[<-(e q a).1]at this;exact(this.lt b hb).1
def aa4.all {s s':BS}{c:Nat->Nat}{code:Int}{L:Nat->List Nat}(h:aa4 s c code L s')(a:s.inv):s'.fine/\s'.m=s.m/\s'.fl=s.fl/\s'.no<=s.no+4/\∀k,s'.dn k=s.dn k/\rO s' k=rO s k:=by
 rcases h with⟨_,_,rfl,_⟩|⟨_,p,x,_,_,_,hf,rfl,_⟩
 .exact⟨a.fine,rfl,rfl,by omega,λ_=>⟨rfl,rfl⟩⟩
 .exact⟨hf.ZJ rfl rfl,rfl,rfl,ZL _,λ_=>⟨rfl,rfl⟩⟩
def BS.inv.IP {s:BS}(h:s.inv)(n:Int):(s.IP n).inv:=⟨BS.UO h.d rfl rfl rfl rfl,h.fine.ZJ rfl rfl,h.many,h.nm⟩
def ab9 {s:BS}(h:s.inv){nm:ByteArray}(a:2<=nm.size):∀x∈s.bs,x.nm≠nm:=λx hx e=>by have:=h.nm x hx;rw[e]at this;omega
end Z
