/- Part 4 of the proof. -/
import Derived.Test.YtfpaamhppamcoaaGreatDoorPo3
import Derived.Lib.SmallJoins
import Derived.Deep.LoopGhost
import Derived.Conc.CrowdRun
import Derived.Conc.Beside
set_option linter.all false
set_option maxRecDepth 100000
set_option maxHeartbeats 60000000
namespace Go.Proofs.YtfpaamhppamcoaaGreatDoor
open Go.Proofs.Tryz
namespace Z
open Go.RowKit
attribute [local go_sem ↓] Go.wp_at_zero Go.wp_at_succ
attribute [local go_sem] After.cell After.frozen After.const
def Rj (D:BD)(r i:Nat)(x:Int):Prop:=among (D.oR i r) (D.oN i r) x
def CE (D:BD)(r:Nat)(x:Int):Prop:=∃i,i<D.bn/\Rj D r i x
def bZ.own {w}{Z}{v}{D}{i q}(h:bZ w Z v (D.oN i q) (Rk D i q)):Ints w v (D.oN i q) (D.oR i q):=by
 obtain⟨ao,cap,e,f,g,d,_⟩:=h;exact⟨ao,cap,e,f,by omega,λa=>let ⟨b,o,q,c⟩:=d a;⟨b,o,q,c⟩⟩
def Hz (A:Nat->Option Addr)(N C:Nat->Nat)(r:Nat)(b:r<4)(w):adO 130 #[.agg #[.slice (A 0) (N 0) (C 0),.slice (A 1) (N 1) (C 1),.slice (A 2) (N 2) (C 2),.slice (A 3) (N 3) (C 3)],.int .i64 r] w λe w'=>e=.returned (.slice (A r) (N r) (C r))/\adN w w':=by
 have a:r=0\/r=1\/r=2\/r=3:=by omega
 rcases a with rfl|rfl|rfl|rfl
 all_goals
  go_enter (pf func130 (by rfl)),ntmps130
  go_wp2_with fail;go_ret;exact⟨rfl,(aab _ _).alloc (ZL _) _⟩
abbrev SO (w:World)(pr a:Nat)(r x:Value)(cs:Array Value)(w':World):Prop:=w'.cell? ⟨pr,0,none⟩=some r/\w'.cell? ⟨a,0,none⟩=some x/\(∀j,w'.cell? ⟨w.heap.size,j,none⟩=cs[j]?)/\adN w w'/\w.heap.size<w'.heap.size
def Oi {w}{pr a}{r x}{cs}{t}(c:w.cell? ⟨pr,0,none⟩=some r)(b:w.cell? ⟨a,0,none⟩=some x):SO w pr a r x cs (w.alloc (.cells cs t)).drew:=by
 have hb:adN w (w.alloc (.cells cs t)).drew:=((aab _ _).alloc (ZL _) _).drew;refine⟨keeps hb c,keeps hb b,λj=>?_,hb,by show w.heap.size< (w.alloc _).heap.size;simp⟩;exact(blk (aae w (.cells cs t))).1 j
def Qj {w w1 w2}{pr a}{r x}{cs}(h:SO w pr a r x cs w1)(hb:adN w1 w2):SO w pr a r x cs w2:=
 ⟨keeps hb h.1,keeps hb h.2.1,λj=>(hb.cell (p:=⟨w.heap.size,j,none⟩) h.2.2.2.2).trans (h.2.2.1 j),h.2.2.2.1.trans (hb.mono (Nat.le_of_lt h.2.2.2.2)),ZO h.2.2.2.2 hb.size⟩
def Qi {w w1}{pr a}{r x}{cs}(h:SO w pr a r x cs w1){v}{n}{R}(b:Ints w v n R):Ints w1 v n R:=b.ext h.2.2.2.1
def CY (nm)(A:Nat->Option Addr)(N C:Nat->Nat)(R:Nat->Nat->Int)(r:Nat)(x)(pr b)(w)(i:r<4)(l:w.cell? ⟨pr,0,none⟩=some (.int .i64 r))(k:w.cell? ⟨b,0,none⟩=some (.int .i64 x))(h:Ints w (.slice (A r) (N r) (C r)) (N r) (R r)):
 adO 128 #[.agg #[.string nm,.slice (A 0) (N 0) (C 0),.slice (A 1) (N 1) (C 1),.slice (A 2) (N 2) (C 2),.slice (A 3) (N 3) (C 3)],.pointer (some ⟨pr,0,none⟩),.pointer (some ⟨b,0,none⟩)] w λe w'=>lg (among (R r) (N r) x) e/\adN w w':=by
 have m:=av h;clear h
 go_enter (pf func128 (by rfl)),ntmps128
 go_wp2_with fail
 go_region_held3(SO w pr b (.int .i64 r) (.int .i64 x) #[.string nm,.slice (A 0) (N 0) (C 0),.slice (A 1) (N 1) (C 1),.slice (A 2) (N 2) (C 2),.slice (A 3) (N 3) (C 3)]) (with_reducible (first|exact Oi l k|exact Qj (by assumption) (by assumption)))
  (first
   |(go_at_call 130;refine(Hz A N C r i _).mono ?_;rintro e w2 ⟨rfl,c⟩)
   |(go_at_call 129;refine(fT _ _ (R r) x _ (Qi (by assumption) m.out)).mono ?_;rintro e w2 ⟨⟨d,rfl,a⟩,rfl⟩;have c:=aab w2.heap.size w2))
 all_goals
  rename_i n K g f j;simp only[Exit.then];refine g _ _ ?_;clear g;go_wp2_with fail;go_ret;exact⟨⟨d,rfl,a⟩,j.2.2.2.1⟩
def C9 (D)(Z)(v f)(r:Nat)(x)(pr p)(w)(C:r<4)(h:bZ w Z v D.bn (LJ D Z))(H:w.cell? ⟨pr,0,none⟩=some (.int .i64 r))(G:w.cell? ⟨p,0,none⟩=some (.int .i64 x))(hf:f=.func (.func 128) #[] #[.pointer (some ⟨pr,0,none⟩),.pointer (some ⟨p,0,none⟩)]):
 adO 157 #[v,f] w λe w'=>(∃q:Int,e=.returned (.int .i64 q)/\(0<=q↔CE D r x))/\adN w w':=by
 obtain⟨ao,cap,rfl,hc,hm,F,_⟩:=h;subst hf;have B:Hid ((0<D.bn->∃b o,ao=some ⟨b,o,none⟩/\LJ D Z b o w)/\w.cell? ⟨pr,0,none⟩=some (.int .i64 r)/\w.cell? ⟨p,0,none⟩=some (.int .i64 x)):=⟨F,H,G⟩;clear F H G
 go_enter (pf func157 (by rfl)),ntmps157
 go_wp2_with fail
 go_loopw [8] (λi wr=>∃k:Nat,k<=D.bn/\i=.int .i64 k/\adN w wr/\∀i,i<k->¬Rj D r i x) (λi _=>D.bn-(intOf i).toNat)
 case atStart=>exact⟨0,by omega,rfl,aab _ _,λi E=>absurd E (ZV _)⟩
 case round=>
  obtain⟨i,E,rfl,hb,d⟩:=hrel;have c:=av (aaa hb d)
  by_cases l:i<D.bn
  .have U:(i:Int)<D.bn:=by omega
   obtain⟨b,o,rfl,m⟩:=B.out.1 (by omega);obtain⟨⟨nm,c0⟩,g⟩:=m i l;obtain⟨v0,I,M⟩:=g 0 (by omega);obtain⟨v1,c2,L⟩:=g 1 (by omega);obtain⟨v2,c3,K⟩:=g 2 (by omega);obtain⟨v3,c4,J⟩:=g 3 (by omega);obtain⟨a0,u,rfl,m0⟩:=M;obtain⟨y,k1,rfl,m1⟩:=L;obtain⟨a2,t,rfl,m2⟩:=K;obtain⟨a3,s,rfl,m3⟩:=J
   have T:Hid (∀q,q<4->Ints w (.slice (match q with|0=>a0|1=>y|2=>a2|_=>a3) (D.oN i q) (match q with|0=>u|1=>k1|2=>t|_=>s)) (D.oN i q) (D.oR i q)):=λq N=>by
        rcases(show q=0\/q=1\/q=2\/q=3 by omega)with rfl|rfl|rfl|rfl
        .exact bZ.own (v:=.slice a0 _ u) ⟨a0,u,rfl,m0⟩
        .exact bZ.own (v:=.slice y _ k1) ⟨y,k1,rfl,m1⟩
        .exact bZ.own (v:=.slice a2 _ t) ⟨a2,t,rfl,m2⟩
        .exact bZ.own (v:=.slice a3 _ s) ⟨a3,s,rfl,m3⟩
   have S:=keeps hb c0;have R:=keeps hb I;have Q:=keeps hb c2;have P:=keeps hb c3;have O:=keeps hb c4;rw[Nat.mul_comm 5 i]at S R Q P O;clear m g c0 I c2 c3 c4 m0 m1 m2 m3 hb d;go_wp2_with(go_at_call 128;refine(CY nm (λq=>match q with|0=>a0|1=>y|2=>a2|_=>a3) (D.oN i) (λq=>match q with|0=>u|1=>k1|2=>t|_=>s) (D.oR i) r x pr p wr C (keeps c.out.1 B.out.2.1) (keeps c.out.1 B.out.2.2) ((T.out r C).ext c.out.1)).mono ?_;rintro e w1 ⟨⟨A,rfl,a⟩,n⟩;have H1:=av (aaa (c.out.1.trans (n.mono c.out.1.size)) a);clear n a;cases A)
   .go_roundw
    case rel=>exact⟨i+1,by omega,by go_num,H1.out.1,λj z=>by
     rcases ac7.1 z with h|rfl
     .exact c.out.2 j h
     .exact λhp=>Bool.noConfusion (H1.out.2.2 hp)⟩
    case measure=>simp[intOf];omega
   .go_ret
    exact⟨⟨_,rfl,λ_=>⟨i,l,H1.out.2.1 (by trivial)⟩,λ_=>by omega⟩,H1.out.1⟩
  .have:i=D.bn:=by omega
   subst this;clear hb d;go_wp2_with fail;go_ret;exact⟨⟨_,rfl,λh=>absurd h (by decide),fun⟨j,z,hp⟩=>absurd hp (c.out.2 j z)⟩,c.out.1⟩
def vC (D)(Z)(v f)(r:Nat)(x)(pr b)(w)(g:r<4)(h:bZ w Z v D.bn (LJ D Z))(d:w.cell? ⟨pr,0,none⟩=some (.int .i64 r))(c:w.cell? ⟨b,0,none⟩=some (.int .i64 x))(hf:f=.func (.func 128) #[] #[.pointer (some ⟨pr,0,none⟩),.pointer (some ⟨b,0,none⟩)]):
 adO 127 #[v,f] w λe w'=>lg (CE D r x) e/\adN w w':=by
 have a:=av (aaa h (aaa d (aaa c hf)));clear h d c hf
 go_enter (pf func127 (by rfl)),ntmps127
 go_wp2_with(go_at_call 157;refine(C9 D Z v f r x pr b _ g a.out.1 a.out.2.1 a.out.2.2.1 a.out.2.2.2).mono ?_;rintro e w1 ⟨⟨q,rfl,i⟩,hb⟩);go_ret;exact⟨⟨_,rfl,by simpa using i⟩,hb⟩
def E6 (D)(Z)(bb r:Nat)(x)(w)(k:r<4)(hb:bM w Z bb D):adO 78 #[.pointer (some ⟨bb,0,none⟩),.int .i64 r,.int .i64 x] w λe w'=>lg (CE D r x) e/\adN w w':=by
 obtain⟨v,h,j⟩:=hb.boxes;have l:bb<w.heap.size:=aan h
 have m:Hid (∀W,adN w W->bZ W Z v D.bn (LJ D Z)):=λW hW=>by
  obtain⟨v',g1,g2⟩:=(bM.below hb hW).boxes;rw[keeps hW h]at g1;cases g1;exact g2
 obtain⟨ao,cap,rfl,_⟩:=j;clear hb
 go_enter (pf func78 (by rfl)),ntmps78
 go_wp2_with fail;obtain⟨W,hW⟩:∃W,W=(w.alloc (.cells #[.int .i64 r] 3)).alloc (.cells #[.int .i64 x] 3):=⟨_,rfl⟩;have hA:adN w W:=by rw[hW];exact((aab _ _).alloc (ZL _) _).alloc (by simp) _
 have c:W.heap[w.heap.size]? =some (.cells #[.int .i64 r] 3 (0,0)):=by rw[hW];exact aap _ _ _
 have b:W.heap[w.heap.size+1]? =some (.cells #[.int .i64 x] 3 (0,0)):=by rw[hW];exact aam _ _ _
 have f:=av (aaa hA (aaa ((blk c).1 0) ((blk b).1 0)));rw[<-hW];clear hW hA c b;refine(vC D Z _ _ r x w.heap.size (w.heap.size+1) W k (m.out W f.out.1) f.out.2.1 f.out.2.2 rfl).mono ?_;rintro e w1 ⟨⟨g,rfl,a⟩,d⟩;have i:=av (aaa (ai f.out.1 d) a);clear d a;go_wp2_with fail;go_ret;exact⟨⟨g,rfl,i.out.2⟩,i.out.1⟩
def IG (D)(Z)(bb c pr r:Nat)(x)(w)(d:r<4)(hb:bM w Z bb D)(hp:w.cell? ⟨c,0,none⟩=some (.pointer (some ⟨bb,0,none⟩)))(g:w.cell? ⟨pr,0,none⟩=some (.int .i64 r)):
 adO 77 #[.int .i64 x,.pointer (some ⟨c,0,none⟩),.pointer (some ⟨pr,0,none⟩)] w λe w'=>lg (CE D r x) e/\adN w w':=by
 have f:=av hb;clear hb
 go_enter (pf func77 (by rfl)),ntmps77
 go_wp2_with(go_at_call 78;refine(E6 D Z bb r x _ d f.out).mono ?_;rintro e w1 ⟨⟨b,rfl,a⟩,hb⟩);go_ret;exact⟨⟨b,rfl,a⟩,hb⟩
abbrev XY (a pr:Nat):Value:=.func (.func 77) #[] #[.pointer (some ⟨a,0,none⟩),.pointer (some ⟨pr,0,none⟩)]
def Ob (w:World)(B b pr:Nat)(p:Int->Prop):Prop:=∀x a,Below B w a->B<=a.heap.size->adO 77 #[.int .i64 x,.pointer (some ⟨b,0,none⟩),.pointer (some ⟨pr,0,none⟩)] a λe w'=>lg (p x) e/\adN a w'
def SC (p:Int->Prop)(n:Nat)(R:Nat->Int)(e:Ending):Prop:=∃q:Int,e=.returned (.int .i64 q)/\((q= -1/\∀i,i<n->¬p (R i))\/∃k:Nat,q=k/\k<n/\p (R k)/\∀i,i<k->¬p (R i))
def yn (p)(B t pr)(v f)(n)(R)(w)(x:B<=w.heap.size)(h:Ints w v n R)(hf:f=XY t pr)(a:Ob w B t pr p):
 adO 126 #[v,f] w λe w'=>SC p n R e/\adN w w':=by
 obtain⟨ao,cap,rfl,hc,hm,u⟩:=h;subst hf;have y:=av a;have z:Hid (0<n->∃b o,ao=some ⟨b,o,none⟩/\gM w b o n R):=u;clear a u
 go_enter (pf func126 (by rfl)),ntmps126
 go_wp2_with fail
 go_loopw [8] (λi wr=>∃k:Nat,k<=n/\i=.int .i64 k/\adN w wr/\∀i,i<k->¬p (R i)) (λi _=>n-(intOf i).toNat)
 case atStart=>exact⟨0,by omega,rfl,aab _ _,λi l=>absurd l (ZV _)⟩
 case round=>
  obtain⟨k,C,rfl,hb,j⟩:=hrel;have g:=av (aaa hb j)
  by_cases m:k<n
  .obtain⟨b,o,rfl,l⟩:=z.out (by omega)
   have u0:=(l.ext g.out.1) k m;have A:(k:Int)<n:=(by omega);have r:B<=wr.heap.size:=ZP x hb.size;clear l hb j;go_wp2_with(go_at_call 77;refine(y.out (R k) wr (g.out.1.mono x) r).mono ?_;rintro e w1 ⟨⟨s,rfl,d⟩,q⟩;have c:=av (aaa q d);clear q d;cases s)
   .go_roundw
    case rel=>exact⟨k+1,by omega,by go_num,ai g.out.1 c.out.1,λi l=>by
     rcases ac7.1 l with h|rfl
     .exact g.out.2 i h
     .exact λhp=>Bool.noConfusion (c.out.2.2 hp)⟩
    case measure=>simp[intOf];omega
   .go_ret
    exact⟨⟨_,rfl,.inr ⟨k,rfl,m,c.out.2.1 (by trivial),g.out.2⟩⟩,ai g.out.1 c.out.1⟩
  .have:k=n:=by omega
   subst this;clear hb j;go_wp2_with fail;go_ret;exact⟨⟨_,rfl,.inl ⟨rfl,g.out.2⟩⟩,g.out.1⟩
def JH {w:World}{base ty b}{v}{n}{xs}(h:w.ownsRow base ty b v n xs){g j}(c:v.ownBlock=some g)(u):(w.setCell ⟨g,j,none⟩ u).ownsRow base ty b v n (xs.set j u):=by
 refine⟨by rw[List.length_set];exact h.1,?_⟩;rcases h.2 with⟨rfl,_⟩|⟨g',cap,cur,rfl,f,a,e,hc,hs,d⟩
 .cases c
 .cases c
  refine .inr ⟨g',cap,cur.setIfInBounds j u,rfl,f,aD (i:=j) u a,e,hc,by simpa using hs,?_⟩;rw[Array.toList_setIfInBounds,List.take_set,d]
def EC {base ty}{v}{n g}(a:v.ownBlock=some g):∀(us:List Value) (j:Nat) (w:World) (xs:List Value),w.ownsRow base ty 1 v n xs->∃ys,(w.setCells g j us).ownsRow base ty 1 v n ys/\∀t,t<j->ys[t]? =xs[t]?
 |[],j,w,xs,h=>⟨xs,h,λ_ _=>rfl⟩
 |u::us,j,w,xs,h=>by
  obtain⟨ys,c,b⟩:=EC a us (j+1) _ _ (JH h a (j:=j) u);exact⟨ys,c,λt d=>by rw[b t (by omega),ac8 (by omega)]⟩
def zg {B g}(b:B<=g):∀(us:List Value) (j:Nat) (a w:World),Below B a w->Below B a (w.setCells g j us)
 |[],_,_,_,h=>h
 |u::us,j,_,_,h=>zg b us (j+1) _ _ (h.setCell b u)
def Pj {w:World}{base ty g n cap}{xs}(h:w.ownsRow base ty 1 (.slice (some ⟨g,0,none⟩) n cap) n xs){i}(j:i<=n):w.ownsRow base ty 1 (.slice (some ⟨g,0,none⟩) i cap) i (xs.take i):=by
 refine⟨by rw[adh,h.1];omega,?_⟩;rcases h.2 with⟨e,_⟩|⟨g',b,cur,e,d,a,f,hc,hs,c⟩
 .cases e
 .cases e
  refine .inr ⟨g,cap,cur,rfl,d,a,by omega,hc,hs,?_⟩;rw[<-c,List.take_take]
  congr 1
  omega
def CF {w:World}{base ty g n cap}{xs}(h:w.ownsRow base ty 1 (.slice (some ⟨g,0,none⟩) n cap) n xs){t}{u}(hu:xs[t]? =some u):w.cell? ⟨g,t,none⟩=some u/\w.frozen? ⟨g,t,none⟩=false:=by
 rcases h.2 with⟨e,_⟩|⟨g',b,cur,e,j,a,i,hc,hs,f⟩
 .cases e
 .cases e
  obtain⟨d,c⟩:=blk a;refine⟨?_,c t⟩;rw[d];have hl:t<n:=by have:=(ZZ.1 hu).1;rw[h.1]at this;omega
  rw[<-f,Z5,if_pos (by omega)]at hu;simpa using hu
def kept (p:Int->Prop)[DecidablePred p](l:List Nat):List Nat:=l.filter λi=>decide (¬p (i:Int))
def EV {p}[DecidablePred p]{l:List Nat}(h:∀i∈l,¬p (i:Int)):kept p l=l:=by
 unfold kept;exact List.filter_eq_self.2 λi a=>by simpa using h i a
def ry {p}[DecidablePred p]{l:List Nat}{j x:Nat}(h:l[j]? =some x)(hp:p (x:Int)):kept p (l.take (j+1))=kept p (l.take j):=by
 unfold kept;rw[adq,h,aaj];simp[hp]
def sP {p}[DecidablePred p]{l:List Nat}{j x:Nat}(h:l[j]? =some x)(hp:¬p (x:Int)):kept p (l.take (j+1))=kept p (l.take j)++[x]:=by
 unfold kept;rw[adq,h,aaj];simp[hp]
def CW (p)[DecidablePred p](l:List Nat)(j):(kept p (l.take j)).length<=j:=by
 unfold kept;exact ZP (aai _ _) (by simp;omega)
structure gz (w:World)(base g cap:Nat)(p:Int->Prop)[DecidablePred p](l:List Nat)(j:Nat)(xs:List Value):Prop where
 row:w.ownsRow base 3 1 (.slice (some ⟨g,0,none⟩) l.length cap) l.length xs
 done:∀t,t< (kept p (l.take j)).length->xs[t]? =(aT (kept p (l.take j)))[t]?
 rest:∀t,j<=t->xs[t]? =(aT l)[t]?
def Fa {l}{t x:Nat}(h:l[t]? =some x):(aT l)[t]? =some (.int .i64 (x:Int)):=by simp[aT,h]
def gz.call {w w'}{base g cap}{p}[DecidablePred p]{l}{j}{xs}(h:gz w base g cap p l j xs)(hb:adN w w'):gz w' base g cap p l j xs:=⟨au h.row hb,h.done,h.rest⟩
def gz.hit {w}{base g cap}{p}[DecidablePred p]{l}{j x}{xs}(h:gz w base g cap p l j xs)(hx:l[j]? =some x)(hp:p (x:Int)):gz w base g cap p l (j+1) xs:=
 ⟨h.row,λt a=>by rw[ry hx hp]at a⊢;exact h.done t a,λt a=>h.rest t (by omega)⟩
def gz.Wz {w}{base g cap}{p}[DecidablePred p]{l}{j x}{xs}(h:gz w base g cap p l j xs)(hx:l[j]? =some x)(hp:¬p (x:Int)):
 gz (w.setCell ⟨g,(kept p (l.take j)).length,none⟩ (.int .i64 (x:Int))) base g cap p l (j+1) (xs.set (kept p (l.take j)).length (.int .i64 (x:Int))):=by
 have hle:=CW p l j;have d:j<l.length:=(ZZ.1 hx).1;have c:xs.length=l.length:=by have:=h.row.1;omega
 refine⟨JH h.row rfl _,λt a=>?_,λt a=>?_⟩
 .rw[sP hx hp]at a⊢
  rw[Z7]at a;simp only[adt,List.length_nil]at a
  by_cases he:t=(kept p (l.take j)).length
  .subst he
   rw[List.getElem?_set_self (by omega)];exact(Fa (by simp)).symm
  .rw[ac8 (Ne.symm he),h.done t (by omega)]
   have b:t< (kept p (l.take j)).length:=(by omega);unfold aT;rw[List.map_append,List.getElem?_append_left (by simpa using b)]
 .rw[ac8 (by omega)]
  exact h.rest t (by omega)
def gz.cut {w}{base g cap}{p}[DecidablePred p]{l}{xs ys}(h:gz w base g cap p l l.length xs){W:World}(hW:W.ownsRow base 3 1 (.slice (some ⟨g,0,none⟩) l.length cap) l.length ys)(hy:∀t,t< (kept p l).length->ys[t]? =xs[t]?):
 W.ownsRow base 3 1 (.slice (some ⟨g,0,none⟩) (kept p l).length cap) (kept p l).length (aT (kept p l)):=by
 have e:l.take l.length=l:=List.take_length;have hle:=CW p l l.length;rw[e]at hle;have:=Pj hW hle;have b:ys.length=l.length:=by have:=hW.1;omega
 have c:ys.take (kept p l).length=aT (kept p l):=by
  refine List.ext_getElem? λt=>?_
  rw[Z5]
  by_cases a:t< (kept p l).length
  .rw[if_pos a,hy t a,h.done t (by rw[e];exact a),e]
  .rw[if_neg a,List.getElem?_eq_none (by simp[aT];omega)]
 rw[c]at this;exact this
def vB (p)[DecidablePred p](base B M pr)(v f)(l)(w)(b:w.ownsRow base 3 1 v l.length (aT l))(hl:l.length<=1000)(W:B<=base)(m:B<=w.heap.size)(hf:f=XY M pr)(c:Ob w B M pr p):
 adO 76 #[v,f] w λe w'=>∃v',e=.returned v'/\w'.ownsRow base 3 1 v' (kept p l).length (aT (kept p l))/\Below B w w':=by
 have HI:=av (dh b);have Z:=av c;obtain⟨ao,cap,rfl⟩:=aj b;have K:=av b;subst hf;clear b c
 have δ:Hid (∀w1,adN w w1->gz w1 base (match ao with|some a=>a.block|none=>0) cap p l 0 (aT l)\/ao=none):=λw1 hb=>by
  cases ao with
  |none=>exact .inr rfl
  |some a=>
   have e:a=⟨a.block,0,none⟩:=by
        rcases K.out.2 with⟨e,_⟩|⟨g',r,cur,e,_⟩
        .cases e
        .cases e;rfl
   refine .inl ⟨?_,λt C=>by simp[kept]at C,λt _=>rfl⟩;have:=au K.out hb;rw[e]at this;exact this
 go_enter (pf func76 (by rfl)),ntmps76
 go_wp2_with(go_at_call 126;refine(yn p B M pr _ _ _ _ w m HI.out rfl Z.out).mono ?_;rintro e w1 ⟨⟨q,rfl,hq⟩,hb⟩;have n:=av hb;clear hb;rcases hq with⟨rfl,d⟩|⟨k,rfl,V,hp,d⟩)
 .go_ret
  have e:kept p l=l:=EV λi Q=>by
   obtain⟨j,I,rfl⟩:=ado.1 Q;have:=d j I;rw[ZT I]at this;exact this
  rw[e];exact⟨_,rfl,au K.out n.out,n.out.mono m⟩
 obtain⟨g,S,J⟩:∃g,ao=some ⟨g,0,none⟩/\base<=g:=by
  rcases K.out.2 with⟨e,X⟩|⟨g',r,cur,e,hh,_⟩
  .omega
  .cases e;exact⟨g',rfl,hh⟩
 subst S
 have y:Hid (gz w1 base g cap p l (k+1) (aT l)/\(kept p (l.take (k+1))).length=k):=by
  have hx:l[k]? =some l[k]:=ZT V
  have Y:kept p (l.take k)=l.take k:=EV λi Q=>by
   obtain⟨j,I,rfl⟩:=ado.1 Q;have P:j<k:=(by simp at I;omega);have:=d j P;rw[ZT (by omega)]at this;simpa using this
  have G:p (l[k]:Int):=by rw[hx]at hp;exact hp
  have X:gz w1 base g cap p l k (aT l):=⟨au K.out n.out,λt C=>by
   rw[Y]at C⊢;have:t<k:=(by simp at C;omega);unfold aT;rw[List.map_take,Z5,if_pos this],λ_ _=>rfl⟩
  exact⟨X.hit hx G,by rw[ry hx G,Y];simp;omega⟩
 clear hp d;have N:∀w:World,(zeroValue 3).run (patch ae prog) w=.ok (.int .i64 0) w:=λw=>by simp[go_sem]
 have T:(((k:Nat):Int)== -1)=false:=acZ.2 (by omega);rw[T]
 go_loopw [5,6,7] (λi j _ wr=>∃(A:Nat) (xs:List Value),A<=l.length/\j=.int .i64 A/\i=.int .i64 (((kept p (l.take A)).length:Nat):Int)/\Below B w wr/\gz wr base g cap p l A xs/\(kept p (l.take A)).length<A) (λ_ j _ _=>l.length-(intOf j).toNat)
 case atStart=>exact⟨k+1,aT l,V,by go_num,by rw[y.out.2],n.out.mono m,y.out.1,by rw[y.out.2];omega⟩
 case round=>
  obtain⟨j,xs,I,rfl,rfl,hb,hs,H⟩:=hrel;have hle:=CW p l j;have β:xs.length=l.length:=by have:=hs.row.1;omega
  have E:=av (aaa hb (aaa hs H));have F:B<=wr.heap.size:=ZP m hb.size
  by_cases O:j<l.length
  .obtain⟨x,hx⟩:∃x,l[j]? =some x:=⟨_,ZT O⟩
   obtain⟨q1,_⟩:=CF hs.row (t:=j) (by rw[hs.rest j (ZL _)];exact Fa hx);obtain⟨u,hu⟩:∃u,xs[(kept p (l.take j)).length]? =some u:=⟨_,ZT (by omega)⟩;have HU:=av hu;have D:=av hx;have jn:(j:Int)< (l.length:Int):=(by omega);have kn:(((kept p (l.take j)).length:Nat):Int)< (l.length:Int):=(by omega);clear hb hs hu hx;generalize h:(kept p (l.take j)).length=i at*;have L:=av h;clear h;go_wp2_with(go_at_call 77;refine(Z.out (x:Int) wr E.out.1 F).mono ?_;rintro e w2 ⟨⟨U,rfl,o⟩,s⟩;have z:=av (aaa (gz.call E.out.2.1 s) (aaa (E.out.1.trans (s.mono F)) o));obtain⟨q2,α⟩:=CF z.out.1.row HU.out;clear o s;cases U)
   .go_roundw
    case rel=>
     have hp:¬p (x:Int):=λhp=>Bool.noConfusion (z.out.2.2.2 hp)
     refine⟨j+1,xs.set i (.int .i64 (x:Int)),by omega,by go_num,?_,z.out.2.1.setCell (ZP W J) _,?_,?_⟩
     .rw[sP D.out hp,Z7,L.out];go_num
     .have:=z.out.1.Wz D.out hp
      rw[L.out]at this;exact this
     .rw[sP D.out hp,Z7,L.out];simp;omega
    case measure=>simp[intOf];omega
   .go_roundw
    case rel=>
     have hp:p (x:Int):=z.out.2.2.1 (by trivial);refine⟨j+1,xs,by omega,by go_num,by rw[ry D.out hp,L.out],z.out.2.1,z.out.1.hit D.out hp,by rw[ry D.out hp,L.out];omega⟩
    case measure=>simp[intOf];omega
  .have:j=l.length:=by omega
   subst this;have h:kept p (l.take l.length)=kept p l:=(by rw[List.take_length]);rw[h]at H hle⊢
   have γ:∀ty,(Builtin.clear_ #[23] ty #[.slice (some ⟨g,(kept p l).length,none⟩) (l.length-(kept p l).length) (cap-(kept p l).length)]).run (patch ae prog) wr=.ok (.tuple #[]) (wr.setCells g (kept p l).length (List.replicate (l.length-(kept p l).length) (.int .i64 0))):=
        λty=>Lib.run_clear_slice wr _ _ ty _ ((ax ae prog 23).trans underlying23) N rfl rfl g (kept p l).length _ _ (by omega) (λt C=>by
         rw[(CF hs.row (t:=(kept p l).length+t) (ZT (by omega))).1];rfl) (λt C=>(CF hs.row (t:=(kept p l).length+t) (ZT (by omega))).2)
   have R:l.length<=cap:=by
        rcases hs.row.2 with⟨e,_⟩|⟨g',r,cur,e,_,_,hc,_⟩
        .cases e
        .cases e;exact hc
   have kn:(((kept p l).length:Nat):Int)<=(l.length:Int):=(by omega);clear hb hs;go_wp2_with fail;go_ret;refine⟨_,rfl,?_,?_⟩
   .obtain⟨ys,h1,h2⟩:=EC (g:=g) rfl (List.replicate (l.length-(kept p l).length) (.int .i64 0)) (kept p l).length wr xs E.out.2.1.row
    exact E.out.2.1.cut h1 h2
   .exact zg (ZP W J) _ _ _ _ E.out.1
def MP (D:BD)(r:Nat)(x:Int):Decidable (CE D r x):=by unfold CE Rj among;infer_instance
def gq (D:BD)(r:Nat):List Nat:= @kept (λx=>CE D r x) (MP D r) (dL D r)
def lK (bb r)(D)(w)(n:r<4)(hb:aW w bb D)(g:D.ok)(hlen:(dL D r).length<=1000):
 adO 48 #[.pointer (some ⟨bb,0,none⟩),.int .i64 r] w λe w'=>∃v,e=.returned v/\w'.ownsRow w.heap.size 3 1 v (gq D r).length (aT (gq D r))/\adN w w':=by
 have l:=av (aaa hb g);clear hb g
 go_enter (pf func48 (by rfl)),ntmps48
 go_wp2_with fail;obtain⟨W,hW⟩:∃W,W=(w.alloc (.cells #[.pointer (some ⟨bb,0,none⟩)] 31)).alloc (.cells #[.int .i64 r] 3):=⟨_,rfl⟩;have hA:adN w W:=by rw[hW];exact((aab _ _).alloc (ZL _) _).alloc (by simp) _
 have h:W.heap[w.heap.size]? =some (.cells #[.pointer (some ⟨bb,0,none⟩)] 31 (0,0)):=by rw[hW];exact aap _ _ _
 have d:W.heap[w.heap.size+1]? =some (.cells #[.int .i64 r] 3 (0,0)):=by rw[hW];exact aam _ _ _
 rw[<-hW];refine(uh bb r D W n (aW.below l.out.1 hA) l.out.2).mono ?_;rintro e w1 ⟨v,rfl,c,a⟩;obtain⟨t,vc,rfl⟩:=aj c;have j:w.heap.size+1<W.heap.size:=(ZK.1 d).1
 have s:Hid (Ob w1 W.heap.size w.heap.size (w.heap.size+1) (λx=>CE D r x)):=λx o f _=>by
  have k:adN w o:=(ai hA a).trans (f.mono (by omega));exact IG D _ bb w.heap.size (w.heap.size+1) r x o n (aW.below l.out.1 k) ((f.cell (p:=⟨w.heap.size,0,none⟩) (by show w.heap.size<_;omega)).trans ((a.cell (p:=⟨w.heap.size,0,none⟩) (by show w.heap.size<_;omega)).trans ((blk h).1 0))) ((f.cell (p:=⟨w.heap.size+1,0,none⟩) j).trans ((a.cell (p:=⟨w.heap.size+1,0,none⟩) j).trans ((blk d).1 0)))
 have m:=av (aaa c (aaa (ai hA a) (aaa a.size j)));clear hW hA h d c a;go_wp2_with(go_at_call 76;refine(@vB (λx=>CE D r x) (MP D r) W.heap.size W.heap.size w.heap.size (w.heap.size+1) _ _ (dL D r) w1 m.out.1 hlen (ZL _) m.out.2.2.1 rfl s.out).mono ?_;rintro e w2 ⟨v2,rfl,b,i⟩;have q:=av (aaa b i);clear b i);go_ret;exact⟨_,rfl,aB q.out.1 (by omega),m.out.2.1.trans (q.out.2.mono (by omega))⟩
def takeN (p:Nat->Bool)(k:Nat)(l:List Nat):List Nat:=(l.filter p).take k
def Ku {p}{k}{l:List Nat}{j x}(h:l[j]? =some x)(hp:p x=true)(a:(takeN p k (l.take j)).length<k):takeN p k (l.take (j+1))=takeN p k (l.take j)++[x]:=by
 unfold takeN at a⊢;rw[adh]at a;rw[adq,h,aaj];simp only[Option.toList_some,List.filter_cons,hp,if_true,List.filter_nil];rw[List.take_append,aah (l:=[x]) (by simp;omega)]
def GR {p}{k}{l:List Nat}{j}(a:¬(takeN p k (l.take j)).length<k):takeN p k (l.take (j+1))=takeN p k (l.take j):=by
 unfold takeN at a⊢;rw[adh]at a;rw[adq,aaj,List.take_append,show k-(List.filter p (l.take j)).length=0 by omega];simp
def GQ {p}{k}{l:List Nat}{j x}(h:l[j]? =some x)(hp:p x=false):takeN p k (l.take (j+1))=takeN p k (l.take j):=by
 unfold takeN;rw[adq,h,aaj];simp[hp]
def Mo (p)(k)(l:List Nat)(j):(takeN p k (l.take j)).length<=j:=by
 unfold takeN;refine ZP (List.length_take_le' _ _) (ZP (aai _ _) ?_);simp;omega
def Jt (w:World)(v:Value)(n a off:Nat)(N:Nat->Int):Prop:=∃ao cap,v=.slice ao n cap/\n<=cap/\n<=1000000/\(0<n->∃b o,ao=some ⟨b,o,none⟩/\∀i,i<n->w.cell? ⟨b,o+i*a+off,none⟩=some (.int .i64 (N i)))
def bE (m:Nat)(N:Nat->Int)(i:Nat):Bool:=has m (N i).toNat
def NZ:Value->Prop
 |.slice (some _) _ 0=>False
 |_=>True
def NZ.Ic {w:World}{base a n}{t}{v}{xs}(h:w.ownsRow base t a v n xs)(b:0<n):NZ v:=by
 rcases h.2 with⟨rfl,_⟩|⟨g,cap,cur,rfl,_,_,d,_⟩
 .trivial
 .cases cap with
  |zero=>omega
  |succ c=>trivial
def Ay (n k m:Nat)(N)(v H)(l)(w)(hm:m<16)(W:k<=1000)(R:Jt w v n 2 0 N)(J:∀i,i<n->0<=N i/\N i<4)(hl:Ints w H l.length (λj=>((l[j]?.getD 0:Nat):Int)))(E:∀i∈l,i<n)(hlen:l.length<=1000):
 adO 138 #[v,H,.int .u64 m,.int .i64 k] w λe w'=>∃v',e=.returned v'/\w'.ownsRow w.heap.size 3 1 v' (takeN (bE m N) k l).length (aT (takeN (bE m N) k l))/\adN w w'/\NZ v':=by
 obtain⟨ao,cap,rfl,h1,h2,L⟩:=R;obtain⟨al,M,rfl,Z,Y,K⟩:=hl;obtain⟨i0,T,D,C,B⟩:=info_parts Tryz.gQ;have hu:=((ax ae prog 23).trans underlying23);have H3:Hid (0<n->∃b o,ao=some ⟨b,o,none⟩/\∀i,i<n->w.cell? ⟨b,o+i*2+0,none⟩=some (.int .i64 (N i))):=L;have U:Hid (0<l.length->∃b o,al=some ⟨b,o,none⟩/\gM w b o l.length (λj=>((l[j]?.getD 0:Nat):Int))):=K;clear L K
 go_enter (pf func138 (by rfl)),ntmps138
 go_wp2_with fail
 go_loopw [9,14] (λv i wr=>∃j:Nat,j<=l.length/\i=.int .i64 j/\wr.ownsRow w.heap.size 3 1 v (takeN (bE m N) k (l.take j)).length (aT (takeN (bE m N) k (l.take j)))/\adN w wr/\NZ v) (λ_ i _=>l.length-(intOf i).toNat)
 case atStart=>exact⟨0,by omega,rfl,by simpa[takeN,aT] using aag _ _ _ _,aab _ _,trivial⟩
 case round=>
  obtain⟨j,X,rfl,a,hb,r⟩:=hrel;obtain⟨vo,vc,rfl⟩:=aj a;have c:Hid (wr.ownsRow w.heap.size 3 1 (.slice vo (takeN (bE m N) k (l.take j)).length vc) (takeN (bE m N) k (l.take j)).length (aT (takeN (bE m N) k (l.take j)))/\adN w wr/\NZ (.slice vo (takeN (bE m N) k (l.take j)).length vc)):=⟨a,hb,r⟩;have hle:=Mo (bE m N) k l j;have Q:w.heap.size<=wr.heap.size:=hb.size;clear a hb r
  by_cases t:j<l.length
  .obtain⟨x,hx⟩:∃x,l[j]? =some x:=⟨_,ZT t⟩
   have h:x<n:=E x (aak hx);obtain⟨b,o,rfl,hc⟩:=H3.out (by omega);obtain⟨bl,ol,rfl,y⟩:=U.out (by omega);have P:=(y.ext c.out.2.1) j t;simp only[hx,ac9]at P;have I:=keeps c.out.2.1 (hc x h);simp only[Nat.add_zero]at I;obtain⟨g,s,p⟩:∃g:Nat,g<4/\N x=(g:Int):=⟨(N x).toNat,by have:=J x h;omega,by have:=J x h;omega⟩;rw[p]at I;have A:Hid (l[j]? =some x/\bE m N x=has m g):=⟨hx,by unfold bE;rw[p];rfl⟩;have jn:(j:Int)< (l.length:Int):=(by omega);have V:(x:Int)< (n:Int):=(by omega);clear hc y hx p
   by_cases f:(takeN (bE m N) k (l.take j)).length<k
   .have F:(((takeN (bE m N) k (l.take j)).length:Nat):Int)< (k:Int):=by omega
    cases z:has m g
    .have G:=av z
     go_wp2_with(go_at_call 164;refine(vL m g hm s _).mono ?_;rintro e w1 ⟨rfl,hw⟩;obtain rfl:=hw.symm;rw[z]);go_roundw
     case rel=>exact⟨j+1,by omega,by go_num,by rw[GQ A.out.1 (A.out.2.trans G.out)];exact c.out.1,c.out.2⟩
     case measure=>simp[intOf];omega
    .have G:=av z
     go_wp2_with(first
      |(go_at_call 164;refine(vL m g hm s _).mono ?_;rintro e w1 ⟨rfl,hw⟩;obtain rfl:=hw.symm;rw[z])
      |(at_builtin;refine adJ _ rfl _ _ _ rfl w.heap.size 3 i0 _ 1 8 hu T D C B rfl (by omega) _ (takeN (bE m N) k (l.take j)).length (aT (takeN (bE m N) k (l.take j))) rfl (c.out.1.alloc _) ⟨wr.heap.size,0,none⟩ 1 1 [.int .i64 x] rfl rfl (adM _ _ _) (by intro u hu;simp at hu;subst hu;rfl) (by unfold maxLen;omega) (by omega) (by simp;omega) ?_;intro v' w1 a d _))
     have O:Hid (w1.ownsRow w.heap.size 3 1 v' (takeN (bE m N) k (l.take (j+1))).length (aT (takeN (bE m N) k (l.take (j+1))))/\adN w w1/\NZ v'):=by
      refine⟨?_,(c.out.2.1.alloc Q _).grown d (by simp;omega) (λq S=>(c.out.1.lt q S).1),NZ.Ic a (by omega)⟩;rw[Ku A.out.1 (A.out.2.trans G.out) f];simpa[aT] using a
     clear a d;go_wp2_with fail;go_roundw
     case rel=>exact⟨j+1,by omega,by go_num,O.out.1,O.out.2⟩
     case measure=>simp[intOf];omega
   .have F:¬(((takeN (bE m N) k (l.take j)).length:Nat):Int)< (k:Int):=by omega
    go_wp2_with fail;go_roundw
    case rel=>exact⟨j+1,by omega,by go_num,by rw[GR f];exact c.out.1,c.out.2⟩
    case measure=>simp[intOf];omega
  .have:j=l.length:=by omega
   rw[this]at c⊢;rw[List.take_length]at c⊢;go_wp2_with fail;go_ret;exact⟨_,rfl,c.out.1,c.out.2⟩
def dO (w:World)(v:Value)(n:Nat)(S N C:Nat->Int):Prop:=∃ao cap,v=.slice ao n cap/\n<=cap/\n<=24/\(0<n->∃b o,ao=some ⟨b,o,none⟩/\∀i,i<n->w.cell? ⟨b,o+i*3,none⟩=some (.int .i64 (S i))/\w.cell? ⟨b,o+i*3+1,none⟩=some (.int .i64 (N i))/\w.cell? ⟨b,o+i*3+2,none⟩=some (.int .i64 (C i)))
def dO.keep {w w'}{v}{n}{S N C}(h:dO w v n S N C)(hc:∀a x,w.cell? a=some x->w'.cell? a=some x):dO w' v n S N C:=by
 obtain⟨ao,cap,rfl,k,j,g⟩:=h;refine⟨ao,cap,rfl,k,j,λd=>?_⟩;obtain⟨b,o,rfl,f⟩:=g d;exact⟨b,o,rfl,λi e=>let ⟨a,l,c⟩:=f i e;⟨hc _ _ a,hc _ _ l,hc _ _ c⟩⟩
def dO.below {w w'}{v}{n}{S N C}(h:dO w v n S N C)(hb:adN w w'):dO w' v n S N C:=dO.keep h λ_ _ hx=>keeps hb hx
def uR (f:Nat->Bool)(i:Nat):Value:=.bool (f i)
def bJ {w1 w3}{o}{b:Nat}(hb:adN w1 w3)(h:w1.heap[b]? =some o):w3.heap[b]? =some o:=(hb.block _ (ZK.1 h).1).trans h
structure aX (w:World)(ob tb n:Nat)(vc:Value)(op:Nat->Bool)(wt:Int)(tk:List Nat):Prop where
 hd:∃vt,w.heap[tb]? =some (.cells #[vc,.slice (some ⟨ob,0,none⟩) n n,.int .i64 wt,vt] 235 (0,0))/\w.ownsRow (tb+1) 3 1 vt tk.length (aT tk)
 open_:w.rowIs ob 4 n (uR op)
 apart:ob<tb/\(tk=[]->w.cell? ⟨tb,3,none⟩=some (.slice none 0 0))
def aX.below {w w'}{b tb n}{vc}{op}{a}{tk}(h:aX w b tb n vc op a tk)(hb:adN w w'):aX w' b tb n vc op a tk:=by
 obtain⟨⟨f,i,g⟩,d,c⟩:=h;exact⟨⟨f,bJ hb i,au g hb⟩,d.of_block (hb.block _ d.lt),c.1,λe=>keeps hb (c.2 e)⟩
def xH (S N C:Nat->Int)(i)(w):adO 169 #[.agg #[.int .i64 (S i),.int .i64 (N i),.int .i64 (C i)]] w λe w'=>e=.returned (.int .i64 (S i))/\adN w w':=by
 go_enter (pf func169 (by rfl)),ntmps169
 go_wp2_with fail;go_ret;exact⟨rfl,(aab _ _).alloc (ZL _) _⟩
def xI (S N C:Nat->Int)(i)(w):adO 170 #[.agg #[.int .i64 (S i),.int .i64 (N i),.int .i64 (C i)]] w λe w'=>e=.returned (.int .i64 (C i))/\adN w w':=by
 go_enter (pf func170 (by rfl)),ntmps170
 go_wp2_with fail;go_ret;exact⟨rfl,(aab _ _).alloc (ZL _) _⟩
def bN (n:Nat)(f:Nat->Int)(p:Int):List Nat:=(List.range n).filter λi=>f i==p
def EU {n}{f}{p}(h:f n=p):bN (n+1) f p=bN n f p++[n]:=by
 unfold bN;rw[Z6,aaj];simp[h]
def A8 {n}{f}{p}(h:f n≠p):bN (n+1) f p=bN n f p:=by
 unfold bN;rw[Z6,aaj];simp[h]
def rf (n)(f)(p):(bN n f p).length<=n:=by
 unfold bN;exact ZP (aai _ _) (by simp)
def CU (D tb n)(vc)(S N C)(op)(A p)(tk)(w)(E:aX w D tb n vc op A tk)(hc:dO w vc n S N C):
 adO 193 #[.pointer (some ⟨tb,0,none⟩),.int .i64 p,.func (.func 169) #[] #[]] w λe w'=>∃v,e=.returned v/\w'.ownsRow w.heap.size 3 1 v (bN n S p).length (aT (bN n S p))/\adN w w':=by
 obtain⟨ao,cap,rfl,P,O,x⟩:=hc;obtain⟨⟨I,k1,_⟩,_,_⟩:=E;obtain⟨t0,B⟩:=blk k1;obtain⟨i0,H,r,m,l⟩:=info_parts Tryz.gQ;have hu:=((ax ae prog 23).trans underlying23);have H3:Hid (0<n->∃b o,ao=some ⟨b,o,none⟩/\∀i,i<n->w.cell? ⟨b,o+i*3,none⟩=some (.int .i64 (S i))/\w.cell? ⟨b,o+i*3+1,none⟩=some (.int .i64 (N i))/\w.cell? ⟨b,o+i*3+2,none⟩=some (.int .i64 (C i))):=x;clear x k1
 go_enter (pf func193 (by rfl)),ntmps193
 go_wp2_with fail
 go_loopw [7,15] (λv i wr=>∃j:Nat,j<=n/\i=.int .i64 j/\wr.ownsRow w.heap.size 3 1 v (bN j S p).length (aT (bN j S p))/\adN w wr) (λ_ i _=>n-(intOf i).toNat)
 case atStart=>exact⟨0,by omega,rfl,by simpa[bN,aT] using aag _ _ _ _,aab _ _⟩
 case round=>
  obtain⟨j,M,rfl,a,hb⟩:=hrel;obtain⟨vo,h,rfl⟩:=aj a;have g:Hid (wr.ownsRow w.heap.size 3 1 (.slice vo (bN j S p).length h) (bN j S p).length (aT (bN j S p))/\adN w wr):=⟨a,hb⟩;have hle:=rf j S p;have t:w.heap.size<=wr.heap.size:=hb.size;clear a hb
  by_cases s:j<n
  .obtain⟨b,o,rfl,hc⟩:=H3.out (by omega)
   obtain⟨c0,y,c2⟩:=hc j s;have L:=keeps g.out.2 c0;have K:=keeps g.out.2 y;have J:=keeps g.out.2 c2;have jn:(j:Int)< (n:Int):=(by omega);clear hc c0 y c2
   by_cases hp:S j=p
   .have k:=av hp
    clear hp
    go_wp2_with(first
     |(at_builtin;refine adJ _ rfl _ _ _ rfl w.heap.size 3 i0 _ 1 8 hu H r m l rfl (by omega) _ (bN j S p).length (aT (bN j S p)) rfl (c.out.1.alloc _) ⟨w1.heap.size,0,none⟩ 1 1 [.int .i64 j] rfl rfl (adM _ _ _) (by intro u hu;simp at hu;subst hu;rfl) (by unfold maxLen;omega) (by omega) (by have:=c.out.2.2;simp;omega) ?_;intro v' w2 a f _)
     |(go_at_call 169;refine(xH S N C j _).mono ?_;rintro e w1 ⟨rfl,d⟩;rw[k.out];have c:Hid (w1.ownsRow w.heap.size 3 1 (.slice vo (bN j S p).length h) (bN j S p).length (aT (bN j S p))/\adN w w1/\w.heap.size<=w1.heap.size):=⟨au (g.out.1.alloc _) d,(g.out.2.alloc t _).trans (d.mono (by simp;omega)),ZP (by simp;omega) d.size⟩;clear d))
    have z:Hid (w2.ownsRow w.heap.size 3 1 v' (bN (j+1) S p).length (aT (bN (j+1) S p))/\adN w w2):=by
     refine⟨?_,(c.out.2.1.alloc c.out.2.2 _).grown f (by have:=c.out.2.2;simp;omega) (λq F=>(c.out.1.lt q F).1)⟩;rw[EU k.out];simpa[aT] using a
    clear a f;go_wp2_with fail;go_roundw
    case rel=>exact⟨j+1,by omega,by go_num,z.out.1,z.out.2⟩
    case measure=>simp[intOf];omega
   .have k:=av hp
    have G:(S j==p)=false:=acZ.2 hp;go_wp2_with(go_at_call 169;refine(xH S N C j _).mono ?_;rintro e w1 ⟨rfl,d⟩;have c:Hid (w1.ownsRow w.heap.size 3 1 (.slice vo (bN j S p).length h) (bN j S p).length (aT (bN j S p))/\adN w w1):=⟨au (g.out.1.alloc _) d,(g.out.2.alloc t _).trans (d.mono (by simp;omega))⟩;clear d);go_roundw
    case rel=>exact⟨j+1,by omega,by go_num,by rw[A8 k.out];exact c.out.1,c.out.2⟩
    case measure=>simp[intOf];omega
  .have:j=n:=by omega
   subst this;go_wp2_with fail;go_ret;exact⟨_,rfl,g.out.1,g.out.2⟩
def qY (D tb n)(vc)(S N C)(op)(A p)(tk)(w)(E:aX w D tb n vc op A tk)(hc:dO w vc n S N C):
 adO 193 #[.pointer (some ⟨tb,0,none⟩),.int .i64 p,.func (.func 170) #[] #[]] w λe w'=>∃v,e=.returned v/\w'.ownsRow w.heap.size 3 1 v (bN n C p).length (aT (bN n C p))/\adN w w':=by
 obtain⟨ao,cap,rfl,P,O,x⟩:=hc;obtain⟨⟨I,k1,_⟩,_,_⟩:=E;obtain⟨t0,B⟩:=blk k1;obtain⟨i0,H,r,m,l⟩:=info_parts Tryz.gQ;have hu:=((ax ae prog 23).trans underlying23);have H3:Hid (0<n->∃b o,ao=some ⟨b,o,none⟩/\∀i,i<n->w.cell? ⟨b,o+i*3,none⟩=some (.int .i64 (S i))/\w.cell? ⟨b,o+i*3+1,none⟩=some (.int .i64 (N i))/\w.cell? ⟨b,o+i*3+2,none⟩=some (.int .i64 (C i))):=x;clear x k1
 go_enter (pf func193 (by rfl)),ntmps193
 go_wp2_with fail
 go_loopw [7,15] (λv i wr=>∃j:Nat,j<=n/\i=.int .i64 j/\wr.ownsRow w.heap.size 3 1 v (bN j C p).length (aT (bN j C p))/\adN w wr) (λ_ i _=>n-(intOf i).toNat)
 case atStart=>exact⟨0,by omega,rfl,by simpa[bN,aT] using aag _ _ _ _,aab _ _⟩
 case round=>
  obtain⟨j,M,rfl,a,hb⟩:=hrel;obtain⟨vo,h,rfl⟩:=aj a;have g:Hid (wr.ownsRow w.heap.size 3 1 (.slice vo (bN j C p).length h) (bN j C p).length (aT (bN j C p))/\adN w wr):=⟨a,hb⟩;have hle:=rf j C p;have t:w.heap.size<=wr.heap.size:=hb.size;clear a hb
  by_cases s:j<n
  .obtain⟨b,o,rfl,hc⟩:=H3.out (by omega)
   obtain⟨c0,y,c2⟩:=hc j s;have L:=keeps g.out.2 c0;have K:=keeps g.out.2 y;have J:=keeps g.out.2 c2;have jn:(j:Int)< (n:Int):=(by omega);clear hc c0 y c2
   by_cases hp:C j=p
   .have k:=av hp
    clear hp
    go_wp2_with(first
     |(at_builtin;refine adJ _ rfl _ _ _ rfl w.heap.size 3 i0 _ 1 8 hu H r m l rfl (by omega) _ (bN j C p).length (aT (bN j C p)) rfl (c.out.1.alloc _) ⟨w1.heap.size,0,none⟩ 1 1 [.int .i64 j] rfl rfl (adM _ _ _) (by intro u hu;simp at hu;subst hu;rfl) (by unfold maxLen;omega) (by omega) (by have:=c.out.2.2;simp;omega) ?_;intro v' w2 a f _)
     |(go_at_call 170;refine(xI S N C j _).mono ?_;rintro e w1 ⟨rfl,d⟩;rw[k.out];have c:Hid (w1.ownsRow w.heap.size 3 1 (.slice vo (bN j C p).length h) (bN j C p).length (aT (bN j C p))/\adN w w1/\w.heap.size<=w1.heap.size):=⟨au (g.out.1.alloc _) d,(g.out.2.alloc t _).trans (d.mono (by simp;omega)),ZP (by simp;omega) d.size⟩;clear d))
    have z:Hid (w2.ownsRow w.heap.size 3 1 v' (bN (j+1) C p).length (aT (bN (j+1) C p))/\adN w w2):=by
     refine⟨?_,(c.out.2.1.alloc c.out.2.2 _).grown f (by have:=c.out.2.2;simp;omega) (λq F=>(c.out.1.lt q F).1)⟩;rw[EU k.out];simpa[aT] using a
    clear a f;go_wp2_with fail;go_roundw
    case rel=>exact⟨j+1,by omega,by go_num,z.out.1,z.out.2⟩
    case measure=>simp[intOf];omega
   .have k:=av hp
    have G:(C j==p)=false:=acZ.2 hp;go_wp2_with(go_at_call 170;refine(xI S N C j _).mono ?_;rintro e w1 ⟨rfl,d⟩;have c:Hid (w1.ownsRow w.heap.size 3 1 (.slice vo (bN j C p).length h) (bN j C p).length (aT (bN j C p))/\adN w w1):=⟨au (g.out.1.alloc _) d,(g.out.2.alloc t _).trans (d.mono (by simp;omega))⟩;clear d);go_roundw
    case rel=>exact⟨j+1,by omega,by go_num,by rw[A8 k.out];exact c.out.1,c.out.2⟩
    case measure=>simp[intOf];omega
  .have:j=n:=by omega
   subst this;go_wp2_with fail;go_ret;exact⟨_,rfl,g.out.1,g.out.2⟩
def uV (z tb n)(vc v)(op)(t)(tk l:List Nat)(w)(A:aX w z tb n vc op t tk)(hl:Ints w v l.length (λj=>((l[j]?.getD 0:Nat):Int)))(m:∀i∈l,i<n)(_:n<=24):
 adO 194 #[.pointer (some ⟨tb,0,none⟩),v] w λe w'=>e=.returned (.bool (l.all op))/\w'=w:=by
 obtain⟨ao,cap,rfl,G,F,r⟩:=hl;obtain⟨⟨D,k1,_⟩,d,_⟩:=A;obtain⟨t0,u⟩:=blk k1;have H3:Hid (0<l.length->∃b o,ao=some ⟨b,o,none⟩/\gM w b o l.length (λj=>((l[j]?.getD 0:Nat):Int))):=r;have B:=av d;clear r k1 d
 go_enter (pf func194 (by rfl)),ntmps194
 go_wp2_with fail
 go_loopw [9] (λi wr=>∃j:Nat,j<=l.length/\i=.int .i64 j/\wr=w/\(l.take j).all op=true) (λi _=>l.length-(intOf i).toNat)
 case atStart=>exact⟨0,by omega,rfl,rfl,by simp⟩
 case round=>
  obtain⟨j,E,rfl,hw,a⟩:=hrel;subst hw;have q:=av a;clear a
  by_cases f:j<l.length
  .obtain⟨x,hx⟩:∃x,l[j]? =some x:=⟨_,ZT f⟩
   have k:x<n:=m x (aak hx);obtain⟨H,ol,rfl,g⟩:=H3.out (by omega);have y:=g j f;simp only[hx,ac9]at y;have h:=B.out.cell k;simp only[uR]at h;have s:=av hx;have jn:(j:Int)< (l.length:Int):=(by omega);have C:(x:Int)< (n:Int):=(by omega);clear g hx;cases c:op x
   .rw[c]at h
    have p:=av c;clear c;go_wp2_with fail;go_ret
    have:l.all op=false:=by
     rw[List.all_eq_false];exact⟨x,aak s.out,by rw[p.out];simp⟩
    exact⟨by rw[this];rfl,rfl⟩
   .rw[c]at h
    have p:=av c;clear c;go_wp2_with fail;go_roundw
    case rel=>exact⟨j+1,by omega,by go_num,by trivial,by rw[adq,s.out,List.all_append,q.out];simp[p.out]⟩
    case measure=>simp[intOf];omega
  .have:j=l.length:=by omega
   rw[this,List.take_length]at q;go_wp2_with fail;go_ret;exact⟨by rw[q.out];rfl,rfl⟩
def cu (op:Nat->Bool)(l:List Nat)(i:Nat):Bool:=op i&& !l.contains i
def aX.shut {w}{b tb n}{vc}{op}{d}{tk l:List Nat}{j x}(h:aX w b tb n vc (cu op (l.take j)) d tk)(hx:l[j]? =some x)(k:x<n):aX (w.setCell ⟨b,x,none⟩ (.bool false)) b tb n vc (cu op (l.take (j+1))) d tk:=by
 obtain⟨⟨g,p,o⟩,m,f⟩:=h;have c:=f.1;refine⟨⟨g,(aad _ _ _ _ (by show tb≠b;omega)).trans p,aaf o (by show b<tb+1;omega) _⟩,(m.set x _).congr λi _=>?_,c,λe=>(adK (a:=⟨tb,3,none⟩) (aad _ _ _ _ (by show tb≠b;omega))).trans (f.2 e)⟩;unfold uR cu;rw[adq,hx]
 by_cases he:i=x
 .subst he;simp
 .rw[if_neg he];simp[he]
def aS {w:World}{base}{v}{n}{xs}{b i}{u}(h:w.ownsRow base 3 1 v n xs)(hb:b<base):(w.setCell ⟨b,i,none⟩ u).ownsRow base 3 1 v n xs:=aaf h hb _
def wX (d tb n)(vc v)(op)(h)(tk l)(w)(K:aX w d tb n vc op h tk)(hl:w.ownsRow (tb+1) 3 1 v l.length (aT l))(M:∀i∈l,i<n)(_:n<=24)(hlen:l.length<=24)(L:0<l.length)(W:tk.length<=1000)(V:0<=h/\h<=1000):
 adO 195 #[.pointer (some ⟨tb,0,none⟩),v] w λe w'=>∃u,e=.returned u/\aX w' d tb n vc (cu op l) (h-l.length) (tk++l)/\Below d w w':=by
 have HI:=av (dh hl)
 have HT:Hid (aX w d tb n vc (cu op (l.take 0)) h tk):=by
  have e:cu op (l.take 0)=op:=by funext i;simp[cu]
  rw[e];exact K
 have HL:=av hl;obtain⟨ao,cap,rfl⟩:=aj hl;obtain⟨i0,Z,I,H,G⟩:=info_parts Tryz.gQ;have hu:=((ax ae prog 23).trans underlying23);have N:=K.apart.1;clear hl K
 go_enter (pf func195 (by rfl)),ntmps195
 go_wp2_with fail
 go_loopw [5,8] (λ_ i wr=>∃j:Nat,j<=l.length/\i=.int .i64 j/\aX wr d tb n vc (cu op (l.take j)) h tk/\wr.ownsRow (tb+1) 3 1 (.slice ao l.length cap) l.length (aT l)/\Below d w wr) (λ_ i _=>l.length-(intOf i).toNat)
 case atStart=>exact⟨0,by omega,rfl,HT.out,HL.out,aab _ _⟩
 case round=>
  obtain⟨j,hj,rfl,P,a,hb⟩:=hrel;have p:=av (aaa P (aaa a hb));obtain⟨⟨vt,k1,D⟩,C,_⟩:=P;obtain⟨t0,R⟩:=blk k1;have B:=av (aaa k1 D)
  by_cases z:j<l.length
  .obtain⟨x,hx⟩:∃x,l[j]? =some x:=⟨_,ZT z⟩
   have t:x<n:=M x (aak hx);obtain⟨α,A,e,_,_,o⟩:=dh a;cases e;obtain⟨bl,ol,rfl,m⟩:=o (by omega);have U:=m j z;simp only[hx,ac9]at U;have q1:=C.cell t;have T:=C.frozen x;have HX:=av hx;have jn:(j:Int)< (l.length:Int):=(by omega);have xn:(x:Int)< (n:Int):=(by omega);clear o m hx k1 D C a hb;go_wp2_with fail;go_roundw
   case rel=>exact⟨j+1,by omega,by go_num,p.out.1.shut HX.out t,aS p.out.2.1 (by omega),p.out.2.2.setCell (ZL _) _⟩
   case measure=>simp[intOf];omega
  .have:j=l.length:=by omega
   subst this
   obtain⟨g,Q,e,hg⟩:∃g Q,ao=some ⟨g,0,none⟩/\Q=cap:=by
        rcases a.2 with⟨e,h0⟩|⟨g',A,cur,e,_⟩
        .omega
        .cases e;exact⟨g',_,rfl,rfl⟩
   subst e;have Y:(l.length:Int)<=24:=(by omega);obtain⟨tq,tc,rfl⟩:=aj D;have F:tb<wr.heap.size:=(ZK.1 k1).1;clear k1 D C hb a;go_wp2_with(at_builtin;refine adJ _ rfl _ _ _ rfl (tb+1) 3 i0 _ 1 8 hu Z I H G rfl (by omega) _ tk.length (aT tk) rfl (aS B.out.2 (Z4 _)) ⟨g,0,none⟩ l.length cap (aT l) rfl (by simp[aT]) (World.ownsRowF.cells (World.ownsRowF_of (aS p.out.2.1 (Z4 _))) rfl) (by intro u hu;simp only[aT,adz]at hu;obtain⟨y,_,rfl⟩:=hu;rfl) (by unfold maxLen;omega) (by omega) (by simp;omega) ?_;intro v' w1 f c _;obtain⟨s,r,J⟩:=aj f;subst J;have k:=(c.block tb (by simpa using F) (λe=>by have:=((aS (b:=tb) (i:=2) (u:=.int .i64 (h-(l.length:Int))) B.out.2 (Z4 _)).lt _ e.symm).1;omega)).trans (aD (i:=2) (.int .i64 (h-(l.length:Int))) B.out.1);simp only[ZN,ZS,ZR]at k;obtain⟨s0,S⟩:=blk k;have E:=av (aaa f (aaa c k));clear f c k)
   go_end0
   refine⟨_,rfl,⟨⟨.slice s (tk.length+l.length) r,?_,?_⟩,?_,N,λe=>absurd (congrArg List.length (List.append_eq_nil_iff.1 e).2) (Nat.ne_of_gt L)⟩,?_⟩
   .have:=aD (i:=3) (.slice s (tk.length+l.length) r) E.out.2.2
    simpa only[ZN,ZS,ZR] using this
   .rw[Z7]
    have:=aS (b:=tb) (i:=3) (u:=.slice s (tk.length+l.length) r) E.out.1 (Z4 _);simpa[aT] using this
   .have O:=p.out.1.open_
    rw[List.take_length]at O;refine O.of_block ((aad _ _ _ _ (by show d≠tb;omega)).trans ((E.out.2.1.block d (by have:=O.lt;simpa using this) (λe=>by have:=((aS (b:=tb) (i:=2) (u:=.int .i64 (h-(l.length:Int))) B.out.2 (Z4 _)).lt _ e.symm).1;omega)).trans (aad _ _ _ _ (by show d≠tb;omega))))
   .refine Below.setCell ((p.out.2.2.setCell (by show d<=tb;omega) _).grown E.out.2.1 ?_ ?_) (by show d<=tb;omega) _
    .have:=p.out.2.2.size;have:=p.out.1.open_.lt;simp;omega
    .exact λq X=>by have:=((aS (b:=tb) (i:=2) (u:=.int .i64 (h-(l.length:Int))) B.out.2 (Z4 _)).lt q X).1;omega
def nH (q tb n)(vc)(S N C)(op)(m p)(tk)(w)(y:aX w q tb n vc op m tk)(hc:dO w vc n S N C):
 adO 216 #[.pointer (some ⟨tb,0,none⟩),.int .i64 p] w λe w'=>(∃z:Nat,e=.returned (.int .i64 z)/\z<=24)/\adN w w':=by
 have t:=av (aaa y hc);have K:n<=24:=by obtain⟨_,_,_,_,h,_⟩:=hc;exact h
 clear y hc
 go_enter (pf func216 (by rfl)),ntmps216
 go_wp2_with(go_at_call 193;refine(qY q tb n vc S N C op m p tk _ t.out.1 t.out.2).mono ?_;rintro e w1 ⟨v,rfl,a,b⟩;obtain⟨ao,cap,rfl⟩:=aj a;have H1:Hid (Ints w1 (.slice ao (bN n C p).length cap) (bN n C p).length (λj=>(((bN n C p)[j]?.getD 0:Nat):Int))/\adN w w1/\aX w1 q tb n vc op m tk):=⟨dh a,b,t.out.1.below b⟩;clear a b);have hle:=rf n C p;have d:∀i∈bN n C p,i<n:=λi A=>by unfold bN at A;exact Z9.1 (adp.1 A).1
 generalize bN n C p=l at*
 go_loopw [5,12] (λc i wr=>∃j z:Nat,j<=l.length/\z<=j/\i=.int .i64 j/\c=.int .i64 z/\wr=w1) (λ_ i _=>l.length-(intOf i).toNat)
 case atStart=>exact⟨0,0,by omega,by omega,rfl,rfl,rfl⟩
 case round=>
  obtain⟨j,z,L,J,rfl,rfl,hw⟩:=hrel;subst hw
  by_cases f:j<l.length
  .obtain⟨x,hx⟩:∃x,l[j]? =some x:=⟨_,ZT f⟩
   have r:x<n:=d x (aak hx);obtain⟨G,D,e,_,_,B⟩:=H1.out.1;cases e;obtain⟨M,ol,rfl,g⟩:=B (by omega);have F:=g j f;simp only[hx,ac9]at F;have s:=H1.out.2.2;obtain⟨⟨I,k1,_⟩,u,_⟩:=s;obtain⟨t0,E⟩:=blk k1;have o:=u.cell r;simp only[uR]at o;have jn:(j:Int)< (l.length:Int):=(by omega);have H:(x:Int)< (n:Int):=(by omega);clear g B hx k1 u;cases k:op x
   .rw[k]at o
    clear k;go_wp2_with fail;go_roundw
    case rel=>exact⟨j+1,z,by omega,by omega,by go_num,rfl,by trivial⟩
    case measure=>simp[intOf];omega
   .rw[k]at o
    clear k;go_wp2_with fail;go_roundw
    case rel=>exact⟨j+1,z+1,by omega,by omega,by go_num,by go_num,by trivial⟩
    case measure=>simp[intOf];omega
  .have:j=l.length:=by omega
   go_wp2_with fail;go_ret;exact⟨⟨z,rfl,by omega⟩,H1.out.2.1⟩
def Ai (u tb n)(vc)(S N C)(op)(t)(tk)(w)(F:aX w u tb n vc op t tk)(hc:dO w vc n S N C):
 adO 196 #[.pointer (some ⟨tb,0,none⟩)] w λe w'=>(∃(x:Nat) (f:Bool),e=.returned (.tuple #[.int .i64 x,.bool f])/\(f=true->x<n/\op x=true)/\(f=false->∀i,i<n->op i=false))/\adN w w':=by
 have H:=av (aaa F hc);obtain⟨ao,cap,rfl,J,O,G⟩:=hc;obtain⟨⟨L,k1,_⟩,_,_⟩:=F;obtain⟨t0,m⟩:=blk k1;have H3:Hid (0<n->∃b o,ao=some ⟨b,o,none⟩/\∀i,i<n->w.cell? ⟨b,o+i*3,none⟩=some (.int .i64 (S i))/\w.cell? ⟨b,o+i*3+1,none⟩=some (.int .i64 (N i))/\w.cell? ⟨b,o+i*3+2,none⟩=some (.int .i64 (C i))):=G;clear G k1
 go_enter (pf func196 (by rfl)),ntmps196
 go_wp2_with fail;clear t0 m
 go_loopw [4,5,6,15] (λb f g i wr=>∃(j x z:Nat) (fd:Bool),j<=n/\i=.int .i64 j/\b=.int .i64 x/\f=.int .i64 z/\g=.bool fd/\z<=24/\(fd=true->x<n/\op x=true)/\(fd=false->∀i,i<j->op i=false)/\adN w wr) (λ_ _ _ i _=>n-(intOf i).toNat)
 case atStart=>exact⟨0,0,0,false,by omega,rfl,rfl,rfl,rfl,by omega,λh=>Bool.noConfusion h,λ_ i B=>absurd B (ZV _),aab _ _⟩
 case round=>
  obtain⟨j,x,z,fd,P,rfl,rfl,rfl,rfl,E,q,p,hb⟩:=hrel;have d:Hid ((fd=true->x<n/\op x=true)/\(fd=false->∀i,i<j->op i=false)/\adN w wr):=⟨q,p,hb⟩;have s:Hid (aX wr u tb n (.slice ao n cap) op t tk/\dO wr (.slice ao n cap) n S N C):=⟨H.out.1.below hb,H.out.2.below hb⟩;clear q p hb
  by_cases k:j<n
  .obtain⟨b,o,rfl,r⟩:=H3.out (by omega)
   obtain⟨_,_,c2⟩:=r j k;have M:=keeps d.out.2.2 c2;obtain⟨⟨I,k1,_⟩,D,_⟩:=s.out.1;obtain⟨t0,m⟩:=blk k1;have A:=D.cell k;simp only[uR]at A;have jn:(j:Int)< (n:Int):=(by omega);clear r c2 k1 D;cases l:op j
   .rw[l]at A
    have v:=av l;clear l;go_wp2_with fail;go_roundw
    case rel=>exact⟨j+1,x,z,fd,by omega,by go_num,rfl,rfl,rfl,E,d.out.1,λh i B=>by
     rcases ac7.1 B with K|rfl
     .exact d.out.2.1 h i K
     .exact v.out,d.out.2.2⟩
    case measure=>simp[intOf];omega
   .rw[l]at A
    have v:=av l;clear l;cases fd
    .go_wp2_with(go_at_call 216;refine(nH u tb n _ S N C op t (C j) tk _ s.out.1 s.out.2).mono ?_;rintro e w1 ⟨⟨y,rfl,hy⟩,c⟩;have a:=av (aaa (ai d.out.2.2 c) hy);clear c)
     go_roundw
     case rel=>exact⟨j+1,j,y,true,by omega,by go_num,rfl,rfl,rfl,a.out.2,λ_=>⟨k,v.out⟩,λh=>Bool.noConfusion h,a.out.1⟩
     case measure=>simp[intOf];omega
    .go_wp2_with(go_at_call 216;refine(nH u tb n _ S N C op t (C j) tk _ s.out.1 s.out.2).mono ?_;rintro e w1 ⟨⟨y,rfl,hy⟩,c⟩;have a:=av (aaa (ai d.out.2.2 c) hy);clear c)
     all_goals first
       |exact⟨⟨j+1,j,y,true,by omega,by go_num,rfl,rfl,rfl,a.out.2,λ_=>⟨k,v.out⟩,λh=>Bool.noConfusion h,a.out.1⟩,by simp[intOf];omega⟩
       |exact⟨⟨j+1,x,z,true,by omega,by go_num,rfl,rfl,rfl,E,λ_=>d.out.1 (by trivial),λh=>Bool.noConfusion h,a.out.1⟩,by simp[intOf];omega⟩
  .have:j=n:=by omega
   subst this;go_wp2_with fail;go_ret2;exact⟨⟨x,fd,rfl,d.out.1,d.out.2.1⟩,d.out.2.2⟩
structure gB (n:Nat)(lF:Nat->Bool)(W:Nat)(wt:Int)(tk:List Nat):Prop where
 nodup:tk.Nodup
 mem:∀i∈tk,i<n/\lF i=true
 sum:wt+(tk.length:Int)=W
 UU:0<=wt
def sw (op)(tk l):cu (cu op tk) l=cu op (tk++l):=by
 funext i
 unfold cu
 by_cases b:i∈tk<;>by_cases a:i∈l<;>simp[b,a]
def gB.take {n W}{lF}{d}{tk l}(h:gB n lF W d tk)(e:l.Nodup)(hl:∀i∈l,i<n/\cu lF tk i=true)(hle:(l.length:Int)<=d):gB n lF W (d-(l.length:Int)) (tk++l):=by
 refine⟨List.nodup_append.2 ⟨h.nodup,e,λa f b hb=>?_⟩,λi c=>?_,?_,by omega⟩
 .rintro rfl
  have:=(hl a hb).2;unfold cu at this;simp[f]at this
 .rcases abz.1 c with c|c
  .exact h.mem i c
  .have:=(hl i c).2
   unfold cu at this;exact⟨(hl i c).1,by simp at this;exact this.1⟩
 .have:=h.sum
  rw[Z7];omega
def Ph (w:World)(x:Nat)(base)(hb:base<=w.heap.size):(w.alloc (.cells #[.int .i64 (x:Int)] 3)).ownsRow base 3 1 (.slice (some ⟨w.heap.size,0,none⟩) 1 1) 1 (aT [x]):=
 ⟨rfl,.inr ⟨w.heap.size,1,_,rfl,hb,aae _ _,ZL _,by decide,rfl,rfl⟩⟩
def aX.lt {w}{b tb n}{vc}{op}{a}{tk}(h:aX w b tb n vc op a tk):tb<w.heap.size:=by
 obtain⟨⟨_,c,_⟩,_,_⟩:=h;exact(ZK.1 c).1
def w9 (d tb n W)(vc)(S N C)(lF)(t)(tk)(w)(A:aX w d tb n vc (cu lF tk) t tk)(hc:∀w',Below d w w'->dO w' vc n S N C)(hp:gB n lF W t tk)(hW:W<=1000)(H:n<=24):
 adO 171 #[.pointer (some ⟨tb,0,none⟩)] w λe w'=>∃u a b,e=.returned u/\aX w' d tb n vc (cu lF b) a b/\gB n lF W a b/\(a=0\/∀i,i<n->cu lF b i=false)/\Below d w w':=by
 have K:=av hc;have E:=av (aaa A hp);clear hc A hp
 go_enter (pf func171 (by rfl)),ntmps171
 go_wp2_with fail
 go_loopg [2,3] (t.toNat) (λJ _ _ wr=>∃(a:Int) (b:List Nat),a.toNat<=J/\aX wr d tb n vc (cu lF b) a b/\gB n lF W a b/\Below d w wr)
 case atStart=>exact⟨t,tk,ZL _,E.out.1,E.out.2,aab _ _⟩
 case round=>
  obtain⟨a,b,M,j,g,hb⟩:=hrel;have c:=av (aaa j (aaa g hb));obtain⟨⟨L,k1,_⟩,_,I⟩:=j;have B:=g.sum;have G:=g.UU;have y:tb<wr.heap.size:=(ZK.1 k1).1;obtain⟨t0,F⟩:=blk k1;clear k1 g hb
  by_cases D:0<a
  .go_wp2_with(go_at_call 196;refine(Ai d tb n vc S N C _ a b _ c.out.1 (K.out _ c.out.2.2)).mono ?_;rintro e w1 ⟨⟨x,f,rfl,q,p⟩,h⟩;have H1:=av (aaa q (aaa p (aaa (c.out.1.below h) (c.out.2.2.trans (h.mono (by have:=c.out.1.open_.lt;omega))))));have k:tb<w1.heap.size:=ZO y h.size;clear q p h;cases f)
   .refine bodyPost_ret (results_none rfl _ _ _) rfl ?_
    first
     |exact⟨_,_,_,rfl,H1.out.2.2.1,c.out.2.1,.inr (H1.out.2.1 (by trivial)),H1.out.2.2.2⟩
     |exact⟨_,_,H1.out.2.2.1,c.out.2.1,.inr (H1.out.2.1 (by trivial)),H1.out.2.2.2⟩
   .have hx:=H1.out.1 (by trivial)
    have s:=(aab w1.heap.size w1).alloc (ZL _) (.cells #[.int .i64 (x:Int)] 3);refine(wX d tb n vc _ _ a b [x] _ (H1.out.2.2.1.below s) (Ph w1 x (tb+1) k) (λi o=>by simp at o;rw[o];exact hx.1) H (by simp) (by simp) (by omega) ⟨by omega,by omega⟩).mono ?_;rintro e w2 ⟨u2,rfl,m,r⟩
    have z:Hid (aX w2 d tb n vc (cu lF (b++[x])) (a-1) (b++[x])/\gB n lF W (a-1) (b++[x])/\Below d w w2):=by
     refine⟨by rw[<-sw];simpa using m,by simpa using c.out.2.1.take (l:=[x]) (by simp) (λi o=>by simp at o;rw[o];exact hx) (by simp;omega),?_⟩;exact(H1.out.2.2.2.trans (s.mono (by omega))).trans r
    clear m r;go_wp2_with fail
    go_roundg ((a-1).toNat)
    case measure=>omega
    case rel=>exact⟨a-1,b++[x],ZL _,z.out.1,z.out.2.1,z.out.2.2⟩
  .have v:a=0:=by omega
   go_wp2_with fail
   go_end0
   first
        |exact⟨_,_,_,rfl,c.out.1,c.out.2.1,.inl v,c.out.2.2⟩
        |exact⟨_,_,_,c.out.1,c.out.2.1,.inl v,c.out.2.2⟩
        |exact⟨⟨_,rfl⟩,_,_,c.out.1,c.out.2.1,.inl v,c.out.2.2⟩
        |exact⟨_,_,⟨_,rfl⟩,c.out.1,c.out.2.1,.inl v,c.out.2.2⟩
def wY (f tb n W k:Nat)(vc)(S N C)(lF)(z)(tk)(w)(F:aX w f tb n vc (cu lF tk) z tk)(hc:∀w',Below f w w'->dO w' vc n S N C)(hp:gB n lF W z tk)(hW:W<=1000)(H:n<=24)(V:k<=100):
 adO 168 #[.pointer (some ⟨tb,0,none⟩),.int .i64 k,.func (.func 169) #[] #[]] w λe w'=>∃u b a,e=.returned u/\aX w' f tb n vc (cu lF a) b a/\gB n lF W b a/\Below f w w':=by
 have T:=av hc;have I:=av (aaa F hp);clear hc F hp
 go_enter (pf func168 (by rfl)),ntmps168
 go_wp2_with fail
 go_loopw [9] (λi wr=>∃(j:Nat) (b:Int) (a:List Nat),j<=k/\i=.int .i64 j/\aX wr f tb n vc (cu lF a) b a/\gB n lF W b a/\Below f w wr) (λi _=>k-(intOf i).toNat)
 case atStart=>exact⟨0,z,tk,by omega,rfl,I.out.1,I.out.2,aab _ _⟩
 case round=>
  obtain⟨j,b,a,X,rfl,m,o,hb⟩:=hrel;have d:=av (aaa m (aaa o hb));have Q:=m.apart.1;have B:=m.open_.lt;have G:=o.sum;have K:=o.UU;clear m o hb
  by_cases M:j<k
  .have jn:(j:Int)< (k:Int):=by omega
   have L:tb<wr.heap.size:=d.out.1.lt;go_wp2_with fail;refine(CU f tb n vc S N C _ b (j:Int) a _ d.out.1 (T.out _ d.out.2.2)).mono ?_;rintro e w1 ⟨v,rfl,g,q⟩;obtain⟨ao,cap,rfl⟩:=aj g;have hle:=rf n S (j:Int);have c:Hid ((∀i∈bN n S (j:Int),i<n)/\(bN n S (j:Int)).Nodup):=⟨λi x=>by unfold bN at x;exact Z9.1 (adp.1 x).1,adx _ List.nodup_range⟩;have H1:Hid (w1.ownsRow wr.heap.size 3 1 (.slice ao (bN n S (j:Int)).length cap) (bN n S (j:Int)).length (aT (bN n S (j:Int)))/\aX w1 f tb n vc (cu lF a) b a/\Below f w w1):=⟨g,d.out.1.below q,d.out.2.2.trans (q.mono (Nat.le_of_lt B))⟩;clear g q;obtain⟨l,t⟩:∃l,l=bN n S (j:Int):=⟨_,rfl⟩;rw[<-t]at H1 hle c⊢;clear t;obtain⟨⟨U,k1,_⟩,_,_⟩:=H1.out.2.1;obtain⟨t0,J⟩:=blk k1;clear k1
   by_cases R:0<l.length
   .have D:(0:Int)< (l.length:Int):=by omega
    by_cases h:(l.length:Int)<=b
    .go_wp2_with(go_at_call 194;refine(uV f tb n vc _ (cu lF a) b a l _ H1.out.2.1 (dh H1.out.1) c.out.1 H).mono ?_;rintro e w2 ⟨rfl,A⟩;obtain rfl:=A.symm;cases p:l.all (cu lF a))
     .exact⟨⟨j+1,b,a,by omega,by go_num,H1.out.2.1,d.out.2.1,H1.out.2.2⟩,by simp[intOf];omega⟩
     .have r:=av p
      clear p;refine(wX f tb n vc _ _ b a l _ H1.out.2.1 (aB H1.out.1 (by omega)) c.out.1 H (by omega) R (by omega) ⟨by omega,by omega⟩).mono ?_;rintro e w2 ⟨u2,rfl,s,y⟩
      have E:Hid (aX w2 f tb n vc (cu lF (a++l)) (b-(l.length:Int)) (a++l)/\gB n lF W (b-(l.length:Int)) (a++l)/\Below f w w2):=by
          refine⟨by rw[<-sw];exact s,d.out.2.1.take c.out.2 (λi x=>⟨c.out.1 i x,ZU.1 r.out i x⟩) h,H1.out.2.2.trans y⟩
      clear s y;go_wp2_with fail;go_roundw
      case rel=>exact⟨j+1,_,_,by omega,by go_num,E.out.1,E.out.2.1,E.out.2.2⟩
      case measure=>simp[intOf];omega
    .have O:¬(l.length:Int)<=b:=h
     have P:decide ((l.length:Int)<=b)=false:=adg h;go_wp2_with fail;go_roundw
     case rel=>exact⟨j+1,b,a,by omega,by go_num,H1.out.2.1,d.out.2.1,H1.out.2.2⟩
     case measure=>simp[intOf];omega
   .have D:¬(0:Int)< (l.length:Int):=by omega
    go_wp2_with fail;go_roundw
    case rel=>exact⟨j+1,b,a,by omega,by go_num,H1.out.2.1,d.out.2.1,H1.out.2.2⟩
    case measure=>simp[intOf];omega
  .have:j=k:=by omega
   go_wp2_with fail
   go_end0
   first
        |exact⟨_,_,_,rfl,d.out.1,d.out.2.1,d.out.2.2⟩
        |exact⟨⟨_,rfl⟩,_,_,d.out.1,d.out.2.1,d.out.2.2⟩
def wZ (f tb n W k:Nat)(vc)(S N C)(lF)(z)(tk)(w)(F:aX w f tb n vc (cu lF tk) z tk)(hc:∀w',Below f w w'->dO w' vc n S N C)(hp:gB n lF W z tk)(hW:W<=1000)(H:n<=24)(V:k<=100):
 adO 168 #[.pointer (some ⟨tb,0,none⟩),.int .i64 k,.func (.func 170) #[] #[]] w λe w'=>∃u b a,e=.returned u/\aX w' f tb n vc (cu lF a) b a/\gB n lF W b a/\Below f w w':=by
 have T:=av hc;have I:=av (aaa F hp);clear hc F hp
 go_enter (pf func168 (by rfl)),ntmps168
 go_wp2_with fail
 go_loopw [9] (λi wr=>∃(j:Nat) (b:Int) (a:List Nat),j<=k/\i=.int .i64 j/\aX wr f tb n vc (cu lF a) b a/\gB n lF W b a/\Below f w wr) (λi _=>k-(intOf i).toNat)
 case atStart=>exact⟨0,z,tk,by omega,rfl,I.out.1,I.out.2,aab _ _⟩
 case round=>
  obtain⟨j,b,a,X,rfl,m,o,hb⟩:=hrel;have d:=av (aaa m (aaa o hb));have Q:=m.apart.1;have B:=m.open_.lt;have G:=o.sum;have K:=o.UU;clear m o hb
  by_cases M:j<k
  .have jn:(j:Int)< (k:Int):=by omega
   have L:tb<wr.heap.size:=d.out.1.lt;go_wp2_with fail;refine(qY f tb n vc S N C _ b (j:Int) a _ d.out.1 (T.out _ d.out.2.2)).mono ?_;rintro e w1 ⟨v,rfl,g,q⟩;obtain⟨ao,cap,rfl⟩:=aj g;have hle:=rf n C (j:Int);have c:Hid ((∀i∈bN n C (j:Int),i<n)/\(bN n C (j:Int)).Nodup):=⟨λi x=>by unfold bN at x;exact Z9.1 (adp.1 x).1,adx _ List.nodup_range⟩;have H1:Hid (w1.ownsRow wr.heap.size 3 1 (.slice ao (bN n C (j:Int)).length cap) (bN n C (j:Int)).length (aT (bN n C (j:Int)))/\aX w1 f tb n vc (cu lF a) b a/\Below f w w1):=⟨g,d.out.1.below q,d.out.2.2.trans (q.mono (Nat.le_of_lt B))⟩;clear g q;obtain⟨l,t⟩:∃l,l=bN n C (j:Int):=⟨_,rfl⟩;rw[<-t]at H1 hle c⊢;clear t;obtain⟨⟨U,k1,_⟩,_,_⟩:=H1.out.2.1;obtain⟨t0,J⟩:=blk k1;clear k1
   by_cases R:0<l.length
   .have D:(0:Int)< (l.length:Int):=by omega
    by_cases h:(l.length:Int)<=b
    .go_wp2_with(go_at_call 194;refine(uV f tb n vc _ (cu lF a) b a l _ H1.out.2.1 (dh H1.out.1) c.out.1 H).mono ?_;rintro e w2 ⟨rfl,A⟩;obtain rfl:=A.symm;cases p:l.all (cu lF a))
     .exact⟨⟨j+1,b,a,by omega,by go_num,H1.out.2.1,d.out.2.1,H1.out.2.2⟩,by simp[intOf];omega⟩
     .have r:=av p
      clear p;refine(wX f tb n vc _ _ b a l _ H1.out.2.1 (aB H1.out.1 (by omega)) c.out.1 H (by omega) R (by omega) ⟨by omega,by omega⟩).mono ?_;rintro e w2 ⟨u2,rfl,s,y⟩
      have E:Hid (aX w2 f tb n vc (cu lF (a++l)) (b-(l.length:Int)) (a++l)/\gB n lF W (b-(l.length:Int)) (a++l)/\Below f w w2):=by
          refine⟨by rw[<-sw];exact s,d.out.2.1.take c.out.2 (λi x=>⟨c.out.1 i x,ZU.1 r.out i x⟩) h,H1.out.2.2.trans y⟩
      clear s y;go_wp2_with fail;go_roundw
      case rel=>exact⟨j+1,_,_,by omega,by go_num,E.out.1,E.out.2.1,E.out.2.2⟩
      case measure=>simp[intOf];omega
    .have O:¬(l.length:Int)<=b:=h
     have P:decide ((l.length:Int)<=b)=false:=adg h;go_wp2_with fail;go_roundw
     case rel=>exact⟨j+1,b,a,by omega,by go_num,H1.out.2.1,d.out.2.1,H1.out.2.2⟩
     case measure=>simp[intOf];omega
   .have D:¬(0:Int)< (l.length:Int):=by omega
    go_wp2_with fail;go_roundw
    case rel=>exact⟨j+1,b,a,by omega,by go_num,H1.out.2.1,d.out.2.1,H1.out.2.2⟩
    case measure=>simp[intOf];omega
  .have:j=k:=by omega
   go_wp2_with fail
   go_end0
   first
        |exact⟨_,_,_,rfl,d.out.1,d.out.2.1,d.out.2.2⟩
        |exact⟨⟨_,rfl⟩,_,_,d.out.1,d.out.2.1,d.out.2.2⟩
def Iz (D)(r)(l)(k):0<=dz D r l k/\dz D r l k<=l.length:=by
 unfold dz;have:=List.countP_le_length (p:=λi=>bG D r i==(k:Int)) (l:=l);omega
def Ny {D}{r}{l:List Nat}{j i m:Nat}(h:l[j]? =some i)(hm:bG D r i=(m:Int))(k):dz D r (l.take (j+1)) k=if k=m then dz D r (l.take j) m+1 else dz D r (l.take j) k:=by
 obtain⟨b,rfl⟩:=ZZ.1 h;unfold dz;rw[List.take_succ_eq_append_getElem b,List.countP_append]
 by_cases a:k=m
 .subst a
  rw[if_pos rfl];simp[hm]
 .rw[if_neg a]
  have:¬((m:Int)=(k:Int)):=by omega
  simp[hm,this]
def vD (D:BD)(r:Nat)(l:List Nat)(k:Nat):Value:=.int .i64 (dz D r l k)
def I9 (D:BD)(r:Nat)(l:List Nat):Array Value:= #[vD D r l 0,vD D r l 1,vD D r l 2,vD D r l 3]
def Pq:((patch ae prog).info? 131).map (·.size)=some 4:=by kernel_rfl
def O7 {w:World}{b}{D}{r}{l}(h:w.rowIs b 131 4 (vD D r l)):w.heap[b]? =some (.cells (I9 D r l) 131 (0,0)):=by
 obtain⟨cur,e,d,c⟩:=h
 have:cur=I9 D r l:=by
  refine Array.ext (by rw[d];rfl) λj a f=>?_
  have:=c j (by omega);rw[ZM a]at this;obtain rfl|rfl|rfl|rfl:j=0\/j=1\/j=2\/j=3:=by omega
  all_goals(simpa[I9] using this)
 rw[<-this];exact e
def Jh (bb r)(D)(l)(v)(w)(O:r<4)(hb:aW w bb D)(g:D.ok)(N:Ints w v l.length (λj=>((l[j]?.getD 0:Nat):Int)))(hl:l.length<=24)
 (a:∀i∈l,if r=0 then i<D.n else i<D.dn (r-1)):
 adO 71 #[.pointer (some ⟨bb,0,none⟩),.int .i64 r,v] w λe w'=>e=.returned (.agg (I9 D r l))/\adN w w':=by
 obtain⟨ao,cap,rfl,I,J,K⟩:=N;have x:Hid (aW w bb D/\D.ok/\(0<l.length->∃b o,ao=some ⟨b,o,none⟩/\gM w b o l.length (λj=>((l[j]?.getD 0:Nat):Int)))/\∀i∈l,if r=0 then i<D.n else i<D.dn (r-1)):=⟨hb,g,K,a⟩;clear hb g K a
 go_enter (pf func71 (by rfl)),ntmps71
 go_wp2_with fail;obtain⟨W,hW⟩:∃W,W=(w.alloc (.cells #[.int .i64 0,.int .i64 0,.int .i64 0,.int .i64 0] 131)).alloc (.cells #[.int .i64 0,.int .i64 0,.int .i64 0,.int .i64 0] 131):=⟨_,rfl⟩
 have A:Hid (W.rowIs (w.heap.size+1) 131 4 (vD D r (l.take 0))/\W.heap[w.heap.size]? =some (.cells #[.int .i64 0,.int .i64 0,.int .i64 0,.int .i64 0] 131 (0,0))/\adN w W/\w.heap.size+2=W.heap.size):=by
  rw[hW];refine⟨?_,aap _ _ _,((aab _ _).alloc (ZL _) _).alloc (by simp) _,by simp⟩
  have:=World.rowIs_alloc (w.alloc (.cells #[.int .i64 0,.int .i64 0,.int .i64 0,.int .i64 0] 131)) #[.int .i64 0,.int .i64 0,.int .i64 0,.int .i64 0] 131 (vD D r (l.take 0)) λi s=>by
   have P:i<4:=s;obtain rfl|rfl|rfl|rfl:i=0\/i=1\/i=2\/i=3:=by omega
   all_goals rfl
  simpa using this
 rw[<-hW];clear hW
 go_loopw [12] (λi wr=>∃j:Nat,j<=l.length/\i=.int .i64 j/\wr.rowIs (w.heap.size+1) 131 4 (vD D r (l.take j))/\(∀b,b≠w.heap.size+1->wr.heap[b]? =W.heap[b]?)/\adN w wr) (λi _=>l.length-(intOf i).toNat)
 case atStart=>exact⟨0,by omega,rfl,A.out.1,λ_ _=>rfl,A.out.2.2.1⟩
 case round=>
  obtain⟨j,S,rfl,t,z,hb⟩:=hrel;have h:Hid (wr.rowIs (w.heap.size+1) 131 4 (vD D r (l.take j))/\(∀b,b≠w.heap.size+1->wr.heap[b]? =W.heap[b]?)/\adN w wr):=⟨t,z,hb⟩;clear t z hb
  by_cases u:j<l.length
  .obtain⟨b,o,rfl,hc⟩:=x.out.2.2.1 (by omega)
   have d:l[j]? =some l[j]:=ZT u;have G:=keeps h.out.2.2 (hc j u);simp only[d,ac9]at G;obtain⟨i,s⟩:∃i,i=l[j]:=⟨_,rfl⟩;rw[<-s]at G d;have a:=x.out.2.2.2 i (by rw[s];exact acY u)
   obtain⟨m,hm,C⟩:∃m:Nat,bG D r i=(m:Int)/\m<4:=by
        have g:=x.out.2.1
        have:0<=bG D r i/\bG D r i<4:=by
         unfold bG
         by_cases L:r=0
         .rw[if_pos L]at a⊢;exact g.nodes i a
         .rw[if_neg L]at a⊢;exact(g.dC (r-1) (by omega)).2 i a
        exact⟨(bG D r i).toNat,by omega,by omega⟩
   have M:=h.out.1.cell C;have R:=h.out.1.frozen m;have hle:=Iz D r (l.take j) m;rw[adh]at hle;unfold vD at M;have B:Hid (l[j]? =some i/\(if r=0 then i<D.n else i<D.dn (r-1))/\bG D r i=(m:Int)):=⟨d,a,hm⟩;clear d a hm s hc;go_wp2_with(go_at_call 116;refine(Ie bb i r D _ O (aW.below x.out.1 h.out.2.2) x.out.2.1 B.out.2.1).mono ?_;rintro e w1 ⟨he,hw⟩;obtain rfl:=hw.symm;rw[B.out.2.2]at he;obtain rfl:=he);go_roundw
   case rel=>
        refine⟨j+1,by omega,by go_num,?_,?_,?_⟩
        .refine(h.out.1.set m _).congr λk H=>?_
         unfold vD;rw[Ny B.out.1 B.out.2.2]
         by_cases q:k=m
         .rw[if_pos q,if_pos q]
         .rw[if_neg q,if_neg q]
        .intro c hc
         exact(aad _ _ _ _ hc).trans (h.out.2.1 c hc)
        .exact h.out.2.2.setCell (Nat.le_succ _) _
   case measure=>simp[intOf];omega
  .have:j=l.length:=by omega
   subst this;obtain⟨vs,f⟩:∃vs,vs=I9 D r l:=⟨_,rfl⟩;have y:vs.size=4:=(by rw[f];rfl);have Q:vs.all (·.oneCell')=true:=(by rw[f];simp[I9,vD,Value.oneCell'])
   have E:wr.heap[w.heap.size+1]? =some (.cells vs 131 (0,0)):=by
        have:=h.out.1;rw[List.take_length]at this;rw[f];exact O7 this
   have hR:=(h.out.2.1 w.heap.size (by omega)).trans A.out.2.1;have s:((patch ae prog).info? 131).map (·.size)=some vs.size:=(by rw[y];exact Pq);have F:Hid (vs=I9 D r l):=f;have p:Hid (adN w wr):=h.out.2.2;clear f h x A
   go_wp2_with(first
        |refine wpList_load_row rfl 131 _ rfl (w.heap.size+1) rfl 131 vs (0,0) _ E ((ax ae prog 131).trans underlying131) rfl s ?_
        |refine wpList_store_row rfl 131 _ _ rfl w.heap.size vs rfl rfl 131 _ hR s (by rw[y];rfl) Q ?_)
   (try simp only[Exit.inBlock,Exit.then])
   refine bodyPost_ret_by (results_cell_row rfl _ _ w.heap.size 131 vs (0,0) _ rfl (setRow_heap _ _ _ _ _ _ hR) ((ax ae prog 131).trans underlying131) rfl s) rfl ?_;refine⟨by rw[F.out],?_⟩;exact⟨p.out.os,p.out.tape,p.out.output,by simpa using p.out.size,λk H=>(setRow_other _ _ _ _ (by omega)).trans (p.out.block k H)⟩
end Z
section
open Go
section
variable {C:iG}{P Q:Program}
def iK (hc:j6 C){f}(hf:f≠C.root):∀c,bA C P f c=true->uq C c=c
 |.seq a b,h=>by
  simp only[bA,ZQ]at h;simp only[uq,iK hc hf a h.1,iK hc hf b h.2]
 |.cond c a b,h=>by
  simp only[bA,ZQ]at h;simp only[uq,iK hc hf a h.1.2,iK hc hf b h.2]
 |.block _ a,h=>by simp only[uq,iK hc hf a h]
 |.loop a,h=>by simp only[uq,iK hc hf a h]
 |.region id ops d,h=>by
  simp only[uq,Code.region.injEq,and_true,true_and];refine Array.ext (by simp) λi g e=>?_
  rw[Array.getElem_map];refine hc.idle _ ?_;have:=kM.parts (adb.1 h ops[i] (Array.getElem_mem e));cases hm:C.mark ops[i]with
  |false=>rfl
  |true=>exact absurd (this.2.1 hm) hf
 |.skip,_=>rfl
 |.ret,_=>rfl
 |.exit _,_=>rfl
 |.label _,_=>rfl
 |.goto _,h=>by cases h
 |.scope _,h=>by cases h
 |.rangeFunc ..,h=>by cases h
 |.refuse _,_=>rfl
def PB (C:iG)(P Q:Program)(g:Nat):Prop:=∃fn c,P.funcs[g]? =some fn/\(fn.name== "runtime.NumGoroutine")=false/\fn.body=some c/\Q.funcs[g]? =some fn/\bA C P g c=true
def PS (P Q:Program)(g:Nat):Prop:=∃fn c a,P.funcs[g]? =some fn/\(fn.name== "runtime.NumGoroutine")=false/\fn.body=some c/\Q.funcs[g]? =some a/\(a.name== "runtime.NumGoroutine")=false/\a.body.isNone=false
def okB (C:iG)(P:Program)(g:Nat)(fn:Func):Bool:= !(fn.name== "runtime.NumGoroutine")&&match fn.body with
 |some c=>bA C P g c
 |none=>false
def KR {C}{P Q}{g}{fn}(h:P.funcs[g]? =some fn)(b:Q.funcs[g]? =some fn)(k:okB C P g fn=true):PB C P Q g:=by
 unfold okB at k;rw[ZQ,Bool.not_eq_true']at k;obtain⟨k1,a⟩:=k;cases hb:fn.body with
 |none=>rw[hb]at a;cases a
 |some c=>rw[hb]at a;exact⟨fn,c,h,k1,hb,b,a⟩
def X3 (C D:iG)(P:Program)(g:Nat):Prop:=∃fn,P.funcs[g]? =some fn/\okB C P g fn=true/\okB D P g fn=true
def bu {C D}{P}{g}{fn}(h:P.funcs[g]? =some fn)(k:(okB C P g fn&&okB D P g fn)=true):X3 C D P g:=⟨fn,h,(ZQ _ _▸k).1,(ZQ _ _▸k).2⟩
def all_cons {p:Nat->Prop}{a}{l}(h:p a)(t:∀g∈l,p g):∀g∈a::l,p g:=λg b=>by
 rcases ZW.1 b with rfl|b
 .exact h
 .exact t g b
def all_nil {p:Nat->Prop}:∀g∈([]:List Nat),p g:=λg a=>by cases a
def aH.of (hc:j6 C)(hx:pU C.ext P Q)(f:fU C.rx P Q)(hy:dw C.hx P Q)(o:∀g∈dS,g∈C.fns)(l:List Nat)(hl:∀g,g∈C.fns↔g∈l\/g∈C.sp)(hd:∀g∈C.sp,g∉l)(n:∀g∈l,g≠C.root)(h:∀g∈l,PB C P Q g)(hs:∀g∈C.sp,PS P Q g):aH C P Q:=by
 refine⟨hc,hx,f,hy,o,λg a=>?_,λg a i=>n g (((hl g).1 a).resolve_right i)⟩;rcases(hl g).1 a with a|a
 .obtain⟨fn,c,k,e,b,j,d⟩:=h g a
  exact⟨fn,c,fn,k,e,b,j,e,by rw[b];rfl,λ_=>⟨d,by rw[iK hc (n g a) c d];exact b,rfl,rfl⟩⟩
 .obtain⟨fn,c,m,k,e,b,j,d,q⟩:=hs g a
  exact⟨fn,c,m,k,e,b,j,d,q,λp=>absurd a p⟩
end
def fU.nil {P Q}:fU [] P Q:=λg a=>by cases a
def dw.nil {P Q}:dw [] P Q:=λg a=>by cases a
def kN (n:Int):Op->Bool
 |.move (.const (.int .i64 m))=>m==160160160160000+n
 |_=>false
def gI (o:Oper):Bool:=o.guard.isNone&&(kN 0 o.op||kN 6 o.op||kN 7 o.op)
def Yi (o:Op):Op:=
 if kN 0 o then .load 87 (.tmp 4)else if kN 6 o then .indexAddr 87 (.tmp 19) (.tmp 20)else .store 91 (.tmp 25) (.tmp 24)
def uo (o:Oper):Oper:=if gI o then{o with op:=Yi o.op}else o
def yB:List Nat:=[80,134,83,135,136,169,170,81,131,132,72,117,129,166,71,116,48,77,78,128,130,
 127,157,76,126,73,118,119,163,192,214,215,120,164]
end
section
open Go Go.Conc
section
variable {C β:Type}(R E:C->C->Prop)(ρ:β->β->Prop)
def Qa (n:Nat)(y x:(Nat->C)×β):Prop:=
 (∀i,i<n->E (y.1 i) (x.1 i)\/R (y.1 i) (x.1 i))/\((∃k,k<n/\R (y.1 k) (x.1 k))\/ρ y.2 x.2)
variable {R E ρ}
def LY (b:∀x y z,E y x->R z y->R z x){x y}(h:Acc R x)(e:E y x):Acc R y:=⟨y,λz a=>h.inv (b x y z e a)⟩
def DJ (a:WellFounded ρ)(g:∀x y z,E y x->R z y->R z x):∀(n:Nat) (p:(Nat->C)×β),(∀i,i<n->Acc R (p.1 i))->Acc (Qa R E ρ n) p
 |0,p,_=>by
  obtain⟨x,s⟩:=p
  induction s using a.induction generalizing x with
  |_ s v=>
   refine⟨_,λy hy=>?_⟩;rcases hy.2 with⟨k,q,_⟩|h
   .exact absurd q (ZV _)
   .exact v y.2 h y.1 (λi b=>absurd b (ZV _))
 |n+1,p,hp=>by
  have d:∀c,Acc R c->∀p,Acc (Qa R E ρ n) p->(∀i,i<n->Acc R (p.1 i))->(∀z,R z (p.1 n)->R z c)->Acc (Qa R E ρ (n+1)) p:=by
   intro c hc
   induction hc with
   |intro c _ m=>
    intro p hp
    induction hp with
    |intro p _ l=>
     intro u hs;refine⟨_,λy hy=>?_⟩;have j:∀i,i<n->Acc R (y.1 i):=λi b=>(hy.1 i (by omega)).elim (λe=>LY g (u i b) e) λr=>(u i b).inv r
     by_cases o:R (y.1 n) (p.1 n)
     .exact m _ (hs _ o) y (DJ a g n y j) j λz f=>f
     .have he:E (y.1 n) (p.1 n):=(hy.1 n (Z4 _)).resolve_right o
      refine l y ⟨λi b=>hy.1 i (by omega),hy.2.imp (fun⟨k,q,t⟩=>⟨k,?_,t⟩) id⟩ j λz f=>hs z (g _ _ z he f)
      rcases ac7.1 q with h|rfl
      .exact h
      .exact absurd t o
  exact d (p.1 n) (hp n (Z4 _)) p (DJ a g n p λi b=>hp i (by omega)) (λi b=>hp i (by omega)) λz f=>f
end
end
section
open Go Go.Conc Go.ConcN
def Gw (S:Nat->Prop):Loc->Prop:=λl=>∃a,l=.cell a/\S a.block
def uZ:Nat->Loc->Prop:=λ_ _=>False
def zl (S):Apart (Gw S) uZ uZ:=⟨λ_ _ _ h=>h.elim,λ_ _ _ h=>h.elim,λ_ _ h=>h.elim,λ_ _ h=>h.elim⟩
structure ni (Q:Program)(S:Nat->Prop)(gs:Array Goroutine)(B:Nat)(t:Trace)(q:Nat->Nat):Prop where
 ct:CT (Gw S) uZ uZ t (gs.size-1)
 pos:0<gs.size
 over:t.HandedOver
 hears:Deaf t 0=0
 low:∀op∈t,op.act.low B
 sh:∀c,S c->c<B
 old:∀i g,0<i->gs[i]? =some g->QuitsD Q (q i) (Deaf t i) g
def UL (S:Nat->Prop)(B:Nat)(e:Event):Prop:=(∀x,(MemAct.ofEvent e).touch? =some x->¬Gw S x.loc)/\e.loc≠.mark .disable/\e.loc≠.mark .enable/\(MemAct.ofEvent e).low B
section
variable {Q:Program}{S:Nat->Prop}{gs:Array Goroutine}{u u':World}{t:Trace}{q:Nat->Nat}{B B':Nat}
def iy {g}{fn}{pos}{es}(h:∀e∈es,(MemAct.ofEvent e).low B):∀op∈MemOp.ofEvents g fn pos es,op.act.low B:=λop a=>by
 obtain⟨e,he,rfl⟩:=Go.Conc.mem_ofEvents a;exact h e he
def M9 (h:∀op∈t,op.act.low B)(b:B<=B'):∀op∈t,op.act.low B':=λop a=>MemAct.low_mono b (h op a)
def jv (f)(i)(x:Goroutine):((gs.map f).setIfInBounds i x).size=gs.size:=by simp
def ni.step0 (h:ni Q S gs B t q){g a'}{fn}{pos}{es}(hu:B<=B')(b:∀e∈es,UL S B' e):
 ni Q S ((gs.map (woken Q g a' u')).setIfInBounds 0 a') B' (t++MemOp.ofEvents 0 fn pos es) q:=by
 have j:∀op∈MemOp.ofEvents 0 fn pos es,op.g=0:=λop a=>by obtain⟨e,_,rfl⟩:=Go.Conc.mem_ofEvents a;rfl
 refine⟨?_,by rw[jv];exact h.pos,handedOver_app h.over λop a=>.inl (j op a),?_,seen_app (M9 h.low hu) (iy λe he=>(b e he).2.2.2),λc hc=>ZO (h.sh c hc) hu,λi x l hx=>?_⟩
 .rw[jv]
  refine h.ct.app0 (zl S) λop a=>⟨j op a,λx hx=>.inr ⟨?_,λ_ _ _ f=>f,λ_ _ _ _ f=>f⟩⟩
  obtain⟨e,he,rfl⟩:=Go.Conc.mem_ofEvents a;exact(b e he).1 x hx
 .rw[Deaf_own,h.hears]
  exact deafBehind_still (λe he=>⟨(b e he).2.1,(b e he).2.2.1⟩) _
 .have d:0≠i:=by omega
  rw[ade d,ac6]at hx;obtain⟨y,hy,rfl⟩:=adf.1 hx;have k:=h.old i y l hy;rw[woken_quitsD k,Deaf_other t (by omega) _ j];exact k
def ni.slip (h:ni Q S gs B t q){i k}{g g'}{fn}{pos}{es}(p:gs[i]? =some g)(d:0<i)(hm:∀e∈es,e.mute=true)(f:QuitsD Q k (deafBehind (Deaf t i) es) g'):
 ni Q S ((gs.map (woken Q g g' u)).setIfInBounds i g') B (t++MemOp.ofEvents i fn pos es) (upd q i k):=by
 have l:i<gs.size:=(ZK.1 p).1;have m:∀op∈MemOp.ofEvents i fn pos es,op.g=i:=λop a=>by obtain⟨e,_,rfl⟩:=Go.Conc.mem_ofEvents a;rfl
 have n:∀op∈MemOp.ofEvents i fn pos es,op.act.touch? =none:=λop a=>by obtain⟨e,he,rfl⟩:=Go.Conc.mem_ofEvents a;exact touch_mute (hm e he)
 refine⟨?_,by rw[jv];exact h.pos,handedOver_app h.over λop a=>.inr (n op a),?_,seen_app h.low (iy λe he=>low_mute (hm e he) _),h.sh,λj x o hx=>?_⟩
 .rw[jv]
  exact h.ct.appW (zl S) (k:=i) d (by omega) λop a=>⟨m op a,λx hx=>by rw[n op a]at hx;cases hx⟩
 .rw[Deaf_other t (g':=i) (by omega) _ m]
  exact h.hears
 .by_cases b:i=j
  .subst b
   rw[acV (by simpa using l)]at hx;obtain rfl:=adn hx;rw[upd_same,Deaf_own];exact f
  .rw[ade b,ac6]at hx
   obtain⟨y,hy,rfl⟩:=adf.1 hx;have c:=h.old j y o hy;rw[woken_quitsD c,upd_ne q k (Ne.symm b),Deaf_other t b _ m];exact c
def Qx:∀(M:Nat) (gs:Array Goroutine) (u:World) (sl:Option (Nat×Nat)) (t:Trace) (q:Nat->Nat) (a:Goroutine),sumTo gs.size q<=M->gs[0]? =some a->a.status=.running->ni Q S gs B t q->
 ∃(N:Nat) (h:Array Goroutine) (d d':Nat) (e y:Option (Nat×Nat)) (A:Trace) (E:Nat->Nat),runNT Q N (crowd gs u sl) t=(.next (crowd h (u.at d) e),A)/\h[0]? =some a/\h.size=gs.size/\ni Q S h B A E/\
  stepT Q (crowd h (u.at d) e)=runT Q (crowd h (u.at d') y) 0:=by
 intro M
 induction M with
 |zero=>
  intro gs u sl t q a U o c hF
  have v:∀g∈gs,awake g:=by
   intro g m;obtain⟨i,j,rfl⟩:=Array.mem_iff_getElem.1 m;rcases Nat.eq_zero_or_pos i with rfl|b
   .have:gs[0]=a:=by simpa[ZM j] using o
    rw[this];exact awake_of (.inl c)
   .exact awake_of ((hF.old i _ b (ZM j)).status.elim .inl λx=>.inr (.inr x))
  obtain⟨i,g,d,e,j,m,n⟩:=crowd_pick (P:=Q) (w:=u) (sl:=sl) v ⟨0,a,o,c⟩;rcases Nat.eq_zero_or_pos i with rfl|b
  .exact⟨0,gs,u.drawn,d,sl,e,t,q,rfl,o,rfl,hF,n⟩
  .have r:=hF.old i g b j
   have s:i<gs.size:=(ZK.1 j).1;have V:=le_sumTo (f:=q) s;have l:q i=0:=(by omega);rw[l]at r;rw[r.1]at m;cases m
 |succ M T=>
  intro gs u sl t q a U o c hF
  have v:∀g∈gs,awake g:=by
   intro g m;obtain⟨i,j,rfl⟩:=Array.mem_iff_getElem.1 m;rcases Nat.eq_zero_or_pos i with rfl|b
   .have:gs[0]=a:=by simpa[ZM j] using o
    rw[this];exact awake_of (.inl c)
   .exact awake_of ((hF.old i _ b (ZM j)).status.elim .inl λx=>.inr (.inr x))
  obtain⟨i,g,d,e,j,m,n⟩:=crowd_pick (P:=Q) (w:=u) (sl:=sl) v ⟨0,a,o,c⟩;rcases Nat.eq_zero_or_pos i with rfl|b
  .exact⟨0,gs,u.drawn,d,sl,e,t,q,rfl,o,rfl,hF,n⟩
  .have r:=hF.old i g b j
   have H:(i==0)=false:=(by simp;omega);have s:i<gs.size:=(ZK.1 j).1;cases l:q i with
   |zero=>rw[l]at r;rw[r.1]at m;cases m
   |succ k=>
    rw[l]at r;rcases r with⟨hf,_⟩|⟨_,g',es,hm,z,F⟩
    .rw[hf]at m;cases m
    have p:=runT_crowd_go (P:=Q) (sl:=e) (i:=i) j (by rw[H];exact z (u.at d))
    have I:sumTo gs.size (upd q i k)+(k+1)=sumTo gs.size q+k:=by
     have:=sumTo_upd q k id s;simpa[l] using this
    obtain⟨N,h,d1,d2,D,C,A,E,R,O,L,K,J⟩:=T ((gs.map (woken Q g g' (u.at d))).setIfInBounds i g') (u.at d) e (t++MemOp.ofEvents i g.frame.fn g.frame.place es) (upd q i k) a (by rw[jv];omega)
     (by
      have G:i≠0:=(by omega);rw[ade G,ac6,o];simp[woken_run c]) c (hF.slip j b hm F)
    exact⟨N+1,h,d1,d2,D,C,A,E,by simp only[runNT,n,p];exact R,O,L.trans (jv _ _ _),K,J⟩
def MQ {sl}{a}(hF:ni Q S gs B t q)(x:gs[0]? =some a)(j:a.status=.running){Stop:Goroutine->World->Nat->Prop}
 (h:∀d,∃a' u' es B',stepG Q true a (u.at d)=.go a' u' es/\B<=B'/\(∀e∈es,UL S B' e)/\Stop a' u' B'):
 ∃(N:Nat) (b:Array Goroutine) (a':Goroutine) (u':World) (l:Option (Nat×Nat)) (m:Trace) (w:Nat->Nat) (B':Nat),runNT Q N (crowd gs u sl) t=(.next (crowd b u' l),m)/\b.size=gs.size/\b[0]? =some a'/\Stop a' u' B'/\ni Q S b B' m w:=by
 obtain⟨N,g,d,d',k,c,t1,v,s,r,p,n,o⟩:=Qx _ gs u sl t q a (ZL _) x j hF;obtain⟨a',u',es,B',C,A,z,y⟩:=h d';have f:=runT_crowd_go (P:=Q) (sl:=c) (i:=0) r (show stepG Q (0==0) a (u.at d')=_ from C);refine⟨N+1,(g.map (woken Q a a' u')).setIfInBounds 0 a',a',u',c,t1++MemOp.ofEvents 0 a.frame.fn a.frame.place es,v,B',?_,(jv _ _ _).trans p,by rw[get_map_set_same _ _ _ n.pos],y,n.step0 (fn:=a.frame.fn) (pos:=a.frame.place) A z⟩
 have:runNT Q 1 (crowd g (u.at d) k) t1=(.next (crowd ((g.map (woken Q a a' u')).setIfInBounds 0 a') u' c),t1++MemOp.ofEvents 0 a.frame.fn a.frame.place es):=by
  simp only[runNT,o,f]
 rw[runNT_add,s];exact this
def WY {sl}{a}(hF:ni Q S gs B t q)(D:gs[0]? =some a)(k:a.status=.running){Post}
 (h:∀d,∃v u' es,stepG Q true a (u.at d)=.ended (.done v) u' es/\(∀e∈es,UL S B' e)/\B<=B'/\Post v u'):
 ∃N last o w' s,runNT Q (N+1) (crowd gs u sl) t=(.ended o w',s)/\runN Q N (crowd gs u sl)=.next last/\step Q last=.ended o w'/\Conc.Good Q Post last o w' s:=by
 obtain⟨N,l,d,d',c,m,t1,A,y,z,I,n,w⟩:=Qx _ gs u sl t q a (ZL _) D k hF;obtain⟨v,u',es,H,G,F,E⟩:=h d';have b:=runT_many_ended (P:=Q) (sl:=m) (i:=0) z (show stepG Q (0==0) a (u.at d')=_ from H);have f:=n.step0 (u':=u') (g:=a) (a':=a) (fn:=a.frame.fn) (pos:=a.frame.place) F G;refine⟨N,crowd l (u.at d) c,.done v,u',t1++MemOp.ofEvents 0 a.frame.fn a.frame.place es,?_,?_,?_,v,rfl,E,f.ct.nr,f.over,⟨λx hx=>?_,rfl⟩,λj x hx r=>?_⟩
 .have:runNT Q 1 (crowd l (u.at d) c) t1=(.ended (.done v) u',t1++MemOp.ofEvents 0 a.frame.fn a.frame.place es):=by simp only[runNT,w,b]
  rw[runNT_add,y];exact this
 .rw[<-runNT_fst Q _ _ t,y]
 .simp only[step,w,b]
 .obtain⟨j,r⟩:=List.mem_iff_getElem?.1 hx
  rw[List.getElem?_drop]at r;exact⟨_,(n.old (1+j) x (by omega) (by simpa[crowd] using r)).leaves⟩
 .have C:=n.old j x (by omega) hx
  refine⟨A j,?_⟩
  have e:(t1++MemOp.ofEvents 0 a.frame.fn a.frame.place es).deaf j (t1++MemOp.ofEvents 0 a.frame.fn a.frame.place es).size=Deaf t1 j:=
   Deaf_other t1 (g:=j) (g':=0) (by omega) _ (λop p=>by obtain⟨e,_,rfl⟩:=Go.Conc.mem_ofEvents p;rfl)
  rw[e];exact C.hears _
end
end
section
open Go Go.Conc Go.ConcN
open Go.ConcR (stA smA rd wr mk)
section
variable {Sh Xd:Loc->Prop}{Own Rd Sw X6:Nat->Loc->Prop}{t u:Trace}{j base B:Nat}
def CT.WV (h:CT Sh Own Rd t j)(m:∀k,1<=k->k<=j->∀l,Sw k l->Own k l\/∀i a,touchAt t i=some a->a.loc≠l)(c:∀k,1<=k->k<=j->∀l,Own k l->Sw k l)
 (hR:∀k,1<=k->k<=j->∀l,X6 k l↔Rd k l):CT Sh Sw X6 t j:=by
 refine⟨h.quiet,λk k1 b l hl=>?_,λk k1 b l hl=>h.rd k k1 b l ((hR k k1 b l).1 hl),λl hs hl=>h.free l hs λk k1 b=>⟨λx=>(hl k k1 b).1 (c k k1 b l x),λx=>(hl k k1 b).2 ((hR k k1 b l).2 x)⟩,
  λl hs hl=>h.mine l hs λk k1 b x=>hl k k1 b (c k k1 b l x),h.nr,h.gs⟩
 rcases m k k1 b l hl with d|f
 .exact h.own k k1 b l d
 .exact λi a g e=>absurd e (f i a g)
def CT.We (h:CT Sh Own Rd t j)(d:∀l,Sh l->Xd l)(e:∀l,Xd l->Sh l\/∀i a,touchAt t i=some a->a.loc≠l):CT Xd Own Rd t j:=by
 refine⟨λi op x c hx hs=>?_,h.own,h.rd,λl hs hl=>h.free l (λx=>hs (d l x)) hl,λl hs hl=>h.mine l (λx=>hs (d l x)) hl,h.nr,h.gs⟩;rcases e _ hs with b|b
 .exact h.quiet i op x c hx b
 .exact absurd rfl (b i x (by rw[touchAt_of c];exact hx))
structure TK (Sh:Loc->Prop)(a:Addr)(base B:Nat)(t:Trace):Prop where
 known:∀i x,touchAt t i=some x->¬Sh x.loc->Knows t 0 i\/∃g,t.g? i=some g/\base<g/\x.kind≠.atomic/\x.loc.isMemory=true
 over:∀i g,t.g? i=some g->g≠0->t.counts i->(∃p,t.g? p=some 0/\HappensBefore t i p)\/base<g
 Ug:NoRelease a t
 low:∀op∈t,op.act.low B
structure TI (Sh:Loc->Prop)(Own Rd:Nat->Loc->Prop)(a:Addr)(base j B:Nat)(t:Trace):Prop where
 ct:CT Sh Own Rd t (base+j)
 tk:TK Sh a base B t
def QE {i}{op}(h:t[i]? =some op):t.g? i=some op.g:=by simp[Trace.g?,h]
def Ux {p g}(h:t.g? p=some g):p<t.size:=by
 obtain⟨z,a,_⟩:=adf.1 (show(t[p]?).map (·.g)=some g from h);exact lt_size_of_getElem? a
def TK.grow {a}(h:TK Sh a base B t){B'}(r:B<=B')
 (q:∀op∈u,∀x,op.act.touch? =some x->¬Sh x.loc->op.g=0\/(base<op.g/\x.kind≠.atomic/\x.loc.isMemory=true))
 (o:∀op∈u,op.g≠0->¬base<op.g->op.act.touch? =none)(n:∀op∈u,op.act≠.mark (.release a))(hl:∀op∈u,op.act.low B'):TK Sh a base B' (t++u):=by
 refine⟨λi x hx hs=>?_,λi g l k hc=>?_,h.Ug.app n,λop f=>(Array.mem_append.1 f).elim (λf=>MemAct.low_mono r (h.low op f)) (hl op)⟩
 .obtain⟨y,hy,c⟩:=touch_of hx
  rcases getElem?_append_cases hy with⟨d,j⟩|⟨_,e⟩
  .rcases h.known i x (by rw[touchAt_of j];exact c) hs with b|⟨g,b,m⟩
   .exact .inl (b.app u)
   .exact .inr ⟨g,by rw[g?_old d];exact b,m⟩
  .rcases q y e x c hs with b|b
   .have:=knows_own hy
    rw[b]at this;exact .inl this
   .exact .inr ⟨y.g,QE hy,b⟩
 .obtain⟨x,hx,hm⟩:=hc
  obtain⟨y,hy,c⟩:=touch_of hx;rcases getElem?_append_cases hy with⟨d,j⟩|⟨_,e⟩
  .rw[g?_old d]at l
   rcases h.over i g l k ((counts_old d).1 ⟨x,hx,hm⟩)with⟨p,b,m⟩|b
   .exact .inl ⟨p,by rw[g?_old (Ux b)];exact b,hb_app u m⟩
   .exact .inr b
  .rw[QE hy]at l
   obtain rfl:=adn l
   by_cases hb:base<y.g
   .exact .inr hb
   .rw[o y e k hb]at c;cases c
def TI.app0 {a}(A:Apart Sh Own Rd)(h:TI Sh Own Rd a base j B t){B'}(e:B<=B')(hu:∀op∈u,Ok0 Sh Own Rd (base+j) op)(d:∀op∈u,op.act≠.mark (.release a))(hl:∀op∈u,op.act.low B'):
 TI Sh Own Rd a base j B' (t++u):=
 ⟨h.ct.app0 A hu,h.tk.grow e (λop b _ _ _=>.inl (hu op b).1) (λop b c _=>absurd (hu op b).1 c) d hl⟩
def TI.appW {a}(A:Apart Sh Own Rd)(h:TI Sh Own Rd a base j B t){B' k}(f:B<=B')(k1:base<k)(c:k<=base+j)(hu:∀op∈u,OkW Sh Own Rd k op)
 (hp:∀op∈u,∀x,op.act.touch? =some x->¬Sh x.loc->x.kind≠.atomic/\x.loc.isMemory=true)(d:∀op∈u,op.act≠.mark (.release a))(hl:∀op∈u,op.act.low B'):TI Sh Own Rd a base j B' (t++u):=
 ⟨h.ct.appW A (by omega) c hu,h.tk.grow f (λop b x hx hs=>.inr ⟨by rw[(hu op b).1];exact k1,hp op b x hx hs⟩) (λop b _ e=>absurd (by rw[(hu op b).1];exact k1) e) d hl⟩
def TI.slip {a}(A:Apart Sh Own Rd)(h:TI Sh Own Rd a base j B t){k}(k1:1<=k)(kb:k<=base)(e:∀op∈u,op.g=k)(c:∀op∈u,op.act.touch? =none)(d:∀op∈u,op.act≠.mark (.release a))(hl:∀op∈u,op.act.low B):
 TI Sh Own Rd a base j B (t++u):=
 ⟨h.ct.appW A k1 (by omega) λop b=>⟨e op b,λx hx=>by rw[c op b]at hx;cases hx⟩,h.tk.grow (ZL _) (λop b x hx=>by rw[c op b]at hx;cases hx) (λop b _ _=>c op b) d hl⟩
def TI.fork {a}(A:Apart Sh Own Rd)(h:TI Sh Own Rd a base j B t){x y}(hx:x.g=0/\x.act=.go (base+j+1))(hy:y.g=base+j+1/\y.act=.start)(f:Deaf t 0=0):TI Sh Own Rd a base (j+1) B (t++ #[x,y]):=by
 have hm:∀op∈ #[x,y],op=x\/op=y:=λop b=>by simpa using b
 have d:∀op∈ #[x,y],op.act.touch? =none:=λop b=>by
  rcases hm op b with rfl|rfl
  .rw[hx.2];rfl
  .rw[hy.2];rfl
 refine⟨h.ct.fork A hx hy f,h.tk.grow (ZL _) (λop b z c=>by rw[d op b]at c;cases c) (λop b _ _=>d op b) (λop b e=>?_) (λop b=>?_)⟩
 .rcases hm op b with rfl|rfl
  .rw[hx.2]at e;cases e
  .rw[hy.2]at e;cases e
 .rcases hm op b with rfl|rfl
  .rw[hx.2];trivial
  .rw[hy.2];trivial
def TI.join {a}(h:TI Sh Own Rd a base j B t){q}(y:t.act? q=some (.mark (.acquire a)))(v:t.g? q=some 0)(z:t.heard q)(hw:∀g,base<g->g<=base+j->∃r,RelBy a t g r/\r<q):
 CT Sh uZ uZ t (base+j)/\t.HandedOver:=by
 have key:∀i g,t.g? i=some g->base<g->t.counts i->HappensBefore t i q:=by
  intro i g b hb hc;obtain⟨op,o,p⟩:=adf.1 (show(t[i]?).map (·.g)=some g from b);have hle:=h.ct.gs i op o;rw[p]at hle;obtain⟨r,e,n⟩:=hw g hb hle;have PN:HappensBefore t r q:=.single (.inr ⟨.marked n (.inr e.act) y (λk _ _=>h.tk.Ug k),e.heard,z⟩);have hle:i<=r:=Nat.le_of_not_lt λc=>e.after i c b hc
  rcases Nat.lt_or_ge i r with c|A
  .exact .trans (.single (.inl ⟨c,g,b,e.g⟩)) PN
  .obtain rfl:i=r:=by omega
   exact PN
 obtain⟨w,f,m⟩:=adf.1 (show(t[q]?).map (·.g)=some 0 from v)
 have u:∀l,¬Sh l->Perm t 0 l:=λl hs i x hx hl=>by
  rcases h.tk.known i x hx (hl▸hs)with d|⟨g,d,E,D,C⟩
  .exact d
  .exact⟨q,w,f,m,.inr (key i g d E ⟨x,hx,C,.inl D⟩)⟩
 refine⟨⟨h.ct.quiet,λk _ _ l hl=>hl.elim,λk _ _ l hl=>hl.elim,λl hs _=>u l hs,λl hs _=>PermW.of (u l hs),h.ct.nr,h.ct.gs⟩,λi g b s hc=>?_⟩;rcases h.tk.over i g b s hc with d|d
 .exact d
 .exact⟨q,v,key i g b d hc⟩
end
end
section
open Go Go.Conc Go.ConcN
open Go.ConcR (KK wgBlock WgAt stA smA rd wr mk Payload DC0 Bk)
variable [Payload]
structure Xe (V nV off:Nat)(vs:List Value)(u u':World):Prop where
 tape:u'.tape=u.tape
 os:u'.os=u.os
 output:u'.output=u.output
 size:u'.heap.size=u.heap.size
 block:∀b,b≠V->u'.heap[b]? =u.heap[b]?
 row:∀cs,u.heap[V]? =some (.cells cs Payload.ety)->cs.size=nV->∃cs',u'.heap[V]? =some (.cells cs' Payload.ety)/\cs'.size=nV/\(∀x,¬(off<=x/\x<off+vs.length)->cs'[x]? =cs[x]?)/\∀o,o<vs.length->cs'[off+o]? =vs[o]?
def QR (V off n:Nat)(e:Event):Prop:=∃x,off<=x/\x<off+n/\e=⟨.cell ⟨V,x,none⟩,true,false⟩
section
variable (Q:Program)(ty:TypeId)(Wg V nV:Nat)(K:Nat->Prop)
def RL (_ a:World):Prop:=WgLive ty Wg a
def V7 (off:Nat)(vs:List Value)(g:Goroutine)(w:World):Prop:=
 g.status=.running/\(Has V off (vs.headD undef) w->∃g',stepG Q false g w=.go g' w #[mk (.releaseMerge (stA Wg))]/\∃m,Goes Q false (RW ty Wg V nV 0 off) DC0 (AtK1 Q ty Wg V nV 0 (off+1)) m g' w)
def kg (off:Nat)(vs:List Value)(g:Goroutine)(u:World)(_:Nat->Prop):Prop:=
 g.status=.running/\(PayAt V nV u->WgLive ty Wg u->∃g' u' es,stepG Q false g u=.go g' u' es/\Xe V nV off vs u u'/\(∀e∈es,QR V off vs.length e)/\
    ∃m,Goes Q false (RL ty Wg) DC0 (V7 Q ty Wg V nV off vs) m g' u')
abbrev Qb (off:Nat)(vs:List Value):=WSit Q ty Wg V nV uZ uZ 0 (off+1) (vs.headD undef)
def Wk (off:Nat)(vs:List Value)(lv:Bool)(d:WD)(M:Nat->Prop)(g:Goroutine)(u:World):Prop:=
 (lv=true/\d.stage=7/\d.deaf=0/\aC Q false K (kg Q ty Wg V nV off vs) g u M)\/(lv=false/\d.stage=7/\d.deaf=0/\Goes Q false (RL ty Wg) DC0 (V7 Q ty Wg V nV off vs) d.fuel g u)\/
    (lv=false/\d.stage<=6/\Qb Q ty Wg V nV off vs d.stage d.fuel d.deaf g u)
def V8 (g' child g:Goroutine)(w:World):Prop:=g.status=.running/\stepG Q true g w=.spawn g' child w #[]
def Qc (g' child g:Goroutine)(w:World):Prop:=g.status=.running/\∃a,stepG Q true g w=.go a w #[mk .enable]/\∃m,Goes Q true (RL ty Wg) DC0 (V8 Q g' child) m a w
def X4 (g' child g:Goroutine)(w:World):Prop:=g.status=.running/\∃a,stepG Q true g w=.go a w #[mk (.read (smA Wg))]/\∃m,Goes Q true (RL ty Wg) DC0 (Qc Q ty Wg g' child) m a w
def X5 (g' child g:Goroutine)(w:World):Prop:=g.status=.running/\∀v:Nat,v<4->WgAt ty Wg w (v*KK) 0->
 ∃a,stepG Q true g w=.go a (w.setCell (stA Wg) (.int .u64 ((v+1)*KK))) #[rd (stA Wg),wr (stA Wg)]/\∃m,Goes Q true (RL ty Wg) DC0 (λg w=>X4 Q ty Wg g' child g w\/Qc Q ty Wg g' child g w) m a (w.setCell (stA Wg) (.int .u64 ((v+1)*KK)))
def Qd (g' child g:Goroutine)(w:World):Prop:=g.status=.running/\∃a,stepG Q true g w=.go a w #[mk .disable]/\∃m,Goes Q true (RL ty Wg) DC0 (X5 Q ty Wg g' child) m a w
variable (gE:Goroutine->Prop)(An:Goroutine->World->Prop)
def LZ (g:Goroutine)(w:World):Prop:=g.status=.running/\∃a,gE a/\stepG Q true g w=.go a w #[mk (.acquire (stA Wg))]
def QJ (g:Goroutine)(w:World):Prop:=g.status=.running/\∃a,stepG Q true g w=.go a w #[mk .enable]/\∃m,Goes Q true (RL ty Wg) DC0 (LZ Q Wg gE) m a w
def SN (g:Goroutine)(w:World):Prop:=g.status=.running/\(WgAt ty Wg w 0 0->∃a,stepG Q true g w=.go a w #[rd (stA Wg)]/\∃m,Goes Q true (RL ty Wg) DC0 (QJ Q ty Wg gE) m a w)
def Ss (g:Goroutine)(w:World):Prop:=g.status=.running/\g.offers=none/\((∃st,WgAt ty Wg w st 0)->stepG Q true g w=.go {g with status:=.blocked} w #[])/\
 (WgAt ty Wg w 0 1->∃a,stepG Q true g w=.go a (w.setCell (smA Wg) (.int .u32 0)) (semEvents (smA Wg))/\∃m,Goes Q true (RL ty Wg) DC0 (SN Q ty Wg gE) m a (w.setCell (smA Wg) (.int .u32 0)))
def SL (g:Goroutine)(w:World):Prop:=g.status=.running/\∃a,stepG Q true g w=.go a w #[mk (.write (smA Wg))]/\Goes Q true (RL ty Wg) DC0 (Ss Q ty Wg gE) 100 a w
def SQ (vs:Nat)(g:Goroutine)(w:World):Prop:=g.status=.running/\∀v:Nat,v<=4->WgAt ty Wg w (v*KK) 0->
 (v=vs->∃a,stepG Q true g w=.go a (w.setCell (stA Wg) (.int .u64 (v*KK+1))) #[rd (stA Wg),wr (stA Wg)]/\∃m,Goes Q true (RL ty Wg) DC0 (SL Q ty Wg gE) m a (w.setCell (stA Wg) (.int .u64 (v*KK+1))))/\
 (v≠vs->∃a,stepG Q true g w=.go a w #[rd (stA Wg)]/\∃m,Goes Q true (RL ty Wg) DC0 An m a w)
def Oc (g:Goroutine)(w:World):Prop:=g.status=.running/\∀v:Nat,v<=4->WgAt ty Wg w (v*KK) 0->∃a,stepG Q true g w=.go a w #[rd (stA Wg)]/\
 (v=0->∃m,Goes Q true (RL ty Wg) DC0 (QJ Q ty Wg gE) m a w)/\(v≠0->∃m,Goes Q true (RL ty Wg) DC0 (SQ Q ty Wg gE An v) m a w)
def Qe (g:Goroutine)(w:World):Prop:=g.status=.running/\∃a,stepG Q true g w=.go a w #[mk .disable]/\∃m,Goes Q true (RL ty Wg) DC0 An m a w
variable (nW:Nat)(off:Nat->Nat)(vals:Nat->List Value)
def Oe (a:Goroutine->World->(Nat->Prop)->Prop)(r:Nat)(g:Goroutine)(u:World)(M₀:Nat->Prop):Prop:=
 ∃g' child,child.status=.running/\(∃m,Goes Q true (RL ty Wg) DC0 (Qd Q ty Wg g' child) m g u)/\∀az,bF K M₀ u az->aC Q false K (kg Q ty Wg V nV (off (nW-(r+1))) (vals (nW-(r+1)))) child az M₀/\a g' az (λ_=>False)
def QK (g:Goroutine)(u:World)(_:Nat->Prop):Prop:=∃m,Goes Q true (RL ty Wg) DC0 (Qe Q ty Wg An) m g u
def Sr:Nat->Goroutine->World->(Nat->Prop)->Prop
 |0=>aC Q true K (QK Q ty Wg An)
 |r+1=>aC Q true K (Oe Q ty Wg V nV K nW off vals (Sr r) r)
def SS:Nat->Goroutine->World->(Nat->Prop)->Prop
 |0=>QK Q ty Wg An
 |r+1=>Oe Q ty Wg V nV K nW off vals (Sr Q ty Wg V nV K An nW off vals r) r
def Fk (r:Nat)(X:Goroutine->Goroutine->Goroutine->World->Prop)(f0:Nat)(a:Goroutine)(u:World)(M₀:Nat->Prop):Prop:=
 ∃g' child,child.status=.running/\Goes Q true (RL ty Wg) DC0 (X g' child) f0 a u/\∀az,bF K M₀ u az->aC Q false K (kg Q ty Wg V nV (off (nW-(r+1))) (vals (nW-(r+1)))) child az M₀/\Sr Q ty Wg V nV K An nW off vals r g' az (λ_=>False)
def CS:CTag->Nat->Nat->Nat->Goroutine->World->(Nat->Prop)->Prop
 |.sp r 6,j,f0,d0,a,u,M₀=>r<=nW/\j=nW-r/\f0=0/\d0=0/\Sr Q ty Wg V nV K An nW off vals r a u M₀
 |.sp (r+1) 5,j,f0,d0,a,u,M₀=>r<nW/\j=nW-(r+1)/\d0=0/\Fk Q ty Wg V nV K An nW off vals r (Qd Q ty Wg) f0 a u M₀
 |.sp (r+1) 4,j,f0,d0,a,u,M₀=>r<nW/\j=nW-(r+1)/\d0=1/\Fk Q ty Wg V nV K An nW off vals r (X5 Q ty Wg) f0 a u M₀
 |.sp (r+1) 3,j,f0,d0,a,u,M₀=>r<nW/\j=nW-(r+1)/\d0=1/\Fk Q ty Wg V nV K An nW off vals r (λg' c g w=>X4 Q ty Wg g' c g w\/Qc Q ty Wg g' c g w) f0 a u M₀
 |.sp (r+1) 2,j,f0,d0,a,u,M₀=>r<nW/\j=nW-(r+1)/\d0=1/\Fk Q ty Wg V nV K An nW off vals r (Qc Q ty Wg) f0 a u M₀
 |.sp (r+1) 1,j,f0,d0,a,u,M₀=>r<nW/\j=nW-(r+1)/\d0=0/\Fk Q ty Wg V nV K An nW off vals r (V8 Q) f0 a u M₀
 |.sp _ _,_,_,_,_,_,_=>False
 |.kd,j,f0,d0,a,u,_=>j=nW/\d0=0/\Goes Q true (RL ty Wg) DC0 (Qe Q ty Wg An) f0 a u
 |.anch,j,f0,d0,a,u,_=>j=nW/\d0=1/\Goes Q true (RL ty Wg) DC0 An f0 a u
 |.w1,j,f0,d0,a,u,_=>j=nW/\d0=1/\Goes Q true (RL ty Wg) DC0 (Oc Q ty Wg gE An) f0 a u
 |.w2 vs,j,f0,d0,a,u,_=>j=nW/\d0=1/\Goes Q true (RL ty Wg) DC0 (SQ Q ty Wg gE An vs) f0 a u
 |.w3,j,f0,d0,a,u,_=>j=nW/\d0=1/\((∃m,f0=m+102/\Goes Q true (RL ty Wg) DC0 (SL Q ty Wg gE) m a u)\/∃m,f0=m+1/\Goes Q true (RL ty Wg) DC0 (Ss Q ty Wg gE) m a u)
 |.blk,j,f0,d0,a,_,_=>j=nW/\d0=1/\f0=0/\∃g:Goroutine,a={g with status:=.blocked}/\g.offers=none/\∀w,WgLive ty Wg w->Ss Q ty Wg gE g w
 |.w4,j,f0,d0,a,u,_=>j=nW/\d0=1/\Goes Q true (RL ty Wg) DC0 (SN Q ty Wg gE) f0 a u
 |.ke,j,f0,d0,a,u,_=>j=nW/\d0=1/\Goes Q true (RL ty Wg) DC0 (QJ Q ty Wg gE) f0 a u
 |.acq,j,f0,d0,a,u,_=>j=nW/\d0=0/\Goes Q true (RL ty Wg) DC0 (LZ Q Wg gE) f0 a u
 |.ret,_,_,_,_,_,_=>False
end
def di (M:Nat->Prop)(l:Loc):Prop:=∃c,(l=.obj c\/∃a,l=.cell a/\a.block=c)/\M c
def Js (base V nW:Nat)(off:Nat->Nat)(vals:Nat->List Value)(M:Nat->Nat->Prop)(k:Nat)(l:Loc):Prop:=
 base<k/\k-base-1<nW/\(di (M (k-base-1)) l\/∃x,off (k-base-1)<=x/\x<off (k-base-1)+(vals (k-base-1)).length/\l=.cell ⟨V,x,none⟩)
def UI (base:Nat)(K:Nat->Prop)(k:Nat)(l:Loc):Prop:=base<k/\di K l
structure QS (W:Nat->Prop)(u u':World):Prop where
 tape:u'.tape=u.tape
 os:u'.os=u.os
 output:u'.output=u.output
 size:u.heap.size<=u'.heap.size
 keep:∀c,c<u.heap.size->¬W c->u'.heap[c]? =u.heap[c]?
def QS.rely {W K M}{u u'}(h:QS W u u')(b:∀c,K c->¬W c)(a:∀c,M c->¬W c):bF K M u u':=
 ⟨h.tape,h.os,h.output,h.size,λc hc hl=>h.keep c hl (hc.elim (a c) (b c))⟩
section
variable (Q:Program)(ty:TypeId)(S:Nat->Prop)(Wg V nV base nW:Nat)(K:Nat->Prop)(off:Nat->Nat)(vals:Nat->List Value)(zero:Nat->Value)(aL:World)
structure SV (j:Nat)(u:World)(M:Nat->Nat->Prop)(M₀:Nat->Prop):Prop where
 tape:u.tape=aL.tape
 os:u.os=aL.os
 output:u.output=aL.output
 size:aL.heap.size<=u.heap.size
 keep:∀c,c<aL.heap.size->c≠V->c≠Wg->u.heap[c]? =aL.heap[c]?
 v:V<aL.heap.size
 wg:Wg<aL.heap.size
 vw:V≠Wg
 qp:∀c,K c->c<aL.heap.size/\c≠V/\c≠Wg/\¬S c
 sh:∀c,S c->c<aL.heap.size/\c≠V/\c≠Wg
 low:∀i,i<j->∀c,M i c->c<u.heap.size/\aL.heap.size<=c
 mY:∀c,M₀ c->c<u.heap.size/\aL.heap.size<=c
 Sa:∀i i',i<j->i'<j->i≠i'->∀c,M i c->¬M i' c
 Dn:∀i,i<j->∀c,M i c->¬M₀ c
 emp:∀i,j<=i->∀c,¬M i c
def Row (j:Nat)(u:World)(lv:Nat->Bool):Prop:=
 ∃cs,u.heap[V]? =some (.cells cs Payload.ety)/\cs.size=nV/\(∀i,i<j->lv i=false->∀o,o< (vals i).length->cs[off i+o]? =(vals i)[o]?)/\
  ∀x,x<nV->(∀i,i<j->lv i=false->¬(off i<=x/\x<off i+(vals i).length))->cs[x]? =some (zero x)
structure PI (j:Nat)(gs:Array Goroutine)(u:World)(t:Trace)(D:Nat->WD)(lv:Nat->Bool)(M:Nat->Nat->Prop)(M₀:Nat->Prop)(q:Nat->Nat)(d0:Nat):Prop where
 size:gs.size=base+1+j
 ti:TI (Gw λc=>S c\/c=Wg) (Js base V nW off vals M) (UI base K) (stA Wg) base j u.heap.size t
 lie:SV S Wg V K aL j u M M₀
 row:Row V nV off vals zero j u lv
 old:∀i g,0<i->i<=base->gs[i]? =some g->QuitsD Q (q i) (Deaf t i) g
 deaf0:Deaf t 0=d0
 deafW:∀i,i<j->Deaf t (base+1+i)=(D i).deaf
 wk:∀i,i<j->∃g,gs[base+1+i]? =some g/\Wk Q ty Wg V nV K (off i) (vals i) (lv i) (D i) (M i) g u
 rel:∀i,i<j->(D i).stage<=6->∃r,RelBy (stA Wg) t (base+1+i) r
end
end
section
open Go Go.Conc Go.ConcN
open Go.ConcR (KK wgBlock WgAt stA smA rd wr mk Payload DC0 Bk g_of_ofEvents)
structure pg (nV nW:Nat)(off:Nat->Nat)(vals:Nat->List Value):Prop where
 qF:nW<=4
 len:∀i,i<nW->0< (vals i).length
 within:∀i,i<nW->off i+(vals i).length<=nV
 apart:∀i i' x,i<nW->i'<nW->off i<=x->x<off i+(vals i).length->off i'<=x->x<off i'+(vals i').length->i=i'
section
variable {S:Nat->Prop}{Wg V nV base nW:Nat}{K:Nat->Prop}{off:Nat->Nat}{vals:Nat->List Value}{aL u u':World}{j:Nat}{M:Nat->Nat->Prop}{M₀:Nat->Prop}{t:Trace}
def dB {M}{a}:di M (.cell a)↔M a.block:=by
 constructor
 .rintro⟨c,h|⟨b,h,rfl⟩,hm⟩
  .cases h
  .cases h;exact hm
 .exact λh=>⟨_,.inr ⟨a,rfl,rfl⟩,h⟩
def nJ {M}{c}:di M (.obj c)↔M c:=by
 constructor
 .rintro⟨d,h|⟨b,h,_⟩,hm⟩
  .cases h;exact hm
  .cases h
 .exact λh=>⟨c,.inl rfl,h⟩
def di.join {M N}{l}(h:di M l)(k:di N l):∃c,M c/\N c:=by
 obtain⟨c,rfl|⟨a,rfl,rfl⟩,hm⟩:=h
 .exact⟨c,hm,nJ.1 k⟩
 .exact⟨_,hm,dB.1 k⟩
def di.mono {M N}{l}(h:di M l)(hm:∀c,M c->N c):di N l:=let ⟨c,a,b⟩:=h;⟨c,a,hm c b⟩
def SV.apart (h:SV S Wg V K aL j u M M₀)(G:pg nV nW off vals):Apart (Gw λc=>S c\/c=Wg) (Js base V nW off vals M) (UI base K):=by
 have low:∀i c,M i c->aL.heap.size<=c:=λi c hc=>by
  rcases Nat.lt_or_ge i j with g|g
  .exact(h.low i g c hc).2
  .exact(h.emp i g c hc).elim
 have p:∀i x,¬di (M i) (.cell ⟨V,x,none⟩):=λi x hx=>by
  have:=low i V (dB.1 hx);have:=h.v;omega
 refine⟨λk k' l b f=>?_,λk k' l b f=>?_,λk l b f=>?_,λk l b f=>?_⟩
 .obtain⟨b1,n,b⟩:=b
  obtain⟨b2,s,f⟩:=f;rcases b with b|⟨x,x1,x2,rfl⟩<;>rcases f with f|⟨y,r,q,e⟩
  .obtain⟨c,m,c2⟩:=b.join f
   apply Classical.byContradiction;intro t;have g:k-base-1<j:=Nat.lt_of_not_le λg=>h.emp _ g c m
   have o:k'-base-1<j:=Nat.lt_of_not_le λg=>h.emp _ g c c2
   exact h.Sa _ _ g o (by omega) c m c2
  .subst e;exact absurd b (p _ _)
  .exact absurd f (p _ _)
  .cases e
   have:=G.apart _ _ x n s x1 x2 r q;omega
 .obtain⟨b1,n,b⟩:=b
  rcases b with b|⟨x,x1,x2,rfl⟩
  .obtain⟨c,m,c2⟩:=b.join f.2
   have:=low _ c m;have:=(h.qp c c2).1;omega
  .exact(h.qp V (dB.1 f.2)).2.1 rfl
 .obtain⟨b1,n,b⟩:=b
  obtain⟨a,rfl,d⟩:=f;rcases b with b|⟨x,x1,x2,e⟩
  .have w:=low _ _ (dB.1 b)
   rcases d with d|d
   .have:=(h.sh _ d).1;omega
   .have:=h.wg;omega
  .cases e
   rcases d with d|d
   .exact(h.sh _ d).2.1 rfl
   .exact h.vw d
 .obtain⟨a,rfl,d⟩:=f
  have:=h.qp _ (dB.1 b.2);rcases d with d|d
  .exact this.2.2.2 d
  .exact this.2.2.1 d
def GN (a)(wr):(MemAct.ofEvent ⟨.cell a,wr,false⟩).touch? =some ⟨.cell a,wr,.plain⟩:=rfl
def Kn (c)(wr):(MemAct.ofEvent ⟨.obj c,wr,false⟩).touch? =some ⟨.obj c,wr,.plain⟩:=by cases wr<;>rfl
def Ow.touch {M}{e}(h:Ow K M e){x}(hx:(MemAct.ofEvent e).touch? =some x):x.kind=.plain/\x.loc.isMemory=true/\(di M x.loc\/(di K x.loc/\x.write=false)):=by
 rcases h with⟨c,hc,hs,hm⟩|⟨m,hm,rfl⟩
 .obtain⟨loc,wr,d⟩:=e
  simp only at hc hs hm;subst hs;rcases hc with rfl|⟨a,rfl,rfl⟩
  .rw[Kn]at hx
   cases hx;exact⟨rfl,rfl,hm.imp nJ.2 fun⟨a,b⟩=>⟨nJ.2 a,b⟩⟩
  .rw[GN]at hx
   cases hx;exact⟨rfl,rfl,hm.imp dB.2 fun⟨a,b⟩=>⟨dB.2 a,b⟩⟩
 .cases m<;>first|exact hm.elim|cases hx
def Ow.low {M}{e}(h:Ow K M e){B}(f:∀c,K c->c<B)(d:∀c,M c->c<B):(MemAct.ofEvent e).low B:=by
 rcases h with⟨c,hc,hs,hm⟩|⟨m,hm,rfl⟩
 .have b:c<B:=hm.elim (d c) λh=>f c h.1
  obtain⟨loc,wr,g⟩:=e;simp only at hc hs;subst hs;rcases hc with rfl|⟨a,rfl,rfl⟩
  .cases wr<;>exact b
  .exact b
 .cases m<;>first|exact hm.elim|trivial
def Ow.marks {M}{e}(h:Ow K M e):e.loc≠.mark .disable/\e.loc≠.mark .enable/\∀a,e.loc≠.mark (.release a):=by
 rcases h with⟨c,hc,_⟩|⟨m,hm,rfl⟩
 .rcases hc with hc|⟨a,hc,_⟩<;>rw[hc]<;>simp
 .cases m<;>first|exact hm.elim|simp
def jI {a}{g}{fn}{pos}{es}(h:∀e∈es,e.loc≠.mark (.release a)):∀op∈MemOp.ofEvents g fn pos es,op.act≠.mark (.release a):=λop b e=>by
 obtain⟨x,hx,rfl⟩:=Go.Conc.mem_ofEvents b;exact h x hx (Go.ConcR.loc_of_ofEvent e)
end
section
variable [Payload]
variable {Q:Program}{ty:TypeId}{S:Nat->Prop}{Wg V nV base nW:Nat}{K:Nat->Prop}{off:Nat->Nat}{vals:Nat->List Value}{zero:Nat->Value}{aL u u':World}{j:Nat}{M:Nat->Nat->Prop}{M₀:Nat->Prop}{t:Trace}
 {gs:Array Goroutine}{D:Nat->WD}{lv:Nat->Bool}{q:Nat->Nat}{d0:Nat}
def Wk.running (a:WgLive ty Wg u){o}{vs}{l}{d}{N}{g}(h:Wk Q ty Wg V nV K o vs l d N g u):g.status=.running\/g.status=.finished:=by
 rcases h with⟨_,_,_,h⟩|⟨_,_,_,h⟩|⟨_,_,h⟩
 .refine .inl ?_
  rcases h.cases with h|h
  .exact(h u (bF.refl _ _ _)).1
  .exact h.1
 .exact .inl (Goes.running (λ_ _ x=>x.1) u a h)
 .exact h.status
def Wk.woken (b:WgLive ty Wg u){o:Nat}{vs:List Value}{l:Bool}{d:WD}{N:Nat->Prop}{g:Goroutine}(h:Wk Q ty Wg V nV K o vs l d N g u)(a a':Goroutine)(w':World):woken Q a a' w' g=g:=by
 unfold Go.Conc.woken;split
 .exact again_running _ (h.running b)
 .rfl
def Wk.WZ {o}{vs}{l}{d}{N W}{g}(h:Wk Q ty Wg V nV K o vs l d N g u)(he:QS W u u')(k:∀c,K c->¬W c)(j:∀c,N c->¬W c)
 (hl:WgLive ty Wg u')(hp:PayAt V nV u->PayAt V nV u')(hc:u'.cell? ⟨V,o,none⟩=u.cell? ⟨V,o,none⟩):Wk Q ty Wg V nV K o vs l d N g u':=by
 rcases h with⟨f,e,a,i⟩|⟨f,e,a,i⟩|⟨f,e,a⟩
 .exact .inl ⟨f,e,a,i.rely (he.rely k j)⟩
 .exact .inr (.inl ⟨f,e,a,Goes.rely (λ_ _ _ _ h=>h) i hl⟩)
 .exact .inr (.inr ⟨f,e,a.rely ⟨λb hb=>absurd hb (ZV _),λ_=>hl,hp,hc⟩⟩)
def qK {α}(f:Nat->α)(i):upd f i (f i)=f:=by
 funext a
 by_cases h:a=i
 .subst h;rw[upd_same]
 .rw[upd_ne f _ h]
def cO {g g'}{fn}{pos}{es}(h:g'≠g):Deaf (t++MemOp.ofEvents g' fn pos es) g=Deaf t g:=
 Deaf_other t h _ λop a=>by obtain⟨e,_,rfl⟩:=Go.Conc.mem_ofEvents a;rfl
def PI.worker (G:pg nV nW off vals)(h:PI Q ty S Wg V nV base nW K off vals zero aL j gs u t D lv M M₀ q d0){i}(P:i<j){g g'}{es}{fn}{pos}{W}(he:QS W u u')
 (ε:∀c,K c->¬W c)(γ:∀n,n<j->n≠i->∀c,M n c->¬W c)(β:∀c,c<aL.heap.size->c≠V->c≠Wg->¬W c){d'}{l'}{M'}
 (E:∀c,M' c->M i c\/(u.heap.size<=c/\c<u'.heap.size))(δ:∀c,M i c->M' c)(U:Wk Q ty Wg V nV K (off i) (vals i) l' d' M' g' u')
 (L:∀e∈es,∀x,(MemAct.ofEvent e).touch? =some x->(Gw (λc=>S c\/c=Wg) x.loc/\x.kind≠.plain/\x.kind≠.said)\/(x.kind=.plain/\x.loc.isMemory=true/\(Js base V nW off vals (upd M i M') (base+1+i) x.loc\/(di K x.loc/\x.write=false))))
 (Y:∀e∈es,e.loc≠.mark (.release (stA Wg)))(N:∀e∈es,(MemAct.ofEvent e).low u'.heap.size)(H:deafBehind (D i).deaf es=d'.deaf)
 (hrel:d'.stage<=6->∃r,RelBy (stA Wg) (t++MemOp.ofEvents (base+1+i) fn pos es) (base+1+i) r)(J:Row V nV off vals zero j u' (upd lv i l'))
 (Z:WgLive ty Wg u)(hl:WgLive ty Wg u')(hp:PayAt V nV u->PayAt V nV u')(hc:∀n,n<j->n≠i->u'.cell? ⟨V,off n,none⟩=u.cell? ⟨V,off n,none⟩):
 PI Q ty S Wg V nV base nW K off vals zero aL j ((gs.map (woken Q g g' u')).setIfInBounds (base+1+i) g') u' (t++MemOp.ofEvents (base+1+i) fn pos es) (upd D i d') (upd lv i l') (upd M i M') M₀ q d0:=by
 have X:=h.size;have d:=h.lie
 have F:SV S Wg V K aL j u' (upd M i M') M₀:=by
  refine⟨he.tape.trans d.tape,he.os.trans d.os,he.output.trans d.output,ZP d.size he.size,λc hc f w=>(he.keep c (ZO hc d.size) (β c hc f w)).trans (d.keep c hc f w),d.v,d.wg,d.vw,d.qp,d.sh,
   λn o c hc=>?_,λc hc=>⟨ZO (d.mY c hc).1 he.size,(d.mY c hc).2⟩,λa b T hb I c f w=>?_,λn o c hc h0=>?_,λn o c hc=>?_⟩
  .by_cases e:n=i
   .subst e
    rw[upd_same]at hc;rcases E c hc with f|⟨f,w⟩
    .exact⟨ZO (d.low n P c f).1 he.size,(d.low n P c f).2⟩
    .exact⟨w,ZP d.size f⟩
   .rw[upd_ne M _ e]at hc
    exact⟨ZO (d.low n o c hc).1 he.size,(d.low n o c hc).2⟩
  .have key:∀b,b<j->b≠i->M' c->M b c->False:=λb hb α f w=>by
        rcases E c f with h3|⟨h3,_⟩
        .exact d.Sa i b P hb (Ne.symm α) c h3 w
        .have:=(d.low b hb c w).1;omega
   by_cases e:a=i
   .subst e
    rw[upd_same]at f;rw[upd_ne M _ (Ne.symm I)]at w;exact key b hb (Ne.symm I) f w
   .rw[upd_ne M _ e]at f
    by_cases e2:b=i
    .subst e2
     rw[upd_same]at w;exact key a T e w f
    .rw[upd_ne M _ e2]at w
     exact d.Sa a b T hb I c f w
  .by_cases e:n=i
   .subst e
    rw[upd_same]at hc;rcases E c hc with f|⟨f,_⟩
    .exact d.Dn n P c f h0
    .have:=(d.mY c h0).1;omega
   .rw[upd_ne M _ e]at hc
    exact d.Dn n o c hc h0
  .rw[upd_ne M _ (by omega)]at hc
   exact d.emp n o c hc
 have A':=F.apart (base:=base) G;have R:∀op∈MemOp.ofEvents (base+1+i) fn pos es,op.g=base+1+i:=λop z=>by obtain⟨e,_,rfl⟩:=Go.Conc.mem_ofEvents z;rfl
 have ζ:CT (Gw λc=>S c\/c=Wg) (Js base V nW off vals (upd M i M')) (UI base K) t (base+j):=by
  refine CT.WV h.ti.ct (λk _ _ l hl=>?_) (λk _ _ l hl=>?_) λ_ _ _ _=>Iff.rfl
  .obtain⟨b1,b2,f|f⟩:=hl
   .by_cases e:k-base-1=i
    .rw[e,upd_same]at f
     obtain⟨c,hc,hm⟩:=f;rcases E c hm with w|⟨w,_⟩
     .exact .inl ⟨b1,b2,.inl (by rw[e];exact⟨c,hc,w⟩)⟩
     .refine .inr λp a T hl=>?_
      obtain⟨op,z,s⟩:=touch_of T;have C:=h.ti.tk.low op (mem_of_getElem? z)
      have:c<u.heap.size:=by
        cases B:op.act with
        |access ev=>
         rw[B]at s C;simp only[MemAct.touch?,ac2]at s;subst s;have O:ev.loc=l:=hl;have A:ev.loc.low u.heap.size:=C;rw[O]at A;rcases hc with rfl|⟨ad,rfl,rfl⟩
         .exact A
         .exact A
        |mark m=>
         rw[B]at s C;cases m<;>simp only[MemAct.touch?,ac2,reduceCtorEq]at s
         all_goals
             subst s;subst hl;rcases hc with hc|⟨ad,hc,rfl⟩
             .cases hc
             .cases hc;exact C
        |_=>rw[B]at s;cases s
      omega
    .rw[upd_ne M _ e]at f
     exact .inl ⟨b1,b2,.inl f⟩
   .exact .inl ⟨b1,b2,.inr f⟩
  .obtain⟨b1,b2,f|f⟩:=hl
   .refine⟨b1,b2,.inl ?_⟩
    by_cases e:k-base-1=i
    .rw[e,upd_same]
     rw[e]at f;exact f.mono δ
    .rw[upd_ne M _ e];exact f
   .exact⟨b1,b2,.inr f⟩
 refine⟨by simpa using X,?_,F,J,λk x k1 kb hx=>?_,?_,λn o=>?_,λn o=>?_,λn o hs=>?_⟩
 .refine TI.appW A' ⟨ζ,h.ti.tk⟩ he.size (by omega) (by omega) (λop z=>⟨R op z,λx hx=>?_⟩) (λop z x hx hn=>?_) (jI Y) (iy N)
  .obtain⟨e,hm,rfl⟩:=Go.Conc.mem_ofEvents z
   rcases L e hm x hx with f|⟨_,_,f|⟨f,w⟩⟩
   .exact .inl f
   .exact .inr (.inl f)
   .exact .inr (.inr ⟨⟨by omega,f⟩,w⟩)
  .obtain⟨e,hm,rfl⟩:=Go.Conc.mem_ofEvents z
   rcases L e hm x hx with f|⟨f,w,_⟩
   .exact absurd f.1 hn
   .exact⟨by rw[f];simp,w⟩
 .rw[get_map_set _ _ _ _ (by omega)]at hx
  obtain⟨y,hy,rfl⟩:=adf.1 hx;have hq:=h.old k y k1 kb hy;rw[woken_quitsD hq,cO (by omega)];exact hq
 .rw[cO (by omega)];exact h.deaf0
 .by_cases e:n=i
  .subst e
   rw[upd_same,Deaf_own,h.deafW n P];exact H
  .rw[upd_ne D _ e,cO (by omega)]
   exact h.deafW n o
 .by_cases e:n=i
  .subst e
   rw[upd_same,upd_same,upd_same];exact⟨g',get_map_set_same _ _ _ (by omega),U⟩
  .obtain⟨x,hx,hw⟩:=h.wk n o
   rw[upd_ne D _ e,upd_ne lv _ e,upd_ne M _ e];refine⟨x,?_,hw.WZ he ε (γ n o e) hl hp (hc n o e)⟩;rw[get_map_set _ _ _ _ (by omega),hx];simp[hw.woken Z]
 .by_cases e:n=i
  .subst e
   rw[upd_same]at hs;exact hrel hs
  .rw[upd_ne D _ e]at hs
   obtain⟨r,hr⟩:=h.rel n o hs;exact⟨r,hr.appOther R (by omega)⟩
end
end
