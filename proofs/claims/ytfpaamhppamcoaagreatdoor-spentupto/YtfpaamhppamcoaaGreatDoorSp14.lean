/- Part 14 of the proof. -/
import Derived.Test.YtfpaamhppamcoaaGreatDoorSp13
import Derived.Lib.SliceRun
import Derived.Lib.SmallJoins
set_option linter.all false
set_option maxRecDepth 100000
set_option maxHeartbeats 60000000
namespace Go.Proofs.YtfpaamhppamcoaaGreatDoor
open Go.Proofs.Tryz
namespace Z
open Go.RowKit
attribute [local go_sem ↓] Go.wp_at_zero Go.wp_at_succ
attribute [local go_sem] After.cell After.frozen After.const
def ownI (D:BD)(r i:Nat)(x:Int):Prop:=among (D.oR i r) (D.oN i r) x
def ownd (D:BD)(r:Nat)(x:Int):Prop:=∃i,i<D.bn/\ownI D r i x
theorem bZ.own {w}{Z}{v}{D}{i q}(h:bZ w Z v (D.oN i q) (ownC D i q)):Ints w v (D.oN i q) (D.oR i q):=by
 obtain⟨ao,cap,e,f,g,d,_⟩:=h;exact⟨ao,cap,e,f,by omega,λa=>let ⟨b,o,q,c⟩:=d a;⟨b,o,q,c⟩⟩
theorem ownedG_any (A:Nat->Option Addr)(N C:Nat->Nat)(r:Nat)(b:r<4)(w):Calls (patch ae prog) 130 #[.agg #[.slice (A 0) (N 0) (C 0),.slice (A 1) (N 1) (C 1),.slice (A 2) (N 2) (C 2),.slice (A 3) (N 3) (C 3)],.int .i64 r] w λe w'=>e=.returned (.slice (A r) (N r) (C r))/\Below w.heap.size w w':=by
 have a:r=0\/r=1\/r=2\/r=3:=by omega
 rcases a with rfl|rfl|rfl|rfl
 all_goals
  go_enter (pf func130 (by rfl)),ntmps130
  go_wp2_with fail;go_ret;exact⟨rfl,(aab _ _).alloc (ZL _) _⟩
abbrev SO (w:World)(pr a:Nat)(r x:Value)(cs:Array Value)(w':World):Prop:=w'.cell? ⟨pr,0,none⟩=some r/\w'.cell? ⟨a,0,none⟩=some x/\(∀j,w'.cell? ⟨w.heap.size,j,none⟩=cs[j]?)/\Below w.heap.size w w'/\w.heap.size<w'.heap.size
theorem SO_start {w}{pr a}{r x}{cs}{t}(c:w.cell? ⟨pr,0,none⟩=some r)(b:w.cell? ⟨a,0,none⟩=some x):SO w pr a r x cs (w.alloc (.cells cs t)).drew:=by
 have hb:Below w.heap.size w (w.alloc (.cells cs t)).drew:=((aab _ _).alloc (ZL _) _).drew;refine⟨keeps hb c,keeps hb b,λj=>?_,hb,by show w.heap.size< (w.alloc _).heap.size;simp⟩;exact(blk (aae w (.cells cs t))).1 j
theorem SO_call {w w1 w2}{pr a}{r x}{cs}(h:SO w pr a r x cs w1)(hb:Below w1.heap.size w1 w2):SO w pr a r x cs w2:=
 ⟨keeps hb h.1,keeps hb h.2.1,λj=>(hb.cell (p:=⟨w.heap.size,j,none⟩) h.2.2.2.2).trans (h.2.2.1 j),h.2.2.2.1.trans (hb.mono (Nat.le_of_lt h.2.2.2.2)),ZO h.2.2.2.2 hb.size⟩
theorem SO_ints {w w1}{pr a}{r x}{cs}(h:SO w pr a r x cs w1){v}{n}{R}(b:Ints w v n R):Ints w1 v n R:=b.ext h.2.2.2.1
theorem isOwned1_any (nm)(A:Nat->Option Addr)(N C:Nat->Nat)(R:Nat->Nat->Int)(r:Nat)(x)(pr b)(w)(i:r<4)(l:w.cell? ⟨pr,0,none⟩=some (.int .i64 r))(k:w.cell? ⟨b,0,none⟩=some (.int .i64 x))(h:Ints w (.slice (A r) (N r) (C r)) (N r) (R r)):
 Calls (patch ae prog) 128 #[.agg #[.string nm,.slice (A 0) (N 0) (C 0),.slice (A 1) (N 1) (C 1),.slice (A 2) (N 2) (C 2),.slice (A 3) (N 3) (C 3)],.pointer (some ⟨pr,0,none⟩),.pointer (some ⟨b,0,none⟩)] w λe w'=>Ans (among (R r) (N r) x) e/\Below w.heap.size w w':=by
 have m:=av h;clear h
 go_enter (pf func128 (by rfl)),ntmps128
 go_wp2_with fail
 go_region_held3(SO w pr b (.int .i64 r) (.int .i64 x) #[.string nm,.slice (A 0) (N 0) (C 0),.slice (A 1) (N 1) (C 1),.slice (A 2) (N 2) (C 2),.slice (A 3) (N 3) (C 3)]) (with_reducible (first|exact SO_start l k|exact SO_call (by assumption) (by assumption)))
  (first
   |(go_at_call 130;refine(ownedG_any A N C r i _).mono ?_;rintro e w2 ⟨rfl,c⟩)
   |(go_at_call 129;refine(fT _ _ (R r) x _ (SO_ints (by assumption) m.out)).mono ?_;rintro e w2 ⟨⟨d,rfl,a⟩,rfl⟩;have c:=aab w2.heap.size w2))
 all_goals
  rename_i n K g f j;simp only[Exit.then];refine g _ _ ?_;clear g;go_wp2_with fail;go_ret;exact⟨⟨d,rfl,a⟩,j.2.2.2.1⟩
theorem indexOwn_any (D)(Z)(v f)(r:Nat)(x)(pr p)(w)(C:r<4)(h:bZ w Z v D.bn (boxC D Z))(H:w.cell? ⟨pr,0,none⟩=some (.int .i64 r))(G:w.cell? ⟨p,0,none⟩=some (.int .i64 x))(hf:f=.func (.func 128) #[] #[.pointer (some ⟨pr,0,none⟩),.pointer (some ⟨p,0,none⟩)]):
 Calls (patch ae prog) 157 #[v,f] w λe w'=>(∃q:Int,e=.returned (.int .i64 q)/\(0<=q↔ownd D r x))/\Below w.heap.size w w':=by
 obtain⟨ao,cap,rfl,hc,hm,F,_⟩:=h;subst hf;have B:Hid ((0<D.bn->∃b o,ao=some ⟨b,o,none⟩/\boxC D Z b o w)/\w.cell? ⟨pr,0,none⟩=some (.int .i64 r)/\w.cell? ⟨p,0,none⟩=some (.int .i64 x)):=⟨F,H,G⟩;clear F H G
 go_enter (pf func157 (by rfl)),ntmps157
 go_wp2_with fail
 go_loopw [8] (λi wr=>∃k:Nat,k<=D.bn/\i=.int .i64 k/\Below w.heap.size w wr/\∀i,i<k->¬ownI D r i x) (λi _=>D.bn-(intOf i).toNat)
 case atStart=>exact⟨0,by omega,rfl,aab _ _,λi E=>absurd E (ZV _)⟩
 case round=>
  obtain⟨i,E,rfl,hb,d⟩:=hrel;have c:=av (aaa hb d)
  by_cases l:i<D.bn
  .have U:(i:Int)<D.bn:=by omega
   obtain⟨b,o,rfl,m⟩:=B.out.1 (by omega);obtain⟨⟨nm,c0⟩,g⟩:=m i l;obtain⟨v0,I,M⟩:=g 0 (by omega);obtain⟨v1,c2,L⟩:=g 1 (by omega);obtain⟨v2,c3,K⟩:=g 2 (by omega);obtain⟨v3,c4,J⟩:=g 3 (by omega);obtain⟨a0,u,rfl,m0⟩:=M;obtain⟨y,k1,rfl,m1⟩:=L;obtain⟨a2,t,rfl,m2⟩:=K;obtain⟨a3,s,rfl,m3⟩:=J
   have T:Hid (∀q,q<4->Ints w (.slice (match q with|0=>a0|1=>y|2=>a2|_=>a3) (D.oN i q) (match q with|0=>u|1=>k1|2=>t|_=>s)) (D.oN i q) (D.oR i q)):=λq N=>by
        rcases(show q=0\/q=1\/q=2\/q=3 by omega)with rfl|rfl|rfl|rfl
        .exact bZ.own (v:=.slice a0 _ u) ⟨a0,u,rfl,m0⟩
        .exact bZ.own (v:=.slice y _ k1) ⟨y,k1,rfl,m1⟩
        .exact bZ.own (v:=.slice a2 _ t) ⟨a2,t,rfl,m2⟩
        .exact bZ.own (v:=.slice a3 _ s) ⟨a3,s,rfl,m3⟩
   have S:=keeps hb c0;have R:=keeps hb I;have Q:=keeps hb c2;have P:=keeps hb c3;have O:=keeps hb c4;rw[Nat.mul_comm 5 i]at S R Q P O;clear m g c0 I c2 c3 c4 m0 m1 m2 m3 hb d;go_wp2_with(go_at_call 128;refine(isOwned1_any nm (λq=>match q with|0=>a0|1=>y|2=>a2|_=>a3) (D.oN i) (λq=>match q with|0=>u|1=>k1|2=>t|_=>s) (D.oR i) r x pr p wr C (keeps c.out.1 B.out.2.1) (keeps c.out.1 B.out.2.2) ((T.out r C).ext c.out.1)).mono ?_;rintro e w1 ⟨⟨A,rfl,a⟩,n⟩;have H1:=av (aaa (c.out.1.trans (n.mono c.out.1.size)) a);clear n a;cases A)
   .go_roundw
    case rel=>exact⟨i+1,by omega,by go_num,H1.out.1,λj z=>by
     rcases Nat.lt_succ_iff_lt_or_eq.1 z with h|rfl
     .exact c.out.2 j h
     .exact λhp=>Bool.noConfusion (H1.out.2.2 hp)⟩
    case measure=>simp[intOf];omega
   .go_ret
    exact⟨⟨_,rfl,λ_=>⟨i,l,H1.out.2.1 (by trivial)⟩,λ_=>by omega⟩,H1.out.1⟩
  .have:i=D.bn:=by omega
   subst this;clear hb d;go_wp2_with fail;go_ret;exact⟨⟨_,rfl,λh=>absurd h (by decide),fun⟨j,z,hp⟩=>absurd hp (c.out.2 j z)⟩,c.out.1⟩
theorem containsOwn_any (D)(Z)(v f)(r:Nat)(x)(pr b)(w)(g:r<4)(h:bZ w Z v D.bn (boxC D Z))(d:w.cell? ⟨pr,0,none⟩=some (.int .i64 r))(c:w.cell? ⟨b,0,none⟩=some (.int .i64 x))(hf:f=.func (.func 128) #[] #[.pointer (some ⟨pr,0,none⟩),.pointer (some ⟨b,0,none⟩)]):
 Calls (patch ae prog) 127 #[v,f] w λe w'=>Ans (ownd D r x) e/\Below w.heap.size w w':=by
 have a:=av (aaa h (aaa d (aaa c hf)));clear h d c hf
 go_enter (pf func127 (by rfl)),ntmps127
 go_wp2_with(go_at_call 157;refine(indexOwn_any D Z v f r x pr b _ g a.out.1 a.out.2.1 a.out.2.2.1 a.out.2.2.2).mono ?_;rintro e w1 ⟨⟨q,rfl,i⟩,hb⟩);go_ret;exact⟨⟨_,rfl,by simpa using i⟩,hb⟩
theorem isOwned_any (D)(Z)(bb r:Nat)(x)(w)(k:r<4)(hb:bM w Z bb D):Calls (patch ae prog) 78 #[.pointer (some ⟨bb,0,none⟩),.int .i64 r,.int .i64 x] w λe w'=>Ans (ownd D r x) e/\Below w.heap.size w w':=by
 obtain⟨v,h,j⟩:=hb.boxes;have l:bb<w.heap.size:=aan h
 have m:Hid (∀W,Below w.heap.size w W->bZ W Z v D.bn (boxC D Z)):=λW hW=>by
  obtain⟨v',g1,g2⟩:=(bM.below hb hW).boxes;rw[keeps hW h]at g1;cases g1;exact g2
 obtain⟨ao,cap,rfl,_⟩:=j;clear hb
 go_enter (pf func78 (by rfl)),ntmps78
 go_wp2_with fail;obtain⟨W,hW⟩:∃W,W=(w.alloc (.cells #[.int .i64 r] 3)).alloc (.cells #[.int .i64 x] 3):=⟨_,rfl⟩;have hA:Below w.heap.size w W:=by rw[hW];exact((aab _ _).alloc (ZL _) _).alloc (by simp) _
 have c:W.heap[w.heap.size]? =some (.cells #[.int .i64 r] 3 (0,0)):=by rw[hW];exact aap _ _ _
 have b:W.heap[w.heap.size+1]? =some (.cells #[.int .i64 x] 3 (0,0)):=by rw[hW];exact aam _ _ _
 have f:=av (aaa hA (aaa ((blk c).1 0) ((blk b).1 0)));rw[<-hW];clear hW hA c b;refine(containsOwn_any D Z _ _ r x w.heap.size (w.heap.size+1) W k (m.out W f.out.1) f.out.2.1 f.out.2.2 rfl).mono ?_;rintro e w1 ⟨⟨g,rfl,a⟩,d⟩;have i:=av (aaa (ai f.out.1 d) a);clear d a;go_wp2_with fail;go_ret;exact⟨⟨g,rfl,i.out.2⟩,i.out.1⟩
theorem freeFn_any (D)(Z)(bb c pr r:Nat)(x)(w)(d:r<4)(hb:bM w Z bb D)(hp:w.cell? ⟨c,0,none⟩=some (.pointer (some ⟨bb,0,none⟩)))(g:w.cell? ⟨pr,0,none⟩=some (.int .i64 r)):
 Calls (patch ae prog) 77 #[.int .i64 x,.pointer (some ⟨c,0,none⟩),.pointer (some ⟨pr,0,none⟩)] w λe w'=>Ans (ownd D r x) e/\Below w.heap.size w w':=by
 have f:=av hb;clear hb
 go_enter (pf func77 (by rfl)),ntmps77
 go_wp2_with(go_at_call 78;refine(isOwned_any D Z bb r x _ d f.out).mono ?_;rintro e w1 ⟨⟨b,rfl,a⟩,hb⟩);go_ret;exact⟨⟨b,rfl,a⟩,hb⟩
abbrev fnV (a pr:Nat):Value:=.func (.func 77) #[] #[.pointer (some ⟨a,0,none⟩),.pointer (some ⟨pr,0,none⟩)]
def Tells (w:World)(B b pr:Nat)(p:Int->Prop):Prop:=∀x a,Below B w a->B<=a.heap.size->Calls (patch ae prog) 77 #[.int .i64 x,.pointer (some ⟨b,0,none⟩),.pointer (some ⟨pr,0,none⟩)] a λe w'=>Ans (p x) e/\Below a.heap.size a w'
def FirstI (p:Int->Prop)(n:Nat)(R:Nat->Int)(e:Ending):Prop:=∃q:Int,e=.returned (.int .i64 q)/\((q= -1/\∀i,i<n->¬p (R i))\/∃k:Nat,q=k/\k<n/\p (R k)/\∀i,i<k->¬p (R i))
theorem indexFuncP_any (p)(B t pr)(v f)(n)(R)(w)(x:B<=w.heap.size)(h:Ints w v n R)(hf:f=fnV t pr)(a:Tells w B t pr p):
 Calls (patch ae prog) 126 #[v,f] w λe w'=>FirstI p n R e/\Below w.heap.size w w':=by
 obtain⟨ao,cap,rfl,hc,hm,u⟩:=h;subst hf;have y:=av a;have z:Hid (0<n->∃b o,ao=some ⟨b,o,none⟩/\gM w b o n R):=u;clear a u
 go_enter (pf func126 (by rfl)),ntmps126
 go_wp2_with fail
 go_loopw [8] (λi wr=>∃k:Nat,k<=n/\i=.int .i64 k/\Below w.heap.size w wr/\∀i,i<k->¬p (R i)) (λi _=>n-(intOf i).toNat)
 case atStart=>exact⟨0,by omega,rfl,aab _ _,λi l=>absurd l (ZV _)⟩
 case round=>
  obtain⟨k,C,rfl,hb,j⟩:=hrel;have g:=av (aaa hb j)
  by_cases m:k<n
  .obtain⟨b,o,rfl,l⟩:=z.out (by omega)
   have u0:=(l.ext g.out.1) k m;have A:(k:Int)<n:=(by omega);have r:B<=wr.heap.size:=ZP x hb.size;clear l hb j;go_wp2_with(go_at_call 77;refine(y.out (R k) wr (g.out.1.mono x) r).mono ?_;rintro e w1 ⟨⟨s,rfl,d⟩,q⟩;have c:=av (aaa q d);clear q d;cases s)
   .go_roundw
    case rel=>exact⟨k+1,by omega,by go_num,ai g.out.1 c.out.1,λi l=>by
     rcases Nat.lt_succ_iff_lt_or_eq.1 l with h|rfl
     .exact g.out.2 i h
     .exact λhp=>Bool.noConfusion (c.out.2.2 hp)⟩
    case measure=>simp[intOf];omega
   .go_ret
    exact⟨⟨_,rfl,.inr ⟨k,rfl,m,c.out.2.1 (by trivial),g.out.2⟩⟩,ai g.out.1 c.out.1⟩
  .have:k=n:=by omega
   subst this;clear hb j;go_wp2_with fail;go_ret;exact⟨⟨_,rfl,.inl ⟨rfl,g.out.2⟩⟩,g.out.1⟩
theorem JH {w:World}{base ty b}{v}{n}{xs}(h:w.ownsRow base ty b v n xs){g j}(c:v.ownBlock=some g)(u):(w.setCell ⟨g,j,none⟩ u).ownsRow base ty b v n (xs.set j u):=by
 refine⟨by rw[List.length_set];exact h.1,?_⟩;rcases h.2 with⟨rfl,_⟩|⟨g',cap,cur,rfl,f,a,e,hc,hs,d⟩
 .cases c
 .cases c
  refine .inr ⟨g',cap,cur.setIfInBounds j u,rfl,f,aD (i:=j) u a,e,hc,by simpa using hs,?_⟩;rw[Array.toList_setIfInBounds,List.take_set,d]
theorem own_sets {base ty}{v}{n g}(a:v.ownBlock=some g):∀(us:List Value) (j:Nat) (w:World) (xs:List Value),w.ownsRow base ty 1 v n xs->∃ys,(w.setCells g j us).ownsRow base ty 1 v n ys/\∀t,t<j->ys[t]? =xs[t]?
 |[],j,w,xs,h=>⟨xs,h,λ_ _=>rfl⟩
 |u::us,j,w,xs,h=>by
  obtain⟨ys,c,b⟩:=own_sets a us (j+1) _ _ (JH h a (j:=j) u);exact⟨ys,c,λt d=>by rw[b t (by omega),List.getElem?_set_ne (by omega)]⟩
theorem below_sets {B g}(b:B<=g):∀(us:List Value) (j:Nat) (a w:World),Below B a w->Below B a (w.setCells g j us)
 |[],_,_,_,h=>h
 |u::us,j,_,_,h=>below_sets b us (j+1) _ _ (h.setCell b u)
theorem own_cut {w:World}{base ty g n cap}{xs}(h:w.ownsRow base ty 1 (.slice (some ⟨g,0,none⟩) n cap) n xs){i}(j:i<=n):w.ownsRow base ty 1 (.slice (some ⟨g,0,none⟩) i cap) i (xs.take i):=by
 refine⟨by rw[List.length_take,h.1];omega,?_⟩;rcases h.2 with⟨e,_⟩|⟨g',b,cur,e,d,a,f,hc,hs,c⟩
 .cases e
 .cases e
  refine .inr ⟨g,cap,cur,rfl,d,a,by omega,hc,hs,?_⟩;rw[<-c,List.take_take]
  congr 1
  omega
theorem own_at {w:World}{base ty g n cap}{xs}(h:w.ownsRow base ty 1 (.slice (some ⟨g,0,none⟩) n cap) n xs){t}{u}(hu:xs[t]? =some u):w.cell? ⟨g,t,none⟩=some u/\w.frozen? ⟨g,t,none⟩=false:=by
 rcases h.2 with⟨e,_⟩|⟨g',b,cur,e,j,a,i,hc,hs,f⟩
 .cases e
 .cases e
  obtain⟨d,c⟩:=blk a;refine⟨?_,c t⟩;rw[d];have hl:t<n:=by have:=(ZZ.1 hu).1;rw[h.1]at this;omega
  rw[<-f,Z5,if_pos (by omega)]at hu;simpa using hu
def kept (p:Int->Prop)[DecidablePred p](l:List Nat):List Nat:=l.filter λi=>decide (¬p (i:Int))
theorem kept_all {p}[DecidablePred p]{l:List Nat}(h:∀i∈l,¬p (i:Int)):kept p l=l:=by
 unfold kept;exact List.filter_eq_self.2 λi a=>by simpa using h i a
theorem kept_hit {p}[DecidablePred p]{l:List Nat}{j x:Nat}(h:l[j]? =some x)(hp:p (x:Int)):kept p (l.take (j+1))=kept p (l.take j):=by
 unfold kept;rw[List.take_add_one,h,aaj];simp[hp]
theorem kept_miss {p}[DecidablePred p]{l:List Nat}{j x:Nat}(h:l[j]? =some x)(hp:¬p (x:Int)):kept p (l.take (j+1))=kept p (l.take j)++[x]:=by
 unfold kept;rw[List.take_add_one,h,aaj];simp[hp]
theorem kept_le (p)[DecidablePred p](l:List Nat)(j):(kept p (l.take j)).length<=j:=by
 unfold kept;exact ZP (aai _ _) (by simp;omega)
structure gz (w:World)(base g cap:Nat)(p:Int->Prop)[DecidablePred p](l:List Nat)(j:Nat)(xs:List Value):Prop where
 row:w.ownsRow base 3 1 (.slice (some ⟨g,0,none⟩) l.length cap) l.length xs
 done:∀t,t< (kept p (l.take j)).length->xs[t]? =(aT (kept p (l.take j)))[t]?
 rest:∀t,j<=t->xs[t]? =(aT l)[t]?
theorem intV_get {l}{t x:Nat}(h:l[t]? =some x):(aT l)[t]? =some (.int .i64 (x:Int)):=by simp[aT,h]
theorem gz.call {w w'}{base g cap}{p}[DecidablePred p]{l}{j}{xs}(h:gz w base g cap p l j xs)(hb:Below w.heap.size w w'):gz w' base g cap p l j xs:=⟨au h.row hb,h.done,h.rest⟩
theorem gz.hit {w}{base g cap}{p}[DecidablePred p]{l}{j x}{xs}(h:gz w base g cap p l j xs)(hx:l[j]? =some x)(hp:p (x:Int)):gz w base g cap p l (j+1) xs:=
 ⟨h.row,λt a=>by rw[kept_hit hx hp]at a⊢;exact h.done t a,λt a=>h.rest t (by omega)⟩
theorem gz.miss {w}{base g cap}{p}[DecidablePred p]{l}{j x}{xs}(h:gz w base g cap p l j xs)(hx:l[j]? =some x)(hp:¬p (x:Int)):
 gz (w.setCell ⟨g,(kept p (l.take j)).length,none⟩ (.int .i64 (x:Int))) base g cap p l (j+1) (xs.set (kept p (l.take j)).length (.int .i64 (x:Int))):=by
 have hle:=kept_le p l j;have d:j<l.length:=(ZZ.1 hx).1;have c:xs.length=l.length:=by have:=h.row.1;omega
 refine⟨JH h.row rfl _,λt a=>?_,λt a=>?_⟩
 .rw[kept_miss hx hp]at a⊢
  rw[Z7]at a;simp only[List.length_cons,List.length_nil]at a
  by_cases he:t=(kept p (l.take j)).length
  .subst he
   rw[List.getElem?_set_self (by omega)];exact(intV_get (by simp)).symm
  .rw[List.getElem?_set_ne (Ne.symm he),h.done t (by omega)]
   have b:t< (kept p (l.take j)).length:=(by omega);unfold aT;rw[List.map_append,List.getElem?_append_left (by simpa using b)]
 .rw[List.getElem?_set_ne (by omega)]
  exact h.rest t (by omega)
theorem gz.cut {w}{base g cap}{p}[DecidablePred p]{l}{xs ys}(h:gz w base g cap p l l.length xs){W:World}(hW:W.ownsRow base 3 1 (.slice (some ⟨g,0,none⟩) l.length cap) l.length ys)(hy:∀t,t< (kept p l).length->ys[t]? =xs[t]?):
 W.ownsRow base 3 1 (.slice (some ⟨g,0,none⟩) (kept p l).length cap) (kept p l).length (aT (kept p l)):=by
 have e:l.take l.length=l:=List.take_length;have hle:=kept_le p l l.length;rw[e]at hle;have:=own_cut hW hle;have b:ys.length=l.length:=by have:=hW.1;omega
 have c:ys.take (kept p l).length=aT (kept p l):=by
  refine List.ext_getElem? λt=>?_
  rw[Z5]
  by_cases a:t< (kept p l).length
  .rw[if_pos a,hy t a,h.done t (by rw[e];exact a),e]
  .rw[if_neg a,List.getElem?_eq_none (by simp[aT];omega)]
 rw[c]at this;exact this
theorem deleteFuncP_any (p)[DecidablePred p](base B M pr)(v f)(l)(w)(b:w.ownsRow base 3 1 v l.length (aT l))(hl:l.length<=1000)(W:B<=base)(m:B<=w.heap.size)(hf:f=fnV M pr)(c:Tells w B M pr p):
 Calls (patch ae prog) 76 #[v,f] w λe w'=>∃v',e=.returned v'/\w'.ownsRow base 3 1 v' (kept p l).length (aT (kept p l))/\Below B w w':=by
 have HI:=av (dh b);have Z:=av c;obtain⟨ao,cap,rfl⟩:=aj b;have K:=av b;subst hf;clear b c
 have δ:Hid (∀w1,Below w.heap.size w w1->gz w1 base (match ao with|some a=>a.block|none=>0) cap p l 0 (aT l)\/ao=none):=λw1 hb=>by
  cases ao with
  |none=>exact .inr rfl
  |some a=>
   have e:a=⟨a.block,0,none⟩:=by
        rcases K.out.2 with⟨e,_⟩|⟨g',r,cur,e,_⟩
        .cases e
        .cases e;rfl
   refine .inl ⟨?_,λt C=>by simp[kept]at C,λt _=>rfl⟩;have:=au K.out hb;rw[e]at this;exact this
 go_enter (pf func76 (by rfl)),ntmps76
 go_wp2_with(go_at_call 126;refine(indexFuncP_any p B M pr _ _ _ _ w m HI.out rfl Z.out).mono ?_;rintro e w1 ⟨⟨q,rfl,hq⟩,hb⟩;have n:=av hb;clear hb;rcases hq with⟨rfl,d⟩|⟨k,rfl,V,hp,d⟩)
 .go_ret
  have e:kept p l=l:=kept_all λi Q=>by
   obtain⟨j,I,rfl⟩:=List.mem_iff_getElem.1 Q;have:=d j I;rw[ZT I]at this;exact this
  rw[e];exact⟨_,rfl,au K.out n.out,n.out.mono m⟩
 obtain⟨g,S,J⟩:∃g,ao=some ⟨g,0,none⟩/\base<=g:=by
  rcases K.out.2 with⟨e,X⟩|⟨g',r,cur,e,hh,_⟩
  .omega
  .cases e;exact⟨g',rfl,hh⟩
 subst S
 have y:Hid (gz w1 base g cap p l (k+1) (aT l)/\(kept p (l.take (k+1))).length=k):=by
  have hx:l[k]? =some l[k]:=ZT V
  have Y:kept p (l.take k)=l.take k:=kept_all λi Q=>by
   obtain⟨j,I,rfl⟩:=List.mem_iff_getElem.1 Q;have P:j<k:=(by simp at I;omega);have:=d j P;rw[ZT (by omega)]at this;simpa using this
  have G:p (l[k]:Int):=by rw[hx]at hp;exact hp
  have X:gz w1 base g cap p l k (aT l):=⟨au K.out n.out,λt C=>by
   rw[Y]at C⊢;have:t<k:=(by simp at C;omega);unfold aT;rw[List.map_take,Z5,if_pos this],λ_ _=>rfl⟩
  exact⟨X.hit hx G,by rw[kept_hit hx G,Y];simp;omega⟩
 clear hp d;have N:∀w:World,(zeroValue 3).run (patch ae prog) w=.ok (.int .i64 0) w:=λw=>by simp[go_sem]
 have T:(((k:Nat):Int)== -1)=false:=beq_eq_false_iff_ne.2 (by omega);rw[T]
 go_loopw [5,6,7] (λi j _ wr=>∃(A:Nat) (xs:List Value),A<=l.length/\j=.int .i64 A/\i=.int .i64 (((kept p (l.take A)).length:Nat):Int)/\Below B w wr/\gz wr base g cap p l A xs/\(kept p (l.take A)).length<A) (λ_ j _ _=>l.length-(intOf j).toNat)
 case atStart=>exact⟨k+1,aT l,V,by go_num,by rw[y.out.2],n.out.mono m,y.out.1,by rw[y.out.2];omega⟩
 case round=>
  obtain⟨j,xs,I,rfl,rfl,hb,hs,H⟩:=hrel;have hle:=kept_le p l j;have β:xs.length=l.length:=by have:=hs.row.1;omega
  have E:=av (aaa hb (aaa hs H));have F:B<=wr.heap.size:=ZP m hb.size
  by_cases O:j<l.length
  .obtain⟨x,hx⟩:∃x,l[j]? =some x:=⟨_,ZT O⟩
   obtain⟨q1,_⟩:=own_at hs.row (t:=j) (by rw[hs.rest j (ZL _)];exact intV_get hx);obtain⟨u,hu⟩:∃u,xs[(kept p (l.take j)).length]? =some u:=⟨_,ZT (by omega)⟩;have HU:=av hu;have D:=av hx;have jn:(j:Int)< (l.length:Int):=(by omega);have kn:(((kept p (l.take j)).length:Nat):Int)< (l.length:Int):=(by omega);clear hb hs hu hx;generalize h:(kept p (l.take j)).length=i at*;have L:=av h;clear h;go_wp2_with(go_at_call 77;refine(Z.out (x:Int) wr E.out.1 F).mono ?_;rintro e w2 ⟨⟨U,rfl,o⟩,s⟩;have z:=av (aaa (gz.call E.out.2.1 s) (aaa (E.out.1.trans (s.mono F)) o));obtain⟨q2,α⟩:=own_at z.out.1.row HU.out;clear o s;cases U)
   .go_roundw
    case rel=>
     have hp:¬p (x:Int):=λhp=>Bool.noConfusion (z.out.2.2.2 hp)
     refine⟨j+1,xs.set i (.int .i64 (x:Int)),by omega,by go_num,?_,z.out.2.1.setCell (ZP W J) _,?_,?_⟩
     .rw[kept_miss D.out hp,Z7,L.out];go_num
     .have:=z.out.1.miss D.out hp
      rw[L.out]at this;exact this
     .rw[kept_miss D.out hp,Z7,L.out];simp;omega
    case measure=>simp[intOf];omega
   .go_roundw
    case rel=>
     have hp:p (x:Int):=z.out.2.2.1 (by trivial);refine⟨j+1,xs,by omega,by go_num,by rw[kept_hit D.out hp,L.out],z.out.2.1,z.out.1.hit D.out hp,by rw[kept_hit D.out hp,L.out];omega⟩
    case measure=>simp[intOf];omega
  .have:j=l.length:=by omega
   subst this;have h:kept p (l.take l.length)=kept p l:=(by rw[List.take_length]);rw[h]at H hle⊢
   have γ:∀ty,(Builtin.clear_ #[23] ty #[.slice (some ⟨g,(kept p l).length,none⟩) (l.length-(kept p l).length) (cap-(kept p l).length)]).run (patch ae prog) wr=.ok (.tuple #[]) (wr.setCells g (kept p l).length (List.replicate (l.length-(kept p l).length) (.int .i64 0))):=
        λty=>Lib.run_clear_slice wr _ _ ty _ ((ax ae prog 23).trans underlying23) N rfl rfl g (kept p l).length _ _ (by omega) (λt C=>by
         rw[(own_at hs.row (t:=(kept p l).length+t) (ZT (by omega))).1];rfl) (λt C=>(own_at hs.row (t:=(kept p l).length+t) (ZT (by omega))).2)
   have R:l.length<=cap:=by
        rcases hs.row.2 with⟨e,_⟩|⟨g',r,cur,e,_,_,hc,_⟩
        .cases e
        .cases e;exact hc
   have kn:(((kept p l).length:Nat):Int)<=(l.length:Int):=(by omega);clear hb hs;go_wp2_with fail;go_ret;refine⟨_,rfl,?_,?_⟩
   .obtain⟨ys,h1,h2⟩:=own_sets (g:=g) rfl (List.replicate (l.length-(kept p l).length) (.int .i64 0)) (kept p l).length wr xs E.out.2.1.row
    exact E.out.2.1.cut h1 h2
   .exact below_sets (ZP W J) _ _ _ _ E.out.1
def ownDec (D:BD)(r:Nat)(x:Int):Decidable (ownd D r x):=by unfold ownd ownI among;infer_instance
def gq (D:BD)(r:Nat):List Nat:= @kept (λx=>ownd D r x) (ownDec D r) (dL D r)
theorem lK (bb r)(D)(w)(n:r<4)(hb:aW w bb D)(g:D.ok)(hlen:(dL D r).length<=1000):
 Calls (patch ae prog) 48 #[.pointer (some ⟨bb,0,none⟩),.int .i64 r] w λe w'=>∃v,e=.returned v/\w'.ownsRow w.heap.size 3 1 v (gq D r).length (aT (gq D r))/\Below w.heap.size w w':=by
 have l:=av (aaa hb g);clear hb g
 go_enter (pf func48 (by rfl)),ntmps48
 go_wp2_with fail;obtain⟨W,hW⟩:∃W,W=(w.alloc (.cells #[.pointer (some ⟨bb,0,none⟩)] 31)).alloc (.cells #[.int .i64 r] 3):=⟨_,rfl⟩;have hA:Below w.heap.size w W:=by rw[hW];exact((aab _ _).alloc (ZL _) _).alloc (by simp) _
 have h:W.heap[w.heap.size]? =some (.cells #[.pointer (some ⟨bb,0,none⟩)] 31 (0,0)):=by rw[hW];exact aap _ _ _
 have d:W.heap[w.heap.size+1]? =some (.cells #[.int .i64 r] 3 (0,0)):=by rw[hW];exact aam _ _ _
 rw[<-hW];refine(usableB_any bb r D W n (aW.below l.out.1 hA) l.out.2).mono ?_;rintro e w1 ⟨v,rfl,c,a⟩;obtain⟨t,vc,rfl⟩:=aj c;have j:w.heap.size+1<W.heap.size:=(ZK.1 d).1
 have s:Hid (Tells w1 W.heap.size w.heap.size (w.heap.size+1) (λx=>ownd D r x)):=λx o f _=>by
  have k:Below w.heap.size w o:=(ai hA a).trans (f.mono (by omega));exact freeFn_any D _ bb w.heap.size (w.heap.size+1) r x o n (aW.below l.out.1 k) ((f.cell (p:=⟨w.heap.size,0,none⟩) (by show w.heap.size<_;omega)).trans ((a.cell (p:=⟨w.heap.size,0,none⟩) (by show w.heap.size<_;omega)).trans ((blk h).1 0))) ((f.cell (p:=⟨w.heap.size+1,0,none⟩) j).trans ((a.cell (p:=⟨w.heap.size+1,0,none⟩) j).trans ((blk d).1 0)))
 have m:=av (aaa c (aaa (ai hA a) (aaa a.size j)));clear hW hA h d c a;go_wp2_with(go_at_call 76;refine(@deleteFuncP_any (λx=>ownd D r x) (ownDec D r) W.heap.size W.heap.size w.heap.size (w.heap.size+1) _ _ (dL D r) w1 m.out.1 hlen (ZL _) m.out.2.2.1 rfl s.out).mono ?_;rintro e w2 ⟨v2,rfl,b,i⟩;have q:=av (aaa b i);clear b i);go_ret;exact⟨_,rfl,aB q.out.1 (by omega),m.out.2.1.trans (q.out.2.mono (by omega))⟩
def takeN (p:Nat->Bool)(k:Nat)(l:List Nat):List Nat:=(l.filter p).take k
theorem takeN_hit {p}{k}{l:List Nat}{j x}(h:l[j]? =some x)(hp:p x=true)(a:(takeN p k (l.take j)).length<k):takeN p k (l.take (j+1))=takeN p k (l.take j)++[x]:=by
 unfold takeN at a⊢;rw[List.length_take]at a;rw[List.take_add_one,h,aaj];simp only[Option.toList_some,List.filter_cons,hp,if_true,List.filter_nil];rw[List.take_append,aah (l:=[x]) (by simp;omega)]
theorem takeN_full {p}{k}{l:List Nat}{j}(a:¬(takeN p k (l.take j)).length<k):takeN p k (l.take (j+1))=takeN p k (l.take j):=by
 unfold takeN at a⊢;rw[List.length_take]at a;rw[List.take_add_one,aaj,List.take_append,show k-(List.filter p (l.take j)).length=0 by omega];simp
theorem takeN_miss {p}{k}{l:List Nat}{j x}(h:l[j]? =some x)(hp:p x=false):takeN p k (l.take (j+1))=takeN p k (l.take j):=by
 unfold takeN;rw[List.take_add_one,h,aaj];simp[hp]
theorem takeN_le (p)(k)(l:List Nat)(j):(takeN p k (l.take j)).length<=j:=by
 unfold takeN;refine ZP (List.length_take_le' _ _) (ZP (aai _ _) ?_);simp;omega
def NodeAt (w:World)(v:Value)(n a off:Nat)(N:Nat->Int):Prop:=∃ao cap,v=.slice ao n cap/\n<=cap/\n<=1000000/\(0<n->∃b o,ao=some ⟨b,o,none⟩/\∀i,i<n->w.cell? ⟨b,o+i*a+off,none⟩=some (.int .i64 (N i)))
def bE (m:Nat)(N:Nat->Int)(i:Nat):Bool:=has m (N i).toNat
def NZ:Value->Prop
 |.slice (some _) _ 0=>False
 |_=>True
theorem NZ.of_own {w:World}{base a n}{t}{v}{xs}(h:w.ownsRow base t a v n xs)(b:0<n):NZ v:=by
 rcases h.2 with⟨rfl,_⟩|⟨g,cap,cur,rfl,_,_,d,_⟩
 .trivial
 .cases cap with
  |zero=>omega
  |succ c=>trivial
theorem chDevices_any (n k m:Nat)(N)(v H)(l)(w)(hm:m<16)(W:k<=1000)(R:NodeAt w v n 2 0 N)(J:∀i,i<n->0<=N i/\N i<4)(hl:Ints w H l.length (λj=>((l[j]?.getD 0:Nat):Int)))(E:∀i∈l,i<n)(hlen:l.length<=1000):
 Calls (patch ae prog) 138 #[v,H,.int .u64 m,.int .i64 k] w λe w'=>∃v',e=.returned v'/\w'.ownsRow w.heap.size 3 1 v' (takeN (bE m N) k l).length (aT (takeN (bE m N) k l))/\Below w.heap.size w w'/\NZ v':=by
 obtain⟨ao,cap,rfl,h1,h2,L⟩:=R;obtain⟨al,M,rfl,Z,Y,K⟩:=hl;obtain⟨i0,T,D,C,B⟩:=info_parts Tryz.gQ;have hu:=((ax ae prog 23).trans underlying23);have H3:Hid (0<n->∃b o,ao=some ⟨b,o,none⟩/\∀i,i<n->w.cell? ⟨b,o+i*2+0,none⟩=some (.int .i64 (N i))):=L;have U:Hid (0<l.length->∃b o,al=some ⟨b,o,none⟩/\gM w b o l.length (λj=>((l[j]?.getD 0:Nat):Int))):=K;clear L K
 go_enter (pf func138 (by rfl)),ntmps138
 go_wp2_with fail
 go_loopw [9,14] (λv i wr=>∃j:Nat,j<=l.length/\i=.int .i64 j/\wr.ownsRow w.heap.size 3 1 v (takeN (bE m N) k (l.take j)).length (aT (takeN (bE m N) k (l.take j)))/\Below w.heap.size w wr/\NZ v) (λ_ i _=>l.length-(intOf i).toNat)
 case atStart=>exact⟨0,by omega,rfl,by simpa[takeN,aT] using aag _ _ _ _,aab _ _,trivial⟩
 case round=>
  obtain⟨j,X,rfl,a,hb,r⟩:=hrel;obtain⟨vo,vc,rfl⟩:=aj a;have c:Hid (wr.ownsRow w.heap.size 3 1 (.slice vo (takeN (bE m N) k (l.take j)).length vc) (takeN (bE m N) k (l.take j)).length (aT (takeN (bE m N) k (l.take j)))/\Below w.heap.size w wr/\NZ (.slice vo (takeN (bE m N) k (l.take j)).length vc)):=⟨a,hb,r⟩;have hle:=takeN_le (bE m N) k l j;have Q:w.heap.size<=wr.heap.size:=hb.size;clear a hb r
  by_cases t:j<l.length
  .obtain⟨x,hx⟩:∃x,l[j]? =some x:=⟨_,ZT t⟩
   have h:x<n:=E x (aak hx);obtain⟨b,o,rfl,hc⟩:=H3.out (by omega);obtain⟨bl,ol,rfl,y⟩:=U.out (by omega);have P:=(y.ext c.out.2.1) j t;simp only[hx,Option.getD_some]at P;have I:=keeps c.out.2.1 (hc x h);simp only[Nat.add_zero]at I;obtain⟨g,s,p⟩:∃g:Nat,g<4/\N x=(g:Int):=⟨(N x).toNat,by have:=J x h;omega,by have:=J x h;omega⟩;rw[p]at I;have A:Hid (l[j]? =some x/\bE m N x=has m g):=⟨hx,by unfold bE;rw[p];rfl⟩;have jn:(j:Int)< (l.length:Int):=(by omega);have V:(x:Int)< (n:Int):=(by omega);clear hc y hx p
   by_cases f:(takeN (bE m N) k (l.take j)).length<k
   .have F:(((takeN (bE m N) k (l.take j)).length:Nat):Int)< (k:Int):=by omega
    cases z:has m g
    .have G:=av z
     go_wp2_with(go_at_call 164;refine(has_any m g hm s _).mono ?_;rintro e w1 ⟨rfl,hw⟩;obtain rfl:=hw.symm;rw[z]);go_roundw
     case rel=>exact⟨j+1,by omega,by go_num,by rw[takeN_miss A.out.1 (A.out.2.trans G.out)];exact c.out.1,c.out.2⟩
     case measure=>simp[intOf];omega
    .have G:=av z
     go_wp2_with(first
      |(go_at_call 164;refine(has_any m g hm s _).mono ?_;rintro e w1 ⟨rfl,hw⟩;obtain rfl:=hw.symm;rw[z])
      |(at_builtin;refine wpList_append_own _ rfl _ _ _ rfl w.heap.size 3 i0 _ 1 8 hu T D C B rfl (by omega) _ (takeN (bE m N) k (l.take j)).length (aT (takeN (bE m N) k (l.take j))) rfl (c.out.1.alloc _) ⟨wr.heap.size,0,none⟩ 1 1 [.int .i64 x] rfl rfl (cell_one_new _ _ _) (by intro u hu;simp at hu;subst hu;rfl) (by unfold maxLen;omega) (by omega) (by simp;omega) ?_;intro v' w1 a d _))
     have O:Hid (w1.ownsRow w.heap.size 3 1 v' (takeN (bE m N) k (l.take (j+1))).length (aT (takeN (bE m N) k (l.take (j+1))))/\Below w.heap.size w w1/\NZ v'):=by
      refine⟨?_,(c.out.2.1.alloc Q _).grown d (by simp;omega) (λq S=>(c.out.1.lt q S).1),NZ.of_own a (by omega)⟩;rw[takeN_hit A.out.1 (A.out.2.trans G.out) f];simpa[aT] using a
     clear a d;go_wp2_with fail;go_roundw
     case rel=>exact⟨j+1,by omega,by go_num,O.out.1,O.out.2⟩
     case measure=>simp[intOf];omega
   .have F:¬(((takeN (bE m N) k (l.take j)).length:Nat):Int)< (k:Int):=by omega
    go_wp2_with fail;go_roundw
    case rel=>exact⟨j+1,by omega,by go_num,by rw[takeN_full f];exact c.out.1,c.out.2⟩
    case measure=>simp[intOf];omega
  .have:j=l.length:=by omega
   rw[this]at c⊢;rw[List.take_length]at c⊢;go_wp2_with fail;go_ret;exact⟨_,rfl,c.out.1,c.out.2⟩
end Z
