/- Part 45 of the proof. -/
import Derived.Test.YtfpaamhppamcoaaGreatDoorT44
set_option linter.all false
set_option maxRecDepth 100000
set_option maxHeartbeats 60000000
namespace Go.Proofs.YtfpaamhppamcoaaGreatDoor
open Go.Proofs.Tryz
namespace Z
open Go.RowKit
attribute [local go_sem ↓] Go.wp_at_zero Go.wp_at_succ
attribute [local go_sem] After.cell After.frozen After.const
theorem Ps (a)(n c)(R)(x)(w)(h:Ints w (.slice a n c) n R)(p:n<=1000000):
 Calls (patch ae prog) 44 #[.slice a n c,.int .i64 x] w λe w'=>lg (∃i,i<n/\R i=x) e/\w'=w:=by
 have m:=av h;clear h
 go_enter (pf func44 (by rfl)),ntmps44
 go_wp2_with fail
 go_loop [5] (λi=>∃j:Nat,j<=n/\i=.int .i64 j/\Hid (∀k,k<j->R k≠x)) (λi=>n-(intOf i).toNat)
 case atStart=>exact⟨0,Nat.zero_le _,rfl,av (λk f=>absurd f (ZV _))⟩
 case round=>
  obtain⟨j,q,rfl,hR⟩:=hrel
  by_cases d:j<n
  .have jn:(j:Int)<n:=by omega
   obtain⟨ao,cap,e,_,_,g⟩:=m.out;cases e;obtain⟨b,o,rfl,hc⟩:=g (by omega);have c0:=hc j d;clear hc g
   by_cases hx:R j=x
   .subst hx
    go_wp2_with fail;go_ret;exact⟨.yes ⟨j,d,rfl⟩,rfl⟩
   .have l:(R j==x)=false:=beq_eq_false_iff_ne.2 hx
    go_wp2_with fail;go_round
    case rel=>exact⟨j+1,by omega,by go_num,av (λk f=>by
     by_cases e:k=j
     .subst e;exact hx
     .exact hR.out k (by omega))⟩
    case measure=>simp[intOf];omega
  .have jn:¬(j:Int)<n:=by omega
   go_wp2_with fail;go_ret;exact⟨.no (fun⟨i,r,e⟩=>hR.out i (by omega) e),rfl⟩
structure vH (w:World)(mc lc:Array Value)(L:Nat->List Nat)(G:Nat->Value)(wr:World):Prop where
 b0:wr.heap[w.heap.size]? =some (.cells mc 25 (0,0))
 b1:wr.heap[w.heap.size+1]? =some (.cells lc 34 (0,0))
 b2:wr.heap[w.heap.size+1+1]? =some (.cells #[.slice none 0 0,.slice none 0 0,.slice none 0 0,.slice none 0 0] 41 (0,0))
 b3:wr.heap[w.heap.size+1+1+1]? =some (.cells #[G 0,G 1,G 2,G 3] 41 (0,0))
 rows:∀q,q<4->wr.ownsRow (w.heap.size+4) 3 1 (G q) (L q).length (aT (L q))
 apart:∀q,q<4->∀q',q'<4->q≠q'->∀b,(G q).ownBlock=some b->(G q').ownBlock≠some b
 below:Below w.heap.size w wr
 size:w.heap.size+4<=wr.heap.size
def OI (L:Nat->List Nat)(q:Nat)(l:List Nat):Nat->List Nat:=λa=>if a=q then l else L a
def Ta (G:Nat->Value)(q:Nat)(v:Value):Nat->Value:=λa=>if a=q then v else G a
theorem nZ (f:Nat->Value){k}(a:k<4):(#[f 0,f 1,f 2,f 3]:Array Value)[k]? =some (f k):=by
 obtain rfl|rfl|rfl|rfl:k=0\/k=1\/k=2\/k=3:=by omega
 all_goals rfl
section
variable {w wr w2:World}{mc lc:Array Value}{L:Nat->List Nat}{G:Nat->Value}
theorem vH.alloc (h:vH w mc lc L G wr)(o):vH w mc lc L G (wr.alloc o):=
 have k:∀{b a},wr.heap[b]? =some a->(wr.alloc o).heap[b]? =some a:=λhb=>(aac _ _ _ (ZK.1 hb).1).trans hb
 ⟨k h.b0,k h.b1,k h.b2,k h.b3,λi c=>(h.rows i c).alloc _,h.apart,h.below.alloc (by have:=h.size;omega) _,by have:=h.size;rw[aao];omega⟩
theorem vH.congr {b}(h:vH w mc lc L G wr)(he:∀q,q<4->L q=b q):vH w mc lc b G wr:=⟨h.b0,h.b1,h.b2,h.b3,λq a=>by rw[<-he q a];exact h.rows q a,h.apart,h.below,h.size⟩
theorem vH.push (h:vH w mc lc L G wr){q x g c:Nat}(n:q<4)(r:wr.grownBy w2 (G q).ownBlock)(o:w2.ownsRow (w.heap.size+4) 3 1 (.slice (some ⟨g,0,none⟩) ((L q).length+1) c) ((L q).length+1) (aT (L q)++[.int .i64 x]))(hl:(G q).ownBlock=some g\/g=wr.heap.size):
 vH w mc lc (OI L q (L q++[x])) (Ta G q (.slice (some ⟨g,0,none⟩) ((L q).length+1) c)) (w2.setCell ⟨w.heap.size+1+1+1,q,none⟩ (.slice (some ⟨g,0,none⟩) ((L q).length+1) c)):=by
 have hs:=h.size;have hb:∀b,(G q).ownBlock=some b->w.heap.size+4<=b:=λb e=>((h.rows q n).lt b e).1
 have k:∀b,b<w.heap.size+4->w2.heap[b]? =wr.heap[b]?:=λb t=>r.block b (by omega) (λe=>by have:=hb b e.symm;omega)
 have B:Below w.heap.size w w2:=h.below.grown r (by omega) (λq n=>by have:=hb q n;omega);refine⟨?_,?_,?_,?_,λi l=>?_,λi l p j f b a=>?_,B.setCell (by show w.heap.size<=w.heap.size+1+1+1;omega) _,?_⟩
 .exact dP _ ((k _ (by omega)).trans h.b0) (by show w.heap.size≠w.heap.size+1+1+1;omega)
 .exact dP _ ((k _ (by omega)).trans h.b1) (by show w.heap.size+1≠w.heap.size+1+1+1;omega)
 .exact dP _ ((k _ (by omega)).trans h.b2) (by show w.heap.size+1+1≠w.heap.size+1+1+1;omega)
 .refine(aD (i:=q) _ ((k _ (by omega)).trans h.b3)).trans ?_
  obtain rfl|rfl|rfl|rfl:q=0\/q=1\/q=2\/q=3:=by omega
  all_goals rfl
 .by_cases e:i=q
  .subst e
   show World.ownsRow _ _ _ _ (if i=i then _ else _) (if i=i then _ else _:List Nat).length (aT (if i=i then _ else _))
   rw[if_pos rfl,if_pos rfl,Be,Z7];exact aaf o (by show w.heap.size+1+1+1<w.heap.size+4;omega) _
  .show World.ownsRow _ _ _ _ (if i=q then _ else _) (if i=q then _ else _:List Nat).length (aT (if i=q then _ else _))
   rw[if_neg e,if_neg e];exact aaf (aJ (h.rows i l) λb d=>r.block b ((h.rows i l).lt b d).2 (λu=>h.apart i l q n e b d u.symm)) (by show w.heap.size+1+1+1<w.heap.size+4;omega) _
 .unfold Ta at a⊢
  by_cases e:i=q
  .rw[if_pos e]at a
   rw[if_neg (λd=>f (e.trans d.symm))];have m:g=b:=Option.some.inj a;subst m;intro s;rcases hl with hl|hl
   .exact h.apart p j q n (λd=>f (e.trans d.symm)) _ s hl
   .have:=((h.rows p j).lt _ s).2;omega
  .rw[if_neg e]at a
   by_cases d:p=q
   .rw[if_pos d]
    intro s;have m:g=b:=Option.some.inj s;subst m;rcases hl with hl|hl
    .exact h.apart i l q n e _ a hl
    .have:=((h.rows i l).lt _ a).2;omega
   .rw[if_neg d]
    exact h.apart i l p j f b a
 .have:=r.size
  simp;omega
end
def L8 (w:World)(L:Nat->List Nat)(v:Value)(w':World):Prop:=∃G:Nat->Value,v=.agg #[G 0,G 1,G 2,G 3]/\(∀q,q<4->w'.ownsRow w.heap.size 3 1 (G q) (L q).length (aT (L q)))/\Below w.heap.size w w'
theorem Bp (D)(k i):dX D k (i+1)=if D.dH k i=true then dX D k i++[i]else dX D k i:=by
 unfold dX;rw[Z6,aaj]
 by_cases h:D.dH k i=true
 .rw[if_pos h];simp[h]
 .rw[if_neg h];simp[h]
theorem FM (D)(k i):(dX D k i).length<=i:=by
 unfold dX;have:=aai (λj=>D.dH k j) (List.range i);simpa using this
theorem Bi (m)(k):(bS m k).length<=k:=by
 unfold bS;have:=aai (λi=> !lY m i) (List.range k);simpa using this
def kG (D:BD)(j:Nat)(q:Nat):List Nat:=if q=0 then bS (OC D 0) j else []
def gy (D:BD)(k i:Nat)(q:Nat):List Nat:=if q=0 then dL D 0 else if q-1<k then dL D q else if q-1=k then dX D k i else []
theorem Jg (D)(q)(hu:dL D 0=bS (OC D 0) D.n):kG D D.n q=gy D 0 0 q:=by
 unfold kG gy
 by_cases h:q=0
 .rw[if_pos h,if_pos h,hu]
 .rw[if_neg h,if_neg h,if_neg (by omega)]
  by_cases a:q-1=0
  .rw[if_pos a];rfl
  .rw[if_neg a]
theorem LG (D)(k)(q):gy D k (D.dn k) q=gy D (k+1) 0 q:=by
 unfold gy
 by_cases h:q=0
 .rw[if_pos h,if_pos h]
 .rw[if_neg h,if_neg h]
  by_cases c:q-1<k
  .rw[if_pos c,if_pos (by omega)]
  .rw[if_neg c]
   by_cases a:q-1=k
   .rw[if_pos a,if_pos (by omega)]
    unfold dL dX;rw[if_neg h,a]
   .rw[if_neg a,if_neg (by omega)]
    by_cases b:q-1=k+1
    .rw[if_pos b];rfl
    .rw[if_neg b]
theorem LH (D)(k i)(q)(h:D.dH k i=false):gy D k i q=gy D k (i+1) q:=by
 have e:dX D k (i+1)=dX D k i:=by rw[Bp,if_neg (by rw[h];exact Bool.false_ne_true)]
 unfold gy;rw[e]
theorem NW (D)(k i)(q)(h:D.dH k i=true):OI (gy D k i) (1+k) (gy D k i (1+k)++[i]) q=gy D k (i+1) q:=by
 unfold OI
 by_cases e:q=1+k
 .subst e
  rw[if_pos rfl];unfold gy;rw[if_neg (by omega),if_neg (by omega),if_pos (by omega),if_neg (by omega),if_neg (by omega),if_pos (by omega),Bp,if_pos h]
 .rw[if_neg e]
  unfold gy
  by_cases b:q=0
  .rw[if_pos b,if_pos b]
  .rw[if_neg b,if_neg b]
   by_cases a:q-1<k
   .rw[if_pos a,if_pos a]
   .rw[if_neg a,if_neg a,if_neg (by omega),if_neg (by omega)]
theorem N6 (D)(k i):gy D k i (1+k)=dX D k i:=by
 unfold gy;rw[if_neg (by omega),if_neg (by omega),if_pos (by omega)]
theorem NY (D)(q)(a:q<4):gy D 3 0 q=dL D q:=by
 unfold gy
 by_cases h:q=0
 .rw[if_pos h,h]
 .rw[if_neg h,if_pos (by omega)]
theorem IJ (a b c d)(w:World)(B)(h:w.heap[B]? =some (.cells #[.slice none 0 0,.slice none 0 0,.slice none 0 0,.slice none 0 0] 41 (0,0))):
 ∀j,((((w.setCell ⟨B,0,none⟩ a).setCell ⟨B,1,none⟩ b).setCell ⟨B,2,none⟩ c).setCell ⟨B,3,none⟩ d).cell? ⟨B,j,none⟩=(#[a,b,c,d]:Array Value)[j]?:=by
 have z3:=aD (i:=3) d (aD (i:=2) c (aD (i:=1) b (aD (i:=0) a h)));simp only[ZN,ZR,ZS]at z3;exact(blk z3).1
theorem Dz (m)(L ra)(K rc base base2)(s)(d:Nat->Value)(w)(h:kX w base m (.slice L m.n K) (.slice ra m.r rc))(hd:∀k,k<3->w.ownsRow base2 75 2 (d k) (s.dn k) (rO s k))(hs:s.m=m)(S:s.ok):
 Calls (patch ae prog) 13 #[.agg #[.slice L m.n K,.slice ra m.r rc,.int .i64 m.p],.agg #[d 0,d 1,d 2]] w λe w'=>∃v,e=.returned v/\L8 w (dL s.D) v w':=by
 obtain⟨i1,U,O,N,M⟩:=info_parts Tryz.gQ;have Q:=((ax ae prog 23).trans underlying23);obtain⟨f1,f2,f3⟩:=h.qF;obtain⟨a0,k0,e0⟩:=aj (hd 0 (by omega));obtain⟨a1,k1,e1⟩:=aj (hd 1 (by omega));obtain⟨a2,k2,e2⟩:=aj (hd 2 (by omega))
 have θ:Hid (∀W x,Below w.heap.size w W->Calls (patch ae prog) 44 #[.slice ra m.r rc,.int .i64 x] W λe w'=>lg (∃i,i<m.r/\m.R i=x) e/\w'=W):=λW x hW=>Ps ra m.r rc m.R x W (by
  obtain⟨ao,cap,e,g1,g2,g3,_⟩:=dV h.res;cases e;exact⟨ra,rc,rfl,g1,by omega,λJ=>let ⟨g,e,_,_,hg⟩:=g3 J;⟨g,0,e,λi hi=>keeps hW (hg i _ (by simp[vk,hi]))⟩⟩) (by omega)
 have HD:=av (aaa hd S);have ι:Hid (∀k,bS (OC s.D 0) k=(List.range k).filter (λi=> !lY (OC s.D 0) i)):=λ_=>rfl
 have E:Hid (∀i,lY (OC s.D 0) i=true↔∃j,j<m.r/\m.R j=(i:Int)):=λi=>by
  rw[lz];subst hs;exact Iff.rfl
 have P:Hid (dL s.D 0=bS (OC s.D 0) m.n):=by subst hs;rfl
 clear hd S h;rw[e0,e1,e2]
 go_enter (pf func13 (by rfl)),ntmps13
 go_wp2_with fail
 go_loopw [6] (λi wr=>∃(j:Nat) (G:Nat->Value),j<=m.n/\i=.int .i64 j/\vH w #[.slice L m.n K,.slice ra m.r rc,.int .i64 m.p] #[.slice a0 (s.dn 0) k0,.slice a1 (s.dn 1) k1,.slice a2 (s.dn 2) k2] (kG s.D j) G wr) (λi _=>m.n-(intOf i).toNat)
 case atStart=>
  refine⟨0,λ_=>.slice none 0 0,Nat.zero_le _,rfl,?_,?_,?_,?_,λq hq=>?_,λ_ _ _ _ _ b hb=>(by cases hb),?_,by simp⟩
  .rw[aac _ _ _ (by simp;omega)];exact kR _ _ _ _
  .rw[aac _ _ _ (by simp)];exact kQ _ _ _ _
  .rw[aac _ _ _ (by simp)];exact kP _ _ _ _
  .rw[show w.heap.size+1+1+1=(((w.alloc (.cells #[.slice L m.n K,.slice ra m.r rc,.int .i64 m.p] 25)).alloc (.cells #[.slice a0 (s.dn 0) k0,.slice a1 (s.dn 1) k1,.slice a2 (s.dn 2) k2] 34)).alloc (.cells #[.slice none 0 0,.slice none 0 0,.slice none 0 0,.slice none 0 0] 41)).heap.size by simp]
   exact aae _ _
  .have e:kG s.D 0 q=[]:=by
        unfold kG
        by_cases h:q=0
        .rw[if_pos h];rfl
        .rw[if_neg h]
   rw[e];exact aag _ _ _ _
  .exact((((aab _ _).alloc (ZL _) _).alloc (by simp) _).alloc (by simp;omega) _).alloc (by simp;omega) _
 case round=>
  obtain⟨j,G,hj,rfl,c⟩:=hrel;have l:=av c;obtain⟨b0,η⟩:=blk c.b0
  by_cases T:j<m.n
  .have jn:(j:Int)<m.n:=by omega
   have ζ:=θ.out wr j c.below;clear c;go_wp2_with fail;refine ζ.mono ?_;rintro e w1 ⟨F,hw⟩;obtain rfl:=hw.symm
   by_cases J:lY (OC s.D 0) j=true
   .obtain rfl:=F.fP ((E.out j).1 J)
    go_wp2_with fail;go_roundw
    case rel=>exact⟨j+1,G,by omega,by go_num,l.out.congr (λq _=>by unfold kG;rw[mh J])⟩
    case measure=>simp[intOf];omega
   .obtain rfl:=F.gJ (λe=>J ((E.out j).2 e))
    obtain⟨I,gc,y⟩:=aj (l.out.rows 0 (by omega));have f:=blk l.out.b3;have y0:wr.cell? ⟨w.heap.size+1+1+1,0,none⟩=some (.slice I (kG s.D j 0).length gc):=(by rw[f.1,nZ G (by omega),y]);have ε:=f.2 0;have hlen:(kG s.D j 0).length<=j:=Bi _ _;have C:=av (l.out.alloc (.cells #[.int .i64 j] 3));clear f;go_wp2_with(at_builtin;go_loud(refine wpList_append_lies _ rfl _ _ _ rfl (w.heap.size+4) 3 i1 _ 1 8 Q U O N M rfl (by omega) (.slice I (kG s.D j 0).length gc) (kG s.D j 0).length (aT (kG s.D j 0)) rfl (by rw[<-y];exact C.out.rows 0 (by omega)) ⟨wr.heap.size,0,none⟩ 1 1 [.int .i64 j] rfl rfl (cell_one_new _ _ _) (by intro u hu;simp at hu;subst hu;rfl) (by omega) (by unfold maxLen;omega) (by omega) C.out.size _ rfl ?_);intro g cap w2 o a hl hg;have H2:=av (C.out.push (q:=0) (x:=j) (by omega) (by rw[y];exact a) o (by rw[y];exact hl));have t:=blk ((a.block (w.heap.size+1+1+1) (by have:=l.out.size;rw[aao];omega) (λe=>by have:=((l.out.rows 0 (by omega)).lt _ (by rw[y];exact e.symm)).1;omega)).trans C.out.b3);have y1:w2.cell? ⟨w.heap.size+1+1+1,0,none⟩=some (.slice I (kG s.D j 0).length gc):=(by rw[t.1,nZ G (by omega),y]);have δ:=t.2 0;clear o a hl t);go_roundw
    case rel=>exact⟨j+1,_,by omega,by go_num,H2.out.congr (λq _=>by
     unfold OI
     by_cases e:q=0
     .subst e;rw[if_pos rfl];unfold kG;rw[if_pos rfl,if_pos rfl,oQ (by simpa using J)]
     .rw[if_neg e];unfold kG;rw[if_neg e,if_neg e])⟩
    case measure=>simp[intOf];omega
  .have jn:¬(j:Int)<m.n:=by omega
   obtain rfl:j=m.n:=(by omega);clear c;go_wp2_with fail;clear b0 η
   go_loopw [8] (λi wr=>∃(k:Nat) (G:Nat->Value),k<=3/\i=.int .i64 k/\vH w #[.slice L m.n K,.slice ra m.r rc,.int .i64 m.p] #[.slice a0 (s.dn 0) k0,.slice a1 (s.dn 1) k1,.slice a2 (s.dn 2) k2] (gy s.D k 0) G wr) (λi _=>3-(intOf i).toNat)
   case atStart=>exact⟨0,G,by omega,rfl,l.out.congr (λq _=>by subst hs;exact Jg s.D q P.out)⟩
   case round=>
        clear l;obtain⟨k,G,hk,rfl,c⟩:=hrel;have l:=av c
        by_cases A:k<3
        .have kn:(k:Int)<3:=by omega
         have V:=(HD.out.2.d.dC k A).1;have V:s.dn k<=16:=V;clear c;go_wp2_with fail
         go_loopw [9] (λi wr=>∃(i':Nat) (G:Nat->Value),i'<=s.dn k/\i=.int .i64 i'/\vH w #[.slice L m.n K,.slice ra m.r rc,.int .i64 m.p] #[.slice a0 (s.dn 0) k0,.slice a1 (s.dn 1) k1,.slice a2 (s.dn 2) k2] (gy s.D k i') G wr) (λi _=>s.dn k-(intOf i).toNat)
         case atStart=>exact⟨0,G,by omega,rfl,l.out⟩
         case round=>
          clear l;obtain⟨x,G,hx,rfl,c⟩:=hrel;have l:=av c;obtain⟨ak,ck,ek⟩:=aj (HD.out.1 k A);have H:=blk c.b1;rw[<-e0,<-e1,<-e2]at H;have x0:wr.cell? ⟨w.heap.size+1,k,none⟩=some (.slice ak (s.dn k) ck):=(by rw[H.1,oJ d A,ek]);clear H
          by_cases T:x<s.dn k
          .have xn:(x:Int)<s.dn k:=by omega
           obtain⟨ο,κ,e',r1,_,r3,_⟩:=dV (HD.out.1 k A);rw[ek]at e';cases e';obtain⟨g,rfl,ξ,_,X⟩:=r3 (by omega);have y2:=(yN X T).2
           have y3:wr.cell? ⟨g,x*2+1,none⟩=some (.bool (s.dH k x)):=by
            rw[show(⟨g,x*2+1,none⟩:Addr)=⟨g,0+2*x+1,none⟩ by rw[Z8,Nat.mul_comm]];exact keeps c.below y2
           clear r1 r3 X y2
           by_cases hH:s.dH k x=true
           .rw[hH]at y3
            obtain⟨I,gc,y⟩:=aj (c.rows (1+k) (by omega));have f:=blk c.b3;have y0:wr.cell? ⟨w.heap.size+1+1+1,1+k,none⟩=some (.slice I (gy s.D k x (1+k)).length gc):=(by rw[f.1,nZ G (by omega),y]);have ε:=f.2 (1+k);have hlen:(gy s.D k x (1+k)).length<=x:=(by rw[N6];exact FM _ _ _);have C:=av (l.out.alloc (.cells #[.int .i64 x] 3));clear f c;go_wp2_with(at_builtin;go_loud(refine wpList_append_lies _ rfl _ _ _ rfl (w.heap.size+4) 3 i1 _ 1 8 Q U O N M rfl (by omega) (.slice I (gy s.D k x (1+k)).length gc) (gy s.D k x (1+k)).length (aT (gy s.D k x (1+k))) rfl (by rw[<-y];exact C.out.rows (1+k) (by omega)) ⟨wr.heap.size,0,none⟩ 1 1 [.int .i64 x] rfl rfl (cell_one_new _ _ _) (by intro u hu;simp at hu;subst hu;rfl) (by omega) (by unfold maxLen;omega) (by omega) C.out.size _ rfl ?_);intro g2 cap w2 o a hl hg;have H2:=av (C.out.push (q:=1+k) (x:=x) (by omega) (by rw[y];exact a) o (by rw[y];exact hl));have t:=blk ((a.block (w.heap.size+1+1+1) (by have:=l.out.size;rw[aao];omega) (λe=>by have:=((l.out.rows (1+k) (by omega)).lt _ (by rw[y];exact e.symm)).1;omega)).trans C.out.b3);have y1:w2.cell? ⟨w.heap.size+1+1+1,1+k,none⟩=some (.slice I (gy s.D k x (1+k)).length gc):=(by rw[t.1,nZ G (by omega),y]);have δ:=t.2 (1+k);clear o a hl t);go_roundw
            case rel=>exact⟨x+1,_,by omega,by go_num,H2.out.congr (λq _=>NW s.D k x q hH)⟩
            case measure=>simp[intOf];omega
           .have Y:s.dH k x=false:=by simpa using hH
            rw[Y]at y3;clear c;go_wp2_with fail;go_roundw
            case rel=>exact⟨x+1,G,by omega,by go_num,l.out.congr (λq _=>LH s.D k x q Y)⟩
            case measure=>simp[intOf];omega
          .have xn:¬(x:Int)<s.dn k:=by omega
           obtain rfl:x=s.dn k:=(by omega);clear c;go_wp2_with fail;go_roundw
           case rel=>exact⟨k+1,G,by omega,by go_num,l.out.congr (λq _=>LG s.D k q)⟩
           case measure=>simp[intOf];omega
        .have kn:¬(k:Int)<3:=by omega
         obtain rfl:k=3:=(by omega);obtain⟨g0,c0,γ⟩:=aj (c.rows 0 (by omega));obtain⟨g1,c1,β⟩:=aj (c.rows 1 (by omega));obtain⟨g2,c2,α⟩:=aj (c.rows 2 (by omega));obtain⟨g3,c3,Z⟩:=aj (c.rows 3 (by omega));have f:=c.b3;rw[γ,β,α,Z]at f;obtain⟨y3,μ⟩:=blk f;obtain⟨y2,ν⟩:=blk c.b2;clear c f;go_wp2_with fail;have z:=IJ (.slice g0 (gy s.D 3 0 0).length c0) (.slice g1 (gy s.D 3 0 1).length c1) (.slice g2 (gy s.D 3 0 2).length c2) (.slice g3 (gy s.D 3 0 3).length c3) wr _ l.out.b2;have B:∀i,(⟨w.heap.size+1+1,i,none⟩:Addr).block<w.heap.size+4:=λ_=>by show w.heap.size+1+1<w.heap.size+4;omega
         have hle:∀i,w.heap.size<=(⟨w.heap.size+1+1,i,none⟩:Addr).block:=λ_=>by show w.heap.size<=w.heap.size+1+1;omega
         refine bodyPost_ret (v:=.agg #[.slice g0 (gy s.D 3 0 0).length c0,.slice g1 (gy s.D 3 0 1).length c1,.slice g2 (gy s.D 3 0 2).length c2,.slice g3 (gy s.D 3 0 3).length c3]) ?_ rfl ⟨_,rfl,G,by rw[γ,β,α,Z],λq hq=>?_,?_⟩
         .simp[results,results13,go_sem,z]
         .rw[<-NY s.D q hq]
          exact aB (aaf (aaf (aaf (aaf (l.out.rows q hq) (B 0) _) (B 1) _) (B 2) _) (B 3) _) (by omega)
         .exact(((l.out.below.setCell (hle 0) _).setCell (hle 1) _).setCell (hle 2) _).setCell (hle 3) _
theorem Ma (m:Nat)(h:m<16)(w):Calls (patch ae prog) 15 #[.int .i64 m] w λe w'=>e=.returned (.int .i64 (pop m))/\w'=w:=by
 go_enter (pf func15 (by rfl)),ntmps15
 go_wp2_with fail;refine wp_loop_rounds 5 ?_;rw[aal];go_wp2_with fail;rw[aal];go_wp2_with fail;rw[aal];go_wp2_with fail;rw[aal];go_wp2_with fail;rw[aal];go_wp2_with fail;go_ret;refine⟨?_,rfl⟩;obtain rfl|rfl|rfl|rfl|rfl|rfl|rfl|rfl|rfl|rfl|rfl|rfl|rfl|rfl|rfl|rfl:m=0\/m=1\/m=2\/m=3\/m=4\/m=5\/m=6\/m=7\/m=8\/m=9\/m=10\/m=11\/m=12\/m=13\/m=14\/m=15:=by omega
 all_goals kernel_rfl
def IA (D:BD)(mask q x:Nat):Bool:=has mask (bG D q x).toNat
def kU (D:BD)(mask q:Nat)(l:List Nat)(j:Nat):Nat:=(l.take j).countP (IA D mask q)
def Q0 (D:BD)(q:Nat):Nat:=if q=0 then D.n else D.dn (q-1)
theorem oZ (D)(mask q)(l){j x}(h:l[j]? =some x):kU D mask q l (j+1)=kU D mask q l j+if IA D mask q x=true then 1 else 0:=by
 unfold kU;rw[List.take_add_one,h,List.countP_append]
 by_cases hx:IA D mask q x=true
 .rw[if_pos hx];simp[hx]
 .rw[if_neg hx];simp[hx]
theorem yU (D)(mask q)(l)(j):kU D mask q l j<=j:=by
 unfold kU;have b:=List.countP_le_length (p:=IA D mask q) (l:=l.take j);have a:=List.length_take_le j l;omega
def jb (D:BD)(mask:Nat)(L:Nat->List Nat)(k i:Nat)(q:Nat):Nat:=if q=0 then kU D mask 0 (L 0) (L 0).length else if q-1<k then kU D mask q (L q) (L q).length else if q-1=k then kU D mask q (L q) i else 0
def lu (D:BD)(mask:Nat)(L:Nat->List Nat)(j:Nat)(q:Nat):Nat:=if q=0 then kU D mask 0 (L 0) j else 0
def o8 (c:Nat->Nat):Array Value:= #[.int .i64 (c 0:Nat),.int .i64 (c 1:Nat),.int .i64 (c 2:Nat),.int .i64 (c 3:Nat)]
structure mX (w:World)(mc lc gc:Array Value)(c:Nat->Nat)(wr:World):Prop where
 b0:wr.heap[w.heap.size]? =some (.cells mc 25 (0,0))
 b1:wr.heap[w.heap.size+1]? =some (.cells lc 34 (0,0))
 b2:wr.heap[w.heap.size+1+1]? =some (.cells gc 41 (0,0))
 b3:wr.heap[w.heap.size+1+1+1]? =some (.cells #[.int .i64 0,.int .i64 0,.int .i64 0,.int .i64 0] 29 (0,0))
 b4:wr.heap[w.heap.size+1+1+1+1]? =some (.cells (o8 c) 29 (0,0))
 below:Below w.heap.size w wr
theorem yj (c){q}(a:q<4):(o8 c)[q]? =some (.int .i64 (c q:Nat)):=by
 obtain rfl|rfl|rfl|rfl:q=0\/q=1\/q=2\/q=3:=by omega
 all_goals rfl
section
variable {w wr:World}{mc lc gc:Array Value}{c:Nat->Nat}
theorem mX.drew (h:mX w mc lc gc c wr):mX w mc lc gc c wr.drew:=⟨h.b0,h.b1,h.b2,h.b3,h.b4,h.below.drew⟩
theorem mX.congr {a}(h:mX w mc lc gc c wr)(he:∀q,q<4->c q=a q):mX w mc lc gc a wr:=⟨h.b0,h.b1,h.b2,h.b3,by
 have:o8 c=o8 a:=by unfold o8;rw[he 0 (by omega),he 1 (by omega),he 2 (by omega),he 3 (by omega)]
 rw[<-this];exact h.b4,h.below⟩
theorem mX.inc (h:mX w mc lc gc c wr){q}(e:q<4):mX w mc lc gc (λd=>if d=q then c q+1 else c d) (wr.setCell ⟨w.heap.size+1+1+1+1,q,none⟩ (.int .i64 ((c q:Nat)+1))):=by
 have a:∀b,b≠w.heap.size+1+1+1+1->(wr.setCell ⟨w.heap.size+1+1+1+1,q,none⟩ (.int .i64 ((c q:Nat)+1))).heap[b]? =wr.heap[b]?:=λb hb=>aad _ _ _ _ hb
 refine⟨(a _ (by omega)).trans h.b0,(a _ (by omega)).trans h.b1,(a _ (by omega)).trans h.b2,(a _ (by omega)).trans h.b3,?_,h.below.setCell (by show w.heap.size<=w.heap.size+1+1+1+1;omega) _⟩;refine(aD (i:=q) _ h.b4).trans ?_;unfold o8;obtain rfl|rfl|rfl|rfl:q=0\/q=1\/q=2\/q=3:=by omega
 all_goals simp
end
theorem nX (w:World)(o){b}(hb:b=w.heap.size):(w.alloc o).heap[b]? =some o:=by
 subst hb;exact aae _ _
theorem J7 (mask:Nat)(k:Int)(hm:mask<16)(a:0<=k/\k<4):bits BinOp.and IntKind.i64 ((mask:Int)/2^k.toNat) 1=if has mask k.toNat=true then 1 else 0:=by
 obtain⟨n,rfl⟩:∃n:Nat,k=n:=⟨k.toNat,by omega⟩;rw[Int.toNat_natCast];obtain rfl|rfl|rfl|rfl:n=0\/n=1\/n=2\/n=3:=by omega
 all_goals(
  obtain rfl|rfl|rfl|rfl|rfl|rfl|rfl|rfl|rfl|rfl|rfl|rfl|rfl|rfl|rfl|rfl:mask=0\/mask=1\/mask=2\/mask=3\/mask=4\/mask=5\/mask=6\/mask=7\/mask=8\/mask=9\/mask=10\/mask=11\/mask=12\/mask=13\/mask=14\/mask=15:=by omega
  all_goals kernel_rfl)
theorem KJ {D}{mask}{L}{j x}(h:(L 0)[j]? =some x)(hx:IA D mask 0 x=true)(q):(if q=0 then lu D mask L j 0+1 else lu D mask L j q)=lu D mask L (j+1) q:=by
 unfold lu
 by_cases e:q=0
 .rw[if_pos e,if_pos rfl,if_pos e,oZ _ _ _ _ h,if_pos hx]
 .rw[if_neg e,if_neg e,if_neg e]
theorem Hf {D}{mask}{L}{j x}(h:(L 0)[j]? =some x)(hx:IA D mask 0 x=false)(q):lu D mask L j q=lu D mask L (j+1) q:=by
 have e:kU D mask 0 (L 0) (j+1)=kU D mask 0 (L 0) j:=by rw[oZ _ _ _ _ h,if_neg (by rw[hx];exact Bool.false_ne_true)];rfl
 unfold lu;rw[e]
theorem He (D)(mask)(L)(q):lu D mask L (L 0).length q=jb D mask L 0 0 q:=by
 unfold lu jb
 by_cases h:q=0
 .rw[if_pos h,if_pos h]
 .rw[if_neg h,if_neg h,if_neg (by omega)]
  by_cases a:q-1=0
  .rw[if_pos a];rfl
  .rw[if_neg a]
theorem KH (D)(mask)(L)(k q):jb D mask L k (L (1+k)).length q=jb D mask L (k+1) 0 q:=by
 unfold jb
 by_cases h:q=0
 .rw[if_pos h,if_pos h]
 .rw[if_neg h,if_neg h]
  by_cases c:q-1<k
  .rw[if_pos c,if_pos (by omega)]
  .rw[if_neg c]
   by_cases b:q-1=k
   .rw[if_pos b,if_pos (by omega),show 1+k=q by omega]
   .rw[if_neg b,if_neg (by omega)]
    by_cases a:q-1=k+1
    .rw[if_pos a];rfl
    .rw[if_neg a]
theorem nE (D)(mask)(L)(k i):jb D mask L k i (1+k)=kU D mask (1+k) (L (1+k)) i:=by
 unfold jb;rw[if_neg (by omega),if_neg (by omega),if_pos (by omega)]
theorem MF {D}{mask}{L}{k i x}(h:(L (1+k))[i]? =some x)(hx:IA D mask (1+k) x=true)(q):(if q=1+k then jb D mask L k i (1+k)+1 else jb D mask L k i q)=jb D mask L k (i+1) q:=by
 by_cases e:q=1+k
 .subst e
  rw[if_pos rfl,nE,nE,oZ _ _ _ _ h,if_pos hx]
 .rw[if_neg e]
  unfold jb
  by_cases b:q=0
  .rw[if_pos b,if_pos b]
  .rw[if_neg b,if_neg b]
   by_cases a:q-1<k
   .rw[if_pos a,if_pos a]
   .rw[if_neg a,if_neg a,if_neg (by omega),if_neg (by omega)]
theorem KI {D}{mask}{L}{k i x}(h:(L (1+k))[i]? =some x)(hx:IA D mask (1+k) x=false)(q):jb D mask L k i q=jb D mask L k (i+1) q:=by
 by_cases e:q=1+k
 .subst e
  rw[nE,nE,oZ _ _ _ _ h,if_neg (by rw[hx];exact Bool.false_ne_true)];rfl
 .unfold jb
  by_cases b:q=0
  .rw[if_pos b,if_pos b]
  .rw[if_neg b,if_neg b]
   by_cases a:q-1<k
   .rw[if_pos a,if_pos a]
   .rw[if_neg a,if_neg a,if_neg (by omega),if_neg (by omega)]
theorem qP (D)(mask)(L)(q)(a:q<4):jb D mask L 3 0 q=kU D mask q (L q) (L q).length:=by
 unfold jb
 by_cases h:q=0
 .rw[if_pos h,h]
 .rw[if_neg h,if_pos (by omega)]
theorem ME (m)(ca ra)(V rc base base2 J)(s)(d G:Nat->Value)(L:Nat->List Nat)(mask:Nat)(w)(h:kX w base m (.slice ca m.n V) (.slice ra m.r rc))(hd:∀k,k<3->w.ownsRow base2 75 2 (d k) (s.dn k) (rO s k))(hs:s.m=m)(δ:s.ok)
 (P:∀q,q<4->w.ownsRow J 3 1 (G q) (L q).length (aT (L q)))(Y:∀q,q<4->(L q).length<=1000000/\∀x∈L q,x<Q0 s.D q)(hm:mask<16):
 Calls (patch ae prog) 14 #[.agg #[.slice ca m.n V,.slice ra m.r rc,.int .i64 m.p],.agg #[d 0,d 1,d 2],.agg #[G 0,G 1,G 2,G 3],.int .i64 mask] w λe w'=>e=.returned (.agg (o8 λq=>kU s.D mask q (L q) (L q).length))/\Below w.heap.size w w':=by
 obtain⟨f1,f2,f3⟩:=h.qF;obtain⟨a0,k0,e0⟩:=aj (hd 0 (by omega));obtain⟨a1,k1,e1⟩:=aj (hd 1 (by omega));obtain⟨a2,k2,e2⟩:=aj (hd 2 (by omega));obtain⟨g0,c0,I⟩:=aj (P 0 (by omega));obtain⟨g1,c1,H⟩:=aj (P 1 (by omega));obtain⟨g2,c2,F⟩:=aj (P 2 (by omega));obtain⟨g3,c3,E⟩:=aj (P 3 (by omega));obtain⟨ao,cap,e,r1,_,M,_⟩:=dV h.dA;cases e;obtain⟨cb,rfl,_,_,S⟩:=M (by omega)
 have HC:Hid (∀W,Below w.heap.size w W->∀i,i<m.n->W.cell? ⟨cb,i*3+1,none⟩=some (.int .i64 (m.N i))/\0<=m.N i/\m.N i<4):=λW hW i O=>⟨by
  have:=keeps hW (vP S O).2.1;rw[Z8]at this;exact this,((h.ok.2.2.1 i O).1).2.2.1,((h.ok.2.2.1 i O).1).2.2.2.1⟩
 have HG:Hid (∀W,Below w.heap.size w W->∀q,q<4->∀(j x:Nat),(L q)[j]? =some x->∃g c,G q=.slice (some ⟨g,0,none⟩) (L q).length c/\W.cell? ⟨g,j,none⟩=some (.int .i64 x)/\x<Q0 s.D q):=λW hW q X j x hx=>by
  have hj:j< (L q).length:=(ZZ.1 hx).1;obtain⟨ao,cap,e,_,_,M,_⟩:=dV (P q X);obtain⟨g,rfl,_,_,hg⟩:=M (by omega);refine⟨g,cap,e,?_,(Y q X).2 x (List.mem_iff_getElem?.2 ⟨j,hx⟩)⟩;have:=keeps hW (C5 hg hj);rw[Z8,hx]at this;exact this
 have HD:Hid (∀W,Below w.heap.size w W->∀k,k<3->∀i,i<s.dn k->∃g c,d k=.slice (some ⟨g,0,none⟩) (s.dn k) c/\W.cell? ⟨g,i*2,none⟩=some (.int .i64 (s.dN k i))/\0<=s.dN k i/\s.dN k i<4):=λW hW k hk i O=>by
  obtain⟨ao,cap,e,_,_,M,_⟩:=dV (hd k hk);obtain⟨g,rfl,_,_,hg⟩:=M (by omega);have h4:=(δ.d.dC k hk).2 i O;refine⟨g,cap,e,?_,h4.1,h4.2⟩;have:=keeps hW (yN hg O).1;rw[Z8,Nat.mul_comm]at this;exact this
 have HL:=av (λq (X:q<4)=>(Y q X).1);have ν:=(Y 0 (by omega)).1;have ε:Hid (Q0 s.D 0=m.n):=by subst hs;rfl
 have ζ:Hid (∀i,bG s.D 0 i=m.N i):=λi=>by subst hs;rfl
 clear hd P Y h r1 M S;rw[e0,e1,e2,I,H,F,E]
 go_enter (pf func14 (by rfl)),ntmps14
 go_wp2_with fail
 go_loopw [10] (λi wr=>∃j:Nat,j<=(L 0).length/\i=.int .i64 j/\mX w #[.slice (some ⟨cb,0,none⟩) m.n V,.slice ra m.r rc,.int .i64 m.p] #[.slice a0 (s.dn 0) k0,.slice a1 (s.dn 1) k1,.slice a2 (s.dn 2) k2] #[.slice g0 (L 0).length c0,.slice g1 (L 1).length c1,.slice g2 (L 2).length c2,.slice g3 (L 3).length c3] (lu s.D mask L j) wr) (λi _=>(L 0).length-(intOf i).toNat)
 case atStart=>
  have e4:o8 (lu s.D mask L 0)= #[.int .i64 0,.int .i64 0,.int .i64 0,.int .i64 0]:=rfl;refine⟨0,Nat.zero_le _,rfl,?_,?_,?_,?_,?_,?_⟩
  .rw[aac _ _ _ (by simp;omega),aac _ _ _ (by simp;omega)];exact kR _ _ _ _
  .rw[aac _ _ _ (by first|(simp;done)|(simp;omega)),aac _ _ _ (by simp)];exact kQ _ _ _ _
  .rw[aac _ _ _ (by simp),aac _ _ _ (by simp)];exact kP _ _ _ _
  .rw[aac _ _ _ (by simp)]
   exact nX _ _ (by simp)
  .rw[e4]
   exact nX _ _ (by simp)
  .exact(((((aab _ _).alloc (ZL _) _).alloc (by simp) _).alloc (by simp;omega) _).alloc (by simp;omega) _).alloc (by simp;omega) _
 case round=>
  obtain⟨j,hj,rfl,a⟩:=hrel;have t:=av a;obtain⟨b2,η⟩:=blk a.b2;obtain⟨b0,θ⟩:=blk a.b0
  by_cases A:j< (L 0).length
  .have jn:(j:Int)< (L 0).length:=by omega
   obtain⟨x,hx⟩:∃x,(L 0)[j]? =some x:=⟨_,ZT A⟩;obtain⟨g,c,U,y1,K⟩:=HG.out wr.drew a.below.drew 0 (by omega) j x hx;rw[I]at U;cases U;rw[ε.out]at K;obtain⟨y3,y4,y5⟩:=HC.out wr.drew a.below.drew x K;have β:(x:Int)<m.n:=(by omega);have y:=av hx;have o:=blk t.out.drew.b4;have y6:wr.drew.cell? ⟨w.heap.size+1+1+1+1,0,none⟩=some (.int .i64 (lu s.D mask L j 0:Nat)):=(by rw[o.1,yj _ (by omega)]);have α:=o.2 0;have hlen:lu s.D mask L j 0<=j:=yU _ _ _ _ _;have f:=J7 mask (m.N x) hm ⟨y4,y5⟩;have R:IA s.D mask 0 x=has mask (m.N x).toNat:=(by unfold IA;rw[ζ.out]);have b:=av R;clear a hx o R
   by_cases u:has mask (m.N x).toNat=true
   .rw[if_pos u]at f
    have l:=av u;have H2:=av (t.out.drew.inc (q:=0) (by omega));clear u;go_wp2_with fail
    go_region
    go_wp2_with fail;go_roundw
    case rel=>exact⟨j+1,by omega,by go_num,H2.out.congr (λq _=>KJ y.out (b.out.trans l.out) q)⟩
    case measure=>simp[intOf];omega
   .rw[if_neg u]at f
    have l:=av u;clear u;go_wp2_with fail
    go_region
    go_wp2_with fail;go_roundw
    case rel=>exact⟨j+1,by omega,by go_num,t.out.drew.congr (λq _=>Hf y.out (b.out.trans (by simpa using l.out)) q)⟩
    case measure=>simp[intOf];omega
  .have jn:¬(j:Int)< (L 0).length:=by omega
   obtain rfl:j=(L 0).length:=(by omega);clear a;go_wp2_with fail;clear b2 η b0 θ
   go_loopw [11] (λi wr=>∃k:Nat,k<=3/\i=.int .i64 k/\mX w #[.slice (some ⟨cb,0,none⟩) m.n V,.slice ra m.r rc,.int .i64 m.p] #[.slice a0 (s.dn 0) k0,.slice a1 (s.dn 1) k1,.slice a2 (s.dn 2) k2] #[.slice g0 (L 0).length c0,.slice g1 (L 1).length c1,.slice g2 (L 2).length c2,.slice g3 (L 3).length c3] (jb s.D mask L k 0) wr) (λi _=>3-(intOf i).toNat)
   case atStart=>exact⟨0,by omega,rfl,t.out.congr (λq _=>He s.D mask L q)⟩
   case round=>
        clear t;obtain⟨k,hk,rfl,a⟩:=hrel;have t:=av a
        by_cases Q:k<3
        .have kn:(k:Int)<3:=by omega
         have ξ:=HL.out (1+k) (by omega);clear a;go_wp2_with fail
         go_loopw [12] (λi wr=>∃i':Nat,i'<=(L (1+k)).length/\i=.int .i64 i'/\mX w #[.slice (some ⟨cb,0,none⟩) m.n V,.slice ra m.r rc,.int .i64 m.p] #[.slice a0 (s.dn 0) k0,.slice a1 (s.dn 1) k1,.slice a2 (s.dn 2) k2] #[.slice g0 (L 0).length c0,.slice g1 (L 1).length c1,.slice g2 (L 2).length c2,.slice g3 (L 3).length c3] (jb s.D mask L k i') wr) (λi _=>(L (1+k)).length-(intOf i).toNat)
         case atStart=>exact⟨0,by omega,rfl,t.out⟩
         case round=>
          clear t;obtain⟨j,hj,rfl,a⟩:=hrel;have t:=av a
          obtain⟨Z,gc,U⟩:∃Z gc,G (1+k)=.slice Z (L (1+k)).length gc:=by
           obtain rfl|rfl|rfl:k=0\/k=1\/k=2:=by omega
           .exact⟨_,_,H⟩
           .exact⟨_,_,F⟩
           .exact⟨_,_,E⟩
          have B:=blk a.b2;rw[<-I,<-H,<-F,<-E]at B;have x0:wr.cell? ⟨w.heap.size+1+1,1+k,none⟩=some (.slice Z (L (1+k)).length gc):=(by rw[B.1,nZ G (by omega),U]);have μ:wr.drew.cell? ⟨w.heap.size+1+1,1+k,none⟩=some (.slice Z (L (1+k)).length gc):=x0;clear B
          by_cases A:j< (L (1+k)).length
          .have xn:(j:Int)< (L (1+k)).length:=by omega
           obtain⟨x,hx⟩:∃x,(L (1+k))[j]? =some x:=⟨_,ZT A⟩;obtain⟨g,c,T,y1,K⟩:=HG.out wr.drew a.below.drew (1+k) (by omega) j x hx;rw[U]at T;cases T
           have γ:x<s.dn k:=by
            have:Q0 s.D (1+k)=s.dn k:=(by unfold Q0;rw[if_neg (by omega),show 1+k-1=k by omega];rfl);rw[this]at K;exact K
           have β:(x:Int)<s.dn k:=(by omega);obtain⟨gd,cd,ed,y3,y4,y5⟩:=HD.out wr.drew a.below.drew k Q x γ;have C:=blk a.b1;rw[<-e0,<-e1,<-e2]at C;have x1:wr.drew.cell? ⟨w.heap.size+1,k,none⟩=some (.slice (some ⟨gd,0,none⟩) (s.dn k) cd):=(show wr.cell? _=_ by rw[C.1,oJ d Q,ed]);have o:=blk t.out.drew.b4;have y6:wr.drew.cell? ⟨w.heap.size+1+1+1+1,1+k,none⟩=some (.int .i64 (jb s.D mask L k j (1+k):Nat)):=(by rw[o.1,yj _ (by omega)]);have α:=o.2 (1+k);have hlen:jb s.D mask L k j (1+k)<=j:=(by rw[nE];exact yU _ _ _ _ _);have f:=J7 mask (s.dN k x) hm ⟨y4,y5⟩
           have b:Hid (IA s.D mask (1+k) x=has mask (s.dN k x).toNat):=by
            unfold IA bG;rw[if_neg (by omega),show 1+k-1=k by omega];exact av rfl
           have y:=av hx;clear a hx o C K
           by_cases u:has mask (s.dN k x).toNat=true
           .rw[if_pos u]at f
            have l:=av u;have H2:=av (t.out.drew.inc (q:=1+k) (by omega));clear u;go_wp2_with fail
            go_region
            go_wp2_with fail;go_roundw
            case rel=>exact⟨j+1,by omega,by go_num,H2.out.congr (λq _=>MF y.out (b.out.trans l.out) q)⟩
            case measure=>simp[intOf];omega
           .rw[if_neg u]at f
            have l:=av u;clear u;go_wp2_with fail
            go_region
            go_wp2_with fail;go_roundw
            case rel=>exact⟨j+1,by omega,by go_num,t.out.drew.congr (λq _=>KI y.out (b.out.trans (by simpa using l.out)) q)⟩
            case measure=>simp[intOf];omega
          .have xn:¬(j:Int)< (L (1+k)).length:=by omega
           obtain rfl:j=(L (1+k)).length:=(by omega);clear a;go_wp2_with fail;go_roundw
           case rel=>exact⟨k+1,by omega,by go_num,t.out.congr (λq _=>KH s.D mask L k q)⟩
           case measure=>simp[intOf];omega
        .have kn:¬(k:Int)<3:=by omega
         obtain rfl:k=3:=(by omega);obtain⟨y4,ι⟩:=blk a.b4;obtain⟨y3,κ⟩:=blk a.b3;unfold o8 at y4;clear a;go_wp2_with fail;have z3:=aD (i:=3) (.int .i64 (jb s.D mask L 3 0 3:Nat)) (aD (i:=2) (.int .i64 (jb s.D mask L 3 0 2:Nat)) (aD (i:=1) (.int .i64 (jb s.D mask L 3 0 1:Nat)) (aD (i:=0) (.int .i64 (jb s.D mask L 3 0 0:Nat)) t.out.b3)));simp only[ZN,ZR,ZS]at z3;obtain⟨z,_⟩:=blk z3;have hle:∀i,w.heap.size<=(⟨w.heap.size+1+1+1,i,none⟩:Addr).block:=λ_=>by show w.heap.size<=w.heap.size+1+1+1;omega
         refine bodyPost_ret (v:=.agg (o8 (jb s.D mask L 3 0))) ?_ rfl ⟨?_,(((t.out.below.setCell (hle 0) _).setCell (hle 1) _).setCell (hle 2) _).setCell (hle 3) _⟩
         .simp[results,results14,go_sem,z,o8]
         .have:o8 (jb s.D mask L 3 0)=o8 λq=>kU s.D mask q (L q) (L q).length:=by
           unfold o8;rw[qP _ _ _ 0 (by omega),qP _ _ _ 1 (by omega),qP _ _ _ 2 (by omega),qP _ _ _ 3 (by omega)]
          rw[this]
end Z
