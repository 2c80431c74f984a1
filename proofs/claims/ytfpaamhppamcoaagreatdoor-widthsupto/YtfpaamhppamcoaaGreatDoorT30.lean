/- Part 30 of the proof. -/
import Derived.Test.YtfpaamhppamcoaaGreatDoorT29
import Derived.Test.YtfpaamhppamcoaaGreatDoorProg
import Derived.Lib.Bytealg
import Derived.ProofKit
import Derived.SizedLaws
import Derived.Deep.Slices
import Derived.JoinedOf
import Derived.KernelRfl
set_option linter.all false
set_option maxRecDepth 100000
set_option maxHeartbeats 60000000
namespace Go.Proofs.YtfpaamhppamcoaaGreatDoor
open Go.Proofs.Tryz
section
open Go.RowKit
theorem KC {w:World}{B}{x0 x1 x2}(v0 v1 v2)(c:w.cell? ⟨B,0,none⟩=some x0)(b:w.cell? ⟨B,1,none⟩=some x1)(a:w.cell? ⟨B,2,none⟩=some x2):
 (((w.setCell ⟨B,0,none⟩ v0).setCell ⟨B,1,none⟩ v1).setCell ⟨B,2,none⟩ v2).cell? ⟨B,0,none⟩=some v0/\(((w.setCell ⟨B,0,none⟩ v0).setCell ⟨B,1,none⟩ v1).setCell ⟨B,2,none⟩ v2).cell? ⟨B,1,none⟩=some v1/\
 (((w.setCell ⟨B,0,none⟩ v0).setCell ⟨B,1,none⟩ v1).setCell ⟨B,2,none⟩ v2).cell? ⟨B,2,none⟩=some v2:=by
 refine⟨?_,?_,?_⟩
 .rw[World.cell?_setCell_other _ _ _ _ (by simp),World.cell?_setCell_other _ _ _ _ (by simp),World.cell?_setCell_same _ _ _ c]
 .rw[World.cell?_setCell_other _ _ _ _ (by simp)]
  exact World.cell?_setCell_same _ _ _ ((World.cell?_setCell_other _ _ _ _ (by simp)).trans b)
 .exact World.cell?_setCell_same _ _ _ ((World.cell?_setCell_other _ _ _ _ (by simp)).trans ((World.cell?_setCell_other _ _ _ _ (by simp)).trans a))
theorem blk {w:World}{k}{cs}{t}(h:w.heap[k]? =some (.cells cs t (0,0))):(∀j,w.cell? ⟨k,j,none⟩=cs[j]?)/\(∀j,w.frozen? ⟨k,j,none⟩=false):=
 ⟨λj=>cell_of_row w k j cs t (0,0) h,λj=>frozen_of_row w k j cs t h⟩
theorem aD {w:World}{k i}{cs}{t}(v)(h:w.heap[k]? =some (.cells cs t (0,0))):(w.setCell ⟨k,i,none⟩ v).heap[k]? =some (.cells (cs.setIfInBounds i v) t (0,0)):=heap_setCell_same w k i cs t v h
theorem dP {w:World}{k}{a}{o}(v)(h:w.heap[k]? =o)(b:k≠a.block):(w.setCell a v).heap[k]? =o:=(heap_setCell_other w a k v b).trans h
theorem Tryz.info22:(prog.info? 81).map (λi=>(i.zero,i.size,i.bytes))=some (some (.agg #[.int .i64 0,.int .i64 0,.int .i64 0]),3,24):=by kernel_rfl
theorem Tryz.gQ:(prog.info? 3).map (λi=>(i.zero,i.size,i.bytes))=some (some (.int .i64 0),1,8):=by kernel_rfl
attribute [local go_sem ↓] Go.wp_at_zero Go.wp_at_succ
attribute [local go_sem] After.cell After.frozen After.const
def bW (S N C:Nat->Int)(j:Nat):Value:=.int .i64 (if j%3=0 then S (j/3)else if j%3=1 then N (j/3)else C (j/3))
theorem Bu (S N C)(i):bW S N C (i*3)=.int .i64 (S i):=by
 unfold bW;rw[show i*3%3=0 by omega,show i*3/3=i by omega];rfl
theorem Bt (S N C)(i):bW S N C (i*3+1)=.int .i64 (N i):=by
 unfold bW;rw[show(i*3+1)%3=1 by omega,show(i*3+1)/3=i by omega];rfl
theorem Br (S N C)(i):bW S N C (i*3+2)=.int .i64 (C i):=by
 unfold bW;rw[show(i*3+2)%3=2 by omega,show(i*3+2)/3=i by omega];rfl
def hC (m:cz)(j:Nat):Value:=if j<m.n*3 then bW m.S m.N m.C j else .int .i64 (-5)
def hR (m:cz)(j:Nat):Value:=if j<m.r then .int .i64 (m.R j)else .int .i64 (-5)
def NB (v:Value):Prop:=(∃k n,v=.int k n)\/∃b,v=.bool b
def Flat (w:World)(v:Value):Prop:=∀g,v.ownBlock=some g->∃cur e,w.heap[g]? =some (.cells cur e (0,0))/\∀u∈cur.toList,NB u
theorem jg {P}(w)(base)(t ty e)(i)(z)(size bytes)(C:P.underlying t=some (.slice e))(F:P.info? e=some i)(H:i.zero=some z)
 (f:i.size=size)(s:i.bytes=bytes)(A:z.cells.size=size)(D:0<size)(B:∀u∈z.cells.toList,NB u)
 (g)(y:w.heap[g]? =some (.cells #[] e (0,0)))(hb:base<=g)
 (a)(m c)(news)(hl:news.length=m*size)(l:∀j u,news[j]? =some u->w.cell? (a.add j)=some u)(I:∀u∈news,NB u)
 (G:m<=maxLen)(d:m*bytes<=140737488355328):
 ∃v' w',(Builtin.append_ #[t,t] ty #[.slice (some ⟨g,0,none⟩) 0 0,.slice (some a) m c]).run P w=.ok v' w'/\w'.ownsRow base e size v' m news/\w.grownBy w' (some g)/\Flat w' v':=by
 have K:g<w.heap.size:=(ZK.1 y).1
 have r:∀u∈news,u.oneCell'=true:=λu hu=>by
  rcases I u hu with⟨k,n,rfl⟩|⟨b,rfl⟩<;>rfl
 have q:w.ownsRow base e size (.slice (some ⟨g,0,none⟩) 0 0) 0 []:=⟨by simp,.inr ⟨g,0,#[],rfl,hb,y,ZL _,by unfold maxLen;omega,by simp,by simp⟩⟩;obtain⟨v',w',p,M,L,_⟩:=run_append_own (P:=P) w base t ty e i z size bytes C F H f s A D _ 0 [] q a m c news hl l r (by omega) (by rw[Z8];exact d) (by omega);refine⟨v',w',p,by simpa using M,L,?_⟩;subst f;subst s;have v:m<=9223372036854775807:=by simp only[maxLen]at G;omega
 by_cases hm:m=0
 .subst hm
  have J:news=[]:=List.eq_nil_of_length_eq_zero (by simpa using hl);subst J;have o:=run_append_room (P:=P) w t ty e i C F g 0 0 #[] y a 0 c [] (by simp) (λj u h=>by simp at h) (λu h=>by simp at h) (ZL _) (by simp);rw[o]at p;cases p;intro k E;cases E;refine⟨_,e,setRow_heap w g #[] _ e _ y,λu hu=>by simp at hu⟩
 .have o:=run_append_grow (P:=P) w t ty e i z C F H ⟨g,0,none⟩ 0 0 [] (by simp) (λj u h=>by simp at h) a m c news hl l (by omega) (by omega) (growslice_fits (by omega) (by rw[Z8];exact d))
  rw[o]at p;cases p;intro k E;cases E;refine⟨_,e,heap_alloc_new w.drew _,λu hu=>?_⟩;have hu:(u∈([]:List Value)\/u∈news)\/u∈(Builtin.zeroCells z.cells (grownCap w (0+m) 0 e-(0+m))).toList:=by simpa using hu
  rcases hu with(hu|hu)|hu
  .cases hu
  .exact I u hu
  .simp only[Builtin.zeroCells]at hu
   simp at hu;obtain⟨x,hx,rfl⟩:=hu;have hp:x%z.cells.size<z.cells.size:=Nat.mod_lt _ (by omega);refine B _ ?_;rw[getElem!_pos z.cells _ hp];exact(by simp)
theorem eX {P}{w}{ops}{rest}{o}{ac}{Q}(n:o.guard=none)(s x)(t)
 (A:o.op=.call {callee:=.builtin .append,args:= #[s,x],argTypes:= #[t,t]})
 (base)(e)(i)(z)(size bytes)(v:P.underlying t=some (.slice e))(B:P.info? e=some i)(r:i.zero=some z)
 (b:i.size=size)(p:i.bytes=bytes)(f:z.cells.size=size)(l:0<size)(k:∀u∈z.cells.toList,NB u)
 (g)(hs:ac.eval s=.slice (some ⟨g,0,none⟩) 0 0)(C:w.heap[g]? =some (.cells #[] e (0,0)))(hb:base<=g)
 (ad)(m c)(news)(hx:ac.eval x=.slice (some ad) m c)(hl:news.length=m*size)(d:∀j u,news[j]? =some u->w.cell? (ad.add j)=some u)(H:∀u∈news,NB u)
 (q:m<=maxLen)(a:m*bytes<=140737488355328)
 (h:∀v' w',w'.ownsRow base e size v' m news->w.grownBy w' (some g)->Flat w' v'->wpList P ops Q rest (ac.put o.dst v') w'):wpList P ops Q (o::rest) ac w:=
 wpList_plain n λ_ D=>by
  obtain⟨v',w',y,G,F,E⟩:=jg (P:=P) w base t o.type e i z size bytes v B r b p f l k g C hb ad m c news hl d H q a;unfold Oper.wp execOp;simp only[A,resolve,invoke,builtin,Sem.run_bind,Sem.run_pure,Result.andThen_ok,List.map_toArray,List.map_cons,List.map_nil,hs,hx,y];exact D _ _ (h v' w' G F E)
theorem Xc:∀u∈(Value.agg #[.int .i64 0,.int .i64 0,.int .i64 0]).cells.toList,NB u:=λu hu=>by
 simp[Value.cells]at hu;subst hu;exact .inl ⟨_,_,rfl⟩
theorem uN (b o n cap)(xs)(w)(t:n*24<=140737488355328)(hl:xs.length=n*3)(hx:∀j u,xs[j]? =some u->w.cell? ⟨b,o+j,none⟩=some u)(p:∀u∈xs,NB u):
 Calls prog 95 #[.slice (some ⟨b,o,none⟩) n cap] w λe w'=>∃v,e=.returned v/\w'.ownsRow w.heap.size 81 3 v n xs/\Flat w' v/\Below w.heap.size w w':=by
 have heq:=fun(W:World)=>Lib.run_eql_slice_nil (P:=prog) W 22 81 (some ⟨b,o,none⟩) n cap 0 0 underlying22
 obtain⟨i,r,l,h,g⟩:=info_parts Tryz.info22;have hu:=underlying22;have d:∀j u,xs[j]? =some u->(w.alloc (.cells #[] 81)).cell? ((⟨b,o,none⟩:Addr).add j)=some u:=λj u m=>by rw[Addr.add_lit,World.cell?_alloc_past _ _ _ (block_lt_of_cell (hx j u m))];exact hx j u m
 have s:Hid (∀j u,xs[j]? =some u->(w.alloc (.cells #[] 81)).cell? ((⟨b,o,none⟩:Addr).add j)=some u):=d;have H1:Hid (∀u∈xs,NB u):=p;clear hx d p
 go_enter func95,ntmps95
 go_wp2_with(at_builtin;go_loud(refine eX rfl _ _ _ rfl w.heap.size 81 i _ 3 24 hu r l h g (by rfl) (by omega) Xc w.heap.size (by rfl) (heap_alloc_new _ _) (ZL _) ⟨b,o,none⟩ n cap xs (by rfl) hl s.out H1.out (by unfold maxLen;omega) (by omega) ?_);intro v' w1 f a c);go_ret;exact⟨_,rfl,f,c,((Below.refl _ _).alloc (ZL _) _).grown a (by simp) (λk q=>by cases q;exact ZL _)⟩
theorem aj {w:World}{base}{e}{size}{v}{n}{xs}(h:w.ownsRow base e size v n xs):∃ao cap,v=.slice ao n cap:=by
 rcases h.2 with⟨b,rfl⟩|⟨g,cap,cur,a,_⟩
 .exact⟨_,_,b⟩
 .exact⟨_,_,a⟩
theorem au {w w'}{base}{e}{size}{v}{n}{xs}(h:w.ownsRow base e size v n xs)(hb:Below w.heap.size w w'):w'.ownsRow base e size v n xs:=by
 refine⟨h.1,?_⟩;rcases h.2 with d|⟨g,cap,cur,b,c,a,r⟩
 .exact .inl d
 .exact .inr ⟨g,cap,cur,b,c,by rw[hb.block g (ZK.1 a).1];exact a,r⟩
theorem aB {w:World}{base a}{e}{size}{v}{n}{xs}(h:w.ownsRow base e size v n xs)(hb:a<=base):w.ownsRow a e size v n xs:=by
 refine⟨h.1,?_⟩;rcases h.2 with d|⟨g,cap,cur,b,c,r⟩
 .exact .inl d
 .exact .inr ⟨g,cap,cur,b,ZP hb c,r⟩
def oq (m:cz):List Value:=(List.range (m.n*3)).map (bW m.S m.N m.C)
def vk (m:cz):List Value:=(List.range m.r).map (λj=>.int .i64 (m.R j))
def Ints (w:World)(v:Value)(n:Nat)(R:Nat->Int):Prop:=∃ao cap,v=.slice ao n cap/\n<=cap/\n<=9223372036854775807/\(0<n->∃b o,ao=some ⟨b,o,none⟩/\gM w b o n R)
theorem Ints.ext {w w'}{v}{n}{R}(h:Ints w v n R)(hb:Below w.heap.size w w'):Ints w' v n R:=by
 obtain⟨ao,cap,rfl,e,d,c⟩:=h;refine⟨ao,cap,rfl,e,d,λf=>?_⟩;obtain⟨b,o,rfl,a⟩:=c f;exact⟨b,o,rfl,a.ext hb⟩
theorem sS (v)(n)(R)(x)(w)(h:Ints w v n R):
 Calls prog 166 #[v,.int .i64 x] w λe w'=>(∃q:Int,e=.returned (.int .i64 q)/\(0<=q↔among R n x))/\w'=w:=by
 obtain⟨ao,cap,rfl,hc,hm,g⟩:=h
 go_enter func166,ntmps166
 go_wp2
 go_loop [8] (λi=>∃k:Nat,k<=n/\i=.int .i64 k/\∀j,j<k->R j≠x) (λi=>n-(intOf i).toNat)
 case atStart=>exact⟨0,by omega,rfl,λj f=>absurd f (ZV _)⟩
 case round=>
  obtain⟨k,s,rfl,a⟩:=hrel;have m:Hid (∀j,j<k->R j≠x):=a;clear a
  by_cases c:k<n
  .obtain⟨b,o,rfl,d⟩:=g (by omega)
   have u0:=d k c;have r:(k:Int)<n:=(by omega);clear d g
   by_cases he:x=R k
   .have l:Hid (x=R k):=he
    have p:(x==R k)=true:=(by simp[he]);clear he;go_wp2;go_ret;exact⟨⟨k,rfl,by simp;exact⟨k,c,l.out.symm⟩⟩,rfl⟩
   .have l:Hid (x≠R k):=he
    have p:(x==R k)=false:=(by simp[he]);clear he;go_wp2;go_round
    case rel=>exact⟨k+1,by omega,by go_num,λj f=>by
     rcases Nat.lt_succ_iff_lt_or_eq.1 f with h|h
     .exact m.out j h
     .subst h;exact λe=>l.out e.symm⟩
    case measure=>simp[intOf];omega
  .have:k=n:=by omega
   subst this;clear g;go_wp2;go_ret;exact⟨⟨-1,rfl,by simp;exact fun⟨i,d,he⟩=>m.out i d he⟩,rfl⟩
theorem fT (v)(n)(R)(x)(w)(h:Ints w v n R):
 Calls prog 129 #[v,.int .i64 x] w λe w'=>lg (among R n x) e/\w'=w:=by
 go_enter func129,ntmps129
 go_wp2_with(go_at_call 166;refine(sS v n R x _ h).mono ?_;rintro e w1 ⟨⟨q,rfl,a⟩,rfl⟩);go_ret;exact⟨⟨_,rfl,by simpa using a⟩,rfl⟩
def lY (m:cz)(i:Nat):Bool:=(List.range m.r).any (λj=>m.R j==(i:Int))
theorem lz (m)(i):lY m i=true↔among m.R m.r (i:Int):=by
 unfold lY among;rw[List.any_eq_true];constructor
 .rintro⟨j,a,he⟩
  exact⟨j,Z9.1 a,by simpa using he⟩
 .rintro⟨j,a,he⟩
  exact⟨j,Z9.2 a,by simpa using he⟩
def bS (m:cz)(k:Nat):List Nat:=(List.range k).filter (λi=> !lY m i)
def jc (m:cz)(k:Nat):List Value:=(bS m k).map (λi:Nat=>Value.int .i64 (i:Int))
theorem oQ {m}{k}(h:lY m k=false):bS m (k+1)=bS m k++[k]:=by
 unfold bS;rw[Z6,List.filter_append];simp[h]
theorem mh {m}{k}(h:lY m k=true):bS m (k+1)=bS m k:=by
 unfold bS;rw[Z6,List.filter_append];simp[h]
theorem rD (m)(k):(bS m k).length<=k:=by
 unfold bS;exact ZP (List.length_filter_le _ _) (by simp)
theorem ny (m)(vc vr)(y)(x)(w)(C:vc=.slice y m.n x)(Q:m.n<=24)(G:Ints w vr m.r m.R):
 Calls prog 117 #[.agg #[vc,vr,.int .i64 m.p]] w λe w'=>∃v,e=.returned v/\w'.ownsRow w.heap.size 3 1 v (bS m m.n).length (jc m m.n)/\Below w.heap.size w w':=by
 subst C;have o:=G;obtain⟨ra,rc,rfl,_⟩:=G;obtain⟨i0,M,B,A,z⟩:=info_parts Tryz.gQ;have hu:=underlying23;have I:Hid (Ints w (.slice ra m.r rc) m.r m.R):=o;clear o;obtain⟨f,d⟩:∃f,f=w.alloc (.cells #[.slice y m.n x,.slice ra m.r rc,.int .i64 m.p] 25):=⟨_,rfl⟩;have l:f.heap.size=w.heap.size+1:=by rw[d];simp
 have t:Below w.heap.size w f:=by rw[d];exact(Below.refl _ _).alloc (ZL _) _
 have F:f.heap[w.heap.size]? =some (.cells #[.slice y m.n x,.slice ra m.r rc,.int .i64 m.p] 25 (0,0)):=by rw[d];exact heap_alloc_new _ _
 have D:Hid (Below w.heap.size w f/\f.heap[w.heap.size]? =some (.cells #[.slice y m.n x,.slice ra m.r rc,.int .i64 m.p] 25 (0,0))/\f.heap.size=w.heap.size+1):=⟨t,F,l⟩
 go_enter func117,ntmps117
 go_wp2_with fail;rw[<-d];clear d t F l
 go_loopw [3,8] (λv i wr=>∃k:Nat,k<=m.n/\i=.int .i64 k/\wr.ownsRow (w.heap.size+1) 3 1 v (bS m k).length (jc m k)/\Below (w.heap.size+1) f wr) (λ_ i _=>m.n-(intOf i).toNat)
 case atStart=>exact⟨0,by omega,rfl,World.ownsRow_nil _ _ _ _,Below.refl _ _⟩
 case round=>
  obtain⟨k,S,rfl,b,hb⟩:=hrel;have P:w.heap.size+1<=wr.heap.size:=by have:=hb.size;have:=D.out.2.2;omega
  have E:=(hb.block w.heap.size (by omega)).trans D.out.2.1;have s:Below w.heap.size w wr:=D.out.1.trans (hb.mono (by omega));have g:Hid (wr.ownsRow (w.heap.size+1) 3 1 u3 (bS m k).length (jc m k)/\Below (w.heap.size+1) f wr/\Below w.heap.size w wr):=⟨b,hb,s⟩;obtain⟨O,J⟩:=blk E;have hlen:=rD m k;clear E hb s b
  by_cases L:k<m.n
  .by_cases a:lY m k=true
   .go_wp2_with(go_at_call 129;refine(fT (.slice ra m.r rc) m.r m.R k _ (I.out.ext g.out.2.2)).mono ?_;rintro e w1 ⟨he,rfl⟩;obtain rfl:=he.fP ((lz m k).1 a);clear he)
    go_roundw
    case rel=>exact⟨k+1,by omega,by go_num,by unfold jc;rw[mh a];exact g.out.1,g.out.2.1⟩
    case measure=>simp[intOf];omega
   .have j:lY m k=false:=by simpa using a
    have N:Hid (¬among m.R m.r (k:Int)):=λh=>a ((lz m k).2 h)
    clear a
    go_wp2_with(first
     |(go_at_call 129;refine(fT (.slice ra m.r rc) m.r m.R k _ (I.out.ext g.out.2.2)).mono ?_;rintro e w1 ⟨he,hw⟩;obtain rfl:=hw.symm;obtain rfl:=he.gJ N.out;clear he)
     |(at_builtin;refine wpList_append_own _ rfl _ _ _ rfl (w.heap.size+1) 3 i0 _ 1 8 hu M B A z rfl (by omega) _ (bS m k).length (jc m k) rfl (g.out.1.alloc _) ⟨wr.heap.size,0,none⟩ 1 1 [.int .i64 k] rfl rfl (cell_one_new _ _ _) (by intro u hu;simp at hu;subst hu;rfl) (by unfold maxLen;omega) (by omega) (by simp;omega) ?_;intro v' w1 b c _))
    have H:Hid (w1.ownsRow (w.heap.size+1) 3 1 v' (bS m (k+1)).length (jc m (k+1))/\Below (w.heap.size+1) f w1):=by
     refine⟨?_,(g.out.2.1.alloc (by omega) _).grown c (by simp;omega) (λq K=>(g.out.1.lt q K).1)⟩;unfold jc;rw[oQ j];simpa[jc] using b
    clear b c;go_wp2;go_roundw
    case rel=>exact⟨k+1,by omega,by go_num,H.out.1,H.out.2⟩
    case measure=>simp[intOf];omega
  .have:k=m.n:=by omega
   rw[this]at g;go_wp2_with fail;go_ret;exact⟨_,rfl,aB g.out.1 (by omega),g.out.2.2⟩
theorem Tryz.JS:(prog.info? 9).map (λi=>(i.zero,i.size,i.bytes))=some (some (.string ByteArray.empty),1,16):=by kernel_rfl
def BK (L:Nat)(u:Value):Prop:=∃s:ByteArray,u=.string s/\s.size<=L
def zA (w:World)(A:Nat->Option Addr)(N C:Nat->Nat)(R:Nat->Nat->Int):Prop:=∀q,q<4->Ints w (.slice (A q) (N q) (C q)) (N q) (R q)
theorem zA.ext {w w'}{A}{N C}{R}(h:zA w A N C R)(hb:Below w.heap.size w w'):zA w' A N C R:=λq a=>(h q a).ext hb
end
section
open Go
section
variable (T:Tables)(f g:Array Func)
theorem uw (t):(Program.mk T g).packed t=(Program.mk T f).packed t:=by
 unfold Program.packed Program.packedAs;rw[lU T f g];simp only[qd T f g];rfl
theorem ll:∀(d:Nat) (t:TypeId),(Program.mk T g).holdsPacked d t=(Program.mk T f).holdsPacked d t
 |0,_=>rfl
 |d+1,t=>by
  unfold Program.holdsPacked;rw[bz T f g,uw T f g];simp only[ll d]
end
section
variable {st:Prop}{P Q:Program}{K:Nat->Prop}{p:Rel st}
structure rX (P Q:Program):Prop where
 packed:∀t,Q.packed t=P.packed t
 holds:∀t,Q.holdsPacked Q.depth t=P.holdsPacked P.depth t
 handle:∀v,handleType Q v=handleType P v
theorem af.noPack (h:rX P Q)(s)(t):af P Q K p (Extern.Rtype.noPack s t) (Extern.Rtype.noPack s t) (λ_ _ _=>True):=by
 unfold Extern.Rtype.noPack;refine af.bind af.program λq a b _ e=>?_
 rw[e.1,e.2,h.packed];split
 .exact af.halt
 .exact af.pure trivial
theorem af.noPackHeld (h:rX P Q)(s)(t):af P Q K p (Extern.Rtype.noPackHeld s t) (Extern.Rtype.noPackHeld s t) (λ_ _ _=>True):=by
 unfold Extern.Rtype.noPackHeld;refine af.bind af.program λq a b _ e=>?_
 rw[e.1,e.2];refine af.bind af.program λq a b _ e=>?_
 rw[e.1,e.2,h.holds];split
 .exact af.halt
 .exact af.pure trivial
theorem af.ofRtype (h:rX P Q)(c):af P Q K p (Extern.ReflectliteType.ofRtype c) (Extern.ReflectliteType.ofRtype c) (λ_ a b=>a=b):=by
 cases c with
 |agg xs=>
  obtain⟨l⟩:=xs
  match l with
  |[]=>exact ag.bR (ag.halt _)
  |x::y::r=>exact ag.bR (ag.halt _)
  |[x]=>
   refine af.bind (s:=Extern.Rtype.ofHandle x) (t:=Extern.Rtype.ofHandle x) (A:=λ_ a b=>a=b) ?_ λq a b _ e=>?_
   .unfold Extern.Rtype.ofHandle
    refine af.bind af.program λq a b _ e=>?_
    rw[e.1,e.2,h.handle];cases handleType P x with
    |none=>exact af.halt
    |some t=>exact af.pure rfl
   .subst e
    exact af.bind (af.noPack h _ _) λq _ _ _ _=>af.pure rfl
 |_=>exact ag.bR (ag.halt _)
theorem af.Eu (h:rX P Q){f}(hf:∀(q:Rel st) (t:TypeId),af P Q K q (f t) (f t) (λq a b=>VR q a b))(c):af P Q K p (Extern.ReflectliteType.method f #[c]) (Extern.ReflectliteType.method f #[c]) (λq a b=>VR q a b):=by
 refine af.bind (s:=Extern.ReflectliteType.ofRtype c) (t:=Extern.ReflectliteType.ofRtype c) (A:=λ_ a b=>a=b) (af.ofRtype h c) λq a b _ e=>?_
 subst e;exact hf q a
end
theorem Aa (L)(P)(t):P.packed t=(patch L P).packed t:=uw P.toTables _ P.funcs t
theorem Cz (L)(P)(d)(t):P.holdsPacked d t=(patch L P).holdsPacked d t:=ll P.toTables _ P.funcs d t
theorem EB (L)(P):rX (patch L P) P:=⟨Aa L P,λt=>by rw[Ez];exact Cz L P _ t,λv=>rfl⟩
theorem MM:rX (patch ae prog) prog:=EB _ _
theorem JG:rX (patch ae prog) (patch ae prog):=⟨λ_=>rfl,λ_=>rfl,λ_=>rfl⟩
theorem yT:∃f,Extern.ReflectliteType.rows.lookup "(internal/reflectlite.rtype).Comparable" =some (Extern.ReflectliteType.method f)/\
 ∀(st:Prop) (P Q:Program) (K:Nat->Prop) (p:Rel st) (t:TypeId),rX P Q->af P Q K p (f t) (f t) (λq a b=>VR q a b):=by
 refine⟨_,rfl,λst P Q K p t h=>?_⟩;refine af.bind (af.noPackHeld h _ _) λq _ _ _ _=>?_
 refine af.bind (af.typeInfo t) λc i j _ e=>?_
 obtain⟨rfl,_⟩:=e;exact af.pure (VR.bool _)
theorem jr:∃f,j5 prog 309 (Extern.ReflectliteType.method f)/\
 ∀(st:Prop) (P Q:Program) (K:Nat->Prop) (p:Rel st) (t:TypeId),rX P Q->af P Q K p (f t) (f t) (λq a b=>VR q a b):=by
 obtain⟨f,d,c⟩:=yT;exact⟨f,⟨_,func309,by kernel_rfl,by kernel_rfl,by kernel_rfl,(show Extern.find f309=Extern.ReflectliteType.rows.lookup "(internal/reflectlite.rtype).Comparable" by kernel_rfl).trans d⟩,c⟩
theorem Q6:fU [309] (patch ae prog) prog:=λg b=>by
 obtain rfl:=List.mem_singleton.1 b;obtain⟨f,a,d⟩:=jr;exact⟨_,bL a (by rfl),a,λ_ _ _ c=>af.Eu MM (λq t=>d _ _ _ _ q t MM) c⟩
theorem O4:fU [309] (patch ae prog) (patch ae prog):=λg b=>by
 obtain rfl:=List.mem_singleton.1 b;obtain⟨f,a,d⟩:=jr;exact⟨_,bL a (by rfl),bL a (by rfl),λ_ _ _ c=>af.Eu JG (λq t=>d _ _ _ _ q t JG) c⟩
end
namespace Z
open Go.RowKit
theorem Nz (D)(r i)(l)(k):dz D r (i::l) k=dz D r l k+if bG D r i=(k:Int)then 1 else 0:=by
 unfold dz;rw[List.countP_cons]
 by_cases h:bG D r i=(k:Int)<;>simp[h]
def qx (D:BD)(r m:Nat)(l:List Nat):Int:=(l.countP (λi=>has m (bG D r i).toNat):Nat)
theorem Fg (D)(r m i)(l):qx D r m (i::l)=qx D r m l+if has m (bG D r i).toNat=true then 1 else 0:=by
 unfold qx;rw[List.countP_cons]
 by_cases h:has m (bG D r i).toNat=true<;>simp[h]
theorem tZ (D)(r m):∀(l:List Nat),(∀i∈l,0<=bG D r i/\bG D r i<4)->fM (dz D r l) m 4=qx D r m l
 |[],_=>by
  have a:∀k,dz D r [] k=0:=λk=>rfl
  simp[fM,a,qx]
 |i::l,h=>by
  have b:=tZ D r m l λj e=>h j (List.mem_cons_of_mem _ e)
  have f:=h i ZX;rw[Fg,<-b];obtain⟨n,d,c⟩:∃n:Nat,bG D r i=(n:Int)/\n<4:=⟨(bG D r i).toNat,by omega,by omega⟩;simp only[fM,Nz,d,Int.toNat_natCast];obtain rfl|rfl|rfl|rfl:n=0\/n=1\/n=2\/n=3:=by omega
  all_goals
   cases a:has m 0<;>cases p:has m 1<;>cases o:has m 2<;>cases g:has m 3<;>simp<;>omega
end Z
section
open Go Go.RowKit
theorem kL {P}(w)(p q ty elem)(g o c h)(a)(b d)(cur)(t)(cs)(k m)
 (hu:P.underlying p=some (.slice elem))(hs:(P.info? elem).map (·.size)=some k)
 (u:w.heap[g]? =some (.cells cur t (0,0)))(hm:Nat.min b c=m)(r:cs.length=m*k)
 (e:∀j v,cs[j]? =some v->w.cell? (a.add j)=some v)(f:o+cs.length<=cur.size)(x:∀v∈cs,v.oneCell'=true):
 (Builtin.copy_ #[p,q] ty #[.slice (some ⟨g,o,none⟩) c h,.slice (some a) b d]).run P w=
  .ok (goInt m) (w.setRow g (cur.toList.take o++cs++cur.toList.drop (o+cs.length)).toArray):=by
 have hl:=run_loadCells_list (P:=P) w a cs e;have l:=run_storeCells_at P g o t cs 0 cur w u (by simpa using f) x;cases n:P.info? elem with
 |none=>simp[n]at hs
 |some i=>
  have s:i.size=k:=by simpa[n] using hs
  simp[Builtin.copy_,run_underlying hu,Builtin.lenOf,Builtin.firstCells,sizeOf,typeInfo,n,s,hm,<-r,hl,l]
theorem su {P}{w}{ops}{rest}{o}{a}{Q}(q:o.guard=none)(d s)(r u)
 (x:o.op=.call {callee:=.builtin .copy,args:= #[d,s],argTypes:= #[r,u]})(elem)(k m)(hu:P.underlying r=some (.slice elem))(p:(P.info? elem).map (·.size)=some k)
 (g off c f)(ad)(b e)(hd:a.eval d=.slice (some ⟨g,off,none⟩) c f)(hs:a.eval s=.slice (some ad) b e)
 (cur)(t)(z:w.heap[g]? =some (.cells cur t (0,0)))(cs)(hm:Nat.min b c=m)(y:cs.length=m*k)
 (i:∀j v,cs[j]? =some v->w.cell? (ad.add j)=some v)(n:off+cs.length<=cur.size)(B:∀v∈cs,v.oneCell'=true)
 (h:wpList P ops Q rest (a.put o.dst (goInt m)) (w.setRow g (cur.toList.take off++(cs++cur.toList.drop (off+cs.length))).toArray)):wpList P ops Q (o::rest) a w:=by
 refine wpList_plain q λK A=>?_
 have l:=kL (P:=P) w r u o.type elem g off c f ad b e cur t cs k m hu p z hm y i n B;unfold Oper.wp;simp[execOp,x,resolve,invoke,builtin,hd,hs,l,Result.andThen];exact A _ _ h
theorem jG {P}(w)(n o ty elem)(d a)(c f b e k)(hu:P.underlying n=some (.slice elem))(hs:(P.info? elem).map (·.size)=some k)(l:Nat.min b c=0):
 (Builtin.copy_ #[n,o] ty #[.slice d c f,.slice a b e]).run P w=.ok (goInt 0) w:=by
 cases g:P.info? elem with
 |none=>simp[g]at hs
 |some i=>
  have m:i.size=k:=by simpa[g] using hs
  cases a with
  |none=>cases d<;>simp[Builtin.copy_,run_underlying hu,Builtin.lenOf,Builtin.firstCells,sizeOf,typeInfo,g,m,l,storeCells]
  |some a=>
   have hl:=run_loadCells_list (P:=P) w a [] (λj v h=>by simp at h);simp only[List.length_nil]at hl;cases d<;>simp[Builtin.copy_,run_underlying hu,Builtin.lenOf,Builtin.firstCells,sizeOf,typeInfo,g,m,l,hl,storeCells]
theorem Gv {P}{w}{ops}{rest}{o}{a}{Q}(q:o.guard=none)(d s)(u x)
 (D:o.op=.call {callee:=.builtin .copy,args:= #[d,s],argTypes:= #[u,x]})(elem)(k m)(hu:P.underlying u=some (.slice elem))(i:(P.info? elem).map (·.size)=some k)(F:0<k)
 (A sp)(c f b e)(hd:a.eval d=.slice A c f)(hs:a.eval s=.slice sp b e)
 (g off)(cur)(t)(y:w.heap[g]? =some (.cells cur.toArray t (0,0)))(cs)(hm:Nat.min b c=m)(E:cs.length=m*k)
 (p:0<cs.length->A=some ⟨g,off,none⟩/\∃ad,sp=some ad/\∀j v,cs[j]? =some v->w.cell? (ad.add j)=some v)
 (r:off+cs.length<=cur.length)(H:∀v∈cs,v.oneCell'=true)(B)(C)(hb:Below B C w)(z:B<=g)
 (h:∀w',Hid (w'.heap[g]? =some (.cells (splice cur off cs).toArray t (0,0)))->Below B C w'->(∀k,k≠g->w'.heap[k]? =w.heap[k]?)->wpList P ops Q rest (a.put o.dst (goInt m)) w'):
 wpList P ops Q (o::rest) a w:=by
 by_cases I:cs.length=0
 .obtain rfl:cs=[]:=List.eq_nil_of_length_eq_zero I
  have m0:m=0:=by
   rcases Nat.mul_eq_zero.1 E.symm with h|h<;>omega
  subst m0;refine wpList_plain q λK G=>?_
  have n:=jG (P:=P) w u x o.type elem A sp c f b e k hu i hm;unfold Oper.wp;simp[execOp,D,resolve,invoke,builtin,hd,hs,n,Result.andThen];exact G _ _ (h w (show _=_ by simpa[splice] using y) hb λ_ _=>rfl)
 .obtain⟨rfl,ad,rfl,l⟩:=p (by omega)
  refine su q d s u x D elem k m hu i g off c f ad b e hd hs cur.toArray t y cs hm E l (by simpa using r) H ?_;exact h _ (show _=_ by simpa[splice] using setRow_heap w g _ _ t _ y) (below_setRow hb z _) λk F=>setRow_other w g k _ F
theorem ky {P}{ops}{o}{a}{w}{K}{Q}{E}(x:o.guard=none)(d s)(r u)
 (D:o.op=.call {callee:=.builtin .copy,args:= #[d,s],argTypes:= #[r,u]})(elem)(k m)(hu:P.underlying r=some (.slice elem))(l:(P.info? elem).map (·.size)=some k)(G:0<k)
 (A sp)(c i b e)(hd:a.eval d=.slice A c i)(hs:a.eval s=.slice sp b e)
 (g off)(cur)(t)(y:w.heap[g]? =some (.cells cur.toArray t (0,0)))(cs)(hm:Nat.min b c=m)(F:cs.length=m*k)
 (p:0<cs.length->A=some ⟨g,off,none⟩/\∃ad,sp=some ad/\∀j v,cs[j]? =some v->w.cell? (ad.add j)=some v)
 (q:off+cs.length<=cur.length)(H:∀v∈cs,v.oneCell'=true)(B)(C)(hb:Below B C w)(z:B<=g)
 (h:∀w',Hid (w'.heap[g]? =some (.cells (splice cur off cs).toArray t (0,0)))->Below B C w'->(∀k,k≠g->w'.heap[k]? =w.heap[k]?)->K (a.put o.dst (goInt m)) w'):
 if Region.wanted o (yielded ops a.tmps)=true then Oper.wp P o a w K Q else E:=by
 have hw:Region.wanted o (yielded ops a.tmps)=true:=by simp[Region.wanted,x]
 rw[if_pos hw]
 by_cases I:cs.length=0
 .obtain rfl:cs=[]:=List.eq_nil_of_length_eq_zero I
  have m0:m=0:=by
   rcases Nat.mul_eq_zero.1 F.symm with h|h<;>omega
  subst m0;have f:=jG (P:=P) w r u o.type elem A sp c i b e k hu l hm;unfold Oper.wp;simp[execOp,D,resolve,invoke,builtin,hd,hs,f,Result.andThen];exact h w (show _=_ by simpa[splice] using y) hb λ_ _=>rfl
 .obtain⟨rfl,ad,rfl,n⟩:=p (by omega)
  have f:=kL (P:=P) w r u o.type elem g off c i ad b e cur.toArray t cs k m hu l y hm F n (by simpa using q) H;unfold Oper.wp;simp[execOp,D,resolve,invoke,builtin,hd,hs,f,Result.andThen];exact h _ (show _=_ by simpa[splice] using setRow_heap w g _ _ t _ y) (below_setRow hb z _) λk G=>setRow_other w g k _ G
end
section
open Go
end
namespace Z
open Go.RowKit
attribute [local go_sem ↓] Go.wp_at_zero Go.wp_at_succ
attribute [local go_sem] After.cell After.frozen After.const
def A7 (i:Nat):Int:=if i=0 then 24 else 16
theorem qm (i:Nat)(w):Calls (patch ae prog) 82 #[.int .i64 i] w λe w'=>e=.returned (.int .i64 (A7 i))/\w'=w:=by
 by_cases h:i=0
 .subst h
  go_enter (pf func82 (by rfl)),ntmps82
  go_wp2_with fail;go_ret;exact⟨rfl,rfl⟩
 .have hb:((i:Int)==0)=false:=beq_eq_false_iff_ne.2 (by omega)
  go_enter (pf func82 (by rfl)),ntmps82
  go_wp2_with fail;go_ret;exact⟨by simp[A7,h],rfl⟩
def QC (c:Nat->Int)(k:Nat):Prop:=∀i,i<k->0<=c i/\c i<=A7 i
def BC (c:Nat->Int)(k:Nat):Bool:=(List.range k).any λi=>decide (0<c i)
theorem zi (c)(k):BC c (k+1)=(BC c k||decide (0<c k)):=by
 unfold BC;rw[Z6,List.any_append];simp
def Ut (c:Nat->Int)(k:Nat):Decidable (QC c k):=by unfold QC;infer_instance
def qo (c:Nat->Int):Bool:= @decide (QC c 4) (Ut c 4)&&BC c 4
theorem vz (c)(w):Calls (patch ae prog) 53 #[.agg (aQ c)] w λe w'=>e=.returned (.bool (qo c))/\Below w.heap.size w w':=by
 unfold aQ;have b0:Below w.heap.size w (w.alloc (.cells #[.int .i64 (c 0),.int .i64 (c 1),.int .i64 (c 2),.int .i64 (c 3)] 37)):=(aab _ _).alloc (ZL _) _;have m:=av b0;clear b0
 go_enter (pf func53 (by rfl)),ntmps53
 go_wp2_with fail
 go_loopw [3,7] (λa i wr=>∃k:Nat,k<=4/\i=.int .i64 k/\a=.bool (BC c k)/\QC c k/\wr=w.alloc (.cells #[.int .i64 (c 0),.int .i64 (c 1),.int .i64 (c 2),.int .i64 (c 3)] 37)) (λ_ i _=>4-(intOf i).toNat)
 case atStart=>exact⟨0,by omega,rfl,rfl,λi n=>absurd n (ZV _),rfl⟩
 case round=>
  obtain⟨k,y,rfl,rfl,j,hw⟩:=hrel;have s:=av j;have r:=av hw;rw[<-hw]at m;clear j hw
  by_cases g:k<4
  .have x:(k:Int)<4:=by omega
   have t:=λW=>ym c k g W
   by_cases v:c k<0
   .have l:=av v
    go_wp2_with fail;go_ret
    have f:qo c=false:=by
     unfold qo;have:¬QC c 4:=λh=>by have:=(h k g).1;have:=l.out;omega
     simp[this]
    exact⟨by rw[f];rfl,m.out⟩
   .by_cases q:A7 k<c k
    .have l:=av q
     have u:(c k>A7 k):=q;go_wp2_with(go_at_call 82;refine(qm k _).mono ?_;rintro e w1 ⟨rfl,b⟩;obtain rfl:=b.symm);go_ret
     have f:qo c=false:=by
      unfold qo;have:¬QC c 4:=λh=>by have:=(h k g).2;have:=l.out;omega
      simp[this]
     exact⟨by rw[f];rfl,m.out⟩
    .have l:Hid (0<=c k/\c k<=A7 k):=⟨by omega,by omega⟩
     have d:Hid (QC c (k+1)):=λi n=>by
      rcases Nat.lt_succ_iff_lt_or_eq.1 n with h|rfl
      .exact s.out i h
      .exact l.out
     cases p:BC c k
     .have o:=av p
      go_wp2_with(go_at_call 82;refine(qm k _).mono ?_;rintro e w1 ⟨rfl,b⟩;obtain rfl:=b.symm);go_roundw
      case rel=>exact⟨k+1,by omega,by go_num,by rw[zi,o.out];simp,d.out,r.out⟩
      case measure=>simp[intOf];omega
     .have o:=av p
      go_wp2_with(go_at_call 82;refine(qm k _).mono ?_;rintro e w1 ⟨rfl,b⟩;obtain rfl:=b.symm);go_roundw
      case rel=>exact⟨k+1,by omega,by go_num,by rw[zi,o.out];simp,d.out,r.out⟩
      case measure=>simp[intOf];omega
  .have:k=4:=by omega
   subst this;go_wp2_with fail;go_ret;exact⟨by unfold qo;simp[s.out],m.out⟩
end Z
section
open Go.ChangeShapes Go.WideShapes Go.ChangeAt Go.RowKit Go.Deep Go.Joins
end
section
theorem zS:(Rows.widthsUptoRow.wf (OpenSpec.ofChange Rows.widthsSpec))=true:=by kernel_rfl
theorem zR:(laidOutB prog)=true:=by kernel_rfl
theorem zQ:(mapsRowed prog)=true:=by kernel_rfl
theorem zP:(Tryz.f3.params.all (prog.readableRec ·))=true:=by kernel_rfl
theorem zO:(namedTie prog Rows.widthsUptoRow.named Rows.widthsSpec.vars)=true:=by kernel_rfl
theorem zN:((Rows.widthsUptoRow.stops== []))=true:=by kernel_rfl
theorem zM:((prog.stops== []))=true:=by kernel_rfl
theorem zL:((Rows.widthsUptoRow.knobs== []))=true:=by kernel_rfl
theorem zK:((prog.stopKnobs== []))=true:=by kernel_rfl
theorem zJ:((Rows.widthsUptoRow.inPlace==prog.inPlace 3))=true:=by kernel_rfl
theorem wR:((Rows.widthsUptoRow.unfollowed==prog.unfollowed 3))=true:=by kernel_rfl
theorem wQ:((Rows.widthsUptoRow.recurses==prog.recurses 3))=true:=by kernel_rfl
theorem wP:((Rows.widthsUptoRow.named==prog.varsNamed 3))=true:=by kernel_rfl
theorem wO:((Rows.widthsUptoRow.maps==(Tryz.f3.params.toList++Rows.widthsSpec.plain.varTypes prog).any (prog.mapsRec ·)))=true:=by kernel_rfl
theorem wN:((Rows.widthsUptoRow.ifaces==(Tryz.f3.params.toList++Rows.widthsSpec.plain.varTypes prog).any (prog.ifacesRec ·)))=true:=by kernel_rfl
theorem wM:((Rows.widthsUptoRow.mapsOut==prog.mapsAmong Tryz.f3.resultTypes.toList))=true:=by kernel_rfl
theorem wK:((Rows.widthsUptoRow.loops==(Tryz.f3.params.toList++Rows.widthsSpec.plain.varTypes prog).any (prog.loopsFrom ·)))=true:=by kernel_rfl
theorem wJ:((Rows.widthsUptoRow.wideKeys==(Tryz.f3.params.toList++Rows.widthsSpec.plain.varTypes prog++Tryz.f3.resultTypes.toList).any (prog.wideKeysFrom ·)))=true:=by kernel_rfl
theorem wI:(Rows.widthsSpec.vars.all (prog.varReadable ·))=true:=by kernel_rfl
theorem wH:(Tryz.f3.resultTypes.all (λt=>prog.readableRec t&&decide (t<prog.types.size)))=true:=by kernel_rfl
theorem wG:((Rows.widthsUptoRow.ifacesOut==Tryz.f3.resultTypes.toList.any (prog.ifacesRec ·)))=true:=by kernel_rfl
theorem wF:((Rows.widthsUptoRow.loopsOut==Tryz.f3.resultTypes.toList.any (prog.loopsFrom ·)))=true:=by kernel_rfl
theorem wE:((Rows.widthsUptoRow.plainKeys==prog.plainKeys))=true:=by kernel_rfl
theorem wD:(Rows.widthsUptoRow.shortTexts.isNone)=true:=by kernel_rfl
theorem wC:(prog.stopsHeard)=true:=by kernel_rfl
theorem wB:(prog.mayEnter)=true:=by kernel_rfl
theorem wz:((Rows.widthsUptoRow.lifted==prog.liftsFinal))=true:=by kernel_rfl
theorem wy:((prog.make==some Rows.widthsUptoRow.make))=true:=by kernel_rfl
theorem wu:((Rows.widthsUptoRow.kinds==(if Rows.widthsUptoRow.domain.isEmpty then []else Tryz.f3.params.toList.map λt=>match prog.underlying t with|some (.int k)=>some k|_=>none)))=true:=by kernel_rfl
theorem wo:((Rows.widthsUptoRow.pinned==Rows.widthsUptoRow.pinnedBy))=true:=by kernel_rfl
theorem wm:((Rows.widthsUptoRow.veiled==(Tryz.f3.params.toList++Rows.widthsSpec.plain.varTypes prog++Tryz.f3.resultTypes.toList).any (prog.veiledRec ·)))=true:=by kernel_rfl
theorem wh:(Rows.widthsUptoRow.veiledFits prog Tryz.f3.params.toList (Tryz.f3.params.toList++Rows.widthsSpec.plain.varTypes prog++Tryz.f3.resultTypes.toList))=true:=by kernel_rfl
theorem aG {a b}(c:a=true)(hb:b=true):(a&&b)=true:=by rw[c,hb];rfl
theorem qI:joinedFacts prog 3 Tryz.f3 Rows.widthsSpec Rows.widthsUptoRow=true:=
 aG (aG (aG (aG (aG (aG (aG (aG (aG (aG (aG (aG (aG (aG (aG (aG (aG (aG (aG (aG (aG (aG (aG (aG (aG (aG (aG (aG (aG (aG (aG (zS) zR) zQ) zP) zO) zN) zM) zL) zK) zJ) wR) wQ) wP) wO) wN) wM) wK) wJ) wI) wH) wG) wF) wE) wD) wC) wB) wz) wy) wu) wo) wm) wh
end
