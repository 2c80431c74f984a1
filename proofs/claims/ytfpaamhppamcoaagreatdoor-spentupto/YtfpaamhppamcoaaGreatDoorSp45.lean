/- Part 45 of the proof. -/
import Derived.Test.YtfpaamhppamcoaaGreatDoorSp44
set_option linter.all false
set_option maxRecDepth 100000
set_option maxHeartbeats 60000000
namespace Go.Proofs.YtfpaamhppamcoaaGreatDoor
open Go.Proofs.Tryz
namespace Z
open Go.RowKit
theorem Given.all {D:BD}{m q:Nat}{T:List Nat}(h:Given D m q (gq D q).length T):T=gq D q:=
 rising_eq h.2.1 (frN_sorted D q) (λx hx=>(h.2.2 x hx).1) h.1
theorem has_15:∀k,k<4->has 15 k=true:=by decide
theorem fit_all {D:BD}(a:D.ok){c:Nat->Nat}(h:∀i,i<4->c i<=(gq D i).length):gX (eG D λi=>(c i:Int)) (og D λi=>(c i:Int)) 4 15=true:=by
 unfold gX;rw[ZU];intro i b;have b:=Z9.1 b
 by_cases hc:c i=0
 .have:eG D (λi=>(c i:Int)) i=0:=by unfold eG;exact if_neg (show ¬(0:Int)< (c i:Int) by omega)
  rw[this];rfl
 .have f:og D (λi=>(c i:Int)) i 15=true:=by
   unfold og fitK
   have e:qx D i 15 (gq D i)=(((gq D i).length:Nat):Int):=by
        unfold qx;rw[List.countP_eq_length.2 λj d=>has_15 _ (by have:=frN_node a b j d;omega)]
   rw[tZ D i 15 (gq D i) (frN_node a b),e];simp only[ZQ,decide_eq_true_eq];exact⟨show(0:Int)< (c i:Int) by omega,by decide,show((c i:Nat):Int)<=_ by have:=h i b;omega⟩
  rw[f,Bool.or_true]
theorem chosen_any {L:Nat->Int}{F:Nat->Nat->Bool}(hf:gX L F 4 15=true):gu L F 0≠none:=by
 unfold gu;rw[if_neg (by omega),if_neg (by omega),if_neg (by omega)];intro h;have:=List.find?_eq_none.1 h 15 (by rw[ord_is];simp);unfold isAll at this;simp[hf]at this
theorem frN_gone {s:BS}{p q:Nat}{x:fH}(h:x.T q=gq s.D q):gq (s.ins p x).D q=[]:=by
 rw[List.eq_nil_iff_forall_not_mem];intro i d;have c:=mem_frN d;have hu:i∈dL s.D q:=c.1;refine c.2 ?_
 by_cases b:ownd s.D q i
 .obtain⟨y,hy,a⟩:=of_owned b
  refine owned_of (s:=s.ins p x) (y:=y) ?_ a;rw[<-List.take_append_drop p s.bs]at hy;rcases aaz.1 hy with hy|hy
  .exact aaz.2 (.inl hy)
  .exact aaz.2 (.inr (List.mem_cons_of_mem _ hy))
 .exact owned_of (s:=s.ins p x) (y:=x) (aaz.2 (.inr ZX)) (by rw[h];exact mem_frN_iff.2 ⟨hu,b⟩)
theorem mayB_of {c:Nat->Int}(h:∀i,i<4->0<=c i/\c i<=A7 i)(b:∃q,q<4/\0<c q):qo c=true:=by
 unfold qo;rw[ZQ];refine⟨@decide_eq_true _ (inDec c 4) h,?_⟩;obtain⟨q,a,hc⟩:=b;unfold asksB;rw[List.any_eq_true];exact⟨q,Z9.2 a,decide_eq_true hc⟩
def frC (D:BD)(q:Nat):Int:=((gq D q).length:Nat)
theorem frC_may {D:BD}(a:D.ok)(h:¬∀q,q<4->gq D q=[]):qo (frC D)=true:=by
 refine mayB_of (λi e=>⟨Int.natCast_nonneg _,?_⟩) ?_
 .have g:=frN_in D i
  have k:=mi a e;unfold frC A7
  by_cases b:i=0
  .rw[if_pos b];omega
  .rw[if_neg b]
   have j:=(a.dC (i-1) (by omega)).1;have f:=nL (gq D i) (List.range 16) ((frN_sorted D i).imp λh=>by omega) λx hx=>Z9.2 (by have:=g x hx;rw[if_neg b]at this;omega)
   rw[List.length_range]at f;omega
 .refine Classical.byContradiction λd=>h λq c=>List.length_eq_zero_iff.1 ?_
  have:¬0<frC D q:=λh=>d ⟨q,c,h⟩
  unfold frC at this;omega
theorem natC_fr (D:BD)(q:Nat):aN (frC D) q=(gq D q).length:=by unfold aN frC;omega
theorem cmpN_eq {a b:ByteArray}(h:Dv a b=0):a=b:=by
 obtain⟨⟨l⟩⟩:=a;obtain⟨⟨k⟩⟩:=b;have:l=k:=cmpL_eq0 h;rw[this]
theorem aaw {s:BS}{nm:ByteArray}(h:∀x∈s.bs,x.nm≠nm):¬there s nm:=by
 rintro⟨p,hp⟩;obtain⟨b,a⟩:=hp.2.2.2.1 rfl;rw[M4 b]at a;exact h _ (List.getElem_mem b) (cmpN_eq a)
theorem found_self {l:List fH}{p q:Nat}{t:Bool}(h:l.Pairwise aas)(hp:p<l.length)(hf:jw l.length (mU l) l[p].nm q t):q=p/\t=true:=by
 obtain⟨n,m,k,j⟩:=hf;have f:=List.pairwise_iff_getElem.1 h;have self:∀x:fH,Dv x.nm x.nm=0:=λx=>cmpL_self _
 have e:q=p:=by
  rcases Nat.lt_trichotomy q p with g|e|g
  .have a:=k (by omega)
   rw[M4 (show q<l.length by omega)]at a;have b:Dv l[q].nm l[p].nm<0:=f q p (by omega) hp g;omega
  .exact e
  .have i:q-1<l.length:=by omega
   have a:=m (by omega);rw[M4 i]at a
   by_cases e:q-1=p
   .subst e
    have:=self l[q-1];omega
   .have b:aas l[p] l[q-1]:=f p (q-1) hp i (by omega)
    have c:aas l[p] l[p]:=b.trans a;have d:Dv l[p].nm l[p].nm<0:=c;have:=self l[p];omega
 subst e;exact⟨rfl,j.2 ⟨hp,by rw[M4 hp];exact self _⟩⟩
theorem ins_at {l:List fH}{p:Nat}{x:fH}(hp:p<=l.length):∃h:p< (l.take p++x::l.drop p).length,(l.take p++x::l.drop p)[p]=x:=by
 have hl:(l.take p).length=p:=by rw[List.length_take];omega
 refine⟨by simp;omega,?_⟩;rw[List.getElem_append_right (by omega)];simp[hl]
theorem ins_del {l:List fH}{p:Nat}{x:fH}(hp:p<=l.length):(l.take p++x::l.drop p).eraseIdx p=l:=by
 have hl:(l.take p).length=p:=by rw[List.length_take];omega
 rw[List.eraseIdx_append_of_length_le (by omega),hl,Nat.sub_self,List.eraseIdx_cons_zero,List.take_append_drop]
theorem admit_all {s s':BS}{nm:ByteArray}{r:Value}{w':World}{o:Nat->Nat}(h:zD s nm (frC s.D) r s' w' o)(hf:¬s.jQ)(hd:s.D.ok)(g:∀x∈s.bs,x.nm≠nm)(v:jJ nm)(hl:s.bs.length<12)(e:s.m.p=0)(k:¬∀q,q<4->gq s.D q=[]):
 ∃(m p:Nat) (x:fH) (A:Nat->Option Addr) (C:Nat->Nat) (z:Nat),sj s nm (frC s.D) m p x/\(∀q,q<4->x.T q=gq s.D q)/\s'=s.written (s.ins p x).bs/\r=.tuple #[gVal A C (gq s.D),.int .i64 0]/\
  (∀q,q<4->w'.ownsRow z 3 1 (.slice (A q) (gq s.D q).length (C q)) (gq s.D q).length (aT (gq s.D q)))/\∀b,z<=b->o b=0:=by
 have d:=fit_all hd (c:=aN (frC s.D)) (λi _=>by rw[natC_fr];exact ZL _);rcases h with⟨code,_,_,j⟩|⟨_,_,_,_,l,_⟩|⟨m,p,x,A,C,z,hy,_,rfl,rfl,u,t⟩
 .exfalso
  have hm:=frC_may hd k;rcases j with⟨a,_⟩|⟨_,a,_⟩|⟨_,_,a,_⟩|⟨_,_,_,a,_⟩|⟨_,_,_,_,a,_⟩|⟨_,_,_,_,_,a,_⟩
  .exact a v
  .exact aaw g a
  .rw[hm]at a;cases a
  .omega
  .unfold yL at a
   rw[d]at a;cases a
  .unfold maskOf at a
   rw[e]at a;exact chosen_any d a
 .exact absurd l hf
 .have n:∀q,q<4->x.T q=gq s.D q:=λq f=>Given.all (by have:=hy.given q f;rw[natC_fr]at this;exact this)
  refine⟨m,p,x,A,C,z,hy,n,rfl,?_,λq f=>?_,t⟩
  .unfold gVal
   simp only[natC_fr]
  .have:=u q f
   rw[natC_fr,n q f]at this;exact this
theorem admit_one {s s':BS}{nm:ByteArray}{r:Value}{w':World}{k:Nat->Nat}{c:Nat->Int}(h:zD s nm c r s' w' k)(hc:c 0=1/\c 1=0/\c 2=0/\c 3=0)(hd:s.D.ok)(d:∀x∈s.bs,x.nm≠nm)(j:jJ nm)(f:gq s.D 0=[]):
 s'=s/\r=.tuple #[eH,.int .i64 (if 12<=s.bs.length then 7 else 8)]:=by
 have hm:qo c=true:=mayB_of (λi l=>by
  unfold A7;obtain rfl|rfl|rfl|rfl:i=0\/i=1\/i=2\/i=3:=by omega
  .rw[hc.1];decide
  .rw[hc.2.1];decide
  .rw[hc.2.2.1];decide
  .rw[hc.2.2.2];decide) ⟨0,by omega,by rw[hc.1];decide⟩
 have b:¬yL s c true:=λhe=>by
  have:=fits_given hd he 0 (by omega);rw[f]at this;unfold aN at this;rw[hc.1]at this;simp at this
 rcases h with⟨code,rfl,rfl,e⟩|⟨_,_,_,hy,_⟩|⟨m,p,x,A,C,z,hy,_⟩
 .refine⟨rfl,?_⟩
  rcases e with⟨a,_⟩|⟨_,a,_⟩|⟨_,_,a,_⟩|⟨_,_,_,a,rfl⟩|⟨_,_,_,g,a,rfl⟩|⟨_,_,_,_,g,a,_⟩
  .exact absurd j a
  .exact absurd a (aaw d)
  .rw[hm]at a;cases a
  .rw[if_pos a]
  .rw[if_neg (by omega)]
  .exact absurd g b
 .exact absurd hy.yL b
 .exact absurd hy.yL b
theorem release_ins {s s1 s':BS}{p:Nat}{x:fH}{r:Value}(h:qD s1 x.nm r s')(hb:s1.bs=(s.ins p x).bs)(hp:p<=s.bs.length)(hf:¬s1.jQ)(f:s1.fine):r=.int .i64 0/\s'=s1.written s.bs:=by
 obtain⟨c,i⟩:=ins_at (x:=x) hp
 have key:∀q t,jw s1.bs.length (mU s1.bs) x.nm q t->q=p/\t=true:=λq t a=>by
  have b:p<s1.bs.length:=by rw[hb];exact c
  have d:s1.bs[p]=x:=by
   have:s1.bs[p]? =some x:=(by rw[hb];exact(ZZ.2 ⟨c,i⟩));obtain⟨_,e⟩:=ZZ.1 this;exact e
  exact found_self f.rises b (by rw[d];exact a)
 rcases h with⟨⟨q,a⟩,_⟩|⟨q,a,he⟩
 .cases(key q _ a).2
 .obtain⟨rfl,_⟩:=key q _ a
  rcases he with⟨g,_⟩|⟨_,f,hs⟩
  .exact absurd g hf
  .refine⟨f,?_⟩
   rw[hs,hb];exact congrArg _ (ins_del hp)
attribute [local go_sem ↓] Go.wp_at_zero Go.wp_at_succ
attribute [local go_sem] After.cell After.frozen After.const
structure FreI (w:World)(b3:Nat)(G:Nat->Value)(L:Nat->List Nat)(k:Nat)(wr:World):Prop where
 b0:wr.heap[w.heap.size]? =some (.cells #[.slice none 0 0,.slice none 0 0,.slice none 0 0,.slice none 0 0] 41 (0,0))
 bg:wr.heap[b3]? =some (.cells #[G 0,G 1,G 2,G 3] 41 (0,0))
 rows:∀q,q<=k->wr.ownsRow (w.heap.size+1) 3 1 (G q) (L q).length (aT (L q))/\(G q).ownBlock≠some b3
 below:Below w.heap.size w wr
 lt:w.heap.size<b3
theorem FreI.step {w wr w2:World}{a k:Nat}{G:Nat->Value}{L:Nat->List Nat}{v:Value}(h:FreI w a G L k wr)(p:k<3)(hb:Below wr.heap.size wr w2)(g:w2.ownsRow wr.heap.size 3 1 v (L (1+k)).length (aT (L (1+k)))):
 FreI w a (updV G (1+k) v) L (k+1) (w2.setCell ⟨a,1+k,none⟩ v):=by
 have m:a<wr.heap.size:=(ZK.1 h.bg).1;have l:=h.lt;have c:∀b,b≠a->(w2.setCell ⟨a,1+k,none⟩ v).heap[b]? =w2.heap[b]?:=λb hb=>aad _ _ _ _ hb
 refine⟨(c _ (by omega)).trans (bJ hb h.b0),?_,λq o=>?_,(ai h.below hb).setCell (by show w.heap.size<=a;omega) _,h.lt⟩
 .refine(aD (i:=1+k) _ (bJ hb h.bg)).trans ?_
  obtain rfl|rfl|rfl:k=0\/k=1\/k=2:=by omega
  all_goals rfl
 .unfold updV
  by_cases e:q=1+k
  .subst e
   rw[if_pos rfl];have f:v.ownBlock≠some a:=λe=>by have:=(g.lt a e).1;omega
   exact⟨aB (aJ g λb d=>c b (λe=>f (by rw[<-e];exact d))) (by have:=h.below.size;omega),f⟩
  .rw[if_neg e]
   obtain⟨n,j⟩:=h.rows q (by omega);exact⟨aJ (au n hb) λb d=>c b (λe=>j (by rw[<-e];exact d)),j⟩
theorem Bd.ow {w:World}{base bb:Nat}{s:BS}{K:Nat->Nat}(h:Bd w base bb s K):aW w bb s.D/\s.ok:=by
 obtain⟨_,_,_,_,_,_,h⟩:=h;exact⟨h.berthF.ow,h.ok⟩
theorem freeG_any (base bb:Nat)(s:BS)(K:Nat->Nat)(w:World)(h:Bd w base bb s K):
 Calls (patch ae prog) 18 #[.pointer (some ⟨bb,0,none⟩)] w λe w'=>∃A C,e=.returned (gVal A C (gq s.D))/\(∀q,q<4->w'.ownsRow w.heap.size 3 1 (.slice (A q) (gq s.D q).length (C q)) (gq s.D q).length (aT (gq s.D q)))/\Below w.heap.size w w':=by
 have L:Hid (∀u,Below w.heap.size w u->∀r:Nat,r<4->Calls (patch ae prog) 48 #[.pointer (some ⟨bb,0,none⟩),.int .i64 r] u λe w'=>∃v,e=.returned v/\w'.ownsRow u.heap.size 3 1 v (gq s.D r).length (aT (gq s.D r))/\Below u.heap.size u w'):=λu hu r z=>
  lK bb r s.D u z (h.below hu).ow.1 h.ow.2.d (ZP (ku h.ow.2.d z) (by decide))
 clear h
 go_enter (pf func18 (by rfl)),ntmps18
 go_wp2_with fail;refine(L.out _ ((aab _ _).alloc (ZL _) _) 0 (by omega)).mono ?_;rintro e w1 ⟨v0,rfl,c,g⟩;obtain⟨T,m⟩:∃W,W=w1.alloc (.cells #[v0,.slice none 0 0,.slice none 0 0,.slice none 0 0] 41):=⟨_,rfl⟩;have y:=g.size;rw[aao]at y
 have H1:Hid (FreI w w1.heap.size (updV (λ_=>.slice none 0 0) 0 v0) (gq s.D) 0 T):=by
  rw[m];have l:Below w1.heap.size w1 (w1.alloc (.cells #[v0,.slice none 0 0,.slice none 0 0,.slice none 0 0] 41)):=(aab _ _).alloc (ZL _) _;refine⟨bJ l ((g.block w.heap.size (by simp)).trans (aae _ _)),aae _ _,λq n=>?_,ai (ai ((aab _ _).alloc (ZL _) _) g) l,by omega⟩;obtain rfl:q=0:=by omega
  rw[aao]at c;exact⟨au c l,λe=>by have:=(c.lt _ e).2;omega⟩
 obtain⟨X,vc,rfl⟩:=aj c;clear c g y;go_wp2_with fail;rw[<-m];clear m
 go_loopw [8] (λi wr=>∃(k:Nat) (G:Nat->Value),k<=3/\i=.int .i64 k/\FreI w w1.heap.size G (gq s.D) k wr) (λi _=>3-(intOf i).toNat)
 case atStart=>exact⟨0,_,by omega,rfl,H1.out⟩
 case round=>
  obtain⟨k,G,Z,rfl,B⟩:=hrel;have a:=av B;clear B
  by_cases x:k<3
  .have S:(k:Int)<3:=by omega
   have k1:IntKind.i64.wrap (1+(k:Int))=((1+k:Nat):Int):=(by rw[IntKind.wrap_i64];omega);go_wp2_with fail;refine(L.out wr a.out.below (1+k) (by omega)).mono ?_;rintro e w2 ⟨v,rfl,t,hb⟩;have U:=av (a.out.step x hb t);obtain⟨v2,c2,rfl⟩:=aj t;have n:=blk (bJ hb a.out.bg);have V:w2.cell? ⟨w1.heap.size,1+k,none⟩=some (G (1+k)):=(by rw[n.1];exact four_get G (by omega));have M:=n.2 (1+k);clear t hb n;go_wp2_with fail;go_roundw
   case rel=>exact⟨k+1,_,by omega,by go_num,U.out⟩
   case measure=>simp[intOf];omega
  .have S:¬(k:Int)<3:=by omega
   obtain rfl:k=3:=(by omega);obtain⟨Q,P⟩:=blk a.out.bg;obtain⟨a0,c0,J⟩:=aj (a.out.rows 0 (by omega)).1;obtain⟨p,o,I⟩:=aj (a.out.rows 1 (by omega)).1;obtain⟨a2,c2,H⟩:=aj (a.out.rows 2 (by omega)).1;obtain⟨a3,c3,F⟩:=aj (a.out.rows 3 (by omega)).1;rw[J,I,H,F]at Q;obtain⟨Y,R⟩:=blk a.out.b0;obtain⟨O,N⟩:=blk (set4 (.slice a0 (gq s.D 0).length c0) (.slice p (gq s.D 1).length o) (.slice a2 (gq s.D 2).length c2) (.slice a3 (gq s.D 3).length c3) a.out.b0);go_wp2_with fail;refine bodyPost_ret (v:=.agg #[.slice a0 (gq s.D 0).length c0,.slice p (gq s.D 1).length o,.slice a2 (gq s.D 2).length c2,.slice a3 (gq s.D 3).length c3]) (by simp[results,go_sem,O]) rfl ?_;refine⟨λq=>if q=0 then a0 else if q=1 then p else if q=2 then a2 else a3,λq=>if q=0 then c0 else if q=1 then o else if q=2 then c2 else c3,rfl,λq n=>?_,?_⟩
   .have E:=(a.out.rows q (by omega)).1
    have j:World.ownsRow _ _ _ _ _ _ _:=aB (aJ E λb hb=>show((((wr.setCell ⟨w.heap.size,0,none⟩ (.slice a0 (gq s.D 0).length c0)).setCell ⟨w.heap.size,1,none⟩ (.slice p (gq s.D 1).length o)).setCell ⟨w.heap.size,2,none⟩ (.slice a2 (gq s.D 2).length c2)).setCell ⟨w.heap.size,3,none⟩ (.slice a3 (gq s.D 3).length c3)).heap[b]? =wr.heap[b]? from by
     have f:b≠w.heap.size:=λe=>by have:=(E.lt b hb).1;omega
     exact(aad _ _ _ _ f).trans ((aad _ _ _ _ f).trans ((aad _ _ _ _ f).trans (aad _ _ _ _ f)))) (show w.heap.size<=w.heap.size+1 by omega)
    obtain rfl|rfl|rfl|rfl:q=0\/q=1\/q=2\/q=3:=by omega
    .rw[J]at j;exact j
    .rw[I]at j;exact j
    .rw[H]at j;exact j
    .rw[F]at j;exact j
   .exact(((a.out.below.setCell (ZL _) _).setCell (ZL _) _).setCell (ZL _) _).setCell (ZL _) _
def fH.put (x:fH)(A:Nat->Option Addr)(C:Nat->Nat):fH:=⟨x.nm,A,C,x.T⟩
theorem boxCells_put (l:List fH){i:Nat}(b:i<l.length)(A:Nat->Option Addr)(C:Nat->Nat):
 ((((aR l).set (i*5+1) (.slice (A 0) (l[i].T 0).length (C 0))).set (i*5+1+1) (.slice (A 1) (l[i].T 1).length (C 1))).set (i*5+1+2) (.slice (A 2) (l[i].T 2).length (C 2))).set (i*5+1+3) (.slice (A 3) (l[i].T 3).length (C 3))=aR (l.set i (l[i].put A C)):=by
 refine List.ext_getElem? λj=>?_
 obtain⟨p,r,a,rfl⟩:∃p r,r<5/\j=p*5+r:=⟨j/5,j%5,Nat.mod_lt _ (by omega),by omega⟩;have hlen:(aR l).length=l.length*5:=fe l
 by_cases hp:p<l.length
 .rw[DD (l:=l.set i (l[i].put A C)) (by simpa using hp) a]
  by_cases e:p=i
  .subst e
   rw[List.getElem_set_self];have c:=DD b a;obtain rfl|rfl|rfl|rfl|rfl:r=0\/r=1\/r=2\/r=3\/r=4:=by omega
   .rw[List.getElem?_set_ne (by omega),List.getElem?_set_ne (by omega),List.getElem?_set_ne (by omega),List.getElem?_set_ne (by omega),c];rfl
   .rw[List.getElem?_set_ne (by omega),List.getElem?_set_ne (by omega),List.getElem?_set_ne (by omega),List.getElem?_set_self (by omega)];rfl
   .rw[List.getElem?_set_ne (by omega),List.getElem?_set_ne (by omega),show p*5+2=p*5+1+1 by omega,List.getElem?_set_self (by simp;omega)];rfl
   .rw[List.getElem?_set_ne (by omega),show p*5+3=p*5+1+2 by omega,List.getElem?_set_self (by simp;omega)];rfl
   .rw[show p*5+4=p*5+1+3 by omega,List.getElem?_set_self (by simp;omega)];rfl
  .rw[List.getElem_set_ne (λh=>e h.symm),List.getElem?_set_ne (by omega),List.getElem?_set_ne (by omega),List.getElem?_set_ne (by omega),List.getElem?_set_ne (by omega),DD hp a]
 .rw[List.getElem?_eq_none (by simp;omega),List.getElem?_eq_none (by rw[fe];simp;omega)]
theorem own_thaw {w:World}{base ty c g n cap:Nat}{xs:List Value}(h:w.ownsRow base ty c (.slice (some ⟨g,0,none⟩) n cap) n xs)(j:Nat):w.frozen? ⟨g,j,none⟩=false:=by
 rcases h.2 with⟨e,_⟩|⟨g',b,cur,e,d,a,_⟩
 .cases e
 .cases e;exact(blk a).2 j
structure CpI (w:World)(g c:Nat)(l0:List fH)(i:Nat)(l:List fH)(wr:World):Prop where
 row:wr.ownsRow w.heap.size 98 5 (.slice (some ⟨g,0,none⟩) l.length c) l.length (aR l)
 alike:AlikeB l0 l
 mine:∀j (h:j<l.length),j<i->∀q,q<4->wr.ownsRow w.heap.size 3 1 (l[j].sl q) (l[j].T q).length (aT (l[j].T q))/\(l[j].sl q).ownBlock≠some g
 rest:∀j (h:j<l.length) (h':j<l0.length),i<=j->l[j]=l0[j]
 below:Below w.heap.size w wr
 lt:w.heap.size<=g
theorem CpI.step {w wr w2:World}{g c i:Nat}{o l:List fH}{A:Nat->Option Addr}{C:Nat->Nat}(h:CpI w g c o i l wr)(t:i<l.length)(hb:Below wr.heap.size wr w2)(u:g<wr.heap.size)
 (hA:∀q,q<4->w2.ownsRow wr.heap.size 3 1 (.slice (A q) (l[i].T q).length (C q)) (l[i].T q).length (aT (l[i].T q))):
 CpI w g c o (i+1) (l.set i (l[i].put A C)) ((((w2.setCell ⟨g,i*5+1,none⟩ (.slice (A 0) (l[i].T 0).length (C 0))).setCell ⟨g,i*5+1+1,none⟩ (.slice (A 1) (l[i].T 1).length (C 1))).setCell ⟨g,i*5+1+2,none⟩ (.slice (A 2) (l[i].T 2).length (C 2))).setCell ⟨g,i*5+1+3,none⟩ (.slice (A 3) (l[i].T 3).length (C 3))):=by
 have f:∀b,b≠g->((((w2.setCell ⟨g,i*5+1,none⟩ (.slice (A 0) (l[i].T 0).length (C 0))).setCell ⟨g,i*5+1+1,none⟩ (.slice (A 1) (l[i].T 1).length (C 1))).setCell ⟨g,i*5+1+2,none⟩ (.slice (A 2) (l[i].T 2).length (C 2))).setCell ⟨g,i*5+1+3,none⟩ (.slice (A 3) (l[i].T 3).length (C 3))).heap[b]? =w2.heap[b]?:=λb hb=>(aad _ _ _ _ hb).trans ((aad _ _ _ _ hb).trans ((aad _ _ _ _ hb).trans (aad _ _ _ _ hb)))
 refine⟨?_,⟨by simpa using h.alike.1,λj a m=>?_⟩,λj a s q p=>?_,λj a m s=>?_,((((ai h.below hb).setCell h.lt _).setCell h.lt _).setCell h.lt _).setCell h.lt _,h.lt⟩
 .rw[<-boxCells_put l t A C]
  simp only[List.length_set];exact JH (JH (JH (JH (au h.row hb) rfl _) rfl _) rfl _) rfl _
 .rw[List.length_set]at m
  by_cases e:i=j
  .subst e
   rw[List.getElem_set_self];exact h.alike.2 i a m
  .rw[List.getElem_set_ne e]
   exact h.alike.2 j a m
 .rw[List.length_set]at a
  by_cases e:i=j
  .subst e
   simp only[List.getElem_set_self];have n:=hA q p;have k:(fH.sl (l[i].put A C) q).ownBlock≠some g:=λe=>by have:=(n.lt g e).1;omega
   exact⟨aB (aJ n λb d=>f b (λe=>k (by rw[<-e];exact d))) h.below.size,k⟩
  .simp only[List.getElem_set_ne e]
   obtain⟨n,r⟩:=h.mine j a (by omega) q p;exact⟨aJ (au n hb) λb d=>f b (λe=>r (by rw[<-e];exact d)),r⟩
 .rw[List.length_set]at a
  rw[List.getElem_set_ne (by omega)];exact h.rest j a m (by omega)
structure BoxesO (w:World)(z:Nat)(v:Value)(l:List fH):Prop where
 row:w.ownsRow z 98 5 v l.length (aR l)
 rows:∀x∈l,∀q,q<4->w.ownsRow z 3 1 (x.sl q) (x.T q).length (aT (x.T q))
theorem boxes_any (base bb:Nat)(s:BS)(K:Nat->Nat)(w:World)(h:Bd w base bb s K):
 Calls (patch ae prog) 17 #[.pointer (some ⟨bb,0,none⟩)] w λe w'=>∃v l,e=.returned v/\BoxesO w' w.heap.size v l/\AlikeB s.bs l/\Below w.heap.size w w':=by
 obtain⟨vc,vr,vb,vo,d,ys,G⟩:=h;obtain⟨ao,cap,rfl,Y,_,X,_⟩:=dV G.boxes;have P:w.cell? ⟨bb,6,none⟩=some (.slice ao s.bs.length cap):=G.cell 6;have HP:=av G;have M:=G.ok.many;have U:=av (uM ao s.bs.length cap (aR s.bs) w (by omega) (fe _) iD Y (λp=>let ⟨g,e,_,_,hc⟩:=X p;⟨g,0,e,hc⟩))
 have S:Hid (∀u (x:fH),(∀q,q<4->IntsL u (x.sl q) (x.T q)/\(x.T q).length<=24)->Calls (patch ae prog) 47 #[.agg #[.slice (x.A 0) (x.T 0).length (x.C 0),.slice (x.A 1) (x.T 1).length (x.C 1),.slice (x.A 2) (x.T 2).length (x.C 2),.slice (x.A 3) (x.T 3).length (x.C 3)]] u (CopyPost u (λq=>(x.T q).length) (λq j=>(((x.T q)[j]?.getD 0:Nat):Int)))):=λu x hx=>
  copyX_any x.A (λq=>(x.T q).length) x.C (λq j=>(((x.T q)[j]?.getD 0:Nat):Int)) u λq f=>⟨(hx q f).1,by have:=(hx q f).2;omega⟩
 clear Y X G
 go_enter (pf func17 (by rfl)),ntmps17
 go_wp2_with fail;refine U.out.mono ?_;rintro e w1 ⟨a',c',rfl,n,F⟩;have H1:=av (aaa n F);clear n F P;go_wp2_with fail;obtain⟨p1,p2,e1,n1,n2,n3,_⟩:=dV H1.out.1;cases e1
 go_loopw [12] (λi wr=>∃(j:Nat) (l:List fH),j<=s.bs.length/\i=.int .i64 j/\l.length=s.bs.length/\Below w.heap.size w wr/\(0<s.bs.length->∃g,a'=some ⟨g,0,none⟩/\CpI w g c' s.bs j l wr)/\(s.bs.length=0->wr=w1)) (λi _=>s.bs.length-(intOf i).toNat)
 case atStart=>
  refine⟨0,s.bs,Nat.zero_le _,rfl,rfl,H1.out.2,λp=>?_,λ_=>rfl⟩;obtain⟨g,e,_,O,_⟩:=n3 p;subst e;exact⟨g,rfl,H1.out.1,AlikeB.refl _,λj h W=>absurd W (ZV _),λ_ _ _ _=>rfl,H1.out.2,O⟩
 case round=>
  obtain⟨j,l,W,rfl,D,E,L,Z⟩:=hrel
  by_cases r:j<s.bs.length
  .have jn:(j:Int)<s.bs.length:=by omega
   obtain⟨g,rfl,m⟩:=L (by omega);have z:=av m;have k:j<l.length:=(by omega);have hx:=m.rest j k r (ZL _);obtain⟨_,_,e,_,_,B,_⟩:=dV m.row;cases e;obtain⟨g',e,N,_,c⟩:=B (by omega);cases e;obtain⟨_,b⟩:=box_at c k;have I:0+5*j=j*5:=(by omega);rw[I]at b;have c0:=b 0 (by omega);have Q:=b 1 (by omega);have c2:=b 2 (by omega);have c3:=b 3 (by omega);unfold fH.sl at c0 Q c2 c3
   have J:=av (S.out wr l[j] (λq f=>by
        rw[hx];exact⟨.own (au (HP.out.rows _ (List.getElem_mem r) q f).1 E),((HP.out.ok.small _ (List.getElem_mem r)).2 q f).1⟩))
   obtain⟨x,o⟩:∃x,x=l[j]:=⟨_,rfl⟩;rw[<-o]at c0 Q c2 c3 J;have R:=av o;clear L Z m B c b I hx o;go_wp2_with fail;refine J.out.mono ?_;rintro e w2 ⟨A,C,rfl,hA,a⟩
   have V:=av (z.out.step (A:=A) (C:=C) k a N (λq f=>by
        have:=hA q f;rw[intR_list (l:=x.T q) rfl]at this;rw[<-R.out];exact this))
   obtain⟨_,_,e,_,_,B,_⟩:=dV (au z.out.row a);cases e;obtain⟨g',e,_,_,c⟩:=B (by omega);cases e;obtain⟨_,b⟩:=box_at c k;have I:0+5*j=j*5:=(by omega);rw[I]at b;have d0:=b 0 (by omega);have d1:=b 1 (by omega);have d2:=b 2 (by omega);have d3:=b 3 (by omega);rw[<-R.out]at d0 d1 d2 d3;unfold fH.sl at d0 d1 d2 d3;have f0:=own_thaw (au z.out.row a) (j*5+1);have f1:=own_thaw (au z.out.row a) (j*5+1+1);have f2:=own_thaw (au z.out.row a) (j*5+1+2);have f3:=own_thaw (au z.out.row a) (j*5+1+3);rw[<-R.out]at V;have α:=av (ai z.out.below a);clear hA a B c b I c0 Q c2 c3;go_wp2_with fail;go_roundw
   case rel=>exact⟨j+1,l.set j (x.put A C),by omega,by go_num,by simpa using D,V.out.below,λ_=>⟨g,rfl,V.out⟩,λh=>by omega⟩
   case measure=>simp[intOf];omega
  .have jn:¬(j:Int)<s.bs.length:=by omega
   obtain rfl:j=s.bs.length:=(by omega);go_wp2_with fail;go_ret;refine⟨_,rfl,l,?_,?_,E⟩
   .by_cases p:0<s.bs.length
    .obtain⟨g,rfl,m⟩:=L p
     refine⟨by rw[<-D];exact m.row,λx hx q f=>?_⟩;obtain⟨i,hi,rfl⟩:=List.mem_iff_getElem.1 hx;exact(m.mine i hi (by omega) q f).1
    .have H:s.bs.length=0:=by omega
     have y:s.bs=[]:=List.length_eq_zero_iff.1 H;have t:l=[]:=List.length_eq_zero_iff.1 (by omega);subst t;obtain rfl:=Z H;refine⟨?_,λx hx=>(by cases hx)⟩;have:=H1.out.1;rw[y]at this⊢;exact this
   .by_cases p:0<s.bs.length
    .obtain⟨g,rfl,m⟩:=L p
     exact m.alike
    .have y:s.bs=[]:=List.length_eq_zero_iff.1 (by omega)
     have t:l=[]:=List.length_eq_zero_iff.1 (by omega);rw[y,t];exact AlikeB.refl _
end Z
