/- Part 12 of the proof. -/
import Derived.Test.YtfpaamhppamcoaaGreatDoorSp11
import Derived.Deep.AppendLies
set_option linter.all false
set_option maxRecDepth 100000
set_option maxHeartbeats 60000000
namespace Go.Proofs.YtfpaamhppamcoaaGreatDoor
open Go.Proofs.Tryz
namespace Z
open Go.RowKit
attribute [local go_sem ↓] Go.wp_at_zero Go.wp_at_succ
def ord:List Nat:=fI 5 1
theorem ord_is:ord=[1,2,4,8,3,5,6,9,10,12,7,11,13,14,15]:=by kernel_rfl
theorem ord_lt {k m:Nat}(h:ord[k]? =some m):0<m/\m<16:=by
 have a:k<15:=by
  have:=(ZZ.1 h).1;rw[ord_is]at this;simpa using this
 rw[ord_is]at h;obtain rfl|rfl|rfl|rfl|rfl|rfl|rfl|rfl|rfl|rfl|rfl|rfl|rfl|rfl|rfl:k=0\/k=1\/k=2\/k=3\/k=4\/k=5\/k=6\/k=7\/k=8\/k=9\/k=10\/k=11\/k=12\/k=13\/k=14:=by omega
 all_goals(simp at h;omega)
def gP (c:Nat->Int)(want:Int):List Nat->Int
 |[]=> -1
 |m::l=>if want<=fM c m 4 then(pop m:Nat)else gP c want l
def leastW (c:Nat->Int)(want:Int):Int:=gP c want ord
theorem own_cells {w:World}{base ty}{v}{n}{vs}(h:w.ownsRow base ty 1 v n vs)(e:0<n):∃g cap,v=.slice (some ⟨g,0,none⟩) n cap/\g<w.heap.size/\n<=cap/\cap<=maxLen/\∀i,i<n->w.cell? ⟨g,i,none⟩=vs[i]?:=by
 rcases h.2 with⟨rfl,d⟩|⟨g,cap,cur,rfl,j,a,c,hc,hs,b⟩
 .have:=h.1
  rw[d]at this;simp at this;omega
 .refine⟨g,cap,rfl,(ZK.1 a).1,c,by unfold maxLen at hc⊢;omega,λi f=>?_⟩
  rw[cell_of_row w g i cur _ (0,0) a,<-b,Z5,if_pos (by omega)];simp
theorem oM {w:World}{base}{v}(h:w.ownsRow base 143 1 v (fI 5 1).length (ordV 5 1)):
 ∃g cap,v=.slice (some ⟨g,0,none⟩) 15 cap/\15<=cap/\cap<=maxLen/\g<w.heap.size/\∀k m:Nat,ord[k]? =some m->w.cell? ⟨g,k,none⟩=some (.int .u64 (m:Int)):=by
 have hl:(fI 5 1).length=15:=by kernel_rfl
 rw[hl]at h;obtain⟨g,cap,rfl,f,c,a,hcell⟩:=own_cells h (by omega);refine⟨g,cap,rfl,c,a,f,λk m e=>?_⟩;have b:(fI 5 1)[k]? =some m:=e;have d:k<15:=by rw[<-hl];exact(ZZ.1 b).1
 rw[hcell k d];unfold ordV;rw[List.getElem?_map,b];rfl
theorem ord_get {k}(h:k<15):∃m,ord[k]? =some m/\0<m/\m<16:=by
 have hl:ord.length=15:=by kernel_rfl
 have e:ord[k]? =some ord[k]:=ZT (by omega);exact⟨_,e,ord_lt e⟩
theorem leastAt_drop {c}{want}{k m}(h:ord[k]? =some m):gP c want (ord.drop k)=if want<=fM c m 4 then((pop m:Nat):Int)else gP c want (ord.drop (k+1)):=by
 obtain⟨a,rfl⟩:=ZZ.1 h;rw[List.drop_eq_getElem_cons a];rfl
theorem leastWidth_any (c)(want)(hc:∀k,k<4->0<=c k/\c k<=24)(w):
 Calls (patch ae prog) 118 #[.agg #[.int .i64 (c 0),.int .i64 (c 1),.int .i64 (c 2),.int .i64 (c 3)],.int .i64 want] w λe w'=>e=.returned (.int .i64 (leastW c want))/\Below w.heap.size w w':=by
 have z:Hid (∀k,k<4->0<=c k/\c k<=24):=hc;clear hc
 go_enter (pf func118 (by rfl)),ntmps118
 go_wp2_with(go_at_call 119;refine(gW _).mono ?_;rintro e w1 ⟨v,rfl,f,n⟩;obtain⟨g,cap,rfl,x,u,B,d⟩:=oM f;have t:Hid ((∀k m:Nat,ord[k]? =some m->w1.cell? ⟨g,k,none⟩=some (.int .u64 (m:Int)))/\Below _ _ w1):=⟨d,n⟩;clear f d n)
 have o:Hid (w1.heap[w.heap.size]? =some (.cells #[.int .i64 (c 0),.int .i64 (c 1),.int .i64 (c 2),.int .i64 (c 3)] 131 (0,0))/\Below w.heap.size w w1):=by
  refine⟨(t.out.2.block _ (by simp)).trans (aae _ _),?_⟩;exact((aab _ _).alloc (ZL _) _).trans (t.out.2.mono (by simp))
 go_loopw [9] (λi wr=>∃k:Nat,k<=15/\i=.int .i64 k/\leastW c want=gP c want (ord.drop k)/\Below w1.heap.size w1 wr) (λi _=>15-(intOf i).toNat)
 case atStart=>exact⟨0,by omega,rfl,rfl,aab _ _⟩
 case round=>
  obtain⟨k,E,rfl,l,hb⟩:=hrel;have h:Hid (leastW c want=gP c want (ord.drop k)/\Below w1.heap.size w1 wr):=⟨l,hb⟩;clear l hb
  by_cases r:k<15
  .obtain⟨m,hm,A,a⟩:=ord_get r
   have u0:wr.cell? ⟨g,k,none⟩=some (.int .u64 (m:Int)):=(h.out.2.cell (p:=⟨g,k,none⟩) B).trans (t.out.1 k m hm);obtain⟨q,C⟩:=blk ((h.out.2.block _ (by have:=(ZK.1 o.out.1).1;exact this)).trans o.out.1);have D:(k:Int)<15:=(by omega);have y:Hid (ord[k]? =some m):=hm;clear hm
   by_cases hw:want<=fM c m 4
   .go_wp2_with(first
     |(go_at_call 120;refine(nN c m a z.out _).mono ?_;rintro e w2 ⟨rfl,b⟩;have s:Hid (Below _ _ w2):=b;clear b)
     |(go_at_call 163;refine(iI m a _).mono ?_;rintro e w3 ⟨he,j⟩;obtain rfl:=he;obtain rfl:=j.symm))
    go_ret;exact⟨by rw[h.out.1,leastAt_drop y.out,if_pos (by omega)];rfl,ai (ai o.out.2 h.out.2) s.out⟩
   .go_wp2_with(first
     |(go_at_call 120;refine(nN c m a z.out _).mono ?_;rintro e w2 ⟨rfl,b⟩;have s:Hid (Below _ _ w2):=b;clear b)
     |(go_at_call 163;refine(iI m a _).mono ?_;rintro e w3 ⟨he,j⟩;obtain rfl:=he;obtain rfl:=j.symm))
    go_roundw
    case rel=>exact⟨k+1,by omega,by go_num,by rw[h.out.1,leastAt_drop y.out,if_neg (by omega)],ai h.out.2 s.out⟩
    case measure=>simp[intOf];omega
  .have:k=15:=by omega
   subst this;go_wp2_with fail;go_ret;exact⟨by rw[h.out.1];rfl,ai o.out.2 h.out.2⟩
def fitK (c:Nat->Int)(want:Int)(k m:Nat):Bool:=(ord.take k).contains m&&decide (want<=fM c m 4)
def jC (us fr:Nat->Int)(want:Int)(k:Nat)(j:Nat):Value:=if j=0 then .int .i64 (leastW us want)else .bool (fitK fr want k (j-1))
def eF (us fr:Nat->Int)(want:Int):Array Value:=((List.range 17).map (jC us fr want 15)).toArray
theorem iA:((patch ae prog).info? 91).map (·.size)=some 17:=by kernel_rfl
theorem loadV {w}{b}{t}{xs}(h:w.heap[b]? =some (.cells xs t (0,0)))(hs:xs.size=17):Sem.run (patch ae prog) (Instr.loadAt 91 (.pointer (some ⟨b,0,none⟩))) w=.ok (.agg xs) w:=by
 have:=run_loadVar_row (P:=(patch ae prog)) w b t 91 xs (0,0) _ h ((ax ae prog 91).trans underlying91) rfl (by rw[hs];exact iA);simp only[Instr.loadAt,Instr.sureAddr];simp[this]
theorem jB (us fr)(want):(eF us fr want).size=17:=by simp[eF]
theorem verdV_one (us fr)(want):∀v∈(eF us fr want).toList,v.oneCell'=true:=λv a=>by
 simp only[eF,List.mem_map]at a;obtain⟨j,_,rfl⟩:=a;unfold jC;split<;>rfl
theorem row_verd {w:World}{b}{us fr}{want}(h:w.rowIs b 91 17 (jC us fr want 15)):w.heap[b]? =some (.cells (eF us fr want) 91 (0,0)):=by
 obtain⟨cur,f,e,d⟩:=h
 have:cur=eF us fr want:=by
  refine Array.ext (by rw[e,jB]) λj c g=>?_
  have:=d j (by omega);have a:j<17:=by omega
  rw[ZM c]at this;simpa[eF,a] using this
 rw[<-this];exact f
theorem fitK_set {fr}{want}{k m}(h:ord[k]? =some m)(j):fitK fr want (k+1) j=if j=m then decide (want<=fM fr m 4)else fitK fr want k j:=by
 obtain⟨b,rfl⟩:=ZZ.1 h;unfold fitK;rw[List.take_succ_eq_append_getElem b];have e:(ord.take k++[ord[k]]).contains j=((ord.take k).contains j||j==ord[k]):=by rw[List.contains_append];simp only[List.contains_cons,List.contains_nil,Bool.or_false]
 rw[e]
 by_cases a:j=ord[k]
 .rw[if_pos a,a]
  simp only[beq_self_eq_true,Bool.or_true,Bool.true_and]
 .rw[if_neg a,beq_eq_false_iff_ne.2 a,Bool.or_false]
theorem own_base {w:World}{base ty}{v}{n}{vs}(h:w.ownsRow base ty 1 v n vs):∀{a b cap},v=.slice (some a) b cap->base<=a.block:=by
 intro a b cap e;rcases h.2 with⟨rfl,j⟩|⟨g,cap,cur,rfl,c,i,f,hc,hs,d⟩
 .cases e
 .cases e;exact c
theorem judge_any (us fr)(want)(hu:∀k,k<4->0<=us k/\us k<=24)(hf:∀k,k<4->0<=fr k/\fr k<=24)(w):
 Calls (patch ae prog) 73 #[.agg #[.int .i64 (us 0),.int .i64 (us 1),.int .i64 (us 2),.int .i64 (us 3)],.agg #[.int .i64 (fr 0),.int .i64 (fr 1),.int .i64 (fr 2),.int .i64 (fr 3)],.int .i64 want] w λe w'=>
  e=.returned (.agg (eF us fr want))/\Below w.heap.size w w':=by
 have V:Hid ((∀k,k<4->0<=us k/\us k<=24)/\∀k,k<4->0<=fr k/\fr k<=24):=⟨hu,hf⟩;clear hu hf
 go_enter (pf func73 (by rfl)),ntmps73
 go_wp2_with(go_at_call 118;refine(leastWidth_any us want V.out.1 _).mono ?_;rintro e y ⟨rfl,G⟩;have O:Hid (Below _ _ y):=G;clear G);obtain⟨x,f⟩:∃x,x=y.alloc (.cells #[.int .i64 (leastW us want),.bool false,.bool false,.bool false,.bool false,.bool false,.bool false,.bool false,.bool false,.bool false,.bool false,.bool false,.bool false,.bool false,.bool false,.bool false,.bool false] 91):=⟨_,rfl⟩;obtain⟨c,p⟩:∃c,c=y.heap.size:=⟨_,rfl⟩
 have M:Hid (x.rowIs c 91 17 (jC us fr want 0)/\x.heap[w.heap.size+1]? =some (.cells #[.int .i64 (fr 0),.int .i64 (fr 1),.int .i64 (fr 2),.int .i64 (fr 3)] 131 (0,0))/\
  x.heap[w.heap.size+1+1]? =some (.cells #[.int .i64 0,.bool false,.bool false,.bool false,.bool false,.bool false,.bool false,.bool false,.bool false,.bool false,.bool false,.bool false,.bool false,.bool false,.bool false,.bool false,.bool false] 91 (0,0))/\Below w.heap.size w x/\w.heap.size+1+1<c):=by
  have s3:w.heap.size+3<=y.heap.size:=by have:=O.out.size;simpa using this
  have hA:=O.out;refine⟨?_,?_,?_,?_,by omega⟩
  .rw[f,p]
   refine World.rowIs_alloc y _ _ _ λi E=>?_
   have α:i<17:=E;obtain rfl|rfl|rfl|rfl|rfl|rfl|rfl|rfl|rfl|rfl|rfl|rfl|rfl|rfl|rfl|rfl|rfl:i=0\/i=1\/i=2\/i=3\/i=4\/i=5\/i=6\/i=7\/i=8\/i=9\/i=10\/i=11\/i=12\/i=13\/i=14\/i=15\/i=16:=by omega
   all_goals rfl
  .rw[f,aac _ _ _ (by omega),hA.block _ (by simp),aac _ _ _ (by simp)]
   exact aam _ _ _
  .rw[f,aac _ _ _ (by omega),hA.block _ (by simp)]
   have:=aae ((w.alloc (.cells #[.int .i64 (us 0),.int .i64 (us 1),.int .i64 (us 2),.int .i64 (us 3)] 131)).alloc (.cells #[.int .i64 (fr 0),.int .i64 (fr 1),.int .i64 (fr 2),.int .i64 (fr 3)] 131)) (.cells #[.int .i64 0,.bool false,.bool false,.bool false,.bool false,.bool false,.bool false,.bool false,.bool false,.bool false,.bool false,.bool false,.bool false,.bool false,.bool false,.bool false,.bool false] 91);simpa using this
  .rw[f]
   exact((((aab _ _).alloc (ZL _) _).alloc (by simp) _).alloc (by simp;omega) _).trans (hA.mono (by simp;omega))|>.alloc (by omega) _
 rw[<-f,<-p];clear f p O;refine Calls.mono (gW _) ?_;rintro e w1 ⟨v,rfl,o,d⟩;have F:∀{a W cap},v=.slice (some a) W cap->_:=own_base o;obtain⟨g,cap,rfl,S,Q,Z,s⟩:=oM o
 have L:g≠c:=by
  have:x.heap.size<=g:=F rfl;have:=M.out.1.lt;omega
 clear F;have U:Hid (∀k m:Nat,ord[k]? =some m->w1.cell? ⟨g,k,none⟩=some (.int .u64 (m:Int))):=s
 have t:Hid (w1.rowIs c 91 17 (jC us fr want 0)/\w1.heap[w.heap.size+1]? =some (.cells #[.int .i64 (fr 0),.int .i64 (fr 1),.int .i64 (fr 2),.int .i64 (fr 3)] 131 (0,0))/\
  w1.heap[w.heap.size+1+1]? =some (.cells #[.int .i64 0,.bool false,.bool false,.bool false,.bool false,.bool false,.bool false,.bool false,.bool false,.bool false,.bool false,.bool false,.bool false,.bool false,.bool false,.bool false,.bool false] 91 (0,0))/\Below w.heap.size w w1/\w.heap.size+1+1<c/\c<w1.heap.size):=by
  obtain⟨H,T,h3,h5,h6⟩:=M.out;have X:=H.lt;refine⟨H.of_block (d.block _ X),(d.block _ (by omega)).trans T,(d.block _ (by omega)).trans h3,ai h5 d,h6,?_⟩;have:=d.size;omega
 clear o s d M;go_wp2_with fail
 go_loopw [16] (λi wr=>∃k:Nat,k<=15/\i=.int .i64 k/\wr.rowIs c 91 17 (jC us fr want k)/\(∀b,b<w1.heap.size->b≠c->wr.heap[b]? =w1.heap[b]?)/\Below w.heap.size w wr/\w1.heap.size<=wr.heap.size) (λi _=>15-(intOf i).toNat)
 case atStart=>exact⟨0,by omega,rfl,t.out.1,λ_ _ _=>rfl,t.out.2.2.2.1,ZL _⟩
 case round=>
  obtain⟨k,R,rfl,z,C,hb,n⟩:=hrel;have h:Hid (wr.rowIs c 91 17 (jC us fr want k)/\(∀b,b<w1.heap.size->b≠c->wr.heap[b]? =w1.heap[b]?)/\Below w.heap.size w wr/\w1.heap.size<=wr.heap.size):=⟨z,C,hb,n⟩;clear z C hb n
  by_cases K:k<15
  .obtain⟨m,hm,Y,B⟩:=ord_get K
   have u0:wr.cell? ⟨g,k,none⟩=some (.int .u64 (m:Int)):=(World.cell?_of_block (w:=w1) (h.out.2.1 g Z L)).trans (U.out k m hm);obtain⟨q,qf⟩:=blk ((h.out.2.1 (w.heap.size+1) (by have:=t.out.2.2.2.2;omega) (by have:=t.out.2.2.2.2;omega)).trans t.out.2.1);have kn:(k:Int)<15:=(by omega);have HM:Hid (ord[k]? =some m):=hm;clear hm;go_wp2_with(go_at_call 120;refine(nN fr m B V.out.2 _).mono ?_;rintro e w2 ⟨rfl,u⟩;have R2:=h.out.1.of_block (u.block c h.out.1.lt);have cV:=R2.cell (i:=1+m) (by omega);have fV:=R2.frozen (1+m);have J:Hid (w2.rowIs c 91 17 (jC us fr want k)/\Below wr.heap.size wr w2):=⟨R2,u⟩;clear R2 u);go_roundw
   case rel=>
        have hV:=t.out.2.2.2.2;refine⟨k+1,by omega,by go_num,?_,?_,?_,?_⟩
        .refine(J.out.1.set (1+m) _).congr λj hj=>?_
         unfold jC
         by_cases I:j=0
         .rw[if_neg (by omega),if_pos I,if_pos I]
         .rw[if_neg I,if_neg I,fitK_set HM.out]
          by_cases D:j=1+m
          .rw[if_pos D,if_pos (by omega)]
          .rw[if_neg D,if_neg (by omega)]
        .intro b hb A
         exact(aad _ _ _ _ A).trans ((J.out.2.block b (by have:=h.out.2.2.2;omega)).trans (h.out.2.1 b hb A))
        .exact(ai h.out.2.2.1 J.out.2).setCell (by show w.heap.size<=c;omega) _
        .have H:=J.out.2.size
         have T:=h.out.2.2.2;simp;omega
   case measure=>simp[intOf];omega
  .have:k=15:=by omega
   subst this;obtain⟨vs,l⟩:∃vs,vs=eF us fr want:=⟨_,rfl⟩;have n:vs.size=17:=(by rw[l,jB])
   have H:vs.all (·.oneCell')=true:=by
        rw[Array.all_eq_true'];intro v P;rw[l]at P;exact verdV_one us fr want v (by simpa using P)
   have hV:=t.out.2.2.2.2;have p:wr.heap[c]? =some (.cells vs 91 (0,0)):=(by rw[l];exact row_verd h.out.1);have hR:=(h.out.2.1 (w.heap.size+1+1) (by omega) (by omega)).trans t.out.2.2.1;have E:((patch ae prog).info? 91).map (·.size)=some vs.size:=(by rw[n];exact iA);have N:Hid (vs=eF us fr want):=l;have r:Hid (Below w.heap.size w wr):=h.out.2.2.1;clear l h U
   go_wp2_with(first
        |refine wpList_load_row rfl 91 _ rfl c rfl 91 vs (0,0) _ p ((ax ae prog 91).trans underlying91) rfl E ?_
        |refine wpList_store_row rfl 91 _ _ rfl (w.heap.size+1+1) vs rfl rfl 91 _ hR E (by rw[n];rfl) H ?_)
   (try simp only[Exit.inBlock,Exit.then])
   refine bodyPost_ret_by (results_cell_row rfl _ _ (w.heap.size+1+1) 91 vs (0,0) _ rfl (setRow_heap _ _ _ _ _ _ hR) ((ax ae prog 91).trans underlying91) rfl E) rfl ?_;refine⟨by rw[N.out],?_⟩;exact⟨r.out.os,r.out.tape,r.out.output,by simpa using r.out.size,λk R=>(setRow_other _ _ _ _ (by omega)).trans (r.out.block k R)⟩
attribute [local go_sem] After.cell After.frozen After.const
def bW (S N C:Nat->Int)(j:Nat):Value:=.int .i64 (if j%3=0 then S (j/3)else if j%3=1 then N (j/3)else C (j/3))
theorem cpuCell_0 (S N C)(i):bW S N C (i*3)=.int .i64 (S i):=by
 unfold bW;rw[show i*3%3=0 by omega,show i*3/3=i by omega];rfl
theorem cpuCell_1 (S N C)(i):bW S N C (i*3+1)=.int .i64 (N i):=by
 unfold bW;rw[show(i*3+1)%3=1 by omega,show(i*3+1)/3=i by omega];rfl
theorem cpuCell_2 (S N C)(i):bW S N C (i*3+2)=.int .i64 (C i):=by
 unfold bW;rw[show(i*3+2)%3=2 by omega,show(i*3+2)/3=i by omega];rfl
def hR (m:cz)(j:Nat):Value:=if j<m.r then .int .i64 (m.R j)else .int .i64 (-5)
def NB (v:Value):Prop:=(∃k n,v=.int k n)\/∃b,v=.bool b
def Flat (w:World)(v:Value):Prop:=∀g,v.ownBlock=some g->∃cur e,w.heap[g]? =some (.cells cur e (0,0))/\∀u∈cur.toList,NB u
theorem run_append_flat {P}(w)(base)(t ty e)(i)(z)(size bytes)(C:P.underlying t=some (.slice e))(F:P.info? e=some i)(H:i.zero=some z)
 (f:i.size=size)(s:i.bytes=bytes)(A:z.cells.size=size)(D:0<size)(B:∀u∈z.cells.toList,NB u)
 (g)(y:w.heap[g]? =some (.cells #[] e (0,0)))(hb:base<=g)
 (a)(m c)(news)(hl:news.length=m*size)(l:∀j u,news[j]? =some u->w.cell? (a.add j)=some u)(I:∀u∈news,NB u)
 (G:m<=maxLen)(d:m*bytes<=140737488355328):
 ∃v' w',(Builtin.append_ #[t,t] ty #[.slice (some ⟨g,0,none⟩) 0 0,.slice (some a) m c]).run P w=.ok v' w'/\w'.ownsRow base e size v' m news/\w.grownBy w' (some g)/\Flat w' v':=by
 have K:g<w.heap.size:=(ZK.1 y).1
 have r:∀u∈news,u.oneCell'=true:=λu hu=>by
  rcases I u hu with⟨k,n,rfl⟩|⟨b,rfl⟩<;>rfl
 have q:w.ownsRow base e size (.slice (some ⟨g,0,none⟩) 0 0) 0 []:=⟨by simp,.inr ⟨g,0,#[],rfl,hb,y,ZL _,by unfold maxLen;omega,by simp,by simp⟩⟩;obtain⟨v',w',p,M,L,_⟩:=run_append_own (P:=P) w base t ty e i z size bytes C F H f s A D _ 0 [] q a m c news hl l r (by omega) (by rw[Z8];exact d) (by omega);refine⟨v',w',p,by simpa using M,L,?_⟩;subst f;subst s;have v:m<=9223372036854775807:=by simp only[maxLen]at G;omega
 by_cases hm:m=0
 .subst hm
  have J:news=[]:=List.eq_nil_of_length_eq_zero (by simpa using hl);subst J;have o:=run_append_room (P:=P) w t ty e i C F g 0 0 #[] y a 0 c [] (by simp) (λj u h=>by simp at h) (λu h=>by simp at h) (ZL _) (by simp);rw[o]at p;cases p;intro k E;cases E;refine⟨_,e,setRow_heap w g #[] _ e _ y,λu hu=>by simp at hu⟩
 .have o:=run_append_grow (P:=P) w t ty e i z C F H ⟨g,0,none⟩ 0 0 [] (by simp) (λj u h=>by simp at h) a m c news hl l (by omega) (by omega) (growslice_fits (by omega) (by rw[Z8];exact d))
  rw[o]at p;cases p;intro k E;cases E;refine⟨_,e,aae w.drew _,λu hu=>?_⟩;have hu:(u∈([]:List Value)\/u∈news)\/u∈(Builtin.zeroCells z.cells (grownCap w (0+m) 0 e-(0+m))).toList:=by simpa using hu
  rcases hu with(hu|hu)|hu
  .cases hu
  .exact I u hu
  .simp only[Builtin.zeroCells]at hu
   simp at hu;obtain⟨x,hx,rfl⟩:=hu;have hp:x%z.cells.size<z.cells.size:=Nat.mod_lt _ (by omega);refine B _ ?_;rw[getElem!_pos z.cells _ hp];exact(by simp)
theorem eX {P}{w}{ops}{rest}{o}{ac}{Q}(n:o.guard=none)(s x)(t)
 (A:o.op=.call {callee:=.builtin .append,args:= #[s,x],argTypes:= #[t,t]})
 (base)(e)(i)(z)(size bytes)(v:P.underlying t=some (.slice e))(B:P.info? e=some i)(r:i.zero=some z)
 (b:i.size=size)(p:i.bytes=bytes)(f:z.cells.size=size)(l:0<size)(k:∀u∈z.cells.toList,NB u)
 (g)(hs:ac.eval s=.slice (some ⟨g,0,none⟩) 0 0)(C:w.heap[g]? =some (.cells #[] e (0,0)))(hb:base<=g)
 (ad)(m c)(news)(hx:ac.eval x=.slice (some ad) m c)(hl:news.length=m*size)(d:∀j u,news[j]? =some u->w.cell? (ad.add j)=some u)(H:∀u∈news,NB u)
 (q:m<=maxLen)(a:m*bytes<=140737488355328)
 (h:∀v' w',w'.ownsRow base e size v' m news->w.grownBy w' (some g)->Flat w' v'->wpList P ops Q rest (ac.put o.dst v') w'):wpList P ops Q (o::rest) ac w:=
 wpList_plain n λ_ D=>by
  obtain⟨v',w',y,G,F,E⟩:=run_append_flat (P:=P) w base t o.type e i z size bytes v B r b p f l k g C hb ad m c news hl d H q a;unfold Oper.wp execOp;simp only[A,resolve,invoke,builtin,Sem.run_bind,Sem.run_pure,Result.andThen_ok,List.map_toArray,List.map_cons,List.map_nil,hs,hx,y];exact D _ _ (h v' w' G F E)
theorem ZF3:∀u∈(Value.agg #[.int .i64 0,.int .i64 0,.int .i64 0]).cells.toList,NB u:=λu hu=>by
 simp[Value.cells]at hu;subst hu;exact .inl ⟨_,_,rfl⟩
theorem clone22_any (b o n cap)(xs)(w)(t:n*24<=140737488355328)(hl:xs.length=n*3)(hx:∀j u,xs[j]? =some u->w.cell? ⟨b,o+j,none⟩=some u)(p:∀u∈xs,NB u):
 Calls (patch ae prog) 95 #[.slice (some ⟨b,o,none⟩) n cap] w λe w'=>∃v,e=.returned v/\w'.ownsRow w.heap.size 81 3 v n xs/\Flat w' v/\Below w.heap.size w w':=by
 have heq:=fun(W:World)=>Lib.run_eql_slice_nil (P:=(patch ae prog)) W 22 81 (some ⟨b,o,none⟩) n cap 0 0 ((ax ae prog 22).trans underlying22)
 obtain⟨i,r,l,h,g⟩:=info_parts Tryz.info22;have hu:=((ax ae prog 22).trans underlying22);have d:∀j u,xs[j]? =some u->(w.alloc (.cells #[] 81)).cell? ((⟨b,o,none⟩:Addr).add j)=some u:=λj u m=>by rw[Addr.add_lit,World.cell?_alloc_past _ _ _ (aan (hx j u m))];exact hx j u m
 have s:Hid (∀j u,xs[j]? =some u->(w.alloc (.cells #[] 81)).cell? ((⟨b,o,none⟩:Addr).add j)=some u):=d;have H1:Hid (∀u∈xs,NB u):=p;clear hx d p
 go_enter (pf func95 (by rfl)),ntmps95
 go_wp2_with(at_builtin;go_loud(refine eX rfl _ _ _ rfl w.heap.size 81 i _ 3 24 hu r l h g (by rfl) (by omega) ZF3 w.heap.size (by rfl) (aae _ _) (ZL _) ⟨b,o,none⟩ n cap xs (by rfl) hl s.out H1.out (by unfold maxLen;omega) (by omega) ?_);intro v' w1 f a c);go_ret;exact⟨_,rfl,f,c,((aab _ _).alloc (ZL _) _).grown a (by simp) (λk q=>by cases q;exact ZL _)⟩
theorem aj {w:World}{base}{e}{size}{v}{n}{xs}(h:w.ownsRow base e size v n xs):∃ao cap,v=.slice ao n cap:=by
 rcases h.2 with⟨b,rfl⟩|⟨g,cap,cur,a,_⟩
 .exact⟨_,_,b⟩
 .exact⟨_,_,a⟩
theorem au {w w'}{base}{e}{size}{v}{n}{xs}(h:w.ownsRow base e size v n xs)(hb:Below w.heap.size w w'):w'.ownsRow base e size v n xs:=by
 refine⟨h.1,?_⟩;rcases h.2 with d|⟨g,cap,cur,b,c,a,r⟩
 .exact .inl d
 .exact .inr ⟨g,cap,cur,b,c,by rw[hb.block g (ZK.1 a).1];exact a,r⟩
theorem aB {w:World}{base a}{e}{size}{v}{n}{xs}(h:w.ownsRow base e size v n xs)(hb:a<=base):w.ownsRow a e size v n xs:=by
 refine⟨h.1,?_⟩;rcases h.2 with d|⟨g,cap,cur,b,c,r⟩
 .exact .inl d
 .exact .inr ⟨g,cap,cur,b,ZP hb c,r⟩
def oq (m:cz):List Value:=(List.range (m.n*3)).map (bW m.S m.N m.C)
def resL (m:cz):List Value:=(List.range m.r).map (λj=>.int .i64 (m.R j))
def Ints (w:World)(v:Value)(n:Nat)(R:Nat->Int):Prop:=∃ao cap,v=.slice ao n cap/\n<=cap/\n<=9223372036854775807/\(0<n->∃b o,ao=some ⟨b,o,none⟩/\gM w b o n R)
theorem Ints.ext {w w'}{v}{n}{R}(h:Ints w v n R)(hb:Below w.heap.size w w'):Ints w' v n R:=by
 obtain⟨ao,cap,rfl,e,d,c⟩:=h;refine⟨ao,cap,rfl,e,d,λf=>?_⟩;obtain⟨b,o,rfl,a⟩:=c f;exact⟨b,o,rfl,a.ext hb⟩
def W9 (n:Nat)(R:Nat->Int)(a:Nat)(b:Nat->Int):Prop:=n=a/\∀i,i<n->R i=b i
theorem index_any (v)(n)(R)(x)(w)(h:Ints w v n R):
 Calls (patch ae prog) 166 #[v,.int .i64 x] w λe w'=>(∃q:Int,e=.returned (.int .i64 q)/\(0<=q↔among R n x))/\w'=w:=by
 obtain⟨ao,cap,rfl,hc,hm,g⟩:=h
 go_enter (pf func166 (by rfl)),ntmps166
 go_wp2_with fail
 go_loop [8] (λi=>∃k:Nat,k<=n/\i=.int .i64 k/\∀j,j<k->R j≠x) (λi=>n-(intOf i).toNat)
 case atStart=>exact⟨0,by omega,rfl,λj f=>absurd f (ZV _)⟩
 case round=>
  obtain⟨k,s,rfl,a⟩:=hrel;have m:Hid (∀j,j<k->R j≠x):=a;clear a
  by_cases c:k<n
  .obtain⟨b,o,rfl,d⟩:=g (by omega)
   have u0:=d k c;have r:(k:Int)<n:=(by omega);clear d g
   by_cases he:x=R k
   .have l:Hid (x=R k):=he
    have p:(x==R k)=true:=(by simp[he]);clear he;go_wp2_with fail;go_ret;exact⟨⟨k,rfl,by simp;exact⟨k,c,l.out.symm⟩⟩,rfl⟩
   .have l:Hid (x≠R k):=he
    have p:(x==R k)=false:=(by simp[he]);clear he;go_wp2_with fail;go_round
    case rel=>exact⟨k+1,by omega,by go_num,λj f=>by
     rcases Nat.lt_succ_iff_lt_or_eq.1 f with h|h
     .exact m.out j h
     .subst h;exact λe=>l.out e.symm⟩
    case measure=>simp[intOf];omega
  .have:k=n:=by omega
   subst this;clear g;go_wp2_with fail;go_ret;exact⟨⟨-1,rfl,by simp;exact fun⟨i,d,he⟩=>m.out i d he⟩,rfl⟩
theorem fT (v)(n)(R)(x)(w)(h:Ints w v n R):
 Calls (patch ae prog) 129 #[v,.int .i64 x] w λe w'=>Ans (among R n x) e/\w'=w:=by
 go_enter (pf func129 (by rfl)),ntmps129
 go_wp2_with(go_at_call 166;refine(index_any v n R x _ h).mono ?_;rintro e w1 ⟨⟨q,rfl,a⟩,rfl⟩);go_ret;exact⟨⟨_,rfl,by simpa using a⟩,rfl⟩
def resB (m:cz)(i:Nat):Bool:=(List.range m.r).any (λj=>m.R j==(i:Int))
theorem resB_iff (m)(i):resB m i=true↔among m.R m.r (i:Int):=by
 unfold resB among;rw[List.any_eq_true];constructor
 .rintro⟨j,a,he⟩
  exact⟨j,Z9.1 a,by simpa using he⟩
 .rintro⟨j,a,he⟩
  exact⟨j,Z9.2 a,by simpa using he⟩
def bS (m:cz)(k:Nat):List Nat:=(List.range k).filter (λi=> !resB m i)
def freeV (m:cz)(k:Nat):List Value:=(bS m k).map (λi:Nat=>Value.int .i64 (i:Int))
theorem freeN_hit {m}{k}(h:resB m k=false):bS m (k+1)=bS m k++[k]:=by
 unfold bS;rw[Z6,aaj];simp[h]
theorem freeN_miss {m}{k}(h:resB m k=true):bS m (k+1)=bS m k:=by
 unfold bS;rw[Z6,aaj];simp[h]
theorem freeN_le (m)(k):(bS m k).length<=k:=by
 unfold bS;exact ZP (aai _ _) (by simp)
theorem unreserved_any (m)(vc vr)(y)(x)(w)(C:vc=.slice y m.n x)(Q:m.n<=24)(G:Ints w vr m.r m.R):
 Calls (patch ae prog) 117 #[.agg #[vc,vr,.int .i64 m.p]] w λe w'=>∃v,e=.returned v/\w'.ownsRow w.heap.size 3 1 v (bS m m.n).length (freeV m m.n)/\Below w.heap.size w w':=by
 subst C;have o:=G;obtain⟨ra,rc,rfl,_⟩:=G;obtain⟨i0,M,B,A,z⟩:=info_parts Tryz.gQ;have hu:=((ax ae prog 23).trans underlying23);have I:Hid (Ints w (.slice ra m.r rc) m.r m.R):=o;clear o;obtain⟨f,d⟩:∃f,f=w.alloc (.cells #[.slice y m.n x,.slice ra m.r rc,.int .i64 m.p] 25):=⟨_,rfl⟩;have l:f.heap.size=w.heap.size+1:=by rw[d];simp
 have t:Below w.heap.size w f:=by rw[d];exact(aab _ _).alloc (ZL _) _
 have F:f.heap[w.heap.size]? =some (.cells #[.slice y m.n x,.slice ra m.r rc,.int .i64 m.p] 25 (0,0)):=by rw[d];exact aae _ _
 have D:Hid (Below w.heap.size w f/\f.heap[w.heap.size]? =some (.cells #[.slice y m.n x,.slice ra m.r rc,.int .i64 m.p] 25 (0,0))/\f.heap.size=w.heap.size+1):=⟨t,F,l⟩
 go_enter (pf func117 (by rfl)),ntmps117
 go_wp2_with fail;rw[<-d];clear d t F l
 go_loopw [3,8] (λv i wr=>∃k:Nat,k<=m.n/\i=.int .i64 k/\wr.ownsRow (w.heap.size+1) 3 1 v (bS m k).length (freeV m k)/\Below (w.heap.size+1) f wr) (λ_ i _=>m.n-(intOf i).toNat)
 case atStart=>exact⟨0,by omega,rfl,aag _ _ _ _,aab _ _⟩
 case round=>
  obtain⟨k,S,rfl,b,hb⟩:=hrel;have P:w.heap.size+1<=wr.heap.size:=by have:=hb.size;have:=D.out.2.2;omega
  have E:=(hb.block w.heap.size (by omega)).trans D.out.2.1;have s:Below w.heap.size w wr:=D.out.1.trans (hb.mono (by omega));have g:Hid (wr.ownsRow (w.heap.size+1) 3 1 u3 (bS m k).length (freeV m k)/\Below (w.heap.size+1) f wr/\Below w.heap.size w wr):=⟨b,hb,s⟩;obtain⟨O,J⟩:=blk E;have hlen:=freeN_le m k;clear E hb s b
  by_cases L:k<m.n
  .by_cases a:resB m k=true
   .go_wp2_with(go_at_call 129;refine(fT (.slice ra m.r rc) m.r m.R k _ (I.out.ext g.out.2.2)).mono ?_;rintro e w1 ⟨he,rfl⟩;obtain rfl:=he.fP ((resB_iff m k).1 a);clear he)
    go_roundw
    case rel=>exact⟨k+1,by omega,by go_num,by unfold freeV;rw[freeN_miss a];exact g.out.1,g.out.2.1⟩
    case measure=>simp[intOf];omega
   .have j:resB m k=false:=by simpa using a
    have N:Hid (¬among m.R m.r (k:Int)):=λh=>a ((resB_iff m k).2 h)
    clear a
    go_wp2_with(first
     |(go_at_call 129;refine(fT (.slice ra m.r rc) m.r m.R k _ (I.out.ext g.out.2.2)).mono ?_;rintro e w1 ⟨he,hw⟩;obtain rfl:=hw.symm;obtain rfl:=he.is_false N.out;clear he)
     |(at_builtin;refine wpList_append_own _ rfl _ _ _ rfl (w.heap.size+1) 3 i0 _ 1 8 hu M B A z rfl (by omega) _ (bS m k).length (freeV m k) rfl (g.out.1.alloc _) ⟨wr.heap.size,0,none⟩ 1 1 [.int .i64 k] rfl rfl (cell_one_new _ _ _) (by intro u hu;simp at hu;subst hu;rfl) (by unfold maxLen;omega) (by omega) (by simp;omega) ?_;intro v' w1 b c _))
    have H:Hid (w1.ownsRow (w.heap.size+1) 3 1 v' (bS m (k+1)).length (freeV m (k+1))/\Below (w.heap.size+1) f w1):=by
     refine⟨?_,(g.out.2.1.alloc (by omega) _).grown c (by simp;omega) (λq K=>(g.out.1.lt q K).1)⟩;unfold freeV;rw[freeN_hit j];simpa[freeV] using b
    clear b c;go_wp2_with fail;go_roundw
    case rel=>exact⟨k+1,by omega,by go_num,H.out.1,H.out.2⟩
    case measure=>simp[intOf];omega
  .have:k=m.n:=by omega
   rw[this]at g;go_wp2_with fail;go_ret;exact⟨_,rfl,aB g.out.1 (by omega),g.out.2.2⟩
theorem av {p}(h:p):Hid p:=h
end Z
