/- Part 36 of the proof. -/
import Derived.Test.YtfpaamhppamcoaaGreatDoorT35
import Derived.Shelf.SlSortCmp.QuietGrown
import Derived.Shelf.SlicesQ.Load
set_option linter.all false
set_option maxRecDepth 100000
set_option maxHeartbeats 60000000
namespace Go.Proofs.YtfpaamhppamcoaaGreatDoor
open Go.Proofs.Tryz
namespace Z
open Go.RowKit
attribute [local go_sem ↓] Go.wp_at_zero Go.wp_at_succ
attribute [local go_sem] After.cell After.frozen After.const
structure tV (w:World)(Vl:Nat)(L:Nat->Int)(F:Nat->Nat->Bool):Prop where
 row:∃row:Array Value,w.heap[Vl]? =some (.cells row 91 (0,0))/\row.size=68/\(∀i,i<4->row[17*i]? =some (.int .i64 (L i)))/\∀i,i<4->∀m,m<16->row[17*i+1+m]? =some (.bool (F i m))
theorem tV.below {w w'}{b}{L}{F}(h:tV w b L F)(hb:Below w.heap.size w w'):tV w' b L F:=by
 obtain⟨row,a,c⟩:=h.row;exact⟨⟨row,(hb.block _ (ZK.1 a).1).trans a,c⟩⟩
theorem tV.part {w}{i}{L}{F}(h:tV w i L F){k}(d:k<4):∃cs:List Value,cs.length=17/\cs[0]? =some (.int .i64 (L k))/\(∀m,m<16->cs[1+m]? =some (.bool (F k m)))/\w.rangeAt i (k*17) cs/\cs.toArray.all (·.oneCell')=true:=by
 obtain⟨row,l,o,g,f⟩:=h.row;refine⟨(row.toList.drop (k*17)).take 17,by simp;omega,?_,λm hm=>?_,λj v b=>?_,?_⟩
 .rw[Z5,if_pos (by omega),List.getElem?_drop]
  have:=g k d;rw[show 17*k=k*17+0 by omega]at this;simpa using this
 .rw[Z5,if_pos (by omega),List.getElem?_drop]
  have:=f k d m hm;rw[show 17*k+1+m=k*17+(1+m) by omega]at this;simpa using this
 .have a:j<17:=by have:=(ZZ.1 b).1;simp at this;omega
  rw[Z5,if_pos a,List.getElem?_drop]at b;simpa[World.cell?,l] using b
 .rw[Array.all_eq_true']
  intro v b;obtain⟨j,a⟩:=List.getElem?_of_mem (show v∈(row.toList.drop (k*17)).take 17 by simpa using b);have c:j<17:=by have:=(ZZ.1 a).1;simp at this;omega
  rw[Z5,if_pos c,List.getElem?_drop]at a
  by_cases n:j=0
  .subst n
   have:=g k d;rw[show 17*k=k*17+0 by omega]at this;have e:some v=some (Value.int .i64 (L k)):=by rw[<-a];simpa using this
   cases e;rfl
  .have:=f k d (j-1) (by omega)
   rw[show 17*k+1+(j-1)=k*17+j by omega]at this;have e:some v=some (Value.bool (F k (j-1))):=by rw[<-a];simpa using this
   cases e;rfl
theorem Mq (wr)(zs cs)(t):∃a,(wr.alloc (.cells zs t)).setRow wr.heap.size cs=a/\a.heap[wr.heap.size]? =some (.cells cs t (0,0))/\Below wr.heap.size wr a:=by
 have c:(wr.alloc (.cells zs t)).heap[wr.heap.size]? =some (.cells zs t (0,0)):=aae _ _;have d:=setRow_heap (wr.alloc (.cells zs t)) wr.heap.size zs cs t (0,0) c;exact⟨_,rfl,d,rfl,rfl,rfl,by simp,λk b=>(setRow_other _ _ _ _ (by omega)).trans (aac _ _ _ b)⟩
theorem BF (cs)(z)(_:cs.size=17)(b:cs[0]? =some (.int .i64 z))(w):Calls (patch ae prog) 132 #[.agg cs] w λe w'=>e=.returned (.bool (!(z==0)))/\Below w.heap.size w w':=by
 have a:∀W:World,W.heap[w.heap.size]? =some (.cells cs 91 (0,0))->W.cell? ⟨w.heap.size,0,none⟩=some (.int .i64 z):=λW h=>by rw[(blk h).1,b]
 have c:=a _ (aae w (.cells cs 91))
 go_enter (pf func132 (by rfl)),ntmps132
 go_wp2_with fail;go_ret;exact⟨rfl,(aab _ _).alloc (ZL _) _⟩
def gX (L:Nat->Int)(F:Nat->Nat->Bool)(k m:Nat):Bool:=(List.range k).all λi=>L i==0||F i m
theorem Lj (L)(F)(k m):gX L F (k+1) m=(gX L F k m&&(L k==0||F k m)):=by
 unfold gX;rw[Z6,List.all_append];simp
theorem Pz {L}{F}{k m}(a:k<4)(h:(L k==0||F k m)=false):gX L F 4 m=false:=by
 unfold gX;rw[List.all_eq_false];exact⟨k,Z9.2 a,by rw[h];simp⟩
theorem rG (L)(F)(s m:Nat)(w)(u:tV w s L F)(hm:m<16):Calls (patch ae prog) 83 #[ko s,.int .u64 m] w λe w'=>e=.returned (.bool (gX L F 4 m))/\Below w.heap.size w w':=by
 have A:=av u;clear u;unfold ko
 go_enter (pf func83 (by rfl)),ntmps83
 go_wp2_with fail
 go_loopw [9] (λi wr=>∃k:Nat,k<=4/\i=.int .i64 k/\gX L F k m=true/\Below w.heap.size w wr) (λi _=>4-(intOf i).toNat)
 case atStart=>exact⟨0,by omega,rfl,rfl,aab _ _⟩
 case round=>
  obtain⟨k,H,rfl,hf,hb⟩:=hrel;have n:=av (aaa hf hb);have G:w.heap.size<=wr.heap.size:=hb.size;clear hf
  by_cases d:k<4
  .have E:(k:Int)<4:=by omega
   obtain⟨cs,a,r,h,o,c⟩:=(A.out.below hb).part d;have g:=h m hm;have q:((patch ae prog).info? 91).map (·.size)=some cs.length:=(by rw[a];exact iA);have f:((patch ae prog).info? 91).map (·.size)=some cs.toArray.size:=(by rw[List.size_toArray,a];exact iA);have v:=BF cs.toArray (L k) (by simpa using a) (by simpa using r);have B:=av v;have D:(m:Int)<16:=(by omega);clear v h hb
   go_wp2_with(first
        |refine wpList_load_mid rfl 91 _ rfl s (k*17) rfl cs _ o ((ax ae prog 91).trans underlying91) rfl q ?_
        |(refine wpList_store_row rfl 91 _ _ rfl wr.heap.size cs.toArray rfl rfl 91 _ (aae _ _) f (by simp[a]) c ?_;obtain⟨z,x,t,b3⟩:=Mq wr _ cs.toArray 91;rw[x];have H3:=av (aaa t b3);clear t b3 x)
        |refine wpList_load_row rfl 91 _ rfl wr.heap.size rfl 91 cs.toArray (0,0) _ H3.out.1 ((ax ae prog 91).trans underlying91) rfl f ?_
        |(go_at_call 132;refine(B.out z).mono ?_;rintro e w4 ⟨rfl,l⟩;have y:=(l.block _ (ZK.1 H3.out.1).1).trans H3.out.1;have C:w4.cell? ⟨wr.heap.size,1+m,none⟩=some (.bool (F k m)):=by rw[(blk y).1];simpa using g))
   all_goals
        have j:Below w.heap.size w w4:=ai n.out.2 (ai H3.out.2 l)
        first
         |(go_ret
           have p:(L k==0||F k m)=false:=(by simp_all);exact⟨by rw[Pz d p];rfl,j⟩)
         |(have b:(L k==0||F k m)=true:=by simp_all
           exact⟨⟨k+1,by omega,by go_num,by rw[Lj,n.out.1,b];rfl,j⟩,by simp[intOf];omega⟩)
  .have:k=4:=by omega
   subst this;go_wp2_with fail;go_ret;exact⟨by rw[n.out.1];rfl,n.out.2⟩
theorem De (L)(F)(c m:Nat)(w)(d:tV w c L F)(hm:m<16):Calls (patch ae prog) 135 #[ko c,.int .u64 m] w λe w'=>e=.returned (.bool (decide (pop m=1)&&gX L F 4 m))/\Below w.heap.size w w':=by
 have g:=av d;clear d
 by_cases f:pop m=1
 .have a:(pop m:Int)=1:=by omega
  go_enter (pf func135 (by rfl)),ntmps135
  go_wp2_with(first
   |(go_at_call 163;refine(iI m hm _).mono ?_;rintro e w1 ⟨rfl,hw⟩;obtain rfl:=hw.symm;rw[a])
   |(go_at_call 83;refine(rG L F c m _ g.out hm).mono ?_;rintro e w1 ⟨rfl,b⟩))
  go_ret;exact⟨by simp[f],b⟩
 .have a:((pop m:Int)==1)=false:=beq_eq_false_iff_ne.2 (by omega)
  go_enter (pf func135 (by rfl)),ntmps135
  go_wp2_with(go_at_call 163;refine(iI m hm _).mono ?_;rintro e w1 ⟨rfl,hw⟩;obtain rfl:=hw.symm);go_ret;exact⟨by simp[f],aab _ _⟩
theorem Av (L)(F)(b vb m:Nat)(w)(c:tV w b L F)(hm:m<16)(hc:w.cell? ⟨vb,0,none⟩=some (ko b)):Calls (patch ae prog) 136 #[.int .u64 m,.pointer (some ⟨vb,0,none⟩)] w λe w'=>e=.returned (.bool (decide (m=15)&&gX L F 4 m))/\Below w.heap.size w w':=by
 have g:=av c;clear c
 by_cases d:m=15
 .subst d
  go_enter (pf func136 (by rfl)),ntmps136
  go_wp2_with(go_at_call 83;refine(rG L F b 15 _ g.out hm).mono ?_;rintro e w1 ⟨rfl,a⟩);go_ret;exact⟨by simp,a⟩
 .have f:((m:Int)==15)=false:=beq_eq_false_iff_ne.2 (by omega)
  go_enter (pf func136 (by rfl)),ntmps136
  go_wp2_with fail;go_ret;exact⟨by simp[d],aab _ _⟩
def kS (p:Nat->Bool):Value:=match ord.find? p with
 |some m=>.tuple #[.int .u64 m,.bool true]
 |none=>.tuple #[.int .u64 0,.bool false]
theorem kE {p}{m}(h:ord.find? p=some m):kS p=.tuple #[.int .u64 m,.bool true]:=by unfold kS;rw[h]
theorem kF {p}(h:ord.find? p=none):kS p=.tuple #[.int .u64 0,.bool false]:=by unfold kS;rw[h]
theorem Dg (p)(X f)(w)(hf:f=.func (.func 83) #[X] #[])(a:∀(m:Nat) (o:World),m<16->Below w.heap.size w o->Calls (patch ae prog) 83 #[X,.int .u64 m] o λe w'=>e=.returned (.bool (p m))/\Below o.heap.size o w'):
 Calls (patch ae prog) 133 #[f] w λe w'=>e=.returned (kS p)/\Below w.heap.size w w':=by
 subst hf;have D:=av a;clear a;have hlen:ord.length=15:=by kernel_rfl
 have q:∀m∈ord,m<16:=by
  have key:(ord.all λm=>decide (m<16))=true:=by kernel_rfl
  intro m hm;simpa using ZU.1 key m hm
 go_enter (pf func133 (by rfl)),ntmps133
 go_wp2_with(go_at_call 119;refine(gW _).mono ?_;rintro e w1 ⟨v,rfl,b,l⟩;obtain⟨g,cap,rfl,u,t,H,hcell⟩:=oM b;have H1:Hid (Below w.heap.size w w1/\∀k m:Nat,ord[k]? =some m->w1.cell? ⟨g,k,none⟩=some (.int .u64 (m:Int))):=⟨l,hcell⟩;clear b l hcell)
 go_loopw [8] (λi wr=>∃k:Nat,k<=15/\i=.int .i64 k/\(ord.take k).find? p=none/\Below w1.heap.size w1 wr) (λi _=>15-(intOf i).toNat)
 case atStart=>exact⟨0,by omega,rfl,rfl,aab _ _⟩
 case round=>
  obtain⟨k,G,rfl,c,hb⟩:=hrel;have n:=av (aaa c hb);clear c
  by_cases B:k<15
  .obtain⟨m,hm⟩:∃m,ord[k]? =some m:=⟨_,ZT (by omega)⟩
   have d:=q m (aak hm);have E:=keeps hb (H1.out.2 k m hm);have F:(k:Int)<15:=(by omega)
   have z:Hid ((ord.take (k+1)).find? p=(if p m then some m else none)/\(p m=true->ord.find? p=some m)):=by
        have r:(ord.take (k+1)).find? p=(if p m then some m else none):=by
         rw[List.take_add_one,hm,List.find?_append,n.out.1];simp[List.find?_cons];cases p m<;>rfl
        refine⟨r,λh=>?_⟩;rw[h]at r;rw[<-List.take_append_drop (k+1) ord,List.find?_append,r];rfl
   clear hb hm;go_wp2_with(go_at_call 83;refine(D.out m wr d (ai H1.out.1 n.out.2)).mono ?_;rintro e w2 ⟨rfl,j⟩;have A:=av (ai n.out.2 j);clear j;cases hp:p m)
   .have s:=av hp
    go_roundw
    case rel=>exact⟨k+1,by omega,by go_num,by rw[z.out.1,s.out];rfl,A.out⟩
    case measure=>simp[intOf];omega
   .have s:=av hp
    go_ret2;exact⟨by rw[kE (z.out.2 s.out)];rfl,ai H1.out.1 A.out⟩
  .have:k=15:=by omega
   subst this
   have y:ord.find? p=none:=by
        have x:=n.out.1;rw[aah (by omega)]at x;exact x
   have C:=av y;clear y hb;go_wp2_with fail;go_ret2;exact⟨by rw[kF C.out];rfl,ai H1.out.1 n.out.2⟩
theorem Ap (p)(X f)(w)(hf:f=.func (.func 134) #[X] #[])(a:∀(m:Nat) (o:World),m<16->Below w.heap.size w o->Calls (patch ae prog) 134 #[X,.int .u64 m] o λe w'=>e=.returned (.bool (p m))/\Below o.heap.size o w'):
 Calls (patch ae prog) 133 #[f] w λe w'=>e=.returned (kS p)/\Below w.heap.size w w':=by
 subst hf;have D:=av a;clear a;have hlen:ord.length=15:=by kernel_rfl
 have q:∀m∈ord,m<16:=by
  have key:(ord.all λm=>decide (m<16))=true:=by kernel_rfl
  intro m hm;simpa using ZU.1 key m hm
 go_enter (pf func133 (by rfl)),ntmps133
 go_wp2_with(go_at_call 119;refine(gW _).mono ?_;rintro e w1 ⟨v,rfl,b,l⟩;obtain⟨g,cap,rfl,u,t,H,hcell⟩:=oM b;have H1:Hid (Below w.heap.size w w1/\∀k m:Nat,ord[k]? =some m->w1.cell? ⟨g,k,none⟩=some (.int .u64 (m:Int))):=⟨l,hcell⟩;clear b l hcell)
 go_loopw [8] (λi wr=>∃k:Nat,k<=15/\i=.int .i64 k/\(ord.take k).find? p=none/\Below w1.heap.size w1 wr) (λi _=>15-(intOf i).toNat)
 case atStart=>exact⟨0,by omega,rfl,rfl,aab _ _⟩
 case round=>
  obtain⟨k,G,rfl,c,hb⟩:=hrel;have n:=av (aaa c hb);clear c
  by_cases B:k<15
  .obtain⟨m,hm⟩:∃m,ord[k]? =some m:=⟨_,ZT (by omega)⟩
   have d:=q m (aak hm);have E:=keeps hb (H1.out.2 k m hm);have F:(k:Int)<15:=(by omega)
   have z:Hid ((ord.take (k+1)).find? p=(if p m then some m else none)/\(p m=true->ord.find? p=some m)):=by
        have r:(ord.take (k+1)).find? p=(if p m then some m else none):=by
         rw[List.take_add_one,hm,List.find?_append,n.out.1];simp[List.find?_cons];cases p m<;>rfl
        refine⟨r,λh=>?_⟩;rw[h]at r;rw[<-List.take_append_drop (k+1) ord,List.find?_append,r];rfl
   clear hb hm;go_wp2_with(go_at_call 134;refine(D.out m wr d (ai H1.out.1 n.out.2)).mono ?_;rintro e w2 ⟨rfl,j⟩;have A:=av (ai n.out.2 j);clear j;cases hp:p m)
   .have s:=av hp
    go_roundw
    case rel=>exact⟨k+1,by omega,by go_num,by rw[z.out.1,s.out];rfl,A.out⟩
    case measure=>simp[intOf];omega
   .have s:=av hp
    go_ret2;exact⟨by rw[kE (z.out.2 s.out)];rfl,ai H1.out.1 A.out⟩
  .have:k=15:=by omega
   subst this
   have y:ord.find? p=none:=by
        have x:=n.out.1;rw[aah (by omega)]at x;exact x
   have C:=av y;clear y hb;go_wp2_with fail;go_ret2;exact⟨by rw[kF C.out];rfl,ai H1.out.1 n.out.2⟩
theorem Df (p)(X f)(w)(hf:f=.func (.func 135) #[X] #[])(a:∀(m:Nat) (o:World),m<16->Below w.heap.size w o->Calls (patch ae prog) 135 #[X,.int .u64 m] o λe w'=>e=.returned (.bool (p m))/\Below o.heap.size o w'):
 Calls (patch ae prog) 133 #[f] w λe w'=>e=.returned (kS p)/\Below w.heap.size w w':=by
 subst hf;have D:=av a;clear a;have hlen:ord.length=15:=by kernel_rfl
 have q:∀m∈ord,m<16:=by
  have key:(ord.all λm=>decide (m<16))=true:=by kernel_rfl
  intro m hm;simpa using ZU.1 key m hm
 go_enter (pf func133 (by rfl)),ntmps133
 go_wp2_with(go_at_call 119;refine(gW _).mono ?_;rintro e w1 ⟨v,rfl,b,l⟩;obtain⟨g,cap,rfl,u,t,H,hcell⟩:=oM b;have H1:Hid (Below w.heap.size w w1/\∀k m:Nat,ord[k]? =some m->w1.cell? ⟨g,k,none⟩=some (.int .u64 (m:Int))):=⟨l,hcell⟩;clear b l hcell)
 go_loopw [8] (λi wr=>∃k:Nat,k<=15/\i=.int .i64 k/\(ord.take k).find? p=none/\Below w1.heap.size w1 wr) (λi _=>15-(intOf i).toNat)
 case atStart=>exact⟨0,by omega,rfl,rfl,aab _ _⟩
 case round=>
  obtain⟨k,G,rfl,c,hb⟩:=hrel;have n:=av (aaa c hb);clear c
  by_cases B:k<15
  .obtain⟨m,hm⟩:∃m,ord[k]? =some m:=⟨_,ZT (by omega)⟩
   have d:=q m (aak hm);have E:=keeps hb (H1.out.2 k m hm);have F:(k:Int)<15:=(by omega)
   have z:Hid ((ord.take (k+1)).find? p=(if p m then some m else none)/\(p m=true->ord.find? p=some m)):=by
        have r:(ord.take (k+1)).find? p=(if p m then some m else none):=by
         rw[List.take_add_one,hm,List.find?_append,n.out.1];simp[List.find?_cons];cases p m<;>rfl
        refine⟨r,λh=>?_⟩;rw[h]at r;rw[<-List.take_append_drop (k+1) ord,List.find?_append,r];rfl
   clear hb hm;go_wp2_with(go_at_call 135;refine(D.out m wr d (ai H1.out.1 n.out.2)).mono ?_;rintro e w2 ⟨rfl,j⟩;have A:=av (ai n.out.2 j);clear j;cases hp:p m)
   .have s:=av hp
    go_roundw
    case rel=>exact⟨k+1,by omega,by go_num,by rw[z.out.1,s.out];rfl,A.out⟩
    case measure=>simp[intOf];omega
   .have s:=av hp
    go_ret2;exact⟨by rw[kE (z.out.2 s.out)];rfl,ai H1.out.1 A.out⟩
  .have:k=15:=by omega
   subst this
   have y:ord.find? p=none:=by
        have x:=n.out.1;rw[aah (by omega)]at x;exact x
   have C:=av y;clear y hb;go_wp2_with fail;go_ret2;exact⟨by rw[kF C.out];rfl,ai H1.out.1 n.out.2⟩
theorem Dh (p)(X f)(w)(hf:f=.func (.func 136) #[] #[X])(a:∀(m:Nat) (o:World),m<16->Below w.heap.size w o->Calls (patch ae prog) 136 #[.int .u64 m,X] o λe w'=>e=.returned (.bool (p m))/\Below o.heap.size o w'):
 Calls (patch ae prog) 133 #[f] w λe w'=>e=.returned (kS p)/\Below w.heap.size w w':=by
 subst hf;have D:=av a;clear a;have hlen:ord.length=15:=by kernel_rfl
 have q:∀m∈ord,m<16:=by
  have key:(ord.all λm=>decide (m<16))=true:=by kernel_rfl
  intro m hm;simpa using ZU.1 key m hm
 go_enter (pf func133 (by rfl)),ntmps133
 go_wp2_with(go_at_call 119;refine(gW _).mono ?_;rintro e w1 ⟨v,rfl,b,l⟩;obtain⟨g,cap,rfl,u,t,H,hcell⟩:=oM b;have H1:Hid (Below w.heap.size w w1/\∀k m:Nat,ord[k]? =some m->w1.cell? ⟨g,k,none⟩=some (.int .u64 (m:Int))):=⟨l,hcell⟩;clear b l hcell)
 go_loopw [8] (λi wr=>∃k:Nat,k<=15/\i=.int .i64 k/\(ord.take k).find? p=none/\Below w1.heap.size w1 wr) (λi _=>15-(intOf i).toNat)
 case atStart=>exact⟨0,by omega,rfl,rfl,aab _ _⟩
 case round=>
  obtain⟨k,G,rfl,c,hb⟩:=hrel;have n:=av (aaa c hb);clear c
  by_cases B:k<15
  .obtain⟨m,hm⟩:∃m,ord[k]? =some m:=⟨_,ZT (by omega)⟩
   have d:=q m (aak hm);have E:=keeps hb (H1.out.2 k m hm);have F:(k:Int)<15:=(by omega)
   have z:Hid ((ord.take (k+1)).find? p=(if p m then some m else none)/\(p m=true->ord.find? p=some m)):=by
        have r:(ord.take (k+1)).find? p=(if p m then some m else none):=by
         rw[List.take_add_one,hm,List.find?_append,n.out.1];simp[List.find?_cons];cases p m<;>rfl
        refine⟨r,λh=>?_⟩;rw[h]at r;rw[<-List.take_append_drop (k+1) ord,List.find?_append,r];rfl
   clear hb hm;go_wp2_with(go_at_call 136;refine(D.out m wr d (ai H1.out.1 n.out.2)).mono ?_;rintro e w2 ⟨rfl,j⟩;have A:=av (ai n.out.2 j);clear j;cases hp:p m)
   .have s:=av hp
    go_roundw
    case rel=>exact⟨k+1,by omega,by go_num,by rw[z.out.1,s.out];rfl,A.out⟩
    case measure=>simp[intOf];omega
   .have s:=av hp
    go_ret2;exact⟨by rw[kE (z.out.2 s.out)];rfl,ai H1.out.1 A.out⟩
  .have:k=15:=by omega
   subst this
   have y:ord.find? p=none:=by
        have x:=n.out.1;rw[aah (by omega)]at x;exact x
   have C:=av y;clear y hb;go_wp2_with fail;go_ret2;exact⟨by rw[kF C.out];rfl,ai H1.out.1 n.out.2⟩
def uH (L:Nat->Int)(k m:Nat):Bool:=(List.range k).all λi=>L i==0||L i==(pop m:Int)
theorem yu (L)(k m):uH L (k+1) m=(uH L k m&&(L k==0||L k==(pop m:Int))):=by
 unfold uH;rw[Z6,List.all_append];simp
theorem NH {L}{k m}(a:k<4)(h:(L k==0||L k==(pop m:Int))=false):uH L 4 m=false:=by
 unfold uH;rw[List.all_eq_false];exact⟨k,Z9.2 a,by rw[h];simp⟩
theorem Jo (cs)(z)(c:cs[0]? =some (.int .i64 z))(w):Calls (patch ae prog) 132 #[.agg cs] w λe w'=>e=.returned (.bool (!(z==0)))/\∃q a,w'=Go.Sort.grow (w.drewN q) a:=by
 have b:∀W:World,W.heap[w.heap.size]? =some (.cells cs 91 (0,0))->W.cell? ⟨w.heap.size,0,none⟩=some (.int .i64 z):=λW h=>by rw[(blk h).1,c]
 have d:=b _ (aae w (.cells cs 91))
 go_enter (pf func132 (by rfl)),ntmps132
 go_wp2_with fail;go_ret;exact⟨rfl,0,#[.cells cs 91 (0,0)],Go.Sort.alloc_eq_grow _ _⟩
theorem yo {w:World}{b:Nat}{o}(h:w.heap[b]? =some o)(n)(os):(Go.Sort.grow (w.drewN n) os).heap[b]? =some o:=by
 have hl:=(ZK.1 h).1;show(w.heap++os)[b]? =_
 rw[Array.getElem?_append_left hl];exact h
theorem pV (m:Nat)(hm:m<16)(w):Calls (patch ae prog) 163 #[.int .u64 m] w λe w'=>e=.returned (.int .i64 (pop m))/\∃q a,w'=Go.Sort.grow (w.drewN q) a:=
 (iI m hm w).mono λ_ _ ⟨c,b⟩=>⟨c,0,#[],by rw[b];simp[Go.Sort.grow,World.drewN]⟩
theorem qh {ops}{Q}{a}{o}{rest}{W:World}{v}{b}{x}(f:o.guard=none)(d:o.op=.load 91 x)(hx:a.eval x=.pointer (some ⟨b,0,none⟩))
 (hl:∀n os,Sem.run (patch ae prog) (Instr.loadAt 91 (.pointer (some ⟨b,0,none⟩))) (Go.Sort.grow (W.drewN n) os)=.ok v (Go.Sort.grow (W.drewN n) os))
 (h:wpQuiet (patch ae prog) ops (λw'=>∃p:GrownBy,w'=Go.Sort.grow (W.drewN p.n) p.os) Q rest (a.put o.dst v)):wpQuiet (patch ae prog) ops (λw'=>∃p:GrownBy,w'=Go.Sort.grow (W.drewN p.n) p.os) Q (o::rest) a:=by
 refine wpQuiet_step (λK g=>?_);rw[if_pos (by unfold Region.wanted;rw[f])];refine⟨v,λj c=>?_,g _ h⟩;obtain⟨p,rfl⟩:=c
 have e:(execOp a.eval o).run (patch ae prog) (Go.Sort.grow (W.drewN p.n) p.os)=.ok (.value v) (Go.Sort.grow (W.drewN p.n) p.os):=by
  unfold execOp;rw[d];have i:=hl p.n p.os;simp only[hx,Sem.run_bind,i,Result.andThen_ok,Sem.run_pure]
 unfold Oper.quietAt;rw[e];exact⟨rfl,rfl⟩
open Go.RowKit
theorem NG (L)(F)(B m:Nat)(w)(M:tV w B L F)(hm:m<16):Calls (patch ae prog) 134 #[ko B,.int .u64 m] w λe w'=>e=.returned (.bool (uH L 4 m&&gX L F 4 m))/\Below w.heap.size w w':=by
 have O:=av M;clear M;have y:Hid (∀r,Below w.heap.size w r->Calls (patch ae prog) 83 #[.slice (some ⟨B,0,none⟩) 4 4,.int .u64 m] r λe w'=>e=.returned (.bool (gX L F 4 m))/\Below r.heap.size r w'):=λr h=>rG L F B m r (O.out.below h) hm
 unfold ko
 go_enter (pf func134 (by rfl)),ntmps134
 go_wp2_with fail
 go_loopw [9] (λi wr=>∃k:Nat,k<=4/\i=.int .i64 k/\uH L k m=true/\Below w.heap.size w wr) (λi _=>4-(intOf i).toNat)
 case atStart=>exact⟨0,by omega,rfl,rfl,aab _ _⟩
 case round=>
  obtain⟨k,T,rfl,hf,hb⟩:=hrel;have s:=av (aaa hf hb);have K:w.heap.size<=wr.heap.size:=hb.size;clear hf
  by_cases u:k<4
  .have S:(k:Int)<4:=by omega
   obtain⟨cs,c,g,z,t,j⟩:=(O.out.below hb).part u;have v:((patch ae prog).info? 91).map (·.size)=some cs.length:=(by rw[c];exact iA);have x:((patch ae prog).info? 91).map (·.size)=some cs.toArray.size:=(by rw[List.size_toArray,c];exact iA);have U:=av (BF cs.toArray (L k) (by simpa using c) (by simpa using g));have R:Hid (∀m,m<16->cs[1+m]? =some (.bool (F k m))):=z;clear hb z
   go_wp2_with(first
        |refine wpList_load_mid rfl 91 _ rfl B (k*17) rfl cs _ t ((ax ae prog 91).trans underlying91) rfl v ?_
        |(refine wpList_store_row rfl 91 _ _ rfl wr.heap.size cs.toArray rfl rfl 91 _ (aae _ _) x (by simp[c]) j ?_;obtain⟨A,N,J,b3⟩:=Mq wr _ cs.toArray 91;rw[N];have H3:=av (aaa J b3);clear J b3 N))
   have mixed:((patch ae prog)).follows .mixedOrders=true:=(by kernel_rfl);have hcell:∀n os,(Go.Sort.grow (A.drewN n) os).cell? ⟨wr.heap.size,0,none⟩=some (.int .i64 (L k)):=λn os=>by rw[(blk (yo H3.out.1 n os)).1];simpa using g
   have l:Hid (∀n os,Sem.run (patch ae prog) (Instr.loadAt 91 (.pointer (some ⟨wr.heap.size,0,none⟩))) (Go.Sort.grow (A.drewN n) os)=.ok (.agg cs.toArray) (Go.Sort.grow (A.drewN n) os)):=λn os=>Ul (yo H3.out.1 n os) (by simpa using c)
   have f:Hid (∀w,Calls (patch ae prog) 132 #[.agg cs.toArray] w λe w'=>e=.returned (.bool (!(L k==0)))/\∃q C,w'=Go.Sort.grow (w.drewN q) C):=Jo cs.toArray (L k) (by simpa using g);have o:Hid (∀n os,Below w.heap.size w (Go.Sort.grow (A.drewN n) os)):=λn os=>(s.out.2.trans (H3.out.2.mono K)).trans (Go.Lib.below_grow _ A (ZP K H3.out.2.size) n os)
   clear j t x v g
   by_cases p:L k=0
   .have d:(!(L k==0))=false:=by simp[p]
    rw[d]at f;have I:=av p;clear d p;simp only[Act.put];refine wp_region_quiet_grown (by assumption) (by kernel_rfl) ?_;refine qh rfl rfl rfl (l.out) ?_;simp only[Act.put,ZN,ZS,ZR]
    repeat(quiet_step (first|(go_at_call 132;refine Calls.grown_of (f.out _))|(go_at_call 163;refine Calls.grown_of (pV m hm _))))
    refine wpQuiet_nil ?_;intro _ a;obtain⟨⟨nq,osq⟩,b⟩:=a;subst b;go_wp2_with fail;go_roundw
    case rel=>exact⟨k+1,by omega,by go_num,by rw[yu,s.out.1,I.out];rfl,o.out _ _⟩
    case measure=>simp[intOf];omega
   .have d:(!(L k==0))=true:=by simp[p]
    rw[d]at f;have I:=av p;clear d p
    by_cases hp:L k=(pop m:Int)
    .have D:(L k !=(pop m:Int))=false:=by simp[hp]
     have H:=av hp;clear hp;simp only[Act.put];refine wp_region_quiet_grown (by assumption) (by kernel_rfl) ?_;refine qh rfl rfl rfl (l.out) ?_;simp only[Act.put,ZN,ZS,ZR]
     repeat(quiet_step (first|(go_at_call 132;refine Calls.grown_of (f.out _))|(go_at_call 163;refine Calls.grown_of (pV m hm _))))
     refine wpQuiet_nil ?_;intro _ a;obtain⟨⟨nq,osq⟩,b⟩:=a;subst b;go_wp2_with fail;go_roundw
     case rel=>exact⟨k+1,by omega,by go_num,by rw[yu,s.out.1,H.out];simp,o.out _ _⟩
     case measure=>simp[intOf];omega
    .have D:(L k !=(pop m:Int))=true:=by simp[hp]
     have H:=av hp;clear hp;simp only[Act.put];refine wp_region_quiet_grown (by assumption) (by kernel_rfl) ?_;refine qh rfl rfl rfl (l.out) ?_;simp only[Act.put,ZN,ZS,ZR]
     repeat(quiet_step (first|(go_at_call 132;refine Calls.grown_of (f.out _))|(go_at_call 163;refine Calls.grown_of (pV m hm _))))
     refine wpQuiet_nil ?_;intro _ a;obtain⟨⟨nq,osq⟩,b⟩:=a;subst b;go_wp2_with fail;go_ret
     have E:(L k==0||L k==(pop m:Int))=false:=by
      have Q:=I.out;have P:=H.out;simp[Q,P]
     exact⟨by rw[NH u E];rfl,o.out _ _⟩
  .have:k=4:=by omega
   subst this;go_wp2_with(go_at_call 83;refine(y.out _ s.out.2).mono ?_;rintro e w4 ⟨rfl,G⟩);go_ret;exact⟨by rw[s.out.1];rfl,ai s.out.2 G⟩
theorem yZ (w:World)(t)(v):(w.alloc (.cells #[v] t)).cell? ⟨w.heap.size,0,none⟩=some v:=(blk (aae w (.cells #[v] t))).1 0
def nU (L:Nat->Int)(F:Nat->Nat->Bool)(m:Nat):Bool:=uH L 4 m&&gX L F 4 m
def Bc (L:Nat->Int)(F:Nat->Nat->Bool)(m:Nat):Bool:=decide (pop m=1)&&gX L F 4 m
def isAll (L:Nat->Int)(F:Nat->Nat->Bool)(m:Nat):Bool:=decide (m=15)&&gX L F 4 m
def gu (L:Nat->Int)(F:Nat->Nat->Bool)(p:Int):Option Nat:=
 if p=1 then(match ord.find? (nU L F)with|some m=>some m|none=>ord.find? (gX L F 4))else if p=2 then ord.find? (nU L F)else if p=3 then ord.find? (Bc L F)else ord.find? (isAll L F)
def dW:Option Nat->Value
 |some m=>.tuple #[.int .u64 m,.bool true]
 |none=>.tuple #[.int .u64 0,.bool false]
theorem QF (p):kS p=dW (ord.find? p):=by
 unfold kS dW;cases ord.find? p<;>rfl
theorem Jd (L)(F)(d)(p)(w)(k:tV w d L F):Calls (patch ae prog) 84 #[ko d,.int .i64 p] w λe w'=>e=.returned (dW (gu L F p))/\Below w.heap.size w w':=by
 have i:Hid (∀W,Below w.heap.size w W->Calls (patch ae prog) 133 #[.func (.func 134) #[.slice (some ⟨d,0,none⟩) 4 4] #[]] W λe w'=>e=.returned (dW (ord.find? (nU L F)))/\Below W.heap.size W w'):=λW hW=>by
  have:=Ap (nU L F) (ko d) _ W rfl λm g hm hb=>NG L F d m g ((k.below hW).below hb) hm
  exact this
 have r:Hid (∀W,Below w.heap.size w W->Calls (patch ae prog) 133 #[.func (.func 83) #[.slice (some ⟨d,0,none⟩) 4 4] #[]] W λe w'=>e=.returned (dW (ord.find? (gX L F 4)))/\Below W.heap.size W w'):=λW hW=>by
  have:=Dg (gX L F 4) (ko d) _ W rfl λm g hm hb=>rG L F d m g ((k.below hW).below hb) hm
  exact this
 have q:Hid (∀W,Below w.heap.size w W->Calls (patch ae prog) 133 #[.func (.func 135) #[.slice (some ⟨d,0,none⟩) 4 4] #[]] W λe w'=>e=.returned (dW (ord.find? (Bc L F)))/\Below W.heap.size W w'):=λW hW=>by
  have:=Df (Bc L F) (ko d) _ W rfl λm g hm hb=>De L F d m g ((k.below hW).below hb) hm
  exact this
 have s:Hid (∀W vb,Below w.heap.size w W->W.cell? ⟨vb,0,none⟩=some (ko d)->Calls (patch ae prog) 133 #[.func (.func 136) #[] #[.pointer (some ⟨vb,0,none⟩)]] W λe w'=>e=.returned (dW (ord.find? (isAll L F)))/\Below W.heap.size W w'):=λW vb hW hc=>by
  have:=Dh (isAll L F) (.pointer (some ⟨vb,0,none⟩)) _ W rfl λm g hm hb=>Av L F d vb m g ((k.below hW).below hb) hm (keeps hb hc)
  exact this
 unfold ko;have b0:Below w.heap.size w (w.alloc (.cells #[.slice (some ⟨d,0,none⟩) 4 4] 87)):=(aab _ _).alloc (ZL _) _;have b:=av b0
 by_cases o:p=1
 .subst o
  cases c:ord.find? (nU L F)with
  |some m=>
   go_enter (pf func84 (by rfl)),ntmps84
   go_wp2_with(go_at_call 133;refine(i.out _ b.out).mono ?_;rintro e w1 ⟨rfl,a⟩;rw[c];unfold dW);go_ret2;exact⟨by unfold gu;simp[c,dW],ai b.out a⟩
  |none=>
   cases hf:ord.find? (gX L F 4)with
   |some m=>
    go_enter (pf func84 (by rfl)),ntmps84
    go_wp2_with fail;refine(i.out _ b.out).mono ?_;rintro e w1 ⟨rfl,a⟩;unfold dW;have j:=keeps a (yZ w 87 (.slice (some ⟨d,0,none⟩) 4 4));go_wp2_with fail;refine(r.out _ (ai b.out a)).mono ?_;rintro e w2 ⟨rfl,f⟩;unfold dW;go_wp2_with fail;go_ret2;exact⟨by unfold gu;simp[c,hf,dW],ai (ai b.out a) f⟩
   |none=>
    go_enter (pf func84 (by rfl)),ntmps84
    go_wp2_with fail;refine(i.out _ b.out).mono ?_;rintro e w1 ⟨rfl,a⟩;unfold dW;have j:=keeps a (yZ w 87 (.slice (some ⟨d,0,none⟩) 4 4));go_wp2_with fail;refine(r.out _ (ai b.out a)).mono ?_;rintro e w2 ⟨rfl,f⟩;unfold dW;go_wp2_with fail;go_ret2;exact⟨by unfold gu;simp[c,hf,dW],ai (ai b.out a) f⟩
 .have v:=beq_eq_false_iff_ne.2 o
  by_cases n:p=2
  .subst n
   cases c:ord.find? (nU L F)with
   |some m=>
    go_enter (pf func84 (by rfl)),ntmps84
    go_wp2_with(go_at_call 133;refine(i.out _ b.out).mono ?_;rintro e w1 ⟨rfl,a⟩;rw[c];unfold dW);go_ret2;exact⟨by unfold gu;simp[c,dW],ai b.out a⟩
   |none=>
    go_enter (pf func84 (by rfl)),ntmps84
    go_wp2_with(go_at_call 133;refine(i.out _ b.out).mono ?_;rintro e w1 ⟨rfl,a⟩;rw[c];unfold dW);go_ret2;exact⟨by unfold gu;simp[c,dW],ai b.out a⟩
  .have u:=beq_eq_false_iff_ne.2 n
   by_cases l:p=3
   .subst l
    cases c:ord.find? (Bc L F)with
    |some m=>
     go_enter (pf func84 (by rfl)),ntmps84
     go_wp2_with(go_at_call 133;refine(q.out _ b.out).mono ?_;rintro e w1 ⟨rfl,a⟩;rw[c];unfold dW);go_ret2;exact⟨by unfold gu;simp[c,dW],ai b.out a⟩
    |none=>
     go_enter (pf func84 (by rfl)),ntmps84
     go_wp2_with(go_at_call 133;refine(q.out _ b.out).mono ?_;rintro e w1 ⟨rfl,a⟩;rw[c];unfold dW);go_ret2;exact⟨by unfold gu;simp[c,dW],ai b.out a⟩
   .have t:=beq_eq_false_iff_ne.2 l
    have h:=av (aaa o (aaa n l));have j:=yZ w 87 (.slice (some ⟨d,0,none⟩) 4 4);cases c:ord.find? (isAll L F)with
    |some m=>
     go_enter (pf func84 (by rfl)),ntmps84
     go_wp2_with(go_at_call 133;refine(s.out _ w.heap.size b.out j).mono ?_;rintro e w1 ⟨rfl,a⟩;rw[c];unfold dW);go_ret2;exact⟨by unfold gu;simp[h.out.1,h.out.2.1,h.out.2.2,c,dW],ai b.out a⟩
    |none=>
     go_enter (pf func84 (by rfl)),ntmps84
     go_wp2_with(go_at_call 133;refine(s.out _ w.heap.size b.out j).mono ?_;rintro e w1 ⟨rfl,a⟩;rw[c];unfold dW);go_ret2;exact⟨by unfold gu;simp[h.out.1,h.out.2.1,h.out.2.2,c,dW],ai b.out a⟩
end Z
