/- Part 36 of the proof. -/
import Derived.Test.YtfpaamhppamcoaaGreatDoorSp35
import Derived.Shelf.SlSortCmp.QuietGrown
import Derived.Shelf.SlicesQ.Load
set_option linter.all false
set_option maxRecDepth 100000
set_option maxHeartbeats 60000000
namespace Go.Proofs.YtfpaamhppamcoaaGreatDoor
open Go.Proofs.Tryz
namespace Z
open Go.RowKit
attribute [local go_sem ↓] Go.wp_at_zero Go.wp_at_succ
attribute [local go_sem] After.cell After.frozen After.const
theorem fitInOne_any (L)(F)(c m:Nat)(w)(d:VRow w c L F)(hm:m<16):Calls (patch ae prog) 135 #[ko c,.int .u64 m] w λe w'=>e=.returned (.bool (decide (pop m=1)&&gX L F 4 m))/\Below w.heap.size w w':=by
 have g:=av d;clear d
 by_cases f:pop m=1
 .have a:(pop m:Int)=1:=by omega
  go_enter (pf func135 (by rfl)),ntmps135
  go_wp2_with(first
   |(go_at_call 163;refine(iI m hm _).mono ?_;rintro e w1 ⟨rfl,hw⟩;obtain rfl:=hw.symm;rw[a])
   |(go_at_call 83;refine(fit_any L F c m _ g.out hm).mono ?_;rintro e w1 ⟨rfl,b⟩))
  go_ret;exact⟨by simp[f],b⟩
 .have a:((pop m:Int)==1)=false:=beq_eq_false_iff_ne.2 (by omega)
  go_enter (pf func135 (by rfl)),ntmps135
  go_wp2_with(go_at_call 163;refine(iI m hm _).mono ?_;rintro e w1 ⟨rfl,hw⟩;obtain rfl:=hw.symm);go_ret;exact⟨by simp[f],aab _ _⟩
theorem chooseAll_any (L)(F)(b vb m:Nat)(w)(c:VRow w b L F)(hm:m<16)(hc:w.cell? ⟨vb,0,none⟩=some (ko b)):Calls (patch ae prog) 136 #[.int .u64 m,.pointer (some ⟨vb,0,none⟩)] w λe w'=>e=.returned (.bool (decide (m=15)&&gX L F 4 m))/\Below w.heap.size w w':=by
 have g:=av c;clear c
 by_cases d:m=15
 .subst d
  go_enter (pf func136 (by rfl)),ntmps136
  go_wp2_with(go_at_call 83;refine(fit_any L F b 15 _ g.out hm).mono ?_;rintro e w1 ⟨rfl,a⟩);go_ret;exact⟨by simp,a⟩
 .have f:((m:Int)==15)=false:=beq_eq_false_iff_ne.2 (by omega)
  go_enter (pf func136 (by rfl)),ntmps136
  go_wp2_with fail;go_ret;exact⟨by simp[d],aab _ _⟩
def kS (p:Nat->Bool):Value:=match ord.find? p with
 |some m=>.tuple #[.int .u64 m,.bool true]
 |none=>.tuple #[.int .u64 0,.bool false]
theorem kE {p}{m}(h:ord.find? p=some m):kS p=.tuple #[.int .u64 m,.bool true]:=by unfold kS;rw[h]
theorem kF {p}(h:ord.find? p=none):kS p=.tuple #[.int .u64 0,.bool false]:=by unfold kS;rw[h]
theorem firstFit_any (p)(X f)(w)(hf:f=.func (.func 83) #[X] #[])(a:∀(m:Nat) (o:World),m<16->Below w.heap.size w o->Calls (patch ae prog) 83 #[X,.int .u64 m] o λe w'=>e=.returned (.bool (p m))/\Below o.heap.size o w'):
 Calls (patch ae prog) 133 #[f] w λe w'=>e=.returned (kS p)/\Below w.heap.size w w':=by
 subst hf;have D:=av a;clear a;have hlen:ord.length=15:=by kernel_rfl
 have q:∀m∈ord,m<16:=by
  have key:(ord.all λm=>decide (m<16))=true:=by kernel_rfl
  intro m hm;simpa using ZU.1 key m hm
 go_enter (pf func133 (by rfl)),ntmps133
 go_wp2_with(go_at_call 119;refine(gW _).mono ?_;rintro e w1 ⟨v,rfl,b,l⟩;obtain⟨g,cap,rfl,u,t,H,hcell⟩:=oM b;have H1:Hid (Below w.heap.size w w1/\∀k m:Nat,ord[k]? =some m->w1.cell? ⟨g,k,none⟩=some (.int .u64 (m:Int))):=⟨l,hcell⟩;clear b l hcell)
 go_loopw [8] (λi wr=>∃k:Nat,k<=15/\i=.int .i64 k/\(ord.take k).find? p=none/\Below w1.heap.size w1 wr) (λi _=>15-(intOf i).toNat)
 case atStart=>exact⟨0,by omega,rfl,rfl,aab _ _⟩
 case round=>
  obtain⟨k,G,rfl,c,hb⟩:=hrel;have n:=av (aaa c hb);clear c
  by_cases B:k<15
  .obtain⟨m,hm⟩:∃m,ord[k]? =some m:=⟨_,ZT (by omega)⟩
   have d:=q m (aak hm);have E:=keeps hb (H1.out.2 k m hm);have F:(k:Int)<15:=(by omega)
   have z:Hid ((ord.take (k+1)).find? p=(if p m then some m else none)/\(p m=true->ord.find? p=some m)):=by
        have r:(ord.take (k+1)).find? p=(if p m then some m else none):=by
         rw[List.take_add_one,hm,List.find?_append,n.out.1];simp[List.find?_cons];cases p m<;>rfl
        refine⟨r,λh=>?_⟩;rw[h]at r;rw[<-List.take_append_drop (k+1) ord,List.find?_append,r];rfl
   clear hb hm;go_wp2_with(go_at_call 83;refine(D.out m wr d (ai H1.out.1 n.out.2)).mono ?_;rintro e w2 ⟨rfl,j⟩;have A:=av (ai n.out.2 j);clear j;cases hp:p m)
   .have s:=av hp
    go_roundw
    case rel=>exact⟨k+1,by omega,by go_num,by rw[z.out.1,s.out];rfl,A.out⟩
    case measure=>simp[intOf];omega
   .have s:=av hp
    go_ret2;exact⟨by rw[kE (z.out.2 s.out)];rfl,ai H1.out.1 A.out⟩
  .have:k=15:=by omega
   subst this
   have y:ord.find? p=none:=by
        have x:=n.out.1;rw[aah (by omega)]at x;exact x
   have C:=av y;clear y hb;go_wp2_with fail;go_ret2;exact⟨by rw[kF C.out];rfl,ai H1.out.1 n.out.2⟩
theorem firstGood_any (p)(X f)(w)(hf:f=.func (.func 134) #[X] #[])(a:∀(m:Nat) (o:World),m<16->Below w.heap.size w o->Calls (patch ae prog) 134 #[X,.int .u64 m] o λe w'=>e=.returned (.bool (p m))/\Below o.heap.size o w'):
 Calls (patch ae prog) 133 #[f] w λe w'=>e=.returned (kS p)/\Below w.heap.size w w':=by
 subst hf;have D:=av a;clear a;have hlen:ord.length=15:=by kernel_rfl
 have q:∀m∈ord,m<16:=by
  have key:(ord.all λm=>decide (m<16))=true:=by kernel_rfl
  intro m hm;simpa using ZU.1 key m hm
 go_enter (pf func133 (by rfl)),ntmps133
 go_wp2_with(go_at_call 119;refine(gW _).mono ?_;rintro e w1 ⟨v,rfl,b,l⟩;obtain⟨g,cap,rfl,u,t,H,hcell⟩:=oM b;have H1:Hid (Below w.heap.size w w1/\∀k m:Nat,ord[k]? =some m->w1.cell? ⟨g,k,none⟩=some (.int .u64 (m:Int))):=⟨l,hcell⟩;clear b l hcell)
 go_loopw [8] (λi wr=>∃k:Nat,k<=15/\i=.int .i64 k/\(ord.take k).find? p=none/\Below w1.heap.size w1 wr) (λi _=>15-(intOf i).toNat)
 case atStart=>exact⟨0,by omega,rfl,rfl,aab _ _⟩
 case round=>
  obtain⟨k,G,rfl,c,hb⟩:=hrel;have n:=av (aaa c hb);clear c
  by_cases B:k<15
  .obtain⟨m,hm⟩:∃m,ord[k]? =some m:=⟨_,ZT (by omega)⟩
   have d:=q m (aak hm);have E:=keeps hb (H1.out.2 k m hm);have F:(k:Int)<15:=(by omega)
   have z:Hid ((ord.take (k+1)).find? p=(if p m then some m else none)/\(p m=true->ord.find? p=some m)):=by
        have r:(ord.take (k+1)).find? p=(if p m then some m else none):=by
         rw[List.take_add_one,hm,List.find?_append,n.out.1];simp[List.find?_cons];cases p m<;>rfl
        refine⟨r,λh=>?_⟩;rw[h]at r;rw[<-List.take_append_drop (k+1) ord,List.find?_append,r];rfl
   clear hb hm;go_wp2_with(go_at_call 134;refine(D.out m wr d (ai H1.out.1 n.out.2)).mono ?_;rintro e w2 ⟨rfl,j⟩;have A:=av (ai n.out.2 j);clear j;cases hp:p m)
   .have s:=av hp
    go_roundw
    case rel=>exact⟨k+1,by omega,by go_num,by rw[z.out.1,s.out];rfl,A.out⟩
    case measure=>simp[intOf];omega
   .have s:=av hp
    go_ret2;exact⟨by rw[kE (z.out.2 s.out)];rfl,ai H1.out.1 A.out⟩
  .have:k=15:=by omega
   subst this
   have y:ord.find? p=none:=by
        have x:=n.out.1;rw[aah (by omega)]at x;exact x
   have C:=av y;clear y hb;go_wp2_with fail;go_ret2;exact⟨by rw[kF C.out];rfl,ai H1.out.1 n.out.2⟩
theorem firstOne_any (p)(X f)(w)(hf:f=.func (.func 135) #[X] #[])(a:∀(m:Nat) (o:World),m<16->Below w.heap.size w o->Calls (patch ae prog) 135 #[X,.int .u64 m] o λe w'=>e=.returned (.bool (p m))/\Below o.heap.size o w'):
 Calls (patch ae prog) 133 #[f] w λe w'=>e=.returned (kS p)/\Below w.heap.size w w':=by
 subst hf;have D:=av a;clear a;have hlen:ord.length=15:=by kernel_rfl
 have q:∀m∈ord,m<16:=by
  have key:(ord.all λm=>decide (m<16))=true:=by kernel_rfl
  intro m hm;simpa using ZU.1 key m hm
 go_enter (pf func133 (by rfl)),ntmps133
 go_wp2_with(go_at_call 119;refine(gW _).mono ?_;rintro e w1 ⟨v,rfl,b,l⟩;obtain⟨g,cap,rfl,u,t,H,hcell⟩:=oM b;have H1:Hid (Below w.heap.size w w1/\∀k m:Nat,ord[k]? =some m->w1.cell? ⟨g,k,none⟩=some (.int .u64 (m:Int))):=⟨l,hcell⟩;clear b l hcell)
 go_loopw [8] (λi wr=>∃k:Nat,k<=15/\i=.int .i64 k/\(ord.take k).find? p=none/\Below w1.heap.size w1 wr) (λi _=>15-(intOf i).toNat)
 case atStart=>exact⟨0,by omega,rfl,rfl,aab _ _⟩
 case round=>
  obtain⟨k,G,rfl,c,hb⟩:=hrel;have n:=av (aaa c hb);clear c
  by_cases B:k<15
  .obtain⟨m,hm⟩:∃m,ord[k]? =some m:=⟨_,ZT (by omega)⟩
   have d:=q m (aak hm);have E:=keeps hb (H1.out.2 k m hm);have F:(k:Int)<15:=(by omega)
   have z:Hid ((ord.take (k+1)).find? p=(if p m then some m else none)/\(p m=true->ord.find? p=some m)):=by
        have r:(ord.take (k+1)).find? p=(if p m then some m else none):=by
         rw[List.take_add_one,hm,List.find?_append,n.out.1];simp[List.find?_cons];cases p m<;>rfl
        refine⟨r,λh=>?_⟩;rw[h]at r;rw[<-List.take_append_drop (k+1) ord,List.find?_append,r];rfl
   clear hb hm;go_wp2_with(go_at_call 135;refine(D.out m wr d (ai H1.out.1 n.out.2)).mono ?_;rintro e w2 ⟨rfl,j⟩;have A:=av (ai n.out.2 j);clear j;cases hp:p m)
   .have s:=av hp
    go_roundw
    case rel=>exact⟨k+1,by omega,by go_num,by rw[z.out.1,s.out];rfl,A.out⟩
    case measure=>simp[intOf];omega
   .have s:=av hp
    go_ret2;exact⟨by rw[kE (z.out.2 s.out)];rfl,ai H1.out.1 A.out⟩
  .have:k=15:=by omega
   subst this
   have y:ord.find? p=none:=by
        have x:=n.out.1;rw[aah (by omega)]at x;exact x
   have C:=av y;clear y hb;go_wp2_with fail;go_ret2;exact⟨by rw[kF C.out];rfl,ai H1.out.1 n.out.2⟩
theorem firstAll_any (p)(X f)(w)(hf:f=.func (.func 136) #[] #[X])(a:∀(m:Nat) (o:World),m<16->Below w.heap.size w o->Calls (patch ae prog) 136 #[.int .u64 m,X] o λe w'=>e=.returned (.bool (p m))/\Below o.heap.size o w'):
 Calls (patch ae prog) 133 #[f] w λe w'=>e=.returned (kS p)/\Below w.heap.size w w':=by
 subst hf;have D:=av a;clear a;have hlen:ord.length=15:=by kernel_rfl
 have q:∀m∈ord,m<16:=by
  have key:(ord.all λm=>decide (m<16))=true:=by kernel_rfl
  intro m hm;simpa using ZU.1 key m hm
 go_enter (pf func133 (by rfl)),ntmps133
 go_wp2_with(go_at_call 119;refine(gW _).mono ?_;rintro e w1 ⟨v,rfl,b,l⟩;obtain⟨g,cap,rfl,u,t,H,hcell⟩:=oM b;have H1:Hid (Below w.heap.size w w1/\∀k m:Nat,ord[k]? =some m->w1.cell? ⟨g,k,none⟩=some (.int .u64 (m:Int))):=⟨l,hcell⟩;clear b l hcell)
 go_loopw [8] (λi wr=>∃k:Nat,k<=15/\i=.int .i64 k/\(ord.take k).find? p=none/\Below w1.heap.size w1 wr) (λi _=>15-(intOf i).toNat)
 case atStart=>exact⟨0,by omega,rfl,rfl,aab _ _⟩
 case round=>
  obtain⟨k,G,rfl,c,hb⟩:=hrel;have n:=av (aaa c hb);clear c
  by_cases B:k<15
  .obtain⟨m,hm⟩:∃m,ord[k]? =some m:=⟨_,ZT (by omega)⟩
   have d:=q m (aak hm);have E:=keeps hb (H1.out.2 k m hm);have F:(k:Int)<15:=(by omega)
   have z:Hid ((ord.take (k+1)).find? p=(if p m then some m else none)/\(p m=true->ord.find? p=some m)):=by
        have r:(ord.take (k+1)).find? p=(if p m then some m else none):=by
         rw[List.take_add_one,hm,List.find?_append,n.out.1];simp[List.find?_cons];cases p m<;>rfl
        refine⟨r,λh=>?_⟩;rw[h]at r;rw[<-List.take_append_drop (k+1) ord,List.find?_append,r];rfl
   clear hb hm;go_wp2_with(go_at_call 136;refine(D.out m wr d (ai H1.out.1 n.out.2)).mono ?_;rintro e w2 ⟨rfl,j⟩;have A:=av (ai n.out.2 j);clear j;cases hp:p m)
   .have s:=av hp
    go_roundw
    case rel=>exact⟨k+1,by omega,by go_num,by rw[z.out.1,s.out];rfl,A.out⟩
    case measure=>simp[intOf];omega
   .have s:=av hp
    go_ret2;exact⟨by rw[kE (z.out.2 s.out)];rfl,ai H1.out.1 A.out⟩
  .have:k=15:=by omega
   subst this
   have y:ord.find? p=none:=by
        have x:=n.out.1;rw[aah (by omega)]at x;exact x
   have C:=av y;clear y hb;go_wp2_with fail;go_ret2;exact⟨by rw[kF C.out];rfl,ai H1.out.1 n.out.2⟩
def goodB (L:Nat->Int)(k m:Nat):Bool:=(List.range k).all λi=>L i==0||L i==(pop m:Int)
theorem goodB_step (L)(k m):goodB L (k+1) m=(goodB L k m&&(L k==0||L k==(pop m:Int))):=by
 unfold goodB;rw[Z6,List.all_append];simp
theorem goodB_no {L}{k m}(a:k<4)(h:(L k==0||L k==(pop m:Int))=false):goodB L 4 m=false:=by
 unfold goodB;rw[List.all_eq_false];exact⟨k,Z9.2 a,by rw[h];simp⟩
theorem askedW_any (cs)(z)(c:cs[0]? =some (.int .i64 z))(w):Calls (patch ae prog) 132 #[.agg cs] w λe w'=>e=.returned (.bool (!(z==0)))/\∃q a,w'=Go.Sort.grow (w.drewN q) a:=by
 have b:∀W:World,W.heap[w.heap.size]? =some (.cells cs 91 (0,0))->W.cell? ⟨w.heap.size,0,none⟩=some (.int .i64 z):=λW h=>by rw[(blk h).1,c]
 have d:=b _ (aae w (.cells cs 91))
 go_enter (pf func132 (by rfl)),ntmps132
 go_wp2_with fail;go_ret;exact⟨rfl,0,#[.cells cs 91 (0,0)],Go.Sort.alloc_eq_grow _ _⟩
theorem heap_grown {w:World}{b:Nat}{o}(h:w.heap[b]? =some o)(n)(os):(Go.Sort.grow (w.drewN n) os).heap[b]? =some o:=by
 have hl:=(ZK.1 h).1;show(w.heap++os)[b]? =_
 rw[Array.getElem?_append_left hl];exact h
theorem widthW_any (m:Nat)(hm:m<16)(w):Calls (patch ae prog) 163 #[.int .u64 m] w λe w'=>e=.returned (.int .i64 (pop m))/\∃q a,w'=Go.Sort.grow (w.drewN q) a:=
 (iI m hm w).mono λ_ _ ⟨c,b⟩=>⟨c,0,#[],by rw[b];simp[Go.Sort.grow,World.drewN]⟩
theorem quiet_load {ops}{Q}{a}{o}{rest}{W:World}{v}{b}{x}(f:o.guard=none)(d:o.op=.load 91 x)(hx:a.eval x=.pointer (some ⟨b,0,none⟩))
 (hl:∀n os,Sem.run (patch ae prog) (Instr.loadAt 91 (.pointer (some ⟨b,0,none⟩))) (Go.Sort.grow (W.drewN n) os)=.ok v (Go.Sort.grow (W.drewN n) os))
 (h:wpQuiet (patch ae prog) ops (λw'=>∃p:GrownBy,w'=Go.Sort.grow (W.drewN p.n) p.os) Q rest (a.put o.dst v)):wpQuiet (patch ae prog) ops (λw'=>∃p:GrownBy,w'=Go.Sort.grow (W.drewN p.n) p.os) Q (o::rest) a:=by
 refine wpQuiet_step (λK g=>?_);rw[if_pos (by unfold Region.wanted;rw[f])];refine⟨v,λj c=>?_,g _ h⟩;obtain⟨p,rfl⟩:=c
 have e:(execOp a.eval o).run (patch ae prog) (Go.Sort.grow (W.drewN p.n) p.os)=.ok (.value v) (Go.Sort.grow (W.drewN p.n) p.os):=by
  unfold execOp;rw[d];have i:=hl p.n p.os;simp only[hx,Sem.run_bind,i,Result.andThen_ok,Sem.run_pure]
 unfold Oper.quietAt;rw[e];exact⟨rfl,rfl⟩
open Go.RowKit
theorem good_any (L)(F)(B m:Nat)(w)(M:VRow w B L F)(hm:m<16):Calls (patch ae prog) 134 #[ko B,.int .u64 m] w λe w'=>e=.returned (.bool (goodB L 4 m&&gX L F 4 m))/\Below w.heap.size w w':=by
 have P:=av M;clear M;have y:Hid (∀r,Below w.heap.size w r->Calls (patch ae prog) 83 #[.slice (some ⟨B,0,none⟩) 4 4,.int .u64 m] r λe w'=>e=.returned (.bool (gX L F 4 m))/\Below r.heap.size r w'):=λr h=>fit_any L F B m r (P.out.below h) hm
 unfold ko
 go_enter (pf func134 (by rfl)),ntmps134
 go_wp2_with fail
 go_loopw [9] (λi wr=>∃k:Nat,k<=4/\i=.int .i64 k/\goodB L k m=true/\Below w.heap.size w wr) (λi _=>4-(intOf i).toNat)
 case atStart=>exact⟨0,by omega,rfl,rfl,aab _ _⟩
 case round=>
  obtain⟨k,U,rfl,hf,hb⟩:=hrel;have s:=av (aaa hf hb);have K:w.heap.size<=wr.heap.size:=hb.size;clear hf
  by_cases u:k<4
  .have T:(k:Int)<4:=by omega
   obtain⟨cs,c,g,z,t,j⟩:=(P.out.below hb).part u;have v:((patch ae prog).info? 91).map (·.size)=some cs.length:=(by rw[c];exact iA);have x:((patch ae prog).info? 91).map (·.size)=some cs.toArray.size:=(by rw[List.size_toArray,c];exact iA);have V:=av (asked_any cs.toArray (L k) (by simpa using c) (by simpa using g));have S:Hid (∀m,m<16->cs[1+m]? =some (.bool (F k m))):=z;clear hb z
   go_wp2_with(first
        |refine wpList_load_mid rfl 91 _ rfl B (k*17) rfl cs _ t ((ax ae prog 91).trans underlying91) rfl v ?_
        |(refine wpList_store_row rfl 91 _ _ rfl wr.heap.size cs.toArray rfl rfl 91 _ (aae _ _) x (by simp[c]) j ?_;obtain⟨A,N,J,O⟩:=st_row wr _ cs.toArray 91;rw[N];have H3:=av (aaa J O);clear J O N))
   have mixed:((patch ae prog)).follows .mixedOrders=true:=(by kernel_rfl);have hcell:∀n os,(Go.Sort.grow (A.drewN n) os).cell? ⟨wr.heap.size,0,none⟩=some (.int .i64 (L k)):=λn os=>by rw[(blk (heap_grown H3.out.1 n os)).1];simpa using g
   have l:Hid (∀n os,Sem.run (patch ae prog) (Instr.loadAt 91 (.pointer (some ⟨wr.heap.size,0,none⟩))) (Go.Sort.grow (A.drewN n) os)=.ok (.agg cs.toArray) (Go.Sort.grow (A.drewN n) os)):=λn os=>loadV (heap_grown H3.out.1 n os) (by simpa using c)
   have f:Hid (∀w,Calls (patch ae prog) 132 #[.agg cs.toArray] w λe w'=>e=.returned (.bool (!(L k==0)))/\∃q C,w'=Go.Sort.grow (w.drewN q) C):=askedW_any cs.toArray (L k) (by simpa using g);have o:Hid (∀n os,Below w.heap.size w (Go.Sort.grow (A.drewN n) os)):=λn os=>(s.out.2.trans (H3.out.2.mono K)).trans (Go.Lib.below_grow _ A (ZP K H3.out.2.size) n os)
   clear j t x v g
   by_cases p:L k=0
   .have d:(!(L k==0))=false:=by simp[p]
    rw[d]at f;have I:=av p;clear d p;simp only[Act.put];refine wp_region_quiet_grown (by assumption) (by kernel_rfl) ?_;refine quiet_load rfl rfl rfl (l.out) ?_;simp only[Act.put,ZN,ZS,ZR]
    repeat(quiet_step (first|(go_at_call 132;refine Calls.grown_of (f.out _))|(go_at_call 163;refine Calls.grown_of (widthW_any m hm _))))
    refine wpQuiet_nil ?_;intro _ a;obtain⟨⟨nq,osq⟩,b⟩:=a;subst b;go_wp2_with fail;go_roundw
    case rel=>exact⟨k+1,by omega,by go_num,by rw[goodB_step,s.out.1,I.out];rfl,o.out _ _⟩
    case measure=>simp[intOf];omega
   .have d:(!(L k==0))=true:=by simp[p]
    rw[d]at f;have I:=av p;clear d p
    by_cases hp:L k=(pop m:Int)
    .have D:(L k !=(pop m:Int))=false:=by simp[hp]
     have H:=av hp;clear hp;simp only[Act.put];refine wp_region_quiet_grown (by assumption) (by kernel_rfl) ?_;refine quiet_load rfl rfl rfl (l.out) ?_;simp only[Act.put,ZN,ZS,ZR]
     repeat(quiet_step (first|(go_at_call 132;refine Calls.grown_of (f.out _))|(go_at_call 163;refine Calls.grown_of (widthW_any m hm _))))
     refine wpQuiet_nil ?_;intro _ a;obtain⟨⟨nq,osq⟩,b⟩:=a;subst b;go_wp2_with fail;go_roundw
     case rel=>exact⟨k+1,by omega,by go_num,by rw[goodB_step,s.out.1,H.out];simp,o.out _ _⟩
     case measure=>simp[intOf];omega
    .have D:(L k !=(pop m:Int))=true:=by simp[hp]
     have H:=av hp;clear hp;simp only[Act.put];refine wp_region_quiet_grown (by assumption) (by kernel_rfl) ?_;refine quiet_load rfl rfl rfl (l.out) ?_;simp only[Act.put,ZN,ZS,ZR]
     repeat(quiet_step (first|(go_at_call 132;refine Calls.grown_of (f.out _))|(go_at_call 163;refine Calls.grown_of (widthW_any m hm _))))
     refine wpQuiet_nil ?_;intro _ a;obtain⟨⟨nq,osq⟩,b⟩:=a;subst b;go_wp2_with fail;go_ret
     have E:(L k==0||L k==(pop m:Int))=false:=by
      have R:=I.out;have Q:=H.out;simp[R,Q]
     exact⟨by rw[goodB_no u E];rfl,o.out _ _⟩
  .have:k=4:=by omega
   subst this;go_wp2_with(go_at_call 83;refine(y.out _ s.out.2).mono ?_;rintro e w4 ⟨rfl,G⟩);go_ret;exact⟨by rw[s.out.1];rfl,ai s.out.2 G⟩
theorem cell_one (w:World)(t)(v):(w.alloc (.cells #[v] t)).cell? ⟨w.heap.size,0,none⟩=some v:=(blk (aae w (.cells #[v] t))).1 0
def nU (L:Nat->Int)(F:Nat->Nat->Bool)(m:Nat):Bool:=goodB L 4 m&&gX L F 4 m
def isOne (L:Nat->Int)(F:Nat->Nat->Bool)(m:Nat):Bool:=decide (pop m=1)&&gX L F 4 m
def isAll (L:Nat->Int)(F:Nat->Nat->Bool)(m:Nat):Bool:=decide (m=15)&&gX L F 4 m
def gu (L:Nat->Int)(F:Nat->Nat->Bool)(p:Int):Option Nat:=
 if p=1 then(match ord.find? (nU L F)with|some m=>some m|none=>ord.find? (gX L F 4))else if p=2 then ord.find? (nU L F)else if p=3 then ord.find? (isOne L F)else ord.find? (isAll L F)
def dW:Option Nat->Value
 |some m=>.tuple #[.int .u64 m,.bool true]
 |none=>.tuple #[.int .u64 0,.bool false]
theorem firstV_mask (p):kS p=dW (ord.find? p):=by
 unfold kS dW;cases ord.find? p<;>rfl
theorem choose_any (L)(F)(d)(p)(w)(k:VRow w d L F):Calls (patch ae prog) 84 #[ko d,.int .i64 p] w λe w'=>e=.returned (dW (gu L F p))/\Below w.heap.size w w':=by
 have i:Hid (∀W,Below w.heap.size w W->Calls (patch ae prog) 133 #[.func (.func 134) #[.slice (some ⟨d,0,none⟩) 4 4] #[]] W λe w'=>e=.returned (dW (ord.find? (nU L F)))/\Below W.heap.size W w'):=λW hW=>by
  have:=firstGood_any (nU L F) (ko d) _ W rfl λm g hm hb=>good_any L F d m g ((k.below hW).below hb) hm
  exact this
 have r:Hid (∀W,Below w.heap.size w W->Calls (patch ae prog) 133 #[.func (.func 83) #[.slice (some ⟨d,0,none⟩) 4 4] #[]] W λe w'=>e=.returned (dW (ord.find? (gX L F 4)))/\Below W.heap.size W w'):=λW hW=>by
  have:=firstFit_any (gX L F 4) (ko d) _ W rfl λm g hm hb=>fit_any L F d m g ((k.below hW).below hb) hm
  exact this
 have q:Hid (∀W,Below w.heap.size w W->Calls (patch ae prog) 133 #[.func (.func 135) #[.slice (some ⟨d,0,none⟩) 4 4] #[]] W λe w'=>e=.returned (dW (ord.find? (isOne L F)))/\Below W.heap.size W w'):=λW hW=>by
  have:=firstOne_any (isOne L F) (ko d) _ W rfl λm g hm hb=>fitInOne_any L F d m g ((k.below hW).below hb) hm
  exact this
 have s:Hid (∀W vb,Below w.heap.size w W->W.cell? ⟨vb,0,none⟩=some (ko d)->Calls (patch ae prog) 133 #[.func (.func 136) #[] #[.pointer (some ⟨vb,0,none⟩)]] W λe w'=>e=.returned (dW (ord.find? (isAll L F)))/\Below W.heap.size W w'):=λW vb hW hc=>by
  have:=firstAll_any (isAll L F) (.pointer (some ⟨vb,0,none⟩)) _ W rfl λm g hm hb=>chooseAll_any L F d vb m g ((k.below hW).below hb) hm (keeps hb hc)
  exact this
 unfold ko;have b0:Below w.heap.size w (w.alloc (.cells #[.slice (some ⟨d,0,none⟩) 4 4] 87)):=(aab _ _).alloc (ZL _) _;have b:=av b0
 by_cases o:p=1
 .subst o
  cases c:ord.find? (nU L F)with
  |some m=>
   go_enter (pf func84 (by rfl)),ntmps84
   go_wp2_with(go_at_call 133;refine(i.out _ b.out).mono ?_;rintro e w1 ⟨rfl,a⟩;rw[c];unfold dW);go_ret2;exact⟨by unfold gu;simp[c,dW],ai b.out a⟩
  |none=>
   cases hf:ord.find? (gX L F 4)with
   |some m=>
    go_enter (pf func84 (by rfl)),ntmps84
    go_wp2_with fail;refine(i.out _ b.out).mono ?_;rintro e w1 ⟨rfl,a⟩;unfold dW;have j:=keeps a (cell_one w 87 (.slice (some ⟨d,0,none⟩) 4 4));go_wp2_with fail;refine(r.out _ (ai b.out a)).mono ?_;rintro e w2 ⟨rfl,f⟩;unfold dW;go_wp2_with fail;go_ret2;exact⟨by unfold gu;simp[c,hf,dW],ai (ai b.out a) f⟩
   |none=>
    go_enter (pf func84 (by rfl)),ntmps84
    go_wp2_with fail;refine(i.out _ b.out).mono ?_;rintro e w1 ⟨rfl,a⟩;unfold dW;have j:=keeps a (cell_one w 87 (.slice (some ⟨d,0,none⟩) 4 4));go_wp2_with fail;refine(r.out _ (ai b.out a)).mono ?_;rintro e w2 ⟨rfl,f⟩;unfold dW;go_wp2_with fail;go_ret2;exact⟨by unfold gu;simp[c,hf,dW],ai (ai b.out a) f⟩
 .have v:=beq_eq_false_iff_ne.2 o
  by_cases n:p=2
  .subst n
   cases c:ord.find? (nU L F)with
   |some m=>
    go_enter (pf func84 (by rfl)),ntmps84
    go_wp2_with(go_at_call 133;refine(i.out _ b.out).mono ?_;rintro e w1 ⟨rfl,a⟩;rw[c];unfold dW);go_ret2;exact⟨by unfold gu;simp[c,dW],ai b.out a⟩
   |none=>
    go_enter (pf func84 (by rfl)),ntmps84
    go_wp2_with(go_at_call 133;refine(i.out _ b.out).mono ?_;rintro e w1 ⟨rfl,a⟩;rw[c];unfold dW);go_ret2;exact⟨by unfold gu;simp[c,dW],ai b.out a⟩
  .have u:=beq_eq_false_iff_ne.2 n
   by_cases l:p=3
   .subst l
    cases c:ord.find? (isOne L F)with
    |some m=>
     go_enter (pf func84 (by rfl)),ntmps84
     go_wp2_with(go_at_call 133;refine(q.out _ b.out).mono ?_;rintro e w1 ⟨rfl,a⟩;rw[c];unfold dW);go_ret2;exact⟨by unfold gu;simp[c,dW],ai b.out a⟩
    |none=>
     go_enter (pf func84 (by rfl)),ntmps84
     go_wp2_with(go_at_call 133;refine(q.out _ b.out).mono ?_;rintro e w1 ⟨rfl,a⟩;rw[c];unfold dW);go_ret2;exact⟨by unfold gu;simp[c,dW],ai b.out a⟩
   .have t:=beq_eq_false_iff_ne.2 l
    have h:=av (aaa o (aaa n l));have j:=cell_one w 87 (.slice (some ⟨d,0,none⟩) 4 4);cases c:ord.find? (isAll L F)with
    |some m=>
     go_enter (pf func84 (by rfl)),ntmps84
     go_wp2_with(go_at_call 133;refine(s.out _ w.heap.size b.out j).mono ?_;rintro e w1 ⟨rfl,a⟩;rw[c];unfold dW);go_ret2;exact⟨by unfold gu;simp[h.out.1,h.out.2.1,h.out.2.2,c,dW],ai b.out a⟩
    |none=>
     go_enter (pf func84 (by rfl)),ntmps84
     go_wp2_with(go_at_call 133;refine(s.out _ w.heap.size b.out j).mono ?_;rintro e w1 ⟨rfl,a⟩;rw[c];unfold dW);go_ret2;exact⟨by unfold gu;simp[h.out.1,h.out.2.1,h.out.2.2,c,dW],ai b.out a⟩
def og (D:BD)(c:Nat->Int)(i m:Nat):Bool:=decide (0<c i)&&fitK (dz D i (gq D i)) (c i) 15 m
theorem judge_row {D}{c}{w w'}{v}(h:dm (λi=>vdB D i (c i)) c w v w'):∃d,v=ko d/\VRow w' d (eG D c) (og D c):=by
 obtain⟨d,row,rfl,_,_,_,l,k,g,f⟩:=h;refine⟨d,rfl,⟨row,l,k,λi a=>?_,λi a m hm=>?_⟩⟩
 .unfold eG
  by_cases hc:0<c i
  .rw[if_pos hc]
   have:=g i a hc 0 (by omega);rw[Nat.add_zero]at this;rw[this];simp[vdB,eF,jC]
  .rw[if_neg hc]
   have:=f i a hc 0 (by omega);rw[Nat.add_zero]at this;rw[this];obtain rfl|rfl|rfl|rfl:i=0\/i=1\/i=2\/i=3:=by omega
   all_goals rfl
 .unfold og
  by_cases hc:0<c i
  .have:=g i a hc (1+m) (by omega)
   rw[<-Nat.add_assoc]at this;rw[this];have e:1+m=m+1:=Nat.add_comm _ _;have j:(List.range 17)[m+1]? =some (m+1):=(by rw[List.getElem?_range (by omega)]);simp[vdB,eF,jC,hc,e,j]
  .have:=f i a hc (1+m) (by omega)
   rw[<-Nat.add_assoc]at this;rw[this];have key:(List.range 4).all (λi=>(List.range 16).all λm=>match mK (17*i+1+m)with|.bool b=> !b|_=>false)=true:=(by kernel_rfl);have:=ZU.1 (ZU.1 key i (Z9.2 a)) m (Z9.2 hm);split at this
   .rename_i b hb
    have:b=false:=by simpa using this
    subst this;rw[hb];simp[hc]
   .cases this
theorem leastAt_ne {c}{want}:∀{l:List Nat},(∀m∈l,pop m≠0)->gP c want l≠0
 |[],_=>by simp[gP]
 |m::l,h=>by
  unfold gP;split
  .have:=h m ZX;omega
  .exact leastAt_ne λm hm=>h m (List.mem_cons_of_mem _ hm)
theorem leastW_ne (c)(want):leastW c want≠0:=by
 refine leastAt_ne λm hm=>?_
 have key:ord.all (λm=>pop m !=0)=true:=by kernel_rfl
 simpa using ZU.1 key m hm
theorem frN_node {D}(a:D.ok){r}(d:r<4):∀i∈gq D r,0<=bG D r i/\bG D r i<4:=λi c=>by
 have:=frN_in D r i c;unfold bG
 by_cases b:r=0
 .rw[if_pos b]at this⊢;exact a.nodes i this
 .rw[if_neg b]at this⊢;exact(a.dC (r-1) (by omega)).2 i this
theorem fits_given {D}(b:D.ok){c:Nat->Nat}{m}(h:gX (eG D λi=>(c i:Int)) (og D λi=>(c i:Int)) 4 m=true):∀i,i<4->c i<=((gq D i).filter (bE m (bG D i))).length:=λi e=>by
 by_cases hc:c i=0
 .omega
 .have d:0< (c i:Int):=by omega
  have a:=ZU.1 h i (Z9.2 e)
  have g:(eG D (λi=>(c i:Int)) i==0)=false:=by
   unfold eG;rw[if_pos d];exact beq_eq_false_iff_ne.2 (leastW_ne _ _)
  rw[g,Bool.false_or]at a;unfold og fitK at a;simp only[ZQ,decide_eq_true_eq]at a;have f:=a.2.2;rw[tZ D i m (gq D i) (frN_node b e)]at f
  have j:qx D i m (gq D i)=(((gq D i).filter (bE m (bG D i))).length:Nat):=by
   unfold qx;rw[List.countP_eq_length_filter];rfl
  omega
theorem chosen_fit {L}{F}{p}{m}(h:gu L F p=some m):gX L F 4 m=true/\m∈ord:=by
 have a:∀{x},ord.find? (nU L F)=some x->gX L F 4 x=true/\x∈ord:=λhx=>⟨by have:=List.find?_some hx;unfold nU at this;simp only[ZQ]at this;exact this.2,List.mem_of_find?_eq_some hx⟩
 have hf:∀{x},ord.find? (gX L F 4)=some x->gX L F 4 x=true/\x∈ord:=λhx=>⟨List.find?_some hx,List.mem_of_find?_eq_some hx⟩
 have b:∀{x},ord.find? (isOne L F)=some x->gX L F 4 x=true/\x∈ord:=λhx=>⟨by have:=List.find?_some hx;unfold isOne at this;simp only[ZQ]at this;exact this.2,List.mem_of_find?_eq_some hx⟩
 have c:∀{x},ord.find? (isAll L F)=some x->gX L F 4 x=true/\x∈ord:=λhx=>⟨by have:=List.find?_some hx;unfold isAll at this;simp only[ZQ]at this;exact this.2,List.mem_of_find?_eq_some hx⟩
 unfold gu at h;split at h
 .split at h
  .rename_i x hx
   cases h;exact a hx
  .exact hf h
 .split at h
  .exact a h
  .split at h
   .exact b h
   .exact c h
theorem ord_small {m}(h:m∈ord):m<16:=by
 obtain⟨k,a⟩:=List.getElem?_of_mem h;exact(ord_lt a).2
def eH:Value:=.agg #[.slice none 0 0,.slice none 0 0,.slice none 0 0,.slice none 0 0]
def ChoosePost (w:World)(D:BD)(c:Nat->Nat)(pol:Int)(v:Value)(w':World):Prop:=
 Below w.heap.size w w'/\((gX (eG D λi=>(c i:Int)) (og D λi=>(c i:Int)) 4 15=false/\v=.tuple #[eH,.int .i64 8])\/
    (gX (eG D λi=>(c i:Int)) (og D λi=>(c i:Int)) 4 15=true/\gu (eG D λi=>(c i:Int)) (og D λi=>(c i:Int)) pol=none/\v=.tuple #[eH,.int .i64 9])\/
    ∃(m:Nat) (A:Nat->Option Addr) (a:Nat->Nat) (T:Nat->List Nat),gX (eG D λi=>(c i:Int)) (og D λi=>(c i:Int)) 4 15=true/\gu (eG D λi=>(c i:Int)) (og D λi=>(c i:Int)) pol=some m/\v=.tuple #[.agg #[.slice (A 0) (c 0) (a 0),.slice (A 1) (c 1) (a 1),.slice (A 2) (c 2) (a 2),.slice (A 3) (c 3) (a 3)],.int .i64 0]/\
     ∀q,q<4->w'.ownsRow w.heap.size 3 1 (.slice (A q) (c q) (a q)) (T q).length (aT (T q))/\mJ D m q (c q) (T q) (.slice (A q) (c q) (a q)))
theorem chooseB_any (w)(B)(D)(S C)(pol)(c)(x)(hf:kZ w (λ_=>True) B D S C pol)(hb:bM w x B D)(G:D.ok)(I:Lies w x)(U:x B):
 Calls (patch ae prog) 54 #[ptr B,.agg #[.int .i64 (c 0),.int .i64 (c 1),.int .i64 (c 2),.int .i64 (c 3)]] w (RJ (ChoosePost w D c pol) AA):=by
 have E:Hid (kZ w (λ_=>True) B D S C pol/\bM w x B D/\D.ok/\Lies w x/\x B):=⟨hf,hb,G,I,U⟩;have o:=hf.policy;have X:B<w.heap.size:=iC o;clear hf hb G I U;obtain⟨a,b⟩:∃a:Nat->Int,a=λi=>(c i:Int):=⟨_,rfl⟩
 have HJ:Hid (∀u,Below w.heap.size w u->Calls (patch ae prog) 42 #[.pointer (some ⟨B,0,none⟩),.agg #[.int .i64 (c 0),.int .i64 (c 1),.int .i64 (c 2),.int .i64 (c 3)]] u (RJ (λv w'=>dm (λi=>vdB D i (a i)) a u v w'/\Below u.heap.size u w') AA)):=λu hu=>by
  have:=judgeD_any D B a x u (bM.below E.out.2.1 hu) E.out.2.2.1 (Lies_below E.out.2.2.2.1 hu) E.out.2.2.2.2;unfold aQ at this;rw[b]at this⊢;exact this
 have d:Func.results f54= #[.cell 4 41,.tmp 5]:=by kernel_rfl
 unfold ptr
 go_enter (pf func54 (by rfl)),ntmps54
 go_wp2_with fail;obtain⟨W,hW⟩:∃W,W=(w.alloc (.cells #[.int .i64 (c 0),.int .i64 (c 1),.int .i64 (c 2),.int .i64 (c 3)] 37)).alloc (.cells #[.slice none 0 0,.slice none 0 0,.slice none 0 0,.slice none 0 0] 41):=⟨_,rfl⟩
 have y:Hid (Below w.heap.size w W/\W.heap[w.heap.size]? =some (.cells #[.int .i64 (c 0),.int .i64 (c 1),.int .i64 (c 2),.int .i64 (c 3)] 37 (0,0))/\W.heap[w.heap.size+1]? =some (.cells #[.slice none 0 0,.slice none 0 0,.slice none 0 0,.slice none 0 0] 41 (0,0))/\W.heap.size=w.heap.size+2):=by
  rw[hW];refine⟨((aab _ _).alloc (ZL _) _).alloc (by simp) _,aap _ _ _,aam _ _ _,by simp⟩
 rw[<-hW];clear hW;refine(HJ.out W y.out.1).mono ?_;clear HJ;intro e w2 he;cases e with
 |outgrown=>exact he.elim
 |panicked ch=>exact⟨rfl,he⟩
 |returned v=>
  obtain⟨hp,k⟩:=he;obtain⟨K,rfl,Q⟩:=judge_row hp;have p:Hid (Below w.heap.size w w2/\w2.heap[w.heap.size]? =some (.cells #[.int .i64 (c 0),.int .i64 (c 1),.int .i64 (c 2),.int .i64 (c 3)] 37 (0,0))/\w2.heap[w.heap.size+1]? =some (.cells #[.slice none 0 0,.slice none 0 0,.slice none 0 0,.slice none 0 0] 41 (0,0))/\VRow w2 K (eG D a) (og D a)):=⟨ai y.out.1 k,(k.block _ (by rw[y.out.2.2.2];omega)).trans y.out.2.1,(k.block _ (by rw[y.out.2.2.2];omega)).trans y.out.2.2.1,Q⟩;clear hp k Q y;unfold ko;go_wp2_with fail;refine(fit_any (eG D a) (og D a) K 15 w2 p.out.2.2.2 (by omega)).mono ?_;rintro e w3 ⟨rfl,g⟩;have H3:Hid (Below w.heap.size w w3/\w3.heap[w.heap.size]? =some (.cells #[.int .i64 (c 0),.int .i64 (c 1),.int .i64 (c 2),.int .i64 (c 3)] 37 (0,0))/\w3.heap[w.heap.size+1]? =some (.cells #[.slice none 0 0,.slice none 0 0,.slice none 0 0,.slice none 0 0] 41 (0,0))/\VRow w3 K (eG D a) (og D a)):=⟨ai p.out.1 g,(g.block _ (ZK.1 p.out.2.1).1).trans p.out.2.1,(g.block _ (ZK.1 p.out.2.2.1).1).trans p.out.2.2.1,p.out.2.2.2.below g⟩;clear g p;cases f:gX (eG D a) (og D a) 4 15
  .obtain⟨z,P⟩:=blk H3.out.2.2.1
   go_wp2_with fail;have z3:=aD (i:=3) (.slice none 0 0) (aD (i:=2) (.slice none 0 0) (aD (i:=1) (.slice none 0 0) (aD (i:=0) (.slice none 0 0) H3.out.2.2.1)));simp only[ZN,ZR,ZS]at z3;obtain⟨F,_⟩:=blk z3;refine bodyPost_ret (v:=.tuple #[eH,.int .i64 8]) (by simp[results,d,go_sem,F,eH]) rfl ?_;refine⟨?_,.inl ⟨by rw[<-b];exact f,rfl⟩⟩;exact(((H3.out.1.setCell (by show w.heap.size<=w.heap.size+1;omega) _).setCell (by show w.heap.size<=w.heap.size+1;omega) _).setCell (by show w.heap.size<=w.heap.size+1;omega) _).setCell (by show w.heap.size<=w.heap.size+1;omega) _
  .have M:=keeps H3.out.1 o
   go_wp2_with fail;refine(choose_any (eG D a) (og D a) K pol w3 H3.out.2.2.2).mono ?_;rintro e w4 ⟨rfl,j⟩;have l:Hid (Below w.heap.size w w4/\w4.heap[w.heap.size]? =some (.cells #[.int .i64 (c 0),.int .i64 (c 1),.int .i64 (c 2),.int .i64 (c 3)] 37 (0,0))/\w4.heap[w.heap.size+1]? =some (.cells #[.slice none 0 0,.slice none 0 0,.slice none 0 0,.slice none 0 0] 41 (0,0))):=⟨ai H3.out.1 j,(j.block _ (ZK.1 H3.out.2.1).1).trans H3.out.2.1,(j.block _ (ZK.1 H3.out.2.2.1).1).trans H3.out.2.2.1⟩;clear j M H3;cases s:gu (eG D a) (og D a) pol with
   |none=>
    obtain⟨z,P⟩:=blk l.out.2.2;unfold dW;go_wp2_with fail;have z3:=aD (i:=3) (.slice none 0 0) (aD (i:=2) (.slice none 0 0) (aD (i:=1) (.slice none 0 0) (aD (i:=0) (.slice none 0 0) l.out.2.2)));simp only[ZN,ZR,ZS]at z3;obtain⟨F,_⟩:=blk z3;refine bodyPost_ret (v:=.tuple #[eH,.int .i64 9]) (by simp[results,d,go_sem,F,eH]) rfl ?_;refine⟨?_,.inr (.inl ⟨by rw[<-b];exact f,by rw[<-b];exact s,rfl⟩)⟩;exact(((l.out.1.setCell (by show w.heap.size<=w.heap.size+1;omega) _).setCell (by show w.heap.size<=w.heap.size+1;omega) _).setCell (by show w.heap.size<=w.heap.size+1;omega) _).setCell (by show w.heap.size<=w.heap.size+1;omega) _
   |some m=>
    obtain⟨q,V⟩:=blk l.out.2.1;obtain⟨r,H⟩:=chosen_fit s;rw[b]at r;have O:=av (fits_given E.out.2.2.1 r);have hm:=ord_small H;clear r H;unfold dW;go_wp2_with fail;refine(within_any w4 B m D S C pol c (E.out.1.below l.out.1) E.out.2.2.1 hm O.out).mono ?_;rintro e L ⟨A,h,T,rfl,n,t⟩;have J:Hid (Below w.heap.size w L/\L.heap[w.heap.size+1]? =some (.cells #[.slice none 0 0,.slice none 0 0,.slice none 0 0,.slice none 0 0] 41 (0,0))/\∀q,q<4->L.ownsRow w4.heap.size 3 1 (.slice (A q) (c q) (h q)) (T q).length (aT (T q))/\mJ D m q (c q) (T q) (.slice (A q) (c q) (h q))):=⟨ai l.out.1 t,(t.block _ (ZK.1 l.out.2.2).1).trans l.out.2.2,n⟩;clear n t q V;obtain⟨z,P⟩:=blk J.out.2.1;go_wp2_with fail;have z3:=aD (i:=3) (.slice (A 3) (c 3) (h 3)) (aD (i:=2) (.slice (A 2) (c 2) (h 2)) (aD (i:=1) (.slice (A 1) (c 1) (h 1)) (aD (i:=0) (.slice (A 0) (c 0) (h 0)) J.out.2.1)));simp only[ZN,ZR,ZS]at z3;obtain⟨F,_⟩:=blk z3;refine bodyPost_ret (v:=.tuple #[.agg #[.slice (A 0) (c 0) (h 0),.slice (A 1) (c 1) (h 1),.slice (A 2) (c 2) (h 2),.slice (A 3) (c 3) (h 3)],.int .i64 0]) (by simp[results,d,go_sem,F]) rfl ?_;have N:w.heap.size+1<w4.heap.size:=(ZK.1 l.out.2.2).1;refine⟨?_,.inr (.inr ⟨m,A,h,T,by rw[<-b];exact f,by rw[<-b];exact s,rfl,λq R=>⟨aB (eQ (J.out.2.2 q R).1 N) (by omega),(J.out.2.2 q R).2⟩⟩)⟩;exact(((J.out.1.setCell (by show w.heap.size<=w.heap.size+1;omega) _).setCell (by show w.heap.size<=w.heap.size+1;omega) _).setCell (by show w.heap.size<=w.heap.size+1;omega) _).setCell (by show w.heap.size<=w.heap.size+1;omega) _
end Z
