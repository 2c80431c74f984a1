/- Part 32 of the proof. -/
import Derived.Test.YtfpaamhppamcoaaGreatDoorSp31
import Derived.Laws.BitsLemmas
import Derived.Laws.Bits64b
set_option linter.all false
set_option maxRecDepth 100000
set_option maxHeartbeats 60000000
namespace Go.Proofs.YtfpaamhppamcoaaGreatDoor
open Go.Proofs.Tryz
section
open Go.RowKit
attribute [local go_sem ↓] Go.wp_at_zero Go.wp_at_succ
attribute [local go_sem] After.cell After.frozen After.const
theorem u64_wrap (x):0<=IntKind.u64.wrap x/\IntKind.u64.wrap x<18446744073709551616:=by
 have h:=wf_wrap .u64 x;simp[Lit.wf,IntKind.min,IntKind.max,IntKind.signed,IntKind.bits]at h;omega
def U64 (e:Ending):Prop:=∃x:Int,e=.returned (.int .u64 x)/\0<=x/\x<18446744073709551616
theorem checkSum_any (s)(w)(hs:s.size<=140737488355328):
 Calls prog 179 #[.string s] w λe w'=>U64 e/\w'=w:=by
 go_enter func179,ntmps179
 go_wp2
 go_loop [3,7] (λv i=>∃(x:Int) (k:Nat),v=.int .u64 x/\(0<=x/\x<18446744073709551616)/\i=.int .i64 k/\k<=s.size) (λ_ i=>s.size-(intOf i).toNat)
 case atStart=>exact⟨_,0,rfl,⟨by omega,by omega⟩,rfl,by omega⟩
 case round=>
  obtain⟨x,k,rfl,hx,rfl,d⟩:=hrel;have a:Hid (0<=x/\x<18446744073709551616):=hx;clear hx
  by_cases c:k<s.size
  .have b:(k:Int)<s.size:=by omega
   go_wp2;go_round
   case rel=>exact⟨_,k+1,rfl,u64_wrap _,by go_num,by omega⟩
   case measure=>simp[intOf];omega
  .have b:¬(k:Int)<s.size:=by omega
   go_wp2;go_ret;exact⟨⟨x,rfl,a.out.1,a.out.2⟩,rfl⟩
theorem joinTail_len (c)(K):∀(l:List (List UInt8)),(∀x∈l,x.length<=K)->(Lib.joinTail [c] l).length<=(K+1)*l.length
 |[],_=>by simp[Lib.joinTail]
 |a::r,h=>by
  have d:=h a (by simp);have b:=joinTail_len c K r (λx hx=>h x (List.mem_cons_of_mem _ hx));simp only[Lib.joinTail,List.map_cons,List.flatten_cons,Z7,List.length_cons,List.length_nil]at*;rw[Nat.mul_add];omega
theorem join_len (c)(K)(l)(h:∀x∈l,x.length<=K):(Lib.join l [c]).length<=(K+1)*l.length:=by
 cases l with
 |nil=>simp[Lib.join_nil]
 |cons a r=>
  have d:=h a (by simp);have b:=joinTail_len c K r (λx hx=>h x (List.mem_cons_of_mem _ hx));rw[Lib.join_cons,Z7,List.length_cons,Nat.mul_add];omega
def iF (n:Nat)(e:Ending):Prop:=∃t:ByteArray,e=.returned (.string t)/\t.size<=n
theorem texts_of_own {w:World}{base}{v}{n K}{xs}(h:w.ownsRow base 9 1 v n xs)(hx:∀u∈xs,Short K u):
 ∃ts:List ByteArray,xs=ts.map Value.string/\ts.length=n/\(∀t∈ts,t.size<=K)/\
  ((v=.slice none 0 0/\n=0)\/∃g cap,v=.slice (some ⟨g,0,none⟩) n cap/\n<=cap/\g<w.heap.size/\∀(j:Nat) x,ts[j]? =some x->w.cell? ⟨g,0+j,none⟩=some (.string x)):=by
 have hl:xs.length=n:=by have:=h.1;omega
 have i:∃ts:List ByteArray,xs=ts.map Value.string/\∀t∈ts,t.size<=K:=by
  clear hl h
  induction xs with
  |nil=>exact⟨[],rfl,by simp⟩
  |cons x r f=>
   obtain⟨ts,rfl,c⟩:=f (λu hm=>hx u (List.mem_cons_of_mem _ hm));obtain⟨s,rfl,hs⟩:=hx x ZX;exact⟨s::ts,rfl,λt hm=>by rcases ZW.1 hm with rfl|hm;exact hs;exact c t hm⟩
 obtain⟨ts,rfl,c⟩:=i;have a:ts.length=n:=by simpa using hl
 refine⟨ts,rfl,a,c,?_⟩;rcases h.2 with⟨rfl,m⟩|⟨g,cap,cur,rfl,_,d,k,hc,hs,b⟩
 .exact .inl ⟨rfl,m⟩
 .refine .inr ⟨g,cap,rfl,k,(ZK.1 d).1,λj x l=>?_⟩
  have e:(ts.map Value.string)[j]? =some (.string x):=by simp[l]
  rw[Z8,cell_of_row w g j cur _ (0,0) d];rw[<-b,Z5]at e;split at e
  .simpa using e
  .cases e
theorem join_any (c)(v)(n K base)(xs)(w)(h:w.ownsRow base 9 1 v n xs)(hx:∀u∈xs,Short K u)(f:(K+1)*n<=140737488355328):
 Calls prog 176 #[v,.string ⟨#[c]⟩] w λe w'=>iF ((K+1)*n) e/\Below w.heap.size w w':=by
 obtain⟨ts,rfl,hl,i,⟨rfl,l⟩|⟨g,cap,rfl,d,j,hc⟩⟩:=texts_of_own h hx
 .refine(Tryz.strings_Join_none none 0 ⟨#[c]⟩ w).mono ?_
  rintro e w' ⟨rfl,rfl⟩;exact⟨⟨_,rfl,Nat.zero_le _⟩,Below.refl _ _⟩
 .have b:=join_len c K (ts.map (·.data.toList)) (λx hx=>by
   obtain⟨t,a,rfl⟩:=List.mem_map.1 hx;have:=i t a;rw[<-Lib.size_eq];exact this)
  rw[List.length_map,hl]at b;have k:n<=140737488355328:=ZP (Nat.le_mul_of_pos_left n (by omega)) f;have r:=Tryz.strings_Join g 0 cap ts ⟨#[c]⟩ w hc j (by omega) (by omega) (ZP b f);rw[hl]at r;refine r.mono ?_;rintro e w' ⟨rfl,hb⟩;exact⟨⟨_,rfl,by simpa[ByteArray.size] using b⟩,hb⟩
theorem list_any (v)(n)(R)(w)(H:n<=1099511627776)(h:Ints w v n R)(hR:∀i,i<n->I64 (R i))(f:gY w):
 Calls prog 174 #[v] w λe w'=>iF (22*n+1) e/\Below w.heap.size w w':=by
 have hF:=h;obtain⟨ao,cap,rfl,hc,hm,_⟩:=h;obtain⟨i0,D,r,q,p⟩:=info_parts Tryz.infoStr;have hu:=underlying115;have A:Hid (Ints w (.slice ao n cap) n R/\(∀i,i<n->I64 (R i))/\gY w):=⟨hF,hR,f⟩;clear hF hR f
 by_cases E:n=0
 .subst E
  go_enter func174,ntmps174
  go_wp2;go_ret;exact⟨⟨_,rfl,by show 1<=22*0+1;omega⟩,Below.refl _ _⟩
 have C:((n:Int)==0)=false:=by rw[beq_eq_false_iff_ne];omega
 go_enter func174,ntmps174
 go_wp2
 go_loopw [3,11] (λv i wr=>∃(k:Nat) (xs:List Value),k<=n/\i=.int .i64 k/\wr.ownsRow w.heap.size 9 1 v k xs/\(∀u∈xs,Short 21 u)/\Below w.heap.size w wr) (λ_ i _=>n-(intOf i).toNat)
 case atStart=>exact⟨0,[],by omega,rfl,World.ownsRow_nil _ _ _ _,by simp,Below.refl _ _⟩
 case round=>
  obtain⟨k,xs,I,rfl,a,j,hb⟩:=hrel;have g:Hid (wr.ownsRow w.heap.size 9 1 u3 k xs/\(∀u∈xs,Short 21 u)/\Below w.heap.size w wr):=⟨a,j,hb⟩;have s:w.heap.size<=wr.heap.size:=hb.size
  by_cases l:k<n
  .have G:(k:Int)<n:=by omega
   obtain⟨F,B,he,_,_,hF⟩:=A.out.1.ext hb;cases he;obtain⟨b,o,y,m⟩:=hF (by omega);subst y;have J:=m k l;clear hF m hb a j
   go_wp2_with(first
        |(go_at_call 177;refine(itoa_any (R k) wr (A.out.2.1 k l) (A.out.2.2.ext g.out.2.2)).mono ?_;rintro e w1 ⟨d,t,rfl,x⟩;have H1:Hid (Below wr.heap.size wr w1/\t.size<=21/\wr.heap.size<=w1.heap.size):=⟨d,x,d.size⟩;clear d x)
        |(at_builtin;refine wpList_append_own _ rfl _ _ _ rfl w.heap.size 9 i0 _ 1 16 hu D r q p rfl (by omega) _ k xs rfl ((au g.out.1 H1.out.1).alloc _) ⟨w1.heap.size,0,none⟩ 1 1 [.string t] rfl rfl (cell_one_new _ _ _) (by intro u hu;simp at hu;subst hu;rfl) (by unfold maxLen;omega) (by omega) (by have:=H1.out.2.2;simp;omega) ?_;intro v' w2 a c _))
   have z:Hid (w2.ownsRow w.heap.size 9 1 v' (k+1) (xs++[.string t])/\(∀u∈xs++[Value.string t],Short 21 u)/\Below w.heap.size w w2):=by
        refine⟨a,λu hu=>?_,g.out.2.2.trans ((H1.out.1.mono s).trans (lM (au g.out.1 H1.out.1) c (ZL _) (ZP s H1.out.2.2)))⟩;rcases aaz.1 hu with hu|hu
        .exact g.out.2.1 u hu
        .simp at hu;subst hu;exact⟨t,rfl,H1.out.2.1⟩
   clear a c;go_wp2;go_roundw
   case rel=>exact⟨k+1,_,by omega,by go_num,z.out.1,z.out.2.1,z.out.2.2⟩
   case measure=>simp[intOf];omega
  .obtain rfl:k=n:=by omega
   clear hb a j;go_wp2_with(go_at_call 176;refine(join_any 44 u3 k 21 w.heap.size xs wr g.out.1 g.out.2.1 (by omega)).mono ?_;rintro e w1 ⟨⟨t,rfl,x⟩,d⟩);go_ret;exact⟨⟨t,rfl,by omega⟩,g.out.2.2.trans (d.mono s)⟩
set_option linter.unusedVariables false in
theorem gY.low {B}{w w'}(h:gY w)(hb:Below B w w')(a:14<=B)(g:B<=w.heap.size):gY w':=by
 have c:∀b o,b<14->w'.cell? ⟨b,o,none⟩=w.cell? ⟨b,o,none⟩:=λb o hl=>hb.cell (p:=⟨b,o,none⟩) (ZO hl a)
 refine⟨ZP h.size hb.size,var?_below hb Tryz.oL (ZO (by decide) a) h.pow,⟨λk d=>?_,λi f=>?_⟩,λj e=>?_⟩
 .rw[c _ _ (by decide)];exact h.utf.1 k d
 .rw[c _ _ (by decide),c _ _ (by decide)];exact h.utf.2 i f
 .rw[c _ _ (by decide)];exact h.db64 j e
theorem own_buf_below {B}{v}{n}{xs}{a w w1}(h:Lib.OwnBuf B 5 v n xs a w)(hb:Below w.heap.size w w1):Lib.OwnBuf B 5 v n xs a w1:=by
 have c:w.grownBy w1 none:=⟨hb.os,hb.tape,hb.output,hb.size,λk b _=>hb.block k b⟩;refine⟨h.1.kept c ?_,h.2.1.trans (hb.mono h.2.2),ZP h.2.2 hb.size⟩;cases d:v.ownBlock with
 |none=>exact .inl rfl
 |some g=>exact .inr (by simp)
theorem and15b (x)(b:0<=x)(a:x<256):0<=bits BinOp.and IntKind.u8 x 15/\bits BinOp.and IntKind.u8 x 15<16:=by
 rw[u8_and15 x b a];omega
theorem quotedWith_any (B)(D)(n c)(xs)(s)(b w)(hb:Lib.OwnBuf B 5 (.slice D n c) n xs b w)(hu:mH xs)(x:n+s.size<=c)(hc:c<=9223372036854775807)(hlen:n+10*s.size+12<=140737488355328)(A:14<=B)(z:B<=b.heap.size)(h:gY b):
 Calls prog 227 #[.slice D n c,.string s,.int .u8 34,.bool true,.bool false] w (EscPost B (n+10*s.size+2) b):=by
 obtain⟨i0,p,g,f,d⟩:=info_parts Tryz.infoByte;have t37:=underlying165;have t9:=underlying9;have H:Hid (mH xs/\gY b):=⟨hu,h⟩;clear hu h;have f0:decide ((c:Int)-n<s.size)=false:=decide_eq_false (by omega);have f1:¬((c:Int)-n<s.size):=by omega
 go_enter func227,ntmps227
 go_wp2_with(at_builtin;refine Lib.wpList_append_byte rfl _ _ 165 rfl B 5 i0 t37 p g f d _ _ _ rfl b _ _ (by assumption) rfl (by omega) ?_;intro _ _ hb)
 go_loopw [0,1] (λv a wr=>∃(m:Nat) (ys:List Value) (t:ByteArray),a=.string t/\Lib.OwnBuf B 5 v m ys b wr/\mH ys/\m+10*t.size<=n+1+10*s.size/\t.size<=s.size) (λ_ a _=>strLen a)
 case atStart=>exact⟨_,_,s,rfl,hb,H.out.1.one _,by omega,ZL _⟩
 case round=>
  clear hb;obtain⟨m,ys,t,rfl,hb,j,L,J⟩:=hrel;have q:Hid (mH ys/\gY wr):=⟨j,H.out.2.low hb.2.1 A z⟩;clear j
  by_cases O:t.size=0
  .have C:decide ((0:Int)<t.size)=false:=decide_eq_false (by omega)
   have o:¬(0:Int)<t.size:=(by omega);go_wp2_with(at_builtin;refine Lib.wpList_append_byte rfl _ _ 165 rfl B 5 i0 t37 p g f d _ _ _ rfl b _ _ (by assumption) rfl (by omega) ?_;intro _ _ hb);go_ret;exact .of hb (by omega) (q.out.1.one _)
  .have C:(0:Int)<t.size:=by omega
   have h0i:0<t.size:=(by omega);obtain⟨r,k,hd⟩:∃r k:Nat,Lib.decodeGo t=(r,k):=⟨_,_,rfl⟩
   have N:r<=2147483647/\1<=k/\k<=t.size:=by
        have y:Utf8.decode t 0=(r,k):=by
         unfold Lib.decodeGo at hd
         rwa [if_neg (by omega)]at hd
        have G:=decode_le t 0;have F:=Lib.decode_width_pos t 0 (by omega);have E:=Lib.width_le t (by omega);rw[y]at G F E;exact⟨G,F,E⟩
   have P:(0:Int)<=(k:Int):=(by omega);have c2:(k:Int)<=t.size:=(by omega);have z9:(t.extract k t.size).size=t.size-k:=(by rw[ByteArray.size_extract];omega);obtain⟨b0,o⟩:∃b0,((t[0]'h0i).toNat:Int)=b0:=⟨_,rfl⟩;have i:0<=b0/\b0<256:=(by rw[<-o];have:=(t[0]'h0i).toNat_lt;omega);have d0:0<=b0/16:=(by omega);have d1:b0/16<16:=(by omega);obtain⟨d2,d3⟩:=and15b b0 i.1 i.2;clear i
   go_wp2_with(first
        |(go_at_call 245;refine(Tryz.utf8_DecodeRuneInString t wr q.out.2.utf).mono ?_;rintro e w3 ⟨he,l⟩;rw[hd]at he;subst he;replace hb:=own_buf_below hb l;clear l)
        |(go_at_call 257;refine(esc_any B _ _ _ (r:Int) b _ hb q.out.1 (by omega) (by omega) (by omega)).mono ?_;clear hb;rintro e w4 ⟨v',M,I,rfl,hb,K,u⟩)
        |(at_builtin;first
         |(refine Lib.wpList_append_byte rfl _ _ 165 rfl B 5 i0 t37 p g f d _ _ _ rfl b _ _ (by assumption) rfl (by first|omega|(simp only[Lib.size_two];omega)) ?_;intro _ _ hb)
         |(refine Lib.wpList_append_text rfl _ _ 165 9 rfl B 5 i0 t37 t9 p g f d _ _ _ rfl b (by assumption) _ rfl (by first|omega|(simp only[Lib.size_two];omega)) ?_;intro _ _ hb)))
   all_goals
        refine⟨⟨_,_,_,rfl,hb,?_,?_,?_⟩,?_⟩
        .repeat' first
          |exact q.out.1
          |exact u
          |exact mH.str _
          |refine mH.one ?_ _
          |refine mH.app ?_ ?_
        .simp only[ByteArray.size_extract,Lib.size_two];omega
        .simp only[ByteArray.size_extract];omega
        .show(t.extract _ t.size).size<t.size
         simp only[ByteArray.size_extract];omega
theorem conv_ownF {base}{w}{v}{n}{xs}(h:w.ownsRowF base 5 1 v n xs)(hu:mH xs):∃str:ByteArray,str.size=n/\(convert 165 9 v).run prog w=.ok (.string str) w:=by
 have hl:xs.length=n:=by have:=h.1;omega
 rcases h.2 with⟨rfl,k⟩|⟨g,cap,cur,l,rfl,_,j,hf,m,hc,hs,b⟩
 .refine⟨ByteArray.empty,?_,run_convert_bytes_nil (P:=prog) (w:=w) 165 5 underlying165 underlying5 0 0 _ underlying9⟩
  subst k;rfl
 .have d:∃zs:List Int,xs=zs.map (λz=>Value.int .u8 z):=by
   clear hl b h
   induction xs with
   |nil=>exact⟨[],rfl⟩
   |cons x r c=>
    obtain⟨zs,rfl⟩:=c (λu hm=>hu u (List.mem_cons_of_mem _ hm));obtain⟨z,rfl⟩:=hu x (ZX);exact⟨z::zs,rfl⟩
  obtain⟨zs,rfl⟩:=d;have a:zs.length=n:=by simpa using hl
  refine⟨strOfNums zs,?_,run_convert_bytes_arg (P:=prog) (w:=w) 165 5 underlying165 underlying5 g 0 n cap zs a (λi f=>?_) _ underlying9⟩
  .simp[strOfNums,ByteArray.size,a]
  .have e:(zs.map (λz=>Value.int .u8 z))[i]? =some (.int .u8 (zs.getD i 0)):=by simp[a,f,List.getD]
   rw[Z8,cell_of_row w g i cur _ l j];rw[<-b,Z5]at e;split at e
   .simpa using e
   .cases e
theorem quoteWith_any (s)(w)(hs:s.size<=1099511627776)(c:gY w):
 Calls prog 200 #[.string s,.int .u8 34,.bool true,.bool false] w λe w'=>iF (10*s.size+2) e/\Below w.heap.size w w':=by
 obtain⟨i0,l,i,h,g⟩:=info_parts Tryz.infoByte;have j:=underlying165;have hC:(3*(s.size:Int)/2)=((3*s.size/2:Nat):Int):=by omega
 obtain⟨w2,d,b,a⟩:=run_make_own (P:=prog) w w.heap.size 165 5 i0 _ 1 j l i h .i64 .i64 (3*s.size/2) (by rw[g];omega) (by unfold maxLen;omega) (ZL _);rw[<-hC]at d;have f:Lib.OwnBuf w.heap.size 5 (.slice (some ⟨w.heap.size,0,none⟩) 0 (3*s.size/2)) 0 [] w w2:=⟨World.ownsRowF_of b,(Below.refl _ _).grown a (ZL _) (λk p=>by cases p),a.size⟩;have m:Hid (Lib.OwnBuf w.heap.size 5 (.slice (some ⟨w.heap.size,0,none⟩) 0 (3*s.size/2)) 0 [] w w2/\gY w):=⟨f,c⟩;clear b a f c hC
 go_enter func200,ntmps200
 go_wp2_with(go_at_call 227;refine(quotedWith_any w.heap.size _ 0 (3*s.size/2) [] s w w2 m.out.1 (by intro u hu;cases hu) (by omega) (by omega) (by omega) m.out.2.size (ZL _) m.out.2).mono ?_;rintro e w3 ⟨v',t,o,rfl,hb,v,hu⟩;obtain⟨str,n,q⟩:=conv_ownF hb.1 hu;have r:Below w.heap.size w w3:=hb.2.1;clear hb hu);go_ret;exact⟨⟨str,rfl,by omega⟩,r⟩
theorem quoteASCII_any (s)(w)(hs:s.size<=1099511627776)(a:gY w):
 Calls prog 175 #[.string s] w λe w'=>iF (10*s.size+2) e/\Below w.heap.size w w':=by
 go_enter func175,ntmps175
 go_wp2_with(go_at_call 200;refine(quoteWith_any s w hs a).mono ?_;rintro e w1 ⟨⟨t,rfl,b⟩,hb⟩);go_ret;exact⟨⟨t,rfl,b⟩,hb⟩
def Total (xs:List Value)(S:Nat):Prop:=∃ts:List ByteArray,xs=ts.map Value.string/\sum ts<=S
theorem Total.one (t):Total [.string t] t.size:=⟨[t],rfl,by simp[sum]⟩
theorem Total.app {xs}{S}(h:Total xs S)(t):Total (xs++[.string t]) (S+t.size):=by
 obtain⟨ts,rfl,hs⟩:=h;refine⟨ts++[t],by simp,?_⟩;have:sum (ts++[t])=sum ts+t.size:=by simp[sum]
 omega
theorem joinTail_sum (c):∀(l:List ByteArray),(Lib.joinTail [c] (l.map (·.data.toList))).length=sum l+l.length
 |[]=>by simp[Lib.joinTail,sum]
 |a::r=>by
  have b:=joinTail_sum c r;have e:a.data.toList.length=a.size:=(Lib.size_eq a).symm;rw[sum_cons];simp only[Lib.joinTail,List.map_cons,List.flatten_cons,Z7,List.length_cons,List.length_nil]at*;omega
theorem join_sum (c)(l):(Lib.join (l.map (·.data.toList)) [c]).length<=sum l+l.length:=by
 cases l with
 |nil=>simp[Lib.join_nil]
 |cons a r=>
  have b:=joinTail_sum c r;have e:a.data.toList.length=a.size:=(Lib.size_eq a).symm;rw[List.map_cons,Lib.join_cons,Z7,sum_cons,List.length_cons];omega
theorem total_short {xs}{S}(h:Total xs S):∀u∈xs,Short S u:=by
 obtain⟨ts,rfl,hs⟩:=h;intro u hu;obtain⟨t,b,rfl⟩:=List.mem_map.1 hu;refine⟨t,rfl,ZP ?_ hs⟩;clear hs hu
 induction ts with
 |nil=>cases b
 |cons a r c=>
  rw[sum_cons];rcases ZW.1 b with rfl|b
  .omega
  .have:=c b;omega
theorem join_tot (c)(v)(n S base)(xs)(w)(h:w.ownsRow base 9 1 v n xs)(hx:Total xs S)(s:S+n<=140737488355328):
 Calls prog 176 #[v,.string ⟨#[c]⟩] w λe w'=>iF (S+n) e/\Below w.heap.size w w':=by
 obtain⟨d,m,i⟩:=hx;obtain⟨ts,l,hl,_,hc⟩:=texts_of_own (K:=S) h (total_short ⟨d,m,i⟩)
 have f:ts=d:=by
  rw[m]at l;exact((List.map_inj_right (λa b j=>by cases j;rfl)).1 l).symm
 subst f;rcases hc with⟨rfl,q⟩|⟨g,cap,rfl,k,p,hc⟩
 .subst q
  refine(Tryz.strings_Join_none none 0 ⟨#[c]⟩ w).mono ?_;rintro e w' ⟨rfl,rfl⟩;exact⟨⟨_,rfl,Nat.zero_le _⟩,Below.refl _ _⟩
 .have o:=join_sum c ts
  have r:=Tryz.strings_Join g 0 cap ts ⟨#[c]⟩ w hc p (by omega) (by omega) (ZP o (by omega));rw[hl]at r;refine r.mono ?_;rintro e w' ⟨rfl,hb⟩;refine⟨⟨_,rfl,?_⟩,hb⟩;show(Lib.join (ts.map (·.data.toList)) [c]).toArray.size<=_
  simp only[List.size_toArray];omega
def BoxV (nm:ByteArray)(A:Nat->Option Addr)(N C:Nat->Nat):Value:=.agg #[.string nm,.slice (A 0) (N 0) (C 0),.slice (A 1) (N 1) (C 1),.slice (A 2) (N 2) (C 2),.slice (A 3) (N 3) (C 3)]
theorem line_any (nm)(A)(N C)(R)(w)(hG:zA w A N C R)(Z:∀q,q<4->∀i,i<N q->I64 (R q i))(hn:nm.size<=1099511627776)(I:∀q,q<4->N q<=1099511627776)(y:gY w):
 Calls prog 142 #[BoxV nm A N C] w λe w'=>iF (22*(N 0+N 1+N 2+N 3)+10*nm.size+12) e/\Below w.heap.size w w':=by
 have g:Hid (zA w A N C R/\(∀q,q<4->∀i,i<N q->I64 (R q i))/\(∀q,q<4->N q<=1099511627776)/\gY w):=⟨hG,Z,I,y⟩;have n0:=I 0 (by omega);have n1:=I 1 (by omega);have n2:=I 2 (by omega);have n3:=I 3 (by omega);clear hG Z I y;obtain⟨i0,P,s,r,p⟩:=info_parts Tryz.infoStr;have hu:=underlying115;unfold BoxV
 go_enter func142,ntmps142
 have γ:=λW=>(by kernel_rfl:Sem.run prog (Instr.index 39 (.agg #[.slice (A 1) (N 1) (C 1),.slice (A 2) (N 2) (C 2),.slice (A 3) (N 3) (C 3)]) (.int .i64 0)) W=.ok (.slice (A 1) (N 1) (C 1)) W)
 have β:=λW=>(by kernel_rfl:Sem.run prog (Instr.index 39 (.agg #[.slice (A 1) (N 1) (C 1),.slice (A 2) (N 2) (C 2),.slice (A 3) (N 3) (C 3)]) (.int .i64 1)) W=.ok (.slice (A 2) (N 2) (C 2)) W)
 have α:=λW=>(by kernel_rfl:Sem.run prog (Instr.index 39 (.agg #[.slice (A 1) (N 1) (C 1),.slice (A 2) (N 2) (C 2),.slice (A 3) (N 3) (C 3)]) (.int .i64 2)) W=.ok (.slice (A 3) (N 3) (C 3)) W)
 go_wp2_with fail;have k:Below w.heap.size w (w.alloc (.cells #[.string nm,.slice (A 0) (N 0) (C 0),.slice (A 1) (N 1) (C 1),.slice (A 2) (N 2) (C 2),.slice (A 3) (N 3) (C 3)] 98)):=(Below.refl _ _).alloc (ZL _) _;refine(list_any _ (N 0) (R 0) _ n0 ((g.out.1 0 (by omega)).ext k) (g.out.2.1 0 (by omega)) (g.out.2.2.2.ext k)).mono ?_;rintro e w1 ⟨⟨t0,rfl,L⟩,x⟩
 have E:w1.heap[w.heap.size]? =some (.cells #[.string nm,.slice (A 0) (N 0) (C 0),.slice (A 1) (N 1) (C 1),.slice (A 2) (N 2) (C 2),.slice (A 3) (N 3) (C 3)] 98 (0,0)):=by
  rw[x.block _ (by simp)];exact heap_alloc_new _ _
 have n:w.heap.size+1<=w1.heap.size:=by have:=x.size;simpa using this
 have l:Hid (0=0):=rfl;have J:Hid (w1.heap[w.heap.size]? =some (.cells #[.string nm,.slice (A 0) (N 0) (C 0),.slice (A 1) (N 1) (C 1),.slice (A 2) (N 2) (C 2),.slice (A 3) (N 3) (C 3)] 98 (0,0))/\Below w.heap.size w w1/\w.heap.size+1<=w1.heap.size/\t0.size<=22*N 0+1):=⟨E,k.trans (x.mono (by simp)),n,L⟩;obtain⟨p0,T⟩:=blk E;have V:w.heap.size<w1.heap.size:=n;clear E n x k L;go_wp2;clear p0 T
 go_loopw [3,14] (λv i wr=>∃(j:Int) (m:Nat) (xs:List Value) (S:Nat),i=.int .i64 j/\((j=0/\m=1)\/(j=1/\m=2)\/(j=2/\m=3)\/(j=3/\m=4))/\wr.ownsRow (w.heap.size+1) 9 1 v m xs/\Total xs S/\
  ((j=0->S<=22*N 0+1)/\(j=1->S<=22*(N 0+N 1)+2)/\(j=2->S<=22*(N 0+N 1+N 2)+3)/\(j=3->S<=22*(N 0+N 1+N 2+N 3)+4))/\
  wr.heap[w.heap.size]? =some (.cells #[.string nm,.slice (A 0) (N 0) (C 0),.slice (A 1) (N 1) (C 1),.slice (A 2) (N 2) (C 2),.slice (A 3) (N 3) (C 3)] 98 (0,0))/\Below w.heap.size w wr) (λ_ i _=>(3-intOf i).toNat)
 case atStart=>
  refine⟨0,1,[.string t0],t0.size,rfl,by omega,?_,Total.one t0,by have:=J.out.2.2.2;omega,(Below.heap_alloc _ _ _ (by have:=J.out.2.2.1;omega)).trans J.out.1,J.out.2.1.alloc (by have:=J.out.2.2.1;omega) _⟩;exact⟨rfl,.inr ⟨w1.heap.size,1,#[.string t0],rfl,by have:=J.out.2.2.1;omega,heap_alloc_new w1 _,ZL _,by unfold maxLen;omega,rfl,rfl⟩⟩
 case round=>
  obtain⟨j,m,xs,S,rfl,U,a,X,Y,D,M⟩:=hrel;have c:Hid (wr.ownsRow (w.heap.size+1) 9 1 u3 m xs/\Total xs S/\wr.heap[w.heap.size]? =some (.cells #[.string nm,.slice (A 0) (N 0) (C 0),.slice (A 1) (N 1) (C 1),.slice (A 2) (N 2) (C 2),.slice (A 3) (N 3) (C 3)] 98 (0,0))/\Below w.heap.size w wr):=⟨a,X,D,M⟩;have z:Hid ((j=0->S<=22*N 0+1)/\(j=1->S<=22*(N 0+N 1)+2)/\(j=2->S<=22*(N 0+N 1+N 2)+3)/\(j=3->S<=22*(N 0+N 1+N 2+N 3)+4)):=Y;have K:w.heap.size+1<=wr.heap.size:=(ZK.1 D).1;clear a X D M Y l;have l:Hid (w.heap.size+1<=wr.heap.size):=K;clear K;rcases U with⟨rfl,rfl⟩|⟨rfl,rfl⟩|⟨rfl,rfl⟩|⟨rfl,rfl⟩
  .have f:Hid (S<=22*N 0+1):=z.out.1 rfl
   clear z;have hw:=c.out.2.2.1;obtain⟨Q,B⟩:=blk hw;clear hw
   go_wp2_with(first
        |(go_at_call 174;refine(list_any _ (N 1) (R 1) wr (g.out.2.2.1 1 (by omega)) ((g.out.1 1 (by omega)).ext c.out.2.2.2) (g.out.2.1 1 (by omega)) (g.out.2.2.2.ext c.out.2.2.2)).mono ?_;rintro e w3 ⟨⟨t,rfl,o⟩,d⟩;have H1:Hid (Below wr.heap.size wr w3/\t.size<=22*N 1+1/\wr.heap.size<=w3.heap.size):=⟨d,o,d.size⟩;clear d o)
        |(at_builtin;refine wpList_append_own _ rfl _ _ _ rfl (w.heap.size+1) 9 i0 _ 1 16 hu P s r p rfl (by omega) _ 1 xs rfl ((au c.out.1 H1.out.1).alloc _) ⟨w3.heap.size,0,none⟩ 1 1 [.string t] rfl rfl (cell_one_new _ _ _) (by intro u hu;simp at hu;subst hu;rfl) (by unfold maxLen;omega) (by omega) (by have:=H1.out.2.2;have:=c.out.2.2.2.size;have:=l.out;simp;omega) ?_;intro v' w4 a b _;have h:Hid (_/\_):=⟨a,b⟩;obtain⟨H,G,rfl⟩:=aj a;clear a b))
   exact⟨⟨1,2,_,_,rfl,by omega,h.out.1,c.out.2.1.app t,by have:=H1.out.2.1;have:=f.out;omega,(app_block (au c.out.1 H1.out.1) h.out.2 ((H1.out.1.block _ (by have:=c.out.2.2.2.size;have:=l.out;omega)).trans c.out.2.2.1) (by omega)),(c.out.2.2.2.trans ((H1.out.1.mono (by have:=c.out.2.2.2.size;omega)).trans (lM (au c.out.1 H1.out.1) h.out.2 (by omega) (by have:=c.out.2.2.2.size;have:=H1.out.2.2;omega))))⟩,by simp[intOf]⟩
  .have f:Hid (S<=22*(N 0+N 1)+2):=z.out.2.1 rfl
   clear z;have hw:=c.out.2.2.1;obtain⟨Q,B⟩:=blk hw;clear hw
   go_wp2_with(first
        |(go_at_call 174;refine(list_any _ (N 2) (R 2) wr (g.out.2.2.1 2 (by omega)) ((g.out.1 2 (by omega)).ext c.out.2.2.2) (g.out.2.1 2 (by omega)) (g.out.2.2.2.ext c.out.2.2.2)).mono ?_;rintro e w3 ⟨⟨t,rfl,o⟩,d⟩;have H1:Hid (Below wr.heap.size wr w3/\t.size<=22*N 2+1/\wr.heap.size<=w3.heap.size):=⟨d,o,d.size⟩;clear d o)
        |(at_builtin;refine wpList_append_own _ rfl _ _ _ rfl (w.heap.size+1) 9 i0 _ 1 16 hu P s r p rfl (by omega) _ 2 xs rfl ((au c.out.1 H1.out.1).alloc _) ⟨w3.heap.size,0,none⟩ 1 1 [.string t] rfl rfl (cell_one_new _ _ _) (by intro u hu;simp at hu;subst hu;rfl) (by unfold maxLen;omega) (by omega) (by have:=H1.out.2.2;have:=c.out.2.2.2.size;have:=l.out;simp;omega) ?_;intro v' w4 a b _;have h:Hid (_/\_):=⟨a,b⟩;obtain⟨H,G,rfl⟩:=aj a;clear a b))
   exact⟨⟨2,3,_,_,rfl,by omega,h.out.1,c.out.2.1.app t,by have:=H1.out.2.1;have:=f.out;omega,(app_block (au c.out.1 H1.out.1) h.out.2 ((H1.out.1.block _ (by have:=c.out.2.2.2.size;have:=l.out;omega)).trans c.out.2.2.1) (by omega)),(c.out.2.2.2.trans ((H1.out.1.mono (by have:=c.out.2.2.2.size;omega)).trans (lM (au c.out.1 H1.out.1) h.out.2 (by omega) (by have:=c.out.2.2.2.size;have:=H1.out.2.2;omega))))⟩,by simp[intOf]⟩
  .have f:Hid (S<=22*(N 0+N 1+N 2)+3):=z.out.2.2.1 rfl
   clear z;have hw:=c.out.2.2.1;obtain⟨Q,B⟩:=blk hw;clear hw
   go_wp2_with(first
        |(go_at_call 174;refine(list_any _ (N 3) (R 3) wr (g.out.2.2.1 3 (by omega)) ((g.out.1 3 (by omega)).ext c.out.2.2.2) (g.out.2.1 3 (by omega)) (g.out.2.2.2.ext c.out.2.2.2)).mono ?_;rintro e w3 ⟨⟨t,rfl,o⟩,d⟩;have H1:Hid (Below wr.heap.size wr w3/\t.size<=22*N 3+1/\wr.heap.size<=w3.heap.size):=⟨d,o,d.size⟩;clear d o)
        |(at_builtin;refine wpList_append_own _ rfl _ _ _ rfl (w.heap.size+1) 9 i0 _ 1 16 hu P s r p rfl (by omega) _ 3 xs rfl ((au c.out.1 H1.out.1).alloc _) ⟨w3.heap.size,0,none⟩ 1 1 [.string t] rfl rfl (cell_one_new _ _ _) (by intro u hu;simp at hu;subst hu;rfl) (by unfold maxLen;omega) (by omega) (by have:=H1.out.2.2;have:=c.out.2.2.2.size;have:=l.out;simp;omega) ?_;intro v' w4 a b _;have h:Hid (_/\_):=⟨a,b⟩;obtain⟨H,G,rfl⟩:=aj a;clear a b))
   exact⟨⟨3,4,_,_,rfl,by omega,h.out.1,c.out.2.1.app t,by have:=H1.out.2.1;have:=f.out;omega,(app_block (au c.out.1 H1.out.1) h.out.2 ((H1.out.1.block _ (by have:=c.out.2.2.2.size;have:=l.out;omega)).trans c.out.2.2.1) (by omega)),(c.out.2.2.2.trans ((H1.out.1.mono (by have:=c.out.2.2.2.size;omega)).trans (lM (au c.out.1 H1.out.1) h.out.2 (by omega) (by have:=c.out.2.2.2.size;have:=H1.out.2.2;omega))))⟩,by simp[intOf]⟩
  .have f:Hid (S<=22*(N 0+N 1+N 2+N 3)+4):=z.out.2.2.2 rfl
   clear z;have hw:=c.out.2.2.1;obtain⟨Q,B⟩:=blk hw;clear hw
   go_wp2_with(first
        |(go_at_call 175;refine(quoteASCII_any nm wr hn (g.out.2.2.2.ext c.out.2.2.2)).mono ?_;rintro e w3 ⟨⟨t,rfl,o⟩,d⟩;have H1:Hid (Below wr.heap.size wr w3/\t.size<=10*nm.size+2/\wr.heap.size<=w3.heap.size):=⟨d,o,d.size⟩;clear d o)
        |(at_builtin;refine wpList_append_own _ rfl _ _ _ rfl (w.heap.size+1) 9 i0 _ 1 16 hu P s r p rfl (by omega) _ 4 xs rfl ((au c.out.1 H1.out.1).alloc _) ⟨w3.heap.size,0,none⟩ 1 1 [.string t] rfl rfl (cell_one_new _ _ _) (by intro u hu;simp at hu;subst hu;rfl) (by unfold maxLen;omega) (by omega) (by have:=H1.out.2.2;have:=c.out.2.2.2.size;have:=l.out;simp;omega) ?_;intro v' w4 a b _;have h:Hid (_/\_):=⟨a,b⟩;obtain⟨H,G,rfl⟩:=aj a;clear a b)
        |(go_at_call 176;refine(join_tot 32 _ 5 (S+t.size) (w.heap.size+1) _ w4 h.out.1 (c.out.2.1.app t) (by have:=H1.out.2.1;have:=f.out;omega)).mono ?_;rintro e w5 ⟨⟨t5,rfl,F⟩,O⟩;have H5:Hid (Below w4.heap.size w4 w5/\t5.size<=S+t.size+5):=⟨O,F⟩;have δ:t5.size+1<=9223372036854775807:=ZP (Nat.succ_le_succ F) (by have:=H1.out.2.1;have:=f.out;omega);clear O F))
   go_ret;refine⟨⟨_,rfl,?_⟩,?_⟩
   .simp only[ByteArray.size_append]
    have e1:(⟨#[10]⟩:ByteArray).size=1:=rfl;have a1:=H1.out.2.1;have a2:=f.out;have a3:=H5.out.2;omega
   .exact c.out.2.2.2.trans ((H1.out.1.mono (by have:=l.out;omega)).trans ((lM (au c.out.1 H1.out.1) h.out.2 (by omega) (by have:=H1.out.2.2;have:=l.out;omega)).trans (H5.out.1.mono (by have:=(app_keeps (au c.out.1 H1.out.1) h.out.2).size;have:=H1.out.2.2;have:=l.out;omega))))
theorem tz16_any (w)(a:gY w):
 Calls prog 262 #[.int .u64 16] w λe w'=>e=.returned (.int .i64 4)/\w'=w:=by
 have k:(IntKind.u64.wrap (bits BinOp.and IntKind.u64 16 (IntKind.u64.wrap (-16))*285870213051353865)/288230376151711744)=15:=by decide
 have hc:=a.db64 15 (by decide);have b:Lib.deBruijn64tab.getD 15 0=4:=by decide
 rw[b]at hc
 go_enter func262,ntmps262
 go_wp2;go_ret;exact⟨rfl,rfl⟩
def Row65 (W:World)(a:Nat):Prop:=a<W.heap.size/\∀j,j<65->(∃z,W.cell? ⟨a,j,none⟩=some (.int .u8 z))/\W.frozen? ⟨a,j,none⟩=false
theorem Row65.set {W}{a}(h:Row65 W a)(i)(c:i<65)(z):Row65 (W.setCell ⟨a,i,none⟩ (.int .u8 z)) a:=by
 refine⟨by have:=h.1;simpa using this,λj b=>⟨?_,by rw[World.frozen?_setCell];exact(h.2 j b).2⟩⟩
 by_cases e:j=i
 .subst e
  obtain⟨y,hy⟩:=(h.2 j b).1;exact⟨z,World.cell?_setCell_same' _ _ _ (by rw[hy];rfl)⟩
 .obtain⟨y,hy⟩:=(h.2 j b).1
  exact⟨y,(World.cell?_setCell_other _ _ _ _ (by intro he;cases he;exact e rfl)).trans hy⟩
theorem and15 (x)(a:0<=x)(d:x<18446744073709551616):0<=bits BinOp.and IntKind.u64 x 15/\bits BinOp.and IntKind.u64 x 15<16:=by
 obtain⟨n,rfl⟩:=Int.eq_ofNat_of_zero_le a;have e:=bits_and_u64_nat n 15 (by omega) (by decide);have c:n&&&15=n%16:=Nat.and_two_pow_sub_one_eq_mod n 4;have b:bits BinOp.and IntKind.u64 (n:Int) 15=((n&&&15:Nat):Int):=e;rw[b,c];omega
def pw16:Nat->Int
 |0=>16
 |k+1=>16*pw16 k
theorem slice65 (W)(b k:Nat)(e:k<=15):(Instr.sliceAt 311 (.pointer (some ⟨b,0,none⟩)) (some (.int .i64 (49+(k:Int)))) none none).run prog W=.ok (.slice (some ⟨b,49+k,none⟩) (16-k) (16-k)) W:=by
 have a:Program.arrayLen prog 311=65:=by kernel_rfl
 have c:Program.elem prog 311=5:=by kernel_rfl
 have hu:prog.underlying 311=some (.array (Program.arrayLen prog 311) (Program.elem prog 311)):=by rw[a,c];exact underlying311
 rw[run_sliceAt_array_l W _ _ hu .i64 (49+(k:Int)) (by omega) (by rw[a];omega),a,c,Tryz.sizeOf5];simp only[Result.andThen,slicedAt];have d:((49+(k:Int))).toNat=49+k:=by omega
 rw[d,if_neg (by omega)];simp[Addr.add];omega
theorem conv65 {W}{b}(h:Row65 W b)(k)(f:k<=15):∃str:ByteArray,str.size=16-k/\(convert 165 9 (.slice (some ⟨b,49+k,none⟩) (16-k) (16-k))).run prog W=.ok (.string str) W:=by
 have a:∀m,m<=16-k->∃zs:List Int,zs.length=m/\∀i,i<m->W.cell? ⟨b,49+k+i,none⟩=some (.int .u8 (zs.getD i 0)):=by
  intro m
  induction m with
  |zero=>exact λ_=>⟨[],rfl,λi c=>absurd c (ZV _)⟩
  |succ m d=>
   intro hm;obtain⟨zs,hl,hc⟩:=d (by omega);obtain⟨z,a⟩:=(h.2 (49+k+m) (by omega)).1;refine⟨zs++[z],by simp[hl],λi c=>?_⟩
   by_cases e:i<m
   .rw[hc i e];simp[List.getD,List.getElem?_append_left (show i<zs.length by omega)]
   .obtain rfl:i=m:=by omega
    rw[a];simp[List.getD,<-hl]
 obtain⟨zs,hl,hc⟩:=a (16-k) (ZL _);exact⟨strOfNums zs,by rw[strOfNums_size];exact hl,run_convert_bytes_arg (P:=prog) (w:=W) 165 5 underlying165 underlying5 b (49+k) (16-k) (16-k) zs hl hc _ underlying9⟩
def BitsPost (e:Ending):Prop:=∃t:ByteArray,e=.returned (.tuple #[.slice none 0 0,.string t])/\t.size<=65
theorem formatBits_any (x)(w)(u:0<=x)(t:x<18446744073709551616)(c:gY w):
 Calls prog 233 #[.slice none 0 0,.int .u64 x,.int .i64 16,.bool false,.bool false] w λe w'=>BitsPost e/\Below w.heap.size w w':=by
 have n:Hid (0<=x/\x<18446744073709551616/\gY w):=⟨u,t,c⟩;clear u t c
 go_enter func233,ntmps233
 go_wp2_with(first
  |(go_at_call 262;refine(tz16_any _ (n.out.2.2.ext ((Below.refl _ _).alloc (ZL _) _))).mono ?_;rintro e w1 ⟨rfl,hw⟩;obtain rfl:=hw.symm)
  |(go_at_call 261;go_in))
 obtain⟨f,a⟩:∃f,f=w.alloc (.cells Tryz.zeroCells311 311):=⟨_,rfl⟩;rw[<-a]
 have l:Row65 f w.heap.size:=by
  have hb:f.heap[w.heap.size]? =some (.cells Tryz.zeroCells311 311 (0,0)):=by rw[a];exact heap_alloc_new _ _
  obtain⟨q,B⟩:=blk hb;refine⟨by rw[a];simp,λj F=>⟨⟨0,?_⟩,B j⟩⟩;rw[q j];have C:Tryz.zeroCells311=Array.replicate 65 (Value.int .u8 0):=by kernel_rfl
  rw[C];simp[F]
 have g:Below w.heap.size w f:=by rw[a];exact(Below.refl _ _).alloc (ZL _) _
 clear a;have A:Hid (Row65 f w.heap.size/\Below w.heap.size w f):=⟨l,g⟩;clear l g
 go_loopw [1,13] (λv i wr=>∃(y:Int) (k:Nat),v=.int .u64 y/\(0<=y/\y<pw16 k/\y<18446744073709551616)/\i=.int .i64 (50+(k:Int))/\k<=15/\Row65 wr w.heap.size/\Below w.heap.size w wr) (λv _ _=>(intOf v).toNat)
 case atStart=>exact⟨x,15,rfl,⟨n.out.1,by have:pw16 15=18446744073709551616:=by decide
                                          rw[this];exact n.out.2.1,n.out.2.1⟩,rfl,by omega,A.out.1,A.out.2⟩
 case round=>
  obtain⟨y,k,rfl,hy,rfl,s,m,hb⟩:=hrel;have p:=and15 y hy.1 hy.2.2;obtain⟨d,hd⟩:∃d,bits BinOp.and IntKind.u64 y 15=d:=⟨_,rfl⟩;rw[hd]at p;have d0:(d<36):=by omega
  have b:Hid (Row65 wr w.heap.size/\Below w.heap.size w wr/\0<=y/\y<pw16 k/\y<18446744073709551616):=⟨m,hb,hy⟩;have f1:=(m.2 (49+k) (by omega)).2;obtain⟨H,g1⟩:=(m.2 (49+k) (by omega)).1;have I:(50+(k:Int)-1)=((49+k:Nat):Int):=by omega
  clear m hb hy
  by_cases G:16<=y
  .go_wp2
   cases k with
   |zero=>
    exfalso;have h:=b.out.2.2.2.1;simp only[pw16]at h;omega
   |succ k=>
    have hp:=b.out.2.2.2.1;have K:=b.out.2.2.1;have J:=b.out.2.2.2.2;simp only[pw16]at hp;exact⟨⟨y/16,k,rfl,⟨by omega,by omega,by omega⟩,by congr 1;omega,by omega,b.out.1.set _ (by omega) _,b.out.2.1.setCell (ZL _) _⟩,by simp[intOf];omega⟩
  .have D:=b.out.2.2.1
   have r:y<36:=(by omega);have E:=λW=>slice65 W w.heap.size k s
   have hcs:∀z:Int,∃str:ByteArray,str.size=16-k/\(convert 165 9 (.slice (some ⟨w.heap.size,49+k,none⟩) (16-k) (16-k))).run prog (wr.setCell ⟨w.heap.size,49+k,none⟩ (.int .u8 z))=.ok (.string str) (wr.setCell ⟨w.heap.size,49+k,none⟩ (.int .u8 z)):=
        λz=>conv65 (b.out.1.set (49+k) (by omega) z) k s
   go_wp2;obtain⟨str,hs,o⟩:=hcs _;rw[o];go_wp2;go_ret2;exact⟨⟨str,rfl,by omega⟩,b.out.2.1.setCell (ZL _) _⟩
theorem formatUint_any (x)(w)(d:0<=x)(c:x<18446744073709551616)(a:gY w):
 Calls prog 178 #[.int .u64 x,.int .i64 16] w λe w'=>iF 65 e/\Below w.heap.size w w':=by
 go_enter func178,ntmps178
 go_wp2_with(first
  |(go_at_call 233;refine(formatBits_any x w d c a).mono ?_;rintro e w1 ⟨⟨t,rfl,b⟩,hb⟩)
  |go_in)
 go_ret;exact⟨⟨t,rfl,b⟩,hb⟩
end
