/- Part 33 of the proof. -/
import Derived.Test.YtfpaamhppamcoaaGreatDoorT32
import Derived.Laws.Bits64b
import Derived.Shelf.Strings.BuilderF
set_option linter.all false
set_option maxRecDepth 100000
set_option maxHeartbeats 60000000
namespace Go.Proofs.YtfpaamhppamcoaaGreatDoor
open Go.Proofs.Tryz
section
open Go.RowKit
attribute [local go_sem ↓] Go.wp_at_zero Go.wp_at_succ
attribute [local go_sem] After.cell After.frozen After.const
def Total (xs:List Value)(S:Nat):Prop:=∃ts:List ByteArray,xs=ts.map Value.string/\sum ts<=S
theorem Total.one (t):Total [.string t] t.size:=⟨[t],rfl,by simp[sum]⟩
theorem Total.app {xs}{S}(h:Total xs S)(t):Total (xs++[.string t]) (S+t.size):=by
 obtain⟨ts,rfl,hs⟩:=h;refine⟨ts++[t],by simp,?_⟩;have:sum (ts++[t])=sum ts+t.size:=by simp[sum]
 omega
theorem rz (c):∀(l:List ByteArray),(Lib.joinTail [c] (l.map (·.data.toList))).length=sum l+l.length
 |[]=>by simp[Lib.joinTail,sum]
 |a::r=>by
  have b:=rz c r;have e:a.data.toList.length=a.size:=(Lib.size_eq a).symm;rw[sum_cons];simp only[Lib.joinTail,List.map_cons,List.flatten_cons,Z7,List.length_cons,List.length_nil]at*;omega
theorem Ni (c)(l):(Lib.join (l.map (·.data.toList)) [c]).length<=sum l+l.length:=by
 cases l with
 |nil=>simp[Lib.join_nil]
 |cons a r=>
  have b:=rz c r;have e:a.data.toList.length=a.size:=(Lib.size_eq a).symm;rw[List.map_cons,Lib.join_cons,Z7,sum_cons,List.length_cons];omega
theorem Ei {xs}{S}(h:Total xs S):∀u∈xs,BK S u:=by
 obtain⟨ts,rfl,hs⟩:=h;intro u hu;obtain⟨t,b,rfl⟩:=List.mem_map.1 hu;refine⟨t,rfl,ZP ?_ hs⟩;clear hs hu
 induction ts with
 |nil=>cases b
 |cons a r c=>
  rw[sum_cons];rcases ZW.1 b with rfl|b
  .omega
  .have:=c b;omega
theorem Nh (c)(v)(n S base)(xs)(w)(h:w.ownsRow base 9 1 v n xs)(hx:Total xs S)(s:S+n<=140737488355328):
 Calls prog 176 #[v,.string ⟨#[c]⟩] w λe w'=>iF (S+n) e/\Below w.heap.size w w':=by
 obtain⟨d,m,i⟩:=hx;obtain⟨ts,l,hl,_,hc⟩:=qM (K:=S) h (Ei ⟨d,m,i⟩)
 have f:ts=d:=by
  rw[m]at l;exact((List.map_inj_right (λa b j=>by cases j;rfl)).1 l).symm
 subst f;rcases hc with⟨rfl,q⟩|⟨g,cap,rfl,k,p,hc⟩
 .subst q
  refine(Tryz.strings_Join_none none 0 ⟨#[c]⟩ w).mono ?_;rintro e w' ⟨rfl,rfl⟩;exact⟨⟨_,rfl,Nat.zero_le _⟩,Below.refl _ _⟩
 .have o:=Ni c ts
  have r:=Tryz.strings_Join g 0 cap ts ⟨#[c]⟩ w hc p (by omega) (by omega) (ZP o (by omega));rw[hl]at r;refine r.mono ?_;rintro e w' ⟨rfl,hb⟩;refine⟨⟨_,rfl,?_⟩,hb⟩;show(Lib.join (ts.map (·.data.toList)) [c]).toArray.size<=_
  simp only[List.size_toArray];omega
def UQ (nm:ByteArray)(A:Nat->Option Addr)(N C:Nat->Nat):Value:=.agg #[.string nm,.slice (A 0) (N 0) (C 0),.slice (A 1) (N 1) (C 1),.slice (A 2) (N 2) (C 2),.slice (A 3) (N 3) (C 3)]
theorem Nc (nm)(A)(N C)(R)(w)(hG:zA w A N C R)(Z:∀q,q<4->∀i,i<N q->SB (R q i))(hn:nm.size<=1099511627776)(I:∀q,q<4->N q<=1099511627776)(y:gY w):
 Calls prog 142 #[UQ nm A N C] w λe w'=>iF (22*(N 0+N 1+N 2+N 3)+10*nm.size+12) e/\Below w.heap.size w w':=by
 have g:Hid (zA w A N C R/\(∀q,q<4->∀i,i<N q->SB (R q i))/\(∀q,q<4->N q<=1099511627776)/\gY w):=⟨hG,Z,I,y⟩;have n0:=I 0 (by omega);have n1:=I 1 (by omega);have n2:=I 2 (by omega);have n3:=I 3 (by omega);clear hG Z I y;obtain⟨i0,P,s,r,p⟩:=info_parts Tryz.JS;have hu:=underlying115;unfold UQ
 go_enter func142,ntmps142
 have γ:=λW=>(by kernel_rfl:Sem.run prog (Instr.index 39 (.agg #[.slice (A 1) (N 1) (C 1),.slice (A 2) (N 2) (C 2),.slice (A 3) (N 3) (C 3)]) (.int .i64 0)) W=.ok (.slice (A 1) (N 1) (C 1)) W)
 have β:=λW=>(by kernel_rfl:Sem.run prog (Instr.index 39 (.agg #[.slice (A 1) (N 1) (C 1),.slice (A 2) (N 2) (C 2),.slice (A 3) (N 3) (C 3)]) (.int .i64 1)) W=.ok (.slice (A 2) (N 2) (C 2)) W)
 have α:=λW=>(by kernel_rfl:Sem.run prog (Instr.index 39 (.agg #[.slice (A 1) (N 1) (C 1),.slice (A 2) (N 2) (C 2),.slice (A 3) (N 3) (C 3)]) (.int .i64 2)) W=.ok (.slice (A 3) (N 3) (C 3)) W)
 go_wp2_with fail;have k:Below w.heap.size w (w.alloc (.cells #[.string nm,.slice (A 0) (N 0) (C 0),.slice (A 1) (N 1) (C 1),.slice (A 2) (N 2) (C 2),.slice (A 3) (N 3) (C 3)] 98)):=(Below.refl _ _).alloc (ZL _) _;refine(rq _ (N 0) (R 0) _ n0 ((g.out.1 0 (by omega)).ext k) (g.out.2.1 0 (by omega)) (g.out.2.2.2.ext k)).mono ?_;rintro e w1 ⟨⟨t0,rfl,L⟩,x⟩
 have E:w1.heap[w.heap.size]? =some (.cells #[.string nm,.slice (A 0) (N 0) (C 0),.slice (A 1) (N 1) (C 1),.slice (A 2) (N 2) (C 2),.slice (A 3) (N 3) (C 3)] 98 (0,0)):=by
  rw[x.block _ (by simp)];exact heap_alloc_new _ _
 have n:w.heap.size+1<=w1.heap.size:=by have:=x.size;simpa using this
 have l:Hid (0=0):=rfl;have J:Hid (w1.heap[w.heap.size]? =some (.cells #[.string nm,.slice (A 0) (N 0) (C 0),.slice (A 1) (N 1) (C 1),.slice (A 2) (N 2) (C 2),.slice (A 3) (N 3) (C 3)] 98 (0,0))/\Below w.heap.size w w1/\w.heap.size+1<=w1.heap.size/\t0.size<=22*N 0+1):=⟨E,k.trans (x.mono (by simp)),n,L⟩;obtain⟨p0,T⟩:=blk E;have V:w.heap.size<w1.heap.size:=n;clear E n x k L;go_wp2;clear p0 T
 go_loopw [3,14] (λv i wr=>∃(j:Int) (m:Nat) (xs:List Value) (S:Nat),i=.int .i64 j/\((j=0/\m=1)\/(j=1/\m=2)\/(j=2/\m=3)\/(j=3/\m=4))/\wr.ownsRow (w.heap.size+1) 9 1 v m xs/\Total xs S/\
  ((j=0->S<=22*N 0+1)/\(j=1->S<=22*(N 0+N 1)+2)/\(j=2->S<=22*(N 0+N 1+N 2)+3)/\(j=3->S<=22*(N 0+N 1+N 2+N 3)+4))/\
  wr.heap[w.heap.size]? =some (.cells #[.string nm,.slice (A 0) (N 0) (C 0),.slice (A 1) (N 1) (C 1),.slice (A 2) (N 2) (C 2),.slice (A 3) (N 3) (C 3)] 98 (0,0))/\Below w.heap.size w wr) (λ_ i _=>(3-intOf i).toNat)
 case atStart=>
  refine⟨0,1,[.string t0],t0.size,rfl,by omega,?_,Total.one t0,by have:=J.out.2.2.2;omega,(Below.heap_alloc _ _ _ (by have:=J.out.2.2.1;omega)).trans J.out.1,J.out.2.1.alloc (by have:=J.out.2.2.1;omega) _⟩;exact⟨rfl,.inr ⟨w1.heap.size,1,#[.string t0],rfl,by have:=J.out.2.2.1;omega,heap_alloc_new w1 _,ZL _,by unfold maxLen;omega,rfl,rfl⟩⟩
 case round=>
  obtain⟨j,m,xs,S,rfl,U,a,X,Y,D,M⟩:=hrel;have c:Hid (wr.ownsRow (w.heap.size+1) 9 1 u3 m xs/\Total xs S/\wr.heap[w.heap.size]? =some (.cells #[.string nm,.slice (A 0) (N 0) (C 0),.slice (A 1) (N 1) (C 1),.slice (A 2) (N 2) (C 2),.slice (A 3) (N 3) (C 3)] 98 (0,0))/\Below w.heap.size w wr):=⟨a,X,D,M⟩;have z:Hid ((j=0->S<=22*N 0+1)/\(j=1->S<=22*(N 0+N 1)+2)/\(j=2->S<=22*(N 0+N 1+N 2)+3)/\(j=3->S<=22*(N 0+N 1+N 2+N 3)+4)):=Y;have K:w.heap.size+1<=wr.heap.size:=(ZK.1 D).1;clear a X D M Y l;have l:Hid (w.heap.size+1<=wr.heap.size):=K;clear K;rcases U with⟨rfl,rfl⟩|⟨rfl,rfl⟩|⟨rfl,rfl⟩|⟨rfl,rfl⟩
  .have f:Hid (S<=22*N 0+1):=z.out.1 rfl
   clear z;have hw:=c.out.2.2.1;obtain⟨Q,B⟩:=blk hw;clear hw
   go_wp2_with(first
        |(go_at_call 174;refine(rq _ (N 1) (R 1) wr (g.out.2.2.1 1 (by omega)) ((g.out.1 1 (by omega)).ext c.out.2.2.2) (g.out.2.1 1 (by omega)) (g.out.2.2.2.ext c.out.2.2.2)).mono ?_;rintro e w3 ⟨⟨t,rfl,o⟩,d⟩;have H1:Hid (Below wr.heap.size wr w3/\t.size<=22*N 1+1/\wr.heap.size<=w3.heap.size):=⟨d,o,d.size⟩;clear d o)
        |(at_builtin;refine wpList_append_own _ rfl _ _ _ rfl (w.heap.size+1) 9 i0 _ 1 16 hu P s r p rfl (by omega) _ 1 xs rfl ((au c.out.1 H1.out.1).alloc _) ⟨w3.heap.size,0,none⟩ 1 1 [.string t] rfl rfl (cell_one_new _ _ _) (by intro u hu;simp at hu;subst hu;rfl) (by unfold maxLen;omega) (by omega) (by have:=H1.out.2.2;have:=c.out.2.2.2.size;have:=l.out;simp;omega) ?_;intro v' w4 a b _;have h:Hid (_/\_):=⟨a,b⟩;obtain⟨H,G,rfl⟩:=aj a;clear a b))
   exact⟨⟨1,2,_,_,rfl,by omega,h.out.1,c.out.2.1.app t,by have:=H1.out.2.1;have:=f.out;omega,(tL (au c.out.1 H1.out.1) h.out.2 ((H1.out.1.block _ (by have:=c.out.2.2.2.size;have:=l.out;omega)).trans c.out.2.2.1) (by omega)),(c.out.2.2.2.trans ((H1.out.1.mono (by have:=c.out.2.2.2.size;omega)).trans (lM (au c.out.1 H1.out.1) h.out.2 (by omega) (by have:=c.out.2.2.2.size;have:=H1.out.2.2;omega))))⟩,by simp[intOf]⟩
  .have f:Hid (S<=22*(N 0+N 1)+2):=z.out.2.1 rfl
   clear z;have hw:=c.out.2.2.1;obtain⟨Q,B⟩:=blk hw;clear hw
   go_wp2_with(first
        |(go_at_call 174;refine(rq _ (N 2) (R 2) wr (g.out.2.2.1 2 (by omega)) ((g.out.1 2 (by omega)).ext c.out.2.2.2) (g.out.2.1 2 (by omega)) (g.out.2.2.2.ext c.out.2.2.2)).mono ?_;rintro e w3 ⟨⟨t,rfl,o⟩,d⟩;have H1:Hid (Below wr.heap.size wr w3/\t.size<=22*N 2+1/\wr.heap.size<=w3.heap.size):=⟨d,o,d.size⟩;clear d o)
        |(at_builtin;refine wpList_append_own _ rfl _ _ _ rfl (w.heap.size+1) 9 i0 _ 1 16 hu P s r p rfl (by omega) _ 2 xs rfl ((au c.out.1 H1.out.1).alloc _) ⟨w3.heap.size,0,none⟩ 1 1 [.string t] rfl rfl (cell_one_new _ _ _) (by intro u hu;simp at hu;subst hu;rfl) (by unfold maxLen;omega) (by omega) (by have:=H1.out.2.2;have:=c.out.2.2.2.size;have:=l.out;simp;omega) ?_;intro v' w4 a b _;have h:Hid (_/\_):=⟨a,b⟩;obtain⟨H,G,rfl⟩:=aj a;clear a b))
   exact⟨⟨2,3,_,_,rfl,by omega,h.out.1,c.out.2.1.app t,by have:=H1.out.2.1;have:=f.out;omega,(tL (au c.out.1 H1.out.1) h.out.2 ((H1.out.1.block _ (by have:=c.out.2.2.2.size;have:=l.out;omega)).trans c.out.2.2.1) (by omega)),(c.out.2.2.2.trans ((H1.out.1.mono (by have:=c.out.2.2.2.size;omega)).trans (lM (au c.out.1 H1.out.1) h.out.2 (by omega) (by have:=c.out.2.2.2.size;have:=H1.out.2.2;omega))))⟩,by simp[intOf]⟩
  .have f:Hid (S<=22*(N 0+N 1+N 2)+3):=z.out.2.2.1 rfl
   clear z;have hw:=c.out.2.2.1;obtain⟨Q,B⟩:=blk hw;clear hw
   go_wp2_with(first
        |(go_at_call 174;refine(rq _ (N 3) (R 3) wr (g.out.2.2.1 3 (by omega)) ((g.out.1 3 (by omega)).ext c.out.2.2.2) (g.out.2.1 3 (by omega)) (g.out.2.2.2.ext c.out.2.2.2)).mono ?_;rintro e w3 ⟨⟨t,rfl,o⟩,d⟩;have H1:Hid (Below wr.heap.size wr w3/\t.size<=22*N 3+1/\wr.heap.size<=w3.heap.size):=⟨d,o,d.size⟩;clear d o)
        |(at_builtin;refine wpList_append_own _ rfl _ _ _ rfl (w.heap.size+1) 9 i0 _ 1 16 hu P s r p rfl (by omega) _ 3 xs rfl ((au c.out.1 H1.out.1).alloc _) ⟨w3.heap.size,0,none⟩ 1 1 [.string t] rfl rfl (cell_one_new _ _ _) (by intro u hu;simp at hu;subst hu;rfl) (by unfold maxLen;omega) (by omega) (by have:=H1.out.2.2;have:=c.out.2.2.2.size;have:=l.out;simp;omega) ?_;intro v' w4 a b _;have h:Hid (_/\_):=⟨a,b⟩;obtain⟨H,G,rfl⟩:=aj a;clear a b))
   exact⟨⟨3,4,_,_,rfl,by omega,h.out.1,c.out.2.1.app t,by have:=H1.out.2.1;have:=f.out;omega,(tL (au c.out.1 H1.out.1) h.out.2 ((H1.out.1.block _ (by have:=c.out.2.2.2.size;have:=l.out;omega)).trans c.out.2.2.1) (by omega)),(c.out.2.2.2.trans ((H1.out.1.mono (by have:=c.out.2.2.2.size;omega)).trans (lM (au c.out.1 H1.out.1) h.out.2 (by omega) (by have:=c.out.2.2.2.size;have:=H1.out.2.2;omega))))⟩,by simp[intOf]⟩
  .have f:Hid (S<=22*(N 0+N 1+N 2+N 3)+4):=z.out.2.2.2 rfl
   clear z;have hw:=c.out.2.2.1;obtain⟨Q,B⟩:=blk hw;clear hw
   go_wp2_with(first
        |(go_at_call 175;refine(xE nm wr hn (g.out.2.2.2.ext c.out.2.2.2)).mono ?_;rintro e w3 ⟨⟨t,rfl,o⟩,d⟩;have H1:Hid (Below wr.heap.size wr w3/\t.size<=10*nm.size+2/\wr.heap.size<=w3.heap.size):=⟨d,o,d.size⟩;clear d o)
        |(at_builtin;refine wpList_append_own _ rfl _ _ _ rfl (w.heap.size+1) 9 i0 _ 1 16 hu P s r p rfl (by omega) _ 4 xs rfl ((au c.out.1 H1.out.1).alloc _) ⟨w3.heap.size,0,none⟩ 1 1 [.string t] rfl rfl (cell_one_new _ _ _) (by intro u hu;simp at hu;subst hu;rfl) (by unfold maxLen;omega) (by omega) (by have:=H1.out.2.2;have:=c.out.2.2.2.size;have:=l.out;simp;omega) ?_;intro v' w4 a b _;have h:Hid (_/\_):=⟨a,b⟩;obtain⟨H,G,rfl⟩:=aj a;clear a b)
        |(go_at_call 176;refine(Nh 32 _ 5 (S+t.size) (w.heap.size+1) _ w4 h.out.1 (c.out.2.1.app t) (by have:=H1.out.2.1;have:=f.out;omega)).mono ?_;rintro e w5 ⟨⟨t5,rfl,F⟩,O⟩;have H5:Hid (Below w4.heap.size w4 w5/\t5.size<=S+t.size+5):=⟨O,F⟩;have δ:t5.size+1<=9223372036854775807:=ZP (Nat.succ_le_succ F) (by have:=H1.out.2.1;have:=f.out;omega);clear O F))
   go_ret;refine⟨⟨_,rfl,?_⟩,?_⟩
   .simp only[ByteArray.size_append]
    have e1:(⟨#[10]⟩:ByteArray).size=1:=rfl;have a1:=H1.out.2.1;have a2:=f.out;have a3:=H5.out.2;omega
   .exact c.out.2.2.2.trans ((H1.out.1.mono (by have:=l.out;omega)).trans ((lM (au c.out.1 H1.out.1) h.out.2 (by omega) (by have:=H1.out.2.2;have:=l.out;omega)).trans (H5.out.1.mono (by have:=(LU (au c.out.1 H1.out.1) h.out.2).size;have:=H1.out.2.2;have:=l.out;omega))))
theorem Mj (w)(a:gY w):
 Calls prog 262 #[.int .u64 16] w λe w'=>e=.returned (.int .i64 4)/\w'=w:=by
 have k:(IntKind.u64.wrap (bits BinOp.and IntKind.u64 16 (IntKind.u64.wrap (-16))*285870213051353865)/288230376151711744)=15:=by decide
 have hc:=a.Ls 15 (by decide);have b:Lib.deBruijn64tab.getD 15 0=4:=by decide
 rw[b]at hc
 go_enter func262,ntmps262
 go_wp2;go_ret;exact⟨rfl,rfl⟩
def uX (W:World)(a:Nat):Prop:=a<W.heap.size/\∀j,j<65->(∃z,W.cell? ⟨a,j,none⟩=some (.int .u8 z))/\W.frozen? ⟨a,j,none⟩=false
theorem uX.set {W}{a}(h:uX W a)(i)(c:i<65)(z):uX (W.setCell ⟨a,i,none⟩ (.int .u8 z)) a:=by
 refine⟨by have:=h.1;simpa using this,λj b=>⟨?_,by rw[World.frozen?_setCell];exact(h.2 j b).2⟩⟩
 by_cases e:j=i
 .subst e
  obtain⟨y,hy⟩:=(h.2 j b).1;exact⟨z,World.cell?_setCell_same' _ _ _ (by rw[hy];rfl)⟩
 .obtain⟨y,hy⟩:=(h.2 j b).1
  exact⟨y,(World.cell?_setCell_other _ _ _ _ (by intro he;cases he;exact e rfl)).trans hy⟩
theorem UG (x)(a:0<=x)(d:x<18446744073709551616):0<=bits BinOp.and IntKind.u64 x 15/\bits BinOp.and IntKind.u64 x 15<16:=by
 obtain⟨n,rfl⟩:=Int.eq_ofNat_of_zero_le a;have e:=bits_and_u64_nat n 15 (by omega) (by decide);have c:n&&&15=n%16:=Nat.and_two_pow_sub_one_eq_mod n 4;have b:bits BinOp.and IntKind.u64 (n:Int) 15=((n&&&15:Nat):Int):=e;rw[b,c];omega
def KM:Nat->Int
 |0=>16
 |k+1=>16*KM k
theorem OQ (W)(b k:Nat)(e:k<=15):(Instr.sliceAt 311 (.pointer (some ⟨b,0,none⟩)) (some (.int .i64 (49+(k:Int)))) none none).run prog W=.ok (.slice (some ⟨b,49+k,none⟩) (16-k) (16-k)) W:=by
 have a:Program.arrayLen prog 311=65:=by kernel_rfl
 have c:Program.elem prog 311=5:=by kernel_rfl
 have hu:prog.underlying 311=some (.array (Program.arrayLen prog 311) (Program.elem prog 311)):=by rw[a,c];exact underlying311
 rw[run_sliceAt_array_l W _ _ hu .i64 (49+(k:Int)) (by omega) (by rw[a];omega),a,c,Tryz.sizeOf5];simp only[Result.andThen,slicedAt];have d:((49+(k:Int))).toNat=49+k:=by omega
 rw[d,if_neg (by omega)];simp[Addr.add];omega
theorem Sb {W}{b}(h:uX W b)(k)(f:k<=15):∃str:ByteArray,str.size=16-k/\(convert 165 9 (.slice (some ⟨b,49+k,none⟩) (16-k) (16-k))).run prog W=.ok (.string str) W:=by
 have a:∀m,m<=16-k->∃zs:List Int,zs.length=m/\∀i,i<m->W.cell? ⟨b,49+k+i,none⟩=some (.int .u8 (zs.getD i 0)):=by
  intro m
  induction m with
  |zero=>exact λ_=>⟨[],rfl,λi c=>absurd c (ZV _)⟩
  |succ m d=>
   intro hm;obtain⟨zs,hl,hc⟩:=d (by omega);obtain⟨z,a⟩:=(h.2 (49+k+m) (by omega)).1;refine⟨zs++[z],by simp[hl],λi c=>?_⟩
   by_cases e:i<m
   .rw[hc i e];simp[List.getD,List.getElem?_append_left (show i<zs.length by omega)]
   .obtain rfl:i=m:=by omega
    rw[a];simp[List.getD,<-hl]
 obtain⟨zs,hl,hc⟩:=a (16-k) (ZL _);exact⟨strOfNums zs,by rw[strOfNums_size];exact hl,run_convert_bytes_arg (P:=prog) (w:=W) 165 5 underlying165 underlying5 b (49+k) (16-k) (16-k) zs hl hc _ underlying9⟩
def Oz (e:Ending):Prop:=∃t:ByteArray,e=.returned (.tuple #[.slice none 0 0,.string t])/\t.size<=65
theorem yA (x)(w)(u:0<=x)(t:x<18446744073709551616)(c:gY w):
 Calls prog 233 #[.slice none 0 0,.int .u64 x,.int .i64 16,.bool false,.bool false] w λe w'=>Oz e/\Below w.heap.size w w':=by
 have n:Hid (0<=x/\x<18446744073709551616/\gY w):=⟨u,t,c⟩;clear u t c
 go_enter func233,ntmps233
 go_wp2_with(first
  |(go_at_call 262;refine(Mj _ (n.out.2.2.ext ((Below.refl _ _).alloc (ZL _) _))).mono ?_;rintro e w1 ⟨rfl,hw⟩;obtain rfl:=hw.symm)
  |(go_at_call 261;go_in))
 obtain⟨f,a⟩:∃f,f=w.alloc (.cells Tryz.zeroCells311 311):=⟨_,rfl⟩;rw[<-a]
 have l:uX f w.heap.size:=by
  have hb:f.heap[w.heap.size]? =some (.cells Tryz.zeroCells311 311 (0,0)):=by rw[a];exact heap_alloc_new _ _
  obtain⟨q,B⟩:=blk hb;refine⟨by rw[a];simp,λj F=>⟨⟨0,?_⟩,B j⟩⟩;rw[q j];have C:Tryz.zeroCells311=Array.replicate 65 (Value.int .u8 0):=by kernel_rfl
  rw[C];simp[F]
 have g:Below w.heap.size w f:=by rw[a];exact(Below.refl _ _).alloc (ZL _) _
 clear a;have A:Hid (uX f w.heap.size/\Below w.heap.size w f):=⟨l,g⟩;clear l g
 go_loopw [1,13] (λv i wr=>∃(y:Int) (k:Nat),v=.int .u64 y/\(0<=y/\y<KM k/\y<18446744073709551616)/\i=.int .i64 (50+(k:Int))/\k<=15/\uX wr w.heap.size/\Below w.heap.size w wr) (λv _ _=>(intOf v).toNat)
 case atStart=>exact⟨x,15,rfl,⟨n.out.1,by have:KM 15=18446744073709551616:=by decide
                                          rw[this];exact n.out.2.1,n.out.2.1⟩,rfl,by omega,A.out.1,A.out.2⟩
 case round=>
  obtain⟨y,k,rfl,hy,rfl,s,m,hb⟩:=hrel;have p:=UG y hy.1 hy.2.2;obtain⟨d,hd⟩:∃d,bits BinOp.and IntKind.u64 y 15=d:=⟨_,rfl⟩;rw[hd]at p;have d0:(d<36):=by omega
  have b:Hid (uX wr w.heap.size/\Below w.heap.size w wr/\0<=y/\y<KM k/\y<18446744073709551616):=⟨m,hb,hy⟩;have f1:=(m.2 (49+k) (by omega)).2;obtain⟨H,g1⟩:=(m.2 (49+k) (by omega)).1;have I:(50+(k:Int)-1)=((49+k:Nat):Int):=by omega
  clear m hb hy
  by_cases G:16<=y
  .go_wp2
   cases k with
   |zero=>
    exfalso;have h:=b.out.2.2.2.1;simp only[KM]at h;omega
   |succ k=>
    have hp:=b.out.2.2.2.1;have K:=b.out.2.2.1;have J:=b.out.2.2.2.2;simp only[KM]at hp;exact⟨⟨y/16,k,rfl,⟨by omega,by omega,by omega⟩,by congr 1;omega,by omega,b.out.1.set _ (by omega) _,b.out.2.1.setCell (ZL _) _⟩,by simp[intOf];omega⟩
  .have D:=b.out.2.2.1
   have r:y<36:=(by omega);have E:=λW=>OQ W w.heap.size k s
   have hcs:∀z:Int,∃str:ByteArray,str.size=16-k/\(convert 165 9 (.slice (some ⟨w.heap.size,49+k,none⟩) (16-k) (16-k))).run prog (wr.setCell ⟨w.heap.size,49+k,none⟩ (.int .u8 z))=.ok (.string str) (wr.setCell ⟨w.heap.size,49+k,none⟩ (.int .u8 z)):=
        λz=>Sb (b.out.1.set (49+k) (by omega) z) k s
   go_wp2;obtain⟨str,hs,o⟩:=hcs _;rw[o];go_wp2;go_ret2;exact⟨⟨str,rfl,by omega⟩,b.out.2.1.setCell (ZL _) _⟩
theorem yz (x)(w)(d:0<=x)(c:x<18446744073709551616)(a:gY w):
 Calls prog 178 #[.int .u64 x,.int .i64 16] w λe w'=>iF 65 e/\Below w.heap.size w w':=by
 go_enter func178,ntmps178
 go_wp2_with(first
  |(go_at_call 233;refine(yA x w d c a).mono ?_;rintro e w1 ⟨⟨t,rfl,b⟩,hb⟩)
  |go_in)
 go_ret;exact⟨⟨t,rfl,b⟩,hb⟩
theorem NC (n:Nat)(s)(w)(i:n<=9223372036854775807)(hs:s.size<=140737488355328)(a:gY w):
 Calls prog 143 #[.int .i64 n,.string s] w λe w'=>iF 100 e/\Below w.heap.size w w':=by
 have d:Hid (gY w):=a;clear a
 go_enter func143,ntmps143
 go_wp2_with(first
  |(go_at_call 177;refine(E5 (n:Int) w ⟨by omega,by omega⟩ d.out).mono ?_;rintro e w1 ⟨b,t1,rfl,g⟩;have h:t1.size<=1000:=by omega)
  |(go_at_call 179;refine(Dy s _ hs).mono ?_;rintro e w2 ⟨⟨x,rfl,x0,x1⟩,hw⟩;obtain rfl:=hw.symm)
  |(go_at_call 178;refine(yz x _ x0 x1 (d.out.ext b)).mono ?_;rintro e w3 ⟨⟨t3,rfl,f⟩,c⟩))
 go_ret;refine⟨⟨_,rfl,?_⟩,b.trans (c.mono b.size)⟩;simp only[ByteArray.size_append];have l:(⟨#[98,111,120,101,115,32]⟩:ByteArray).size=6:=rfl;have k:(⟨#[32]⟩:ByteArray).size=1:=rfl;have j:(⟨#[10]⟩:ByteArray).size=1:=rfl;omega
def Kg (w:World)(b o D:Nat):Prop:=∃(nm:ByteArray) (A:Nat->Option Addr) (N C:Nat->Nat) (R:Nat->Nat->Int),
 w.cell? ⟨b,o,none⟩=some (.string nm)/\w.cell? ⟨b,o+1,none⟩=some (.slice (A 0) (N 0) (C 0))/\w.cell? ⟨b,o+2,none⟩=some (.slice (A 1) (N 1) (C 1))/\w.cell? ⟨b,o+3,none⟩=some (.slice (A 2) (N 2) (C 2))/\w.cell? ⟨b,o+4,none⟩=some (.slice (A 3) (N 3) (C 3))/\
 zA w A N C R/\(∀q,q<4->∀i,i<N q->SB (R q i))/\22*(N 0+N 1+N 2+N 3)+10*nm.size<=D
def BO (w:World)(v:Value)(n D:Nat):Prop:=∃ao cap,v=.slice ao n cap/\n<=cap/\n<=9223372036854775807/\(0<n->∃b o,ao=some ⟨b,o,none⟩/\b<w.heap.size/\∀i,i<n->Kg w b (o+i*5) D)
theorem Kg.ext {w w'}{b o D}(h:Kg w b o D)(hl:b<w.heap.size)(hb:Below w.heap.size w w'):Kg w' b o D:=by
 obtain⟨nm,A,N,C,R,l,k,i,g,f,d,a,e⟩:=h;have c:∀j,w'.cell? ⟨b,j,none⟩=w.cell? ⟨b,j,none⟩:=λj=>hb.cell (p:=⟨b,j,none⟩) hl
 exact⟨nm,A,N,C,R,(c _).trans l,(c _).trans k,(c _).trans i,(c _).trans g,(c _).trans f,d.ext hb,a,e⟩
theorem BO.ext {w w'}{v}{n D}(h:BO w v n D)(hb:Below w.heap.size w w'):BO w' v n D:=by
 obtain⟨ao,cap,rfl,f,e,d⟩:=h;refine⟨ao,cap,rfl,f,e,λg=>?_⟩;obtain⟨b,o,rfl,hl,c⟩:=d g;exact⟨b,o,rfl,ZO hl hb.size,λi a=>(c i a).ext hl hb⟩
theorem BA {B b}{bs}{w w1}(h:Lib.IsBuilderF 200 5 B b bs w)(hb:Below w.heap.size w w1):Lib.IsBuilderF 200 5 B b bs w1:=by
 have e:w.grownBy w1 none:=⟨hb.os,hb.tape,hb.output,hb.size,λk d _=>hb.block k d⟩
 have one:∀p,Lib.BuilderAtF 200 5 B b p bs w->Lib.BuilderAtF 200 5 B b p bs w1:=by
  rintro p ⟨f,v,hw,a,c⟩;refine⟨f,v,(hb.block _ (ZK.1 hw).1).trans hw,a.kept e ?_,c⟩;cases i:v.ownBlock with
  |none=>exact .inl rfl
  |some g=>exact .inr (by simp)
 exact h.elim (λx=>.inl (one _ x)) (λx=>.inr (one _ x))
theorem WA:Lays.n166 prog Tryz.lays156_ren:={Tryz.lays156 with}
theorem Mm (v)(n D)(w)(h:BO w v n D)(hn:n*(D+12)<=140737488355000)(X:n<=1099511627776)(hD:D<=1099511627776)(p:gY w):
 Calls prog 88 #[v] w λe w'=>iF (n*(D+12)+100) e/\Below w.heap.size w w':=by
 have hF:=h;obtain⟨ao,cap,rfl,_,hm,_⟩:=h;have K:Hid (BO w (.slice ao n cap) n D/\gY w):=⟨hF,p⟩;clear hF p
 go_enter func88,ntmps88
 go_wp2_with fail;obtain⟨x,m⟩:∃x,x=w.alloc (.cells #[.pointer none,.slice none 0 0] 200):=⟨_,rfl⟩;rw[<-m];have a:Lib.IsBuilderF 200 5 w.heap.size w.heap.size (Lib.byteCells []) x:=.inl ⟨ZL _,.slice none 0 0,by rw[m];exact heap_alloc_new _ _,World.ownsRowF_nil _ _ _ _,by simp[Value.ownBlock]⟩;have G:Below w.heap.size w x:=by rw[m];exact(Below.refl _ _).alloc (ZL _) _
 have S:Hid (Lib.IsBuilderF 200 5 w.heap.size w.heap.size (Lib.byteCells []) x/\Below w.heap.size w x):=⟨a,G⟩;clear a G m
 go_loopw [8] (λi wr=>∃(k:Nat) (l:List UInt8),k<=n/\i=.int .i64 k/\Lib.IsBuilderF 200 5 w.heap.size w.heap.size (Lib.byteCells l) wr/\l.length<=k*(D+12)/\Below w.heap.size w wr) (λi _=>n-(intOf i).toNat)
 case atStart=>exact⟨0,[],by omega,rfl,S.out.1,by simp,S.out.2⟩
 case round=>
  obtain⟨k,l,hk,rfl,a,hl,hb⟩:=hrel;have j:Hid (Lib.IsBuilderF 200 5 w.heap.size w.heap.size (Lib.byteCells l) wr/\Below w.heap.size w wr/\l.length<=k*(D+12)/\w.heap.size<=wr.heap.size):=⟨a,hb,hl,hb.size⟩;have α:k*(D+12)<=n*(D+12):=Nat.mul_le_mul_right _ hk
  by_cases y:k<n
  .have kn:(k:Int)<n:=by omega
   have L:(k+1)*(D+12)<=n*(D+12):=Nat.mul_le_mul_right _ y;have Z:(k+1)*(D+12)=k*(D+12)+(D+12):=Nat.succ_mul _ _;obtain⟨γ,Q,he,_,_,hF⟩:=K.out.1.ext hb;cases he;obtain⟨b,o,I,M,F⟩:=hF (by omega);subst I;obtain⟨nm,A,N,C,R,e0,e1,e2,e3,e4,P,O,β⟩:=F k y;have J:Hid (zA wr A N C R/\(∀q,q<4->∀i,i<N q->SB (R q i))/\gY wr):=⟨P,O,K.out.2.ext hb⟩
   have E:∀q,q<4->N q<=1099511627776:=λq hq=>by
        have:q=0\/q=1\/q=2\/q=3:=(by omega);rcases this with rfl|rfl|rfl|rfl<;>omega
   have HN:Hid (∀q,q<4->N q<=1099511627776):=E;clear hF F hb P O E a hl;go_wp2_with fail;have d:Below wr.heap.size wr (wr.alloc (.cells #[.string nm,.slice (A 0) (N 0) (C 0),.slice (A 1) (N 1) (C 1),.slice (A 2) (N 2) (C 2),.slice (A 3) (N 3) (C 3)] 98)):=(Below.refl _ _).alloc (ZL _) _;refine(Nc nm A N C R _ (J.out.1.ext d) J.out.2.1 (by omega) HN.out (J.out.2.2.ext d)).mono ?_;rintro e w3 ⟨⟨t,rfl,V⟩,g⟩;have f:Below wr.heap.size wr w3:=d.trans (g.mono d.size);have H:Hid (Below wr.heap.size wr w3/\t.size<=D+12/\wr.heap.size<=w3.heap.size):=⟨f,by omega,f.size⟩;clear d g f V;go_wp2_with(go_at_call 141;refine(Any.Builder_WriteString_f WA Tryz.Builder_Extra_156 w.heap.size w.heap.size (Lib.byteCells l) t w3 (BA j.out.1 H.out.1) (by have:=H.out.2.1;have:=j.out.2.2.1;simp only[Lib.byteCells,List.length_map];omega) (by have:=H.out.2.2;have:=j.out.2.2.2;omega)).mono ?_;rintro e w4 ⟨rfl,r,c⟩;have u:Hid (_/\Below w.heap.size w3 w4):=⟨r,c⟩;clear r c);go_roundw
   case rel=>exact⟨k+1,l++t.data.toList,by omega,by go_num,by rw[Lib.byteCells_append,<-Lib.strCells_eq];exact .inr u.out.1,by have:=H.out.2.1;have:=j.out.2.2.1;have e:=Lib.size_eq t;simp only[Z7];omega,j.out.2.1.trans ((H.out.1.mono j.out.2.2.2).trans u.out.2)⟩
   case measure=>simp[intOf];omega
  .obtain rfl:k=n:=by omega
   clear hb a hl;go_wp2_with fail;refine(Tryz.Builder_String_any_f w.heap.size w.heap.size l wr j.out.1 j.out.2.2.2).mono ?_;rintro e w3 ⟨rfl,s,g⟩;have H3:Hid (Lib.IsBuilderF 200 5 w.heap.size w.heap.size (Lib.byteCells l) w3/\Below w.heap.size w w3):=⟨s,j.out.2.1.trans g⟩;clear s g;go_wp2_with fail;have W:(⟨l.toArray⟩:ByteArray).size<=k*(D+12):=by have:=j.out.2.2.1;simpa[ByteArray.size] using this
   refine(NC k ⟨l.toArray⟩ w3 hm (by omega) (K.out.2.ext H3.out.2)).mono ?_;rintro e w4 ⟨⟨t4,rfl,U⟩,c⟩;have u:Hid (Below w3.heap.size w3 w4/\w.heap.size<=w3.heap.size/\w3.heap.size<=w4.heap.size):=⟨c,H3.out.2.size,c.size⟩;clear c;go_wp2_with fail;refine(Tryz.Builder_String_any_f w.heap.size w.heap.size l w4 (BA H3.out.1 u.out.1) (by have:=u.out.2.1;have:=u.out.2.2;omega)).mono ?_;rintro e T ⟨rfl,z,B⟩;have H5:Hid (Below w.heap.size w4 T):=B;clear z B;have Y:t4.size+(⟨l.toArray⟩:ByteArray).size<=9223372036854775807:=(by omega);go_wp2;go_ret;refine⟨⟨_,rfl,?_⟩,H3.out.2.trans ((u.out.1.mono u.out.2.1).trans H5.out)⟩;simp only[ByteArray.size_append];omega
end
section
open Go Go.Conc Go.ConcN Go.RowKit
open Go.ConcR (KK wgBlock WgAt stA smA rd wr mk Payload DC0)
def SG:List Nat:=[4,5,12,13]
abbrev T8 (c:Nat):Prop:=c∈SG
def WX:List Nat:=[0]
structure Az (w:World)(Z:Nat->Prop):Prop where
 env:gY w
 err:∀g,g∈WX->∃t a,w.cell? ⟨g,0,none⟩=some (.iface t (.pointer (some a)))/\sO t=true/\Z a.block
 tabs:∀g,T8 g->∃xs e f,w.heap[g]? =some (.cells xs e f)/\∀v∈xs.toList,∃k n,v=.int k n
 JV:∀g,g∈QD->Z g
theorem QZ {g}(h:T8 g):g∈QD:=by
 have key:(SG.all λg=>QD.contains g)=true:=by decide
 exact List.mem_of_elem_eq_true (ZU.1 key g h)
theorem LF {w:World}{g}{cs}{e}{f}(h:w.heap[g]? =some (.cells cs e f))(n)(a:prog.globalNamed n=some g):w.var? prog n=some cs:=by
 unfold World.var?;rw[a];simp[h]
theorem Az.copy {st}{w k}{Z}{lv}(h:Az w Z)(hl:DT st Z lv)(hs:k.heap.size=w.heap.size)
 (hF:∀b xs e g,¬T8 b->w.heap[b]? =some (.cells xs e g)->k.heap[b]? =some (.cells (xs.map lv) e (0,max xs.size g.2)))(hc:∀a v,w.cell? a=some v->(T8 a.block->k.cell? a=some v)/\(¬T8 a.block->k.cell? a=some (lv v))):gY k:=by
 have same:∀a v,w.cell? a=some v->jH Z v->k.cell? a=some v:=λa v d hp=>by
  obtain⟨p,n⟩:=hc a v d
  by_cases q:T8 a.block
  .exact p q
  .rw[n q,hl.same v hp]
 refine⟨by rw[hs];exact h.env.size,?_,⟨λc m=>?_,λi r=>?_⟩,λj s=>?_⟩
 .have d:=h.env.pow
  unfold Lib.TabIs World.var? at d;rw[Tryz.oL]at d;simp only[Option.bind_some]at d;cases l:w.heap[(3:Nat)]? with
  |none=>rw[l]at d;cases d
  |some o=>
   rw[l]at d;cases o with
   |cells cs e f=>
    simp only[Option.some.injEq]at d;have p:=hF _ cs e f (by decide) l
    have n:cs.map lv=cs:=by
     rw[d];refine Array.ext (by simp) λi t i2=>?_
     simp only[List.map_toArray,List.map_map,List.getElem_toArray,List.getElem_map,Function.comp];exact hl.same _ trivial
    unfold Lib.TabIs;rw[LF p _ Tryz.oL,n,d]
   |_=>cases d
 .exact(hc _ _ (h.env.Mf.1 c m)).1 (show(4:Nat)∈SG by decide)
 .exact⟨(hc _ _ (h.env.Mf.2 i r).1).1 (show(5:Nat)∈SG by decide),(hc _ _ (h.env.Mf.2 i r).2).1 (show(5:Nat)∈SG by decide)⟩
 .exact(hc _ _ (h.env.Ls j s)).1 (show(13:Nat)∈SG by decide)
theorem C4 {w}{Z}{v}{n}{R}(h:vF w Z v n R):Ints w v n R:=by
 obtain⟨ao,cap,e,c,b,a,_⟩:=h;exact⟨ao,cap,e,c,b,a⟩
theorem y9 {w}{Z}{v}{n D}(h:je w Z v n D):BO w v n D/\n<=1000000/\D<=1000000:=by
 obtain⟨ao,cap,e,k,j,f,g,_⟩:=h;refine⟨⟨ao,cap,e,k,by omega,λd=>?_⟩,j,f⟩;obtain⟨b,o,x,y⟩:=g d;refine⟨b,o,x,?_,λi c=>?_⟩
 .obtain⟨nm,A,N,C,R,f1,_⟩:=y 0 d
  exact block_lt_of_cell f1
 .obtain⟨nm,A,N,C,R,f1,f2,f3,f4,f5⟩:=y i c
  exact⟨nm,A,N,C,R,f1,f2 0 (by omega),f2 1 (by omega),f2 2 (by omega),f2 3 (by omega),λq a=>C4 (f3 q a),λq a i c=>⟨(f4 q a i c).1,by have:=(f4 q a i c).2;omega⟩,f5⟩
theorem Ko {n D}(a:n<=1000000)(b:D<=1000000):n*(D+12)<=140737488355000:=by
 have:n*(D+12)<=1000000*(1000000+12):=Nat.mul_le_mul a (by omega);omega
def V9 (u0:World)(Z:Nat->Prop)(p:Rel False)(u:World):Prop:=
 (u.tape=u0.tape/\u.os=u0.os/\u.output=u0.output/\u0.heap.size<=u.heap.size)/\(∀b c,p b c->c<u0.heap.size->b=c/\Z c)/\∀c,c<u0.heap.size->¬T8 c->u.heap[c]? =u0.heap[c]?
theorem Nr {u0}{Z}:∀p q u u',V9 u0 Z p u->dE (λc=>Z c/\¬T8 c) p q u u'->V9 u0 Z q u':=by
 intro p q u u' ⟨⟨k,j,i,h⟩,d,f⟩ g;refine⟨⟨g.tape.trans k,g.os.trans j,g.output.trans i,ZP h g.size⟩,λb c e hc=>?_,λc hc a=>?_⟩
 .by_cases hp:p b c
  .exact d b c hp hc
  .have:=g.fresh b c e hp;omega
 .exact(g.keep c (by omega) λb hb=>⟨(d b c hb hc).2,a⟩).trans (f c hc a)
theorem vM:prog.funcs[88]? =some f88:=func88
def RX (a:World)(v:Value)(w':World):Prop:=(∃s,v=.string s)/\∀c,c<a.heap.size->w'.heap[c]? =a.heap[c]?
theorem Cf {Z S}{gs}{u}{sl}{t}{q}{b}{bs}{y}{n D}
 (ρ:∀c,Z c->CB u c)(σ:∀c,Z c->¬S c)(d:Az u Z)(hT:je u Z y n D)(hF:ni prog S gs u.heap.size t q)(h0:gs[0]? =some (df (Frame.enter prog 88 #[y] .normal) (b::bs))):
 ∃(N:Nat) (E:Array Goroutine) (u':World) (W:Option (Nat×Nat)) (t':Trace) (q':Nat->Nat) (s:ByteArray),runNT prog N (crowd gs u sl) t=(.next (crowd E u' W),t')/\E[0]? =some (df (b.finish (.string s)) bs)/\ni prog S E u'.heap.size t' q'/\
  u'.tape=u.tape/\u'.os=u.os/\u'.output=u.output/\u.heap.size<=u'.heap.size/\∀c,c<u.heap.size->u'.heap[c]? =u.heap[c]?:=by
 have η:prog.globals.size=14:=by kernel_rfl
 obtain⟨H,lv,hl,τ,r,hs,rT,rF,hc⟩:=wU False prog.globals.size T8 Z u (by rw[η];exact d.env.size) ρ (c0:=4) (d.JV _ (by decide)) d.tabs
 have same:=λa v p hp=>by
  obtain⟨R,Q⟩:=hc a v p
  by_cases ht:T8 a.block
  .exact R ht
  .rw[Q ht,hl.same v hp]
 have j:=d.copy hl hs rF hc;have β:=hT.same (λ_ h=>h) same;obtain⟨κ,hn,hD⟩:=y9 β
 have I:aF (VR (NA Z)) #[y] #[y]:=aF.same λv p=>by
  simp at p;rw[p];exact sH (λb hb=>⟨rfl,hb⟩) hT.pure
 have L:∀g,g∈QD->NA Z g g:=λg hg=>⟨rfl,d.JV g hg⟩
 have tree:Tree prog (RX H) (Frame.enter prog 88 #[y] .normal) [] H:=by
  refine pz (C:=LD) (K:=λ_=>False) (st:=False) trivial MK Qs (.inr ⟨λ_ h=>h,λh=>h⟩) rfl (λ_=>rfl)
   ⟨NA Z,Frame.enter prog 88 #[y] .normal,[],H,⟨FR.enter MK (by exact List.mem_of_elem_eq_true (show lX.contains 88=true by kernel_rfl)) (by simp[LD]) I L,.inl rfl,trivial,⟨λh=>absurd rfl h,λ_=>⟨rfl,rfl,λh=>by cases h⟩⟩⟩,r⟩ λT=>?_
  refine(Mm y n D (ay H T) κ (Ko hn hD) (by omega) (by omega) ⟨j.size,j.pow,j.Mf,j.Ls⟩).mono ?_;rintro e w' ⟨⟨s,rfl,_⟩,hb⟩;exact⟨⟨s,rfl⟩,λc hc=>hb.block c hc⟩
 obtain⟨c,hb,ε,γ,k,m⟩:=Kq;have M:Frame.enter prog 88 #[y] .normal=(base 88).at ⟨#[y]++Array.replicate (Func.ntmps f88-(#[y]:Array Value).size) undef,[]⟩ [.code c]:=enter_at _ vM hb
 have A:Live uP prog (NA Z) (Frame.enter prog 88 #[y] .normal) [] (Frame.enter prog 88 #[y] .normal) []:=by
  rw[M];refine⟨⟨⟨_,vM⟩,J'.of ?_,aU.of ε (λ_ hy=>by cases hy),rfl,rfl,rfl,?_,λ_=>?_,λ_=>trivial,(λe=>by cases e),L⟩,.inl rfl,trivial,⟨λh=>absurd rfl h,λ_=>⟨rfl,rfl,λ_=>rfl⟩⟩⟩
  .refine aF.append I (aF.same λv p=>?_)
   rw[(Array.mem_replicate.1 p).2];exact VR.undef
  .simp only[Frame.at,List.map_cons,List.map_nil,qE,γ]
  .show(#[y]++Array.replicate _ undef).getD 1000000 undef=undef
   rw[ZY,Array.getElem?_eq_none (by rw[Array.size_append,Array.size_replicate];simp)];simp
 have υ:V9 u Z (NA Z) u:=⟨⟨rfl,rfl,rfl,ZL _⟩,λb c h _=>⟨h.1,h.1▸h.2⟩,λ_ _ _=>rfl⟩;obtain⟨N,ψ,u1,V,t1,q1,p1,a1,b1,w1,r1,r2,l,Y,φ,Γ,⟨⟨X,i2,i3,i4⟩,i6,i7⟩,B,Lc⟩:=I6 (C:=uP) (Iv:=V9 u Z) (λ_ _ _ h=>h) Nr trivial Pb Qs (.inr λh=>h) (λ_=>rfl) rfl (cs:=b::bs) tree (NA Z) _ [] gs u sl t q S A τ h0 hF (λb c h=>h.1▸σ _ h.2) υ;obtain⟨m1,_,_,fn,T,v,f1,f2,⟨s,rfl⟩,f3⟩:=B;obtain⟨ο,ν,μ⟩:=l.deep.2 rfl;have O:a1.fn=88:=μ rfl;rw[O,vM]at f1;cases f1;have ζ:=l.fr.mode.trans m1;have ξ:=l.fr.fn.trans O
 have hval:∀(x:Array Value) (w:World),(results f88 x).runT prog w #[]=(.ok (x.getD k undef) w,#[]):=λx w=>by
  rw[Sem.runT_eq,results_tmp m,events_results_tmp m]
 have p:Value.string s=a1.tmps.getD k undef:=by
  rw[<-Sem.runT_fst _ _ _ #[],hval]at f2;simp only[Result.ok.injEq,and_true]at f2;exact f2.symm
 have α:b1.tmps.getD k undef=.string s:=by
  have:=(l.fr.tmps.get k).resolve_left λh=>by cases h.2
  rw[<-p]at this;exact this.bO
 have kb:=ν;have rb:b1.roundOf=none:=by rw[l.fr.same];exact l.fr.ra
 have ι:=ο
 have J:aC prog true (λ_=>False) (λg _ _=>g=df (b.finish (.string s)) bs) (df b1 (b::bs)) u1 (λ_=>False):=by
  refine aC.ctl (g':=df (b.finish (.string s)) bs) rfl (λaz=>?_) (aC.stop λ_ _=>rfl);have θ:prog.funcs[b1.fn]? =some f88:=by rw[ξ];exact vM
  have δ:(results f88 b1.tmps).run prog az=.ok (.string s) az:=by
   have:=hval b1.tmps az;rw[Sem.runT_eq,Prod.mk.injEq]at this;rw[this.1,α]
  have e:df b1 (b::bs)=G {b1.at ⟨b1.tmps,[]⟩ b1.todo with mode:=.returning} (b::bs):=by
   obtain⟨fn,tmps,todo,defers,mode,kind,ro⟩:=b1;subst ζ ι rb;rfl
  rw[e];exact stepG_leave (b:=b1) (a:=⟨b1.tmps,[]⟩) kb rfl θ δ (events_results_tmp m _ _)
 obtain⟨N2,χ,g2,u2,U,t2,q2,M2,x1,x2,rfl,x4,F⟩:=I7 J ψ V t1 q1 φ r2 (λc h=>h.elim (λh=>h.elim) λh=>h.elim)
 have z:∀c,c<u.heap.size->u1.heap[c]? =u.heap[c]?:=λc o=>by
  by_cases P:T8 c
  .obtain⟨xs,e,g,g1,g2⟩:=d.tabs c P
   have R:=rT c xs e g P g1;have Q:w1.heap[c]? =H.heap[c]?:=f3 c (by rw[hs];exact o);obtain⟨ω,ys,e',f,g',k1,k2,k3,_,k5⟩|⟨_,_,_,k1,_⟩|⟨_,_,_,k1,_⟩:=Y.rows c c (Lc _ _ ⟨rfl,d.JV _ (QZ P)⟩)
   .rw[Q,R]at k1
    simp at k1;obtain⟨rfl,rfl,rfl⟩:=k1;obtain rfl:=k5 λhk=>hk.2 P
    have:ys=xs:=by
     refine Array.ext k3.1.symm λi X i2=>?_
     have:=k3.2 i xs[i] ys[i] (ZM i2) (ZM X);obtain⟨kd,n,hx⟩:=g2 xs[i] (by simp);rw[hx]at this⊢;exact this.bT
    rw[k2,g1,this]
   .rw[Q,R]at k1;cases k1
   .rw[Q,R]at k1;cases k1
  .exact i7 c o P
 refine⟨N+N2,χ,u2,U,t2,q2,s,?_,x2,x4,F.tape.trans X,F.os.trans i2,F.output.trans i3,ZP i4 F.size,λc o=>(F.keep c (ZO o i4) (λh=>h)).trans (z c o)⟩;rw[runNT_add,r1];exact x1
end
