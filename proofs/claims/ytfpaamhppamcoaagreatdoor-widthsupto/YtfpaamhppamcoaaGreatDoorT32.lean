/- Part 32 of the proof. -/
import Derived.Test.YtfpaamhppamcoaaGreatDoorT30
import Derived.RangeFuncNested
import Derived.RangeFuncBound
import Derived.RangeFuncCalls
import Derived.RangeFuncLeaves
import Derived.Shelf.Abstract
import Derived.Shelf.RegionOpen
import Derived.OwnWalkIn
import Derived.TacticsInMore
import Derived.LoopNIn
import Derived.LoopIn
import Derived.Test.YtfpaamhppamcoaaGreatDoorShelf
import Derived.WalkSmall
import Derived.Lib.ItoaLen
import Derived.Lib.AppendIntMem
import Derived.Lib.AtoiErrMem
import Derived.Lib.AtoiAllCases
import Derived.Shelf.Spec.TrailingZeros
import Derived.Shelf.Strings.SplitCore
import Derived.Shelf.Unicode.ValidAny
import Derived.Laws.RangeAny
import Derived.Lib.RuneCount
import Derived.Lib.QuoteLoop
import Derived.OpenShut
import Derived.Laws.BytesArg
import Derived.BigFrame
import Derived.Lib.QuoteBits
import Derived.Lib.BufSteps
import Derived.Laws.BitsLemmas
set_option linter.all false
set_option maxRecDepth 100000
set_option maxHeartbeats 60000000
namespace Go.Proofs.YtfpaamhppamcoaaGreatDoor
open Go.Proofs.Tryz
section
open Go.RowKit
attribute [local go_sem] Oper.semAt_some
end
section
open Go.RowKit
attribute [local go_sem ↓] Go.wp_at_zero Go.wp_at_succ
attribute [local go_sem] After.cell After.frozen After.const
structure gY (w:World):Prop where
 size:14<=w.heap.size
 pow:Lib.TabIs prog w "internal/strconv.uint64pow10" .u64 Lib.pow10Tab
 Mf:Lib.Utf8Tabs 4 5 w
 Ls:TabAt 13 Lib.deBruijn64tab w
theorem Tryz.oL:prog.globalNamed "internal/strconv.uint64pow10" =some 3:=by kernel_rfl
theorem gY.ext {w w'}(h:gY w)(hb:Below w.heap.size w w'):gY w':=by
 have c:∀b o,b<14->w'.cell? ⟨b,o,none⟩=w.cell? ⟨b,o,none⟩:=λb o hl=>hb.cell (p:=⟨b,o,none⟩) (ZO hl h.size)
 refine⟨ZP h.size hb.size,var?_below hb Tryz.oL (ZO (by decide) h.size) h.pow,⟨λk a=>?_,λi e=>?_⟩,λj d=>?_⟩
 .rw[c _ _ (by decide)];exact h.Mf.1 k a
 .rw[c _ _ (by decide),c _ _ (by decide)];exact h.Mf.2 i e
 .rw[c _ _ (by decide)];exact h.Ls j d
def SB (z:Int):Prop:= -9223372036854775808<=z/\z<=9223372036854775807
theorem E5 (z)(w)(a:SB z)(he:gY w):
 Calls prog 177 #[.int .i64 z] w λe w'=>Below w.heap.size w w'/\∃t:ByteArray,e=.returned (.string t)/\t.size<=21:=by
 refine(Tryz.strconv_Itoa z a.1 a.2 w he.pow).mono ?_;rintro e w' ⟨rfl,k,os,rfl⟩;exact⟨Lib.below_grow _ _ (ZL _) _ _,_,rfl,by have:=Lib.itoa_length_le z a.1 a.2;simpa[ByteArray.size] using this⟩
end
section
open Go.RowKit
attribute [local go_sem] Oper.semAt_some
theorem tL {w1 w2:World}{base}{e}{size}{v}{n}{xs}{o}(a:w1.ownsRow base e size v n xs)(d:(w1.alloc o).grownBy w2 v.ownBlock){b}{q}(hb:w1.heap[b]? =some q)(c:b<base):w2.heap[b]? =some q:=by
 have hl:=(ZK.1 hb).1;refine(d.block b (by simp;omega) (λh=>?_)).trans ((Below.heap_alloc w1 o b hl).trans hb);have:=(a.lt b h.symm).1;omega
theorem LU {w1 w2}{base}{e}{size}{v}{n}{xs}{o}(f:w1.ownsRow base e size v n xs)(h:(w1.alloc o).grownBy w2 v.ownBlock):KeepsOthers w1 w2:=by
 refine(KeepsOthers.alloc w1 o).trans (KeepsOthers.of_grownBy h λj q a b=>?_);rcases f.2 with⟨i,_⟩|⟨g,cap,cur,d,_,c,_⟩
 .rw[i]at a;cases a
 .rw[d]at a
  cases a;rw[Below.heap_alloc w1 o _ (ZK.1 c).1,c]at b;cases b;rfl
theorem lM {w1 w2}{base B}{e}{size}{v}{n}{xs}{o}(a:w1.ownsRow base e size v n xs)(c:(w1.alloc o).grownBy w2 v.ownBlock)(d:B<=base)(hs:B<=w1.heap.size):Below B w1 w2:=
 ((Below.refl B w1).alloc hs o).grown c (by simp;omega) (λk b=>by have:=(a.lt k b).1;omega)
end
section
open Go.RowKit
attribute [local go_sem ↓] Go.wp_at_zero Go.wp_at_succ
attribute [local go_sem] After.cell After.frozen After.const
def sum (l:List ByteArray):Nat:=(l.map (·.size)).sum
theorem sum_cons (a)(l):sum (a::l)=a.size+sum l:=by simp[sum]
def Place (n:Nat)(e:Ending):Prop:=∃z:Int,e=.returned (.int .i64 z)/\-1<=z/\z<n
theorem Tryz.infoByte:(prog.info? 5).map (λi=>(i.zero,i.size,i.bytes))=some (some (.int .u8 0),1,1):=by kernel_rfl
def mH (xs:List Value):Prop:=∀u∈xs,∃z,u=.int .u8 z
theorem mH.one {xs}(h:mH xs)(z):mH (xs++[.int .u8 z]):=λu hu=>by
 rcases List.mem_append.1 hu with hu|hu
 .exact h u hu
 .simp at hu;subst hu;exact⟨z,rfl⟩
def Q3:Value->Nat
 |.string s=>s.size
 |_=>0
theorem mH.app {xs ys}(h:mH xs)(k:mH ys):mH (xs++ys):=λu hu=>(List.mem_append.1 hu).elim (h u) (k u)
theorem mH.str (s):mH (Lib.strCells s):=λu hu=>by
 simp[Lib.strCells]at hu;obtain⟨x,_,rfl⟩:=hu;exact⟨_,rfl⟩
theorem jl (x)(a:0<=x)(c:x<2147483648):0<=bits BinOp.and IntKind.i32 x 15/\bits BinOp.and IntKind.i32 x 15<16:=by
 obtain⟨k,rfl⟩:=Int.eq_ofNat_of_zero_le a;have e:=Lib.and15_i32 k (by omega);have b:bits BinOp.and IntKind.i32 (k:Int) 15=((k%16:Nat):Int):=e;rw[b];omega
def vW (B N:Nat)(c:World)(e:Ending)(w':World):Prop:=∃v' b a,e=.returned v'/\Lib.OwnBuf B 5 v' b a c w'/\b<=N/\mH a
theorem vW.of {B N}{c w'}{v'}{b}{a}(h:Lib.OwnBuf B 5 v' b a c w')(d:b<=N)(hu:mH a):vW B N c (.returned v') w':=⟨v',b,a,rfl,h,d,hu⟩
theorem PK (B)(v)(n)(xs)(r)(f w)(hb:Lib.OwnBuf B 5 v n xs f w)(hu:mH xs)(hlen:n+10<=140737488355328)(p:0<=r)(o:r<=2147483647):
 Calls prog 257 #[v,.int .i32 r,.int .u8 34,.bool true,.bool false] w (vW B (n+10) f):=by
 obtain⟨i0,i,c,b,a⟩:=info_parts Tryz.infoByte;have t37:=underlying165;have t9:=underlying9;have l:Hid (mH xs/\0<=r/\r<=2147483647):=⟨hu,p,o⟩;clear hu;obtain⟨y,n28⟩:=jl (r/268435456) (by omega) (by omega);obtain⟨m24,n24⟩:=jl (r/16777216) (by omega) (by omega);obtain⟨m20,n20⟩:=jl (r/1048576) (by omega) (by omega);obtain⟨m16,n16⟩:=jl (r/65536) (by omega) (by omega);obtain⟨m12,x⟩:=jl (r/4096) (by omega) (by omega);obtain⟨m8,n8⟩:=jl (r/256) (by omega) (by omega);obtain⟨m4,n4⟩:=jl (r/16) (by omega) (by omega);obtain⟨m0,F⟩:=jl (r) (by omega) (by omega);obtain⟨u,q⟩:=jl (65533/4096) (by omega) (by omega);obtain⟨D,z⟩:=jl (65533/256) (by omega) (by omega);obtain⟨p4,A⟩:=jl (65533/16) (by omega) (by omega);obtain⟨E,C⟩:=jl (65533) (by omega) (by omega)
 go_enter func257,ntmps257
 go_wp2_with(first
  |(go_at_call 278;refine(Tryz.strconv_IsPrint_latin r _ (by omega)).mono ?_;rintro e w1 ⟨he,hw⟩;obtain rfl:=hw.symm;generalize Lib.isPrintLatin r=t at he;subst he;cases t)
  |(go_at_call 269;refine(Tryz.utf8_ValidRune r _).mono ?_;rintro e w1 ⟨he,hw⟩;obtain rfl:=hw.symm;generalize Lib.validRune r=vb at he;subst he;cases vb)
  |(at_builtin;first
   |(refine Lib.wpList_append_byte rfl _ _ 165 rfl B 5 i0 t37 i c b a _ _ _ rfl f _ _ (by assumption) rfl (by first|omega|(simp only[Lib.size_two];omega)) ?_;intro _ _ hb)
   |(refine Lib.wpList_append_text rfl _ _ 165 9 rfl B 5 i0 t37 t9 i c b a _ _ _ rfl f (by assumption) _ rfl (by first|omega|(simp only[Lib.size_two];omega)) ?_;intro _ _ hb)))
 all_goals try
  (go_ret
   refine .of hb ?_ ?_
   .first
     |omega
     |(simp only[Lib.size_two];omega)
   .repeat' first
     |exact l.out.1
     |exact mH.str _
     |refine mH.one ?_ _
     |refine mH.app ?_ ?_)
 .go_loopw [0,11] (λv s wr=>∃(m:Nat) (ys:List Value) (d:Int),s=.int .i64 d/\(d=12\/d=8\/d=4\/d=0\/d= -4)/\Lib.OwnBuf B 5 v m ys f wr/\mH ys/\4*(m:Int)+d<=4*((n:Int)+2)+12) (λ_ s _=>(intOf s+4).toNat)
  case atStart=>exact⟨_,_,12,rfl,.inl rfl,hb,l.out.1.app (mH.str _),by simp only[Lib.size_two];omega⟩
  case round=>
   clear hb;obtain⟨m,ys,d,rfl,j,hb,h,k⟩:=hrel;have g:Hid (mH ys):=h;clear h;rcases j with rfl|rfl|rfl|rfl|rfl
   .go_wp2_with(at_builtin;refine Lib.wpList_append_byte rfl _ _ 165 rfl B 5 i0 t37 i c b a _ _ _ rfl f _ _ (by assumption) rfl (by omega) ?_;intro _ _ hb)
    exact⟨⟨_,_,8,rfl,by omega,hb,g.out.one _,by omega⟩,by simp[intOf]⟩
   .go_wp2_with(at_builtin;refine Lib.wpList_append_byte rfl _ _ 165 rfl B 5 i0 t37 i c b a _ _ _ rfl f _ _ (by assumption) rfl (by omega) ?_;intro _ _ hb)
    exact⟨⟨_,_,4,rfl,by omega,hb,g.out.one _,by omega⟩,by simp[intOf]⟩
   .go_wp2_with(at_builtin;refine Lib.wpList_append_byte rfl _ _ 165 rfl B 5 i0 t37 i c b a _ _ _ rfl f _ _ (by assumption) rfl (by omega) ?_;intro _ _ hb)
    exact⟨⟨_,_,0,rfl,by omega,hb,g.out.one _,by omega⟩,by simp[intOf]⟩
   .go_wp2_with(at_builtin;refine Lib.wpList_append_byte rfl _ _ 165 rfl B 5 i0 t37 i c b a _ _ _ rfl f _ _ (by assumption) rfl (by omega) ?_;intro _ _ hb)
    exact⟨⟨_,_,-4,rfl,by omega,hb,g.out.one _,by omega⟩,by simp[intOf]⟩
   .go_wp2
    go_ret;exact .of hb (by omega) g.out
 .go_loopw [0,11] (λv s wr=>∃(m:Nat) (ys:List Value) (d:Int),s=.int .i64 d/\(d=12\/d=8\/d=4\/d=0\/d= -4)/\Lib.OwnBuf B 5 v m ys f wr/\mH ys/\4*(m:Int)+d<=4*((n:Int)+2)+12) (λ_ s _=>(intOf s+4).toNat)
  case atStart=>exact⟨_,_,12,rfl,.inl rfl,hb,l.out.1.app (mH.str _),by simp only[Lib.size_two];omega⟩
  case round=>
   clear hb;obtain⟨m,ys,d,rfl,j,hb,h,k⟩:=hrel;have g:Hid (mH ys):=h;clear h;rcases j with rfl|rfl|rfl|rfl|rfl
   .go_wp2_with(at_builtin;refine Lib.wpList_append_byte rfl _ _ 165 rfl B 5 i0 t37 i c b a _ _ _ rfl f _ _ (by assumption) rfl (by omega) ?_;intro _ _ hb)
    exact⟨⟨_,_,8,rfl,by omega,hb,g.out.one _,by omega⟩,by simp[intOf]⟩
   .go_wp2_with(at_builtin;refine Lib.wpList_append_byte rfl _ _ 165 rfl B 5 i0 t37 i c b a _ _ _ rfl f _ _ (by assumption) rfl (by omega) ?_;intro _ _ hb)
    exact⟨⟨_,_,4,rfl,by omega,hb,g.out.one _,by omega⟩,by simp[intOf]⟩
   .go_wp2_with(at_builtin;refine Lib.wpList_append_byte rfl _ _ 165 rfl B 5 i0 t37 i c b a _ _ _ rfl f _ _ (by assumption) rfl (by omega) ?_;intro _ _ hb)
    exact⟨⟨_,_,0,rfl,by omega,hb,g.out.one _,by omega⟩,by simp[intOf]⟩
   .go_wp2_with(at_builtin;refine Lib.wpList_append_byte rfl _ _ 165 rfl B 5 i0 t37 i c b a _ _ _ rfl f _ _ (by assumption) rfl (by omega) ?_;intro _ _ hb)
    exact⟨⟨_,_,-4,rfl,by omega,hb,g.out.one _,by omega⟩,by simp[intOf]⟩
   .go_wp2
    go_ret;exact .of hb (by omega) g.out
 .go_loopw [0,11] (λv s wr=>∃(m:Nat) (ys:List Value) (d:Int),s=.int .i64 d/\(d=12\/d=8\/d=4\/d=0\/d= -4)/\Lib.OwnBuf B 5 v m ys f wr/\mH ys/\4*(m:Int)+d<=4*((n:Int)+2)+12) (λ_ s _=>(intOf s+4).toNat)
  case atStart=>exact⟨_,_,12,rfl,.inl rfl,hb,l.out.1.app (mH.str _),by simp only[Lib.size_two];omega⟩
  case round=>
   clear hb;obtain⟨m,ys,d,rfl,j,hb,h,k⟩:=hrel;have g:Hid (mH ys):=h;clear h;rcases j with rfl|rfl|rfl|rfl|rfl
   .go_wp2_with(at_builtin;refine Lib.wpList_append_byte rfl _ _ 165 rfl B 5 i0 t37 i c b a _ _ _ rfl f _ _ (by assumption) rfl (by omega) ?_;intro _ _ hb)
    exact⟨⟨_,_,8,rfl,by omega,hb,g.out.one _,by omega⟩,by simp[intOf]⟩
   .go_wp2_with(at_builtin;refine Lib.wpList_append_byte rfl _ _ 165 rfl B 5 i0 t37 i c b a _ _ _ rfl f _ _ (by assumption) rfl (by omega) ?_;intro _ _ hb)
    exact⟨⟨_,_,4,rfl,by omega,hb,g.out.one _,by omega⟩,by simp[intOf]⟩
   .go_wp2_with(at_builtin;refine Lib.wpList_append_byte rfl _ _ 165 rfl B 5 i0 t37 i c b a _ _ _ rfl f _ _ (by assumption) rfl (by omega) ?_;intro _ _ hb)
    exact⟨⟨_,_,0,rfl,by omega,hb,g.out.one _,by omega⟩,by simp[intOf]⟩
   .go_wp2_with(at_builtin;refine Lib.wpList_append_byte rfl _ _ 165 rfl B 5 i0 t37 i c b a _ _ _ rfl f _ _ (by assumption) rfl (by omega) ?_;intro _ _ hb)
    exact⟨⟨_,_,-4,rfl,by omega,hb,g.out.one _,by omega⟩,by simp[intOf]⟩
   .go_wp2
    go_ret;exact .of hb (by omega) g.out
 .go_loopw [0,11] (λv s wr=>∃(m:Nat) (ys:List Value) (d:Int),s=.int .i64 d/\(d=12\/d=8\/d=4\/d=0\/d= -4)/\Lib.OwnBuf B 5 v m ys f wr/\mH ys/\4*(m:Int)+d<=4*((n:Int)+2)+12) (λ_ s _=>(intOf s+4).toNat)
  case atStart=>exact⟨_,_,12,rfl,.inl rfl,hb,l.out.1.app (mH.str _),by simp only[Lib.size_two];omega⟩
  case round=>
   clear hb;obtain⟨m,ys,d,rfl,j,hb,h,k⟩:=hrel;have g:Hid (mH ys):=h;clear h;rcases j with rfl|rfl|rfl|rfl|rfl
   .go_wp2_with(at_builtin;refine Lib.wpList_append_byte rfl _ _ 165 rfl B 5 i0 t37 i c b a _ _ _ rfl f _ _ (by assumption) rfl (by omega) ?_;intro _ _ hb)
    exact⟨⟨_,_,8,rfl,by omega,hb,g.out.one _,by omega⟩,by simp[intOf]⟩
   .go_wp2_with(at_builtin;refine Lib.wpList_append_byte rfl _ _ 165 rfl B 5 i0 t37 i c b a _ _ _ rfl f _ _ (by assumption) rfl (by omega) ?_;intro _ _ hb)
    exact⟨⟨_,_,4,rfl,by omega,hb,g.out.one _,by omega⟩,by simp[intOf]⟩
   .go_wp2_with(at_builtin;refine Lib.wpList_append_byte rfl _ _ 165 rfl B 5 i0 t37 i c b a _ _ _ rfl f _ _ (by assumption) rfl (by omega) ?_;intro _ _ hb)
    exact⟨⟨_,_,0,rfl,by omega,hb,g.out.one _,by omega⟩,by simp[intOf]⟩
   .go_wp2_with(at_builtin;refine Lib.wpList_append_byte rfl _ _ 165 rfl B 5 i0 t37 i c b a _ _ _ rfl f _ _ (by assumption) rfl (by omega) ?_;intro _ _ hb)
    exact⟨⟨_,_,-4,rfl,by omega,hb,g.out.one _,by omega⟩,by simp[intOf]⟩
   .go_wp2
    go_ret;exact .of hb (by omega) g.out
 .go_loopw [0,12] (λv s wr=>∃(m:Nat) (ys:List Value) (d:Int),s=.int .i64 d/\(d=28\/d=24\/d=20\/d=16\/d=12\/d=8\/d=4\/d=0\/d= -4)/\Lib.OwnBuf B 5 v m ys f wr/\mH ys/\4*(m:Int)+d<=4*((n:Int)+2)+28) (λ_ s _=>(intOf s+4).toNat)
  case atStart=>exact⟨_,_,28,rfl,.inl rfl,hb,l.out.1.app (mH.str _),by simp only[Lib.size_two];omega⟩
  case round=>
   clear hb;obtain⟨m,ys,d,rfl,j,hb,h,k⟩:=hrel;have g:Hid (mH ys):=h;clear h;rcases j with rfl|rfl|rfl|rfl|rfl|rfl|rfl|rfl|rfl
   .go_wp2_with(at_builtin;refine Lib.wpList_append_byte rfl _ _ 165 rfl B 5 i0 t37 i c b a _ _ _ rfl f _ _ (by assumption) rfl (by omega) ?_;intro _ _ hb)
    exact⟨⟨_,_,24,rfl,by omega,hb,g.out.one _,by omega⟩,by simp[intOf]⟩
   .go_wp2_with(at_builtin;refine Lib.wpList_append_byte rfl _ _ 165 rfl B 5 i0 t37 i c b a _ _ _ rfl f _ _ (by assumption) rfl (by omega) ?_;intro _ _ hb)
    exact⟨⟨_,_,20,rfl,by omega,hb,g.out.one _,by omega⟩,by simp[intOf]⟩
   .go_wp2_with(at_builtin;refine Lib.wpList_append_byte rfl _ _ 165 rfl B 5 i0 t37 i c b a _ _ _ rfl f _ _ (by assumption) rfl (by omega) ?_;intro _ _ hb)
    exact⟨⟨_,_,16,rfl,by omega,hb,g.out.one _,by omega⟩,by simp[intOf]⟩
   .go_wp2_with(at_builtin;refine Lib.wpList_append_byte rfl _ _ 165 rfl B 5 i0 t37 i c b a _ _ _ rfl f _ _ (by assumption) rfl (by omega) ?_;intro _ _ hb)
    exact⟨⟨_,_,12,rfl,by omega,hb,g.out.one _,by omega⟩,by simp[intOf]⟩
   .go_wp2_with(at_builtin;refine Lib.wpList_append_byte rfl _ _ 165 rfl B 5 i0 t37 i c b a _ _ _ rfl f _ _ (by assumption) rfl (by omega) ?_;intro _ _ hb)
    exact⟨⟨_,_,8,rfl,by omega,hb,g.out.one _,by omega⟩,by simp[intOf]⟩
   .go_wp2_with(at_builtin;refine Lib.wpList_append_byte rfl _ _ 165 rfl B 5 i0 t37 i c b a _ _ _ rfl f _ _ (by assumption) rfl (by omega) ?_;intro _ _ hb)
    exact⟨⟨_,_,4,rfl,by omega,hb,g.out.one _,by omega⟩,by simp[intOf]⟩
   .go_wp2_with(at_builtin;refine Lib.wpList_append_byte rfl _ _ 165 rfl B 5 i0 t37 i c b a _ _ _ rfl f _ _ (by assumption) rfl (by omega) ?_;intro _ _ hb)
    exact⟨⟨_,_,0,rfl,by omega,hb,g.out.one _,by omega⟩,by simp[intOf]⟩
   .go_wp2_with(at_builtin;refine Lib.wpList_append_byte rfl _ _ 165 rfl B 5 i0 t37 i c b a _ _ _ rfl f _ _ (by assumption) rfl (by omega) ?_;intro _ _ hb)
    exact⟨⟨_,_,-4,rfl,by omega,hb,g.out.one _,by omega⟩,by simp[intOf]⟩
   .go_wp2
    go_ret;exact .of hb (by omega) g.out
theorem Mi (x):0<=IntKind.u64.wrap x/\IntKind.u64.wrap x<18446744073709551616:=by
 have h:=wf_wrap .u64 x;simp[Lit.wf,IntKind.min,IntKind.max,IntKind.signed,IntKind.bits]at h;omega
def Zm (e:Ending):Prop:=∃x:Int,e=.returned (.int .u64 x)/\0<=x/\x<18446744073709551616
theorem Dy (s)(w)(hs:s.size<=140737488355328):
 Calls prog 179 #[.string s] w λe w'=>Zm e/\w'=w:=by
 go_enter func179,ntmps179
 go_wp2
 go_loop [3,7] (λv i=>∃(x:Int) (k:Nat),v=.int .u64 x/\(0<=x/\x<18446744073709551616)/\i=.int .i64 k/\k<=s.size) (λ_ i=>s.size-(intOf i).toNat)
 case atStart=>exact⟨_,0,rfl,⟨by omega,by omega⟩,rfl,by omega⟩
 case round=>
  obtain⟨x,k,rfl,hx,rfl,d⟩:=hrel;have a:Hid (0<=x/\x<18446744073709551616):=hx;clear hx
  by_cases c:k<s.size
  .have b:(k:Int)<s.size:=by omega
   go_wp2;go_round
   case rel=>exact⟨_,k+1,rfl,Mi _,by go_num,by omega⟩
   case measure=>simp[intOf];omega
  .have b:¬(k:Int)<s.size:=by omega
   go_wp2;go_ret;exact⟨⟨x,rfl,a.out.1,a.out.2⟩,rfl⟩
theorem rA (c)(K):∀(l:List (List UInt8)),(∀x∈l,x.length<=K)->(Lib.joinTail [c] l).length<=(K+1)*l.length
 |[],_=>by simp[Lib.joinTail]
 |a::r,h=>by
  have d:=h a (by simp);have b:=rA c K r (λx hx=>h x (List.mem_cons_of_mem _ hx));simp only[Lib.joinTail,List.map_cons,List.flatten_cons,Z7,List.length_cons,List.length_nil]at*;rw[Nat.mul_add];omega
theorem Nj (c)(K)(l)(h:∀x∈l,x.length<=K):(Lib.join l [c]).length<=(K+1)*l.length:=by
 cases l with
 |nil=>simp[Lib.join_nil]
 |cons a r=>
  have d:=h a (by simp);have b:=rA c K r (λx hx=>h x (List.mem_cons_of_mem _ hx));rw[Lib.join_cons,Z7,List.length_cons,Nat.mul_add];omega
def iF (n:Nat)(e:Ending):Prop:=∃t:ByteArray,e=.returned (.string t)/\t.size<=n
theorem qM {w:World}{base}{v}{n K}{xs}(h:w.ownsRow base 9 1 v n xs)(hx:∀u∈xs,BK K u):
 ∃ts:List ByteArray,xs=ts.map Value.string/\ts.length=n/\(∀t∈ts,t.size<=K)/\
  ((v=.slice none 0 0/\n=0)\/∃g cap,v=.slice (some ⟨g,0,none⟩) n cap/\n<=cap/\g<w.heap.size/\∀(j:Nat) x,ts[j]? =some x->w.cell? ⟨g,0+j,none⟩=some (.string x)):=by
 have hl:xs.length=n:=by have:=h.1;omega
 have i:∃ts:List ByteArray,xs=ts.map Value.string/\∀t∈ts,t.size<=K:=by
  clear hl h
  induction xs with
  |nil=>exact⟨[],rfl,by simp⟩
  |cons x r f=>
   obtain⟨ts,rfl,c⟩:=f (λu hm=>hx u (List.mem_cons_of_mem _ hm));obtain⟨s,rfl,hs⟩:=hx x ZX;exact⟨s::ts,rfl,λt hm=>by rcases ZW.1 hm with rfl|hm;exact hs;exact c t hm⟩
 obtain⟨ts,rfl,c⟩:=i;have a:ts.length=n:=by simpa using hl
 refine⟨ts,rfl,a,c,?_⟩;rcases h.2 with⟨rfl,m⟩|⟨g,cap,cur,rfl,_,d,k,hc,hs,b⟩
 .exact .inl ⟨rfl,m⟩
 .refine .inr ⟨g,cap,rfl,k,(ZK.1 d).1,λj x l=>?_⟩
  have e:(ts.map Value.string)[j]? =some (.string x):=by simp[l]
  rw[Z8,cell_of_row w g j cur _ (0,0) d];rw[<-b,Z5]at e;split at e
  .simpa using e
  .cases e
theorem Nk (c)(v)(n K base)(xs)(w)(h:w.ownsRow base 9 1 v n xs)(hx:∀u∈xs,BK K u)(f:(K+1)*n<=140737488355328):
 Calls prog 176 #[v,.string ⟨#[c]⟩] w λe w'=>iF ((K+1)*n) e/\Below w.heap.size w w':=by
 obtain⟨ts,rfl,hl,i,⟨rfl,l⟩|⟨g,cap,rfl,d,j,hc⟩⟩:=qM h hx
 .refine(Tryz.strings_Join_none none 0 ⟨#[c]⟩ w).mono ?_
  rintro e w' ⟨rfl,rfl⟩;exact⟨⟨_,rfl,Nat.zero_le _⟩,Below.refl _ _⟩
 .have b:=Nj c K (ts.map (·.data.toList)) (λx hx=>by
   obtain⟨t,a,rfl⟩:=List.mem_map.1 hx;have:=i t a;rw[<-Lib.size_eq];exact this)
  rw[List.length_map,hl]at b;have k:n<=140737488355328:=ZP (Nat.le_mul_of_pos_left n (by omega)) f;have r:=Tryz.strings_Join g 0 cap ts ⟨#[c]⟩ w hc j (by omega) (by omega) (ZP b f);rw[hl]at r;refine r.mono ?_;rintro e w' ⟨rfl,hb⟩;exact⟨⟨_,rfl,by simpa[ByteArray.size] using b⟩,hb⟩
theorem rq (v)(n)(R)(w)(H:n<=1099511627776)(h:Ints w v n R)(hR:∀i,i<n->SB (R i))(f:gY w):
 Calls prog 174 #[v] w λe w'=>iF (22*n+1) e/\Below w.heap.size w w':=by
 have hF:=h;obtain⟨ao,cap,rfl,hc,hm,_⟩:=h;obtain⟨i0,D,r,q,p⟩:=info_parts Tryz.JS;have hu:=underlying115;have A:Hid (Ints w (.slice ao n cap) n R/\(∀i,i<n->SB (R i))/\gY w):=⟨hF,hR,f⟩;clear hF hR f
 by_cases E:n=0
 .subst E
  go_enter func174,ntmps174
  go_wp2;go_ret;exact⟨⟨_,rfl,by show 1<=22*0+1;omega⟩,Below.refl _ _⟩
 have C:((n:Int)==0)=false:=by rw[beq_eq_false_iff_ne];omega
 go_enter func174,ntmps174
 go_wp2
 go_loopw [3,11] (λv i wr=>∃(k:Nat) (xs:List Value),k<=n/\i=.int .i64 k/\wr.ownsRow w.heap.size 9 1 v k xs/\(∀u∈xs,BK 21 u)/\Below w.heap.size w wr) (λ_ i _=>n-(intOf i).toNat)
 case atStart=>exact⟨0,[],by omega,rfl,World.ownsRow_nil _ _ _ _,by simp,Below.refl _ _⟩
 case round=>
  obtain⟨k,xs,I,rfl,a,j,hb⟩:=hrel;have g:Hid (wr.ownsRow w.heap.size 9 1 u3 k xs/\(∀u∈xs,BK 21 u)/\Below w.heap.size w wr):=⟨a,j,hb⟩;have s:w.heap.size<=wr.heap.size:=hb.size
  by_cases l:k<n
  .have G:(k:Int)<n:=by omega
   obtain⟨F,B,he,_,_,hF⟩:=A.out.1.ext hb;cases he;obtain⟨b,o,y,m⟩:=hF (by omega);subst y;have J:=m k l;clear hF m hb a j
   go_wp2_with(first
        |(go_at_call 177;refine(E5 (R k) wr (A.out.2.1 k l) (A.out.2.2.ext g.out.2.2)).mono ?_;rintro e w1 ⟨d,t,rfl,x⟩;have H1:Hid (Below wr.heap.size wr w1/\t.size<=21/\wr.heap.size<=w1.heap.size):=⟨d,x,d.size⟩;clear d x)
        |(at_builtin;refine wpList_append_own _ rfl _ _ _ rfl w.heap.size 9 i0 _ 1 16 hu D r q p rfl (by omega) _ k xs rfl ((au g.out.1 H1.out.1).alloc _) ⟨w1.heap.size,0,none⟩ 1 1 [.string t] rfl rfl (cell_one_new _ _ _) (by intro u hu;simp at hu;subst hu;rfl) (by unfold maxLen;omega) (by omega) (by have:=H1.out.2.2;simp;omega) ?_;intro v' w2 a c _))
   have z:Hid (w2.ownsRow w.heap.size 9 1 v' (k+1) (xs++[.string t])/\(∀u∈xs++[Value.string t],BK 21 u)/\Below w.heap.size w w2):=by
        refine⟨a,λu hu=>?_,g.out.2.2.trans ((H1.out.1.mono s).trans (lM (au g.out.1 H1.out.1) c (ZL _) (ZP s H1.out.2.2)))⟩;rcases List.mem_append.1 hu with hu|hu
        .exact g.out.2.1 u hu
        .simp at hu;subst hu;exact⟨t,rfl,H1.out.2.1⟩
   clear a c;go_wp2;go_roundw
   case rel=>exact⟨k+1,_,by omega,by go_num,z.out.1,z.out.2.1,z.out.2.2⟩
   case measure=>simp[intOf];omega
  .obtain rfl:k=n:=by omega
   clear hb a j;go_wp2_with(go_at_call 176;refine(Nk 44 u3 k 21 w.heap.size xs wr g.out.1 g.out.2.1 (by omega)).mono ?_;rintro e w1 ⟨⟨t,rfl,x⟩,d⟩);go_ret;exact⟨⟨t,rfl,by omega⟩,g.out.2.2.trans (d.mono s)⟩
set_option linter.unusedVariables false in
theorem gY.low {B}{w w'}(h:gY w)(hb:Below B w w')(a:14<=B)(g:B<=w.heap.size):gY w':=by
 have c:∀b o,b<14->w'.cell? ⟨b,o,none⟩=w.cell? ⟨b,o,none⟩:=λb o hl=>hb.cell (p:=⟨b,o,none⟩) (ZO hl a)
 refine⟨ZP h.size hb.size,var?_below hb Tryz.oL (ZO (by decide) a) h.pow,⟨λk d=>?_,λi f=>?_⟩,λj e=>?_⟩
 .rw[c _ _ (by decide)];exact h.Mf.1 k d
 .rw[c _ _ (by decide),c _ _ (by decide)];exact h.Mf.2 i f
 .rw[c _ _ (by decide)];exact h.Ls j e
theorem Ac {B}{v}{n}{xs}{a w w1}(h:Lib.OwnBuf B 5 v n xs a w)(hb:Below w.heap.size w w1):Lib.OwnBuf B 5 v n xs a w1:=by
 have c:w.grownBy w1 none:=⟨hb.os,hb.tape,hb.output,hb.size,λk b _=>hb.block k b⟩;refine⟨h.1.kept c ?_,h.2.1.trans (hb.mono h.2.2),ZP h.2.2 hb.size⟩;cases d:v.ownBlock with
 |none=>exact .inl rfl
 |some g=>exact .inr (by simp)
theorem Sl (x)(b:0<=x)(a:x<256):0<=bits BinOp.and IntKind.u8 x 15/\bits BinOp.and IntKind.u8 x 15<16:=by
 rw[u8_and15 x b a];omega
theorem xD (B)(D)(n c)(xs)(s)(b w)(hb:Lib.OwnBuf B 5 (.slice D n c) n xs b w)(hu:mH xs)(x:n+s.size<=c)(hc:c<=9223372036854775807)(hlen:n+10*s.size+12<=140737488355328)(A:14<=B)(z:B<=b.heap.size)(h:gY b):
 Calls prog 227 #[.slice D n c,.string s,.int .u8 34,.bool true,.bool false] w (vW B (n+10*s.size+2) b):=by
 obtain⟨i0,p,g,f,d⟩:=info_parts Tryz.infoByte;have t37:=underlying165;have t9:=underlying9;have H:Hid (mH xs/\gY b):=⟨hu,h⟩;clear hu h;have f0:decide ((c:Int)-n<s.size)=false:=decide_eq_false (by omega);have f1:¬((c:Int)-n<s.size):=by omega
 go_enter func227,ntmps227
 go_wp2_with(at_builtin;refine Lib.wpList_append_byte rfl _ _ 165 rfl B 5 i0 t37 p g f d _ _ _ rfl b _ _ (by assumption) rfl (by omega) ?_;intro _ _ hb)
 go_loopw [0,1] (λv a wr=>∃(m:Nat) (ys:List Value) (t:ByteArray),a=.string t/\Lib.OwnBuf B 5 v m ys b wr/\mH ys/\m+10*t.size<=n+1+10*s.size/\t.size<=s.size) (λ_ a _=>Q3 a)
 case atStart=>exact⟨_,_,s,rfl,hb,H.out.1.one _,by omega,ZL _⟩
 case round=>
  clear hb;obtain⟨m,ys,t,rfl,hb,j,L,J⟩:=hrel;have q:Hid (mH ys/\gY wr):=⟨j,H.out.2.low hb.2.1 A z⟩;clear j
  by_cases O:t.size=0
  .have C:decide ((0:Int)<t.size)=false:=decide_eq_false (by omega)
   have o:¬(0:Int)<t.size:=(by omega);go_wp2_with(at_builtin;refine Lib.wpList_append_byte rfl _ _ 165 rfl B 5 i0 t37 p g f d _ _ _ rfl b _ _ (by assumption) rfl (by omega) ?_;intro _ _ hb);go_ret;exact .of hb (by omega) (q.out.1.one _)
  .have C:(0:Int)<t.size:=by omega
   have XW:0<t.size:=(by omega);obtain⟨r,k,hd⟩:∃r k:Nat,Lib.decodeGo t=(r,k):=⟨_,_,rfl⟩
   have N:r<=2147483647/\1<=k/\k<=t.size:=by
        have y:Utf8.decode t 0=(r,k):=by
         unfold Lib.decodeGo at hd
         rwa [if_neg (by omega)]at hd
        have G:=decode_le t 0;have F:=Lib.decode_width_pos t 0 (by omega);have E:=Lib.width_le t (by omega);rw[y]at G F E;exact⟨G,F,E⟩
   have P:(0:Int)<=(k:Int):=(by omega);have c2:(k:Int)<=t.size:=(by omega);have z9:(t.extract k t.size).size=t.size-k:=(by rw[ByteArray.size_extract];omega);obtain⟨b0,o⟩:∃b0,((t[0]'XW).toNat:Int)=b0:=⟨_,rfl⟩;have i:0<=b0/\b0<256:=(by rw[<-o];have:=(t[0]'XW).toNat_lt;omega);have d0:0<=b0/16:=(by omega);have d1:b0/16<16:=(by omega);obtain⟨d2,d3⟩:=Sl b0 i.1 i.2;clear i
   go_wp2_with(first
        |(go_at_call 245;refine(Tryz.utf8_DecodeRuneInString t wr q.out.2.Mf).mono ?_;rintro e w3 ⟨he,l⟩;rw[hd]at he;subst he;replace hb:=Ac hb l;clear l)
        |(go_at_call 257;refine(PK B _ _ _ (r:Int) b _ hb q.out.1 (by omega) (by omega) (by omega)).mono ?_;clear hb;rintro e w4 ⟨v',M,I,rfl,hb,K,u⟩)
        |(at_builtin;first
         |(refine Lib.wpList_append_byte rfl _ _ 165 rfl B 5 i0 t37 p g f d _ _ _ rfl b _ _ (by assumption) rfl (by first|omega|(simp only[Lib.size_two];omega)) ?_;intro _ _ hb)
         |(refine Lib.wpList_append_text rfl _ _ 165 9 rfl B 5 i0 t37 t9 p g f d _ _ _ rfl b (by assumption) _ rfl (by first|omega|(simp only[Lib.size_two];omega)) ?_;intro _ _ hb)))
   all_goals
        refine⟨⟨_,_,_,rfl,hb,?_,?_,?_⟩,?_⟩
        .repeat' first
          |exact q.out.1
          |exact u
          |exact mH.str _
          |refine mH.one ?_ _
          |refine mH.app ?_ ?_
        .simp only[ByteArray.size_extract,Lib.size_two];omega
        .simp only[ByteArray.size_extract];omega
        .show(t.extract _ t.size).size<t.size
         simp only[ByteArray.size_extract];omega
theorem LA {base}{w}{v}{n}{xs}(h:w.ownsRowF base 5 1 v n xs)(hu:mH xs):∃str:ByteArray,str.size=n/\(convert 165 9 v).run prog w=.ok (.string str) w:=by
 have hl:xs.length=n:=by have:=h.1;omega
 rcases h.2 with⟨rfl,k⟩|⟨g,cap,cur,l,rfl,_,j,hf,m,hc,hs,b⟩
 .refine⟨ByteArray.empty,?_,run_convert_bytes_nil (P:=prog) (w:=w) 165 5 underlying165 underlying5 0 0 _ underlying9⟩
  subst k;rfl
 .have d:∃zs:List Int,xs=zs.map (λz=>Value.int .u8 z):=by
   clear hl b h
   induction xs with
   |nil=>exact⟨[],rfl⟩
   |cons x r c=>
    obtain⟨zs,rfl⟩:=c (λu hm=>hu u (List.mem_cons_of_mem _ hm));obtain⟨z,rfl⟩:=hu x (ZX);exact⟨z::zs,rfl⟩
  obtain⟨zs,rfl⟩:=d;have a:zs.length=n:=by simpa using hl
  refine⟨strOfNums zs,?_,run_convert_bytes_arg (P:=prog) (w:=w) 165 5 underlying165 underlying5 g 0 n cap zs a (λi f=>?_) _ underlying9⟩
  .simp[strOfNums,ByteArray.size,a]
  .have e:(zs.map (λz=>Value.int .u8 z))[i]? =some (.int .u8 (zs.getD i 0)):=by simp[a,f,List.getD]
   rw[Z8,cell_of_row w g i cur _ l j];rw[<-b,Z5]at e;split at e
   .simpa using e
   .cases e
theorem zX (s)(w)(hs:s.size<=1099511627776)(c:gY w):
 Calls prog 200 #[.string s,.int .u8 34,.bool true,.bool false] w λe w'=>iF (10*s.size+2) e/\Below w.heap.size w w':=by
 obtain⟨i0,l,i,h,g⟩:=info_parts Tryz.infoByte;have j:=underlying165;have hC:(3*(s.size:Int)/2)=((3*s.size/2:Nat):Int):=by omega
 obtain⟨w2,d,b,a⟩:=run_make_own (P:=prog) w w.heap.size 165 5 i0 _ 1 j l i h .i64 .i64 (3*s.size/2) (by rw[g];omega) (by unfold maxLen;omega) (ZL _);rw[<-hC]at d;have f:Lib.OwnBuf w.heap.size 5 (.slice (some ⟨w.heap.size,0,none⟩) 0 (3*s.size/2)) 0 [] w w2:=⟨World.ownsRowF_of b,(Below.refl _ _).grown a (ZL _) (λk p=>by cases p),a.size⟩;have m:Hid (Lib.OwnBuf w.heap.size 5 (.slice (some ⟨w.heap.size,0,none⟩) 0 (3*s.size/2)) 0 [] w w2/\gY w):=⟨f,c⟩;clear b a f c hC
 go_enter func200,ntmps200
 go_wp2_with(go_at_call 227;refine(xD w.heap.size _ 0 (3*s.size/2) [] s w w2 m.out.1 (by intro u hu;cases hu) (by omega) (by omega) (by omega) m.out.2.size (ZL _) m.out.2).mono ?_;rintro e w3 ⟨v',t,o,rfl,hb,v,hu⟩;obtain⟨str,n,q⟩:=LA hb.1 hu;have r:Below w.heap.size w w3:=hb.2.1;clear hb hu);go_ret;exact⟨⟨str,rfl,by omega⟩,r⟩
theorem xE (s)(w)(hs:s.size<=1099511627776)(a:gY w):
 Calls prog 175 #[.string s] w λe w'=>iF (10*s.size+2) e/\Below w.heap.size w w':=by
 go_enter func175,ntmps175
 go_wp2_with(go_at_call 200;refine(zX s w hs a).mono ?_;rintro e w1 ⟨⟨t,rfl,b⟩,hb⟩);go_ret;exact⟨⟨t,rfl,b⟩,hb⟩
end
