/- Part 9 of the proof. -/
import Derived.Test.YtfpaamhppamcoaaGreatDoorPo8
set_option linter.all false
set_option maxRecDepth 100000
set_option maxHeartbeats 60000000
namespace Go.Proofs.YtfpaamhppamcoaaGreatDoor
open Go.Proofs.Tryz
section
open Go.RowKit
attribute [local go_sem ↓] Go.wp_at_zero Go.wp_at_succ
attribute [local go_sem] After.cell After.frozen After.const
def mH.app {xs ys}(h:mH xs)(k:mH ys):mH (xs++ys):=λu hu=>(abz.1 hu).elim (h u) (k u)
def mH.str (s):mH (Lib.strCells s):=λu hu=>by
 simp[Lib.strCells]at hu;obtain⟨x,_,rfl⟩:=hu;exact⟨_,rfl⟩
def jl (x)(a:0<=x)(c:x<2147483648):0<=bits BinOp.and IntKind.i32 x 15/\bits BinOp.and IntKind.i32 x 15<16:=by
 obtain⟨k,rfl⟩:=Int.eq_ofNat_of_zero_le a;have e:=Lib.and15_i32 k (by omega);have b:bits BinOp.and IntKind.i32 (k:Int) 15=((k%16:Nat):Int):=e;rw[b];omega
def vW (B N:Nat)(c:World)(e:Ending)(w':World):Prop:=∃v' b a,e=.returned v'/\Lib.OwnBuf B 5 v' b a c w'/\b<=N/\mH a
def vW.of {B N}{c w'}{v'}{b}{a}(h:Lib.OwnBuf B 5 v' b a c w')(d:b<=N)(hu:mH a):vW B N c (.returned v') w':=⟨v',b,a,rfl,h,d,hu⟩
def PK (B)(v)(n)(xs)(r)(f w)(hb:Lib.OwnBuf B 5 v n xs f w)(hu:mH xs)(hlen:n+10<=140737488355328)(p:0<=r)(o:r<=2147483647):
 Calls prog 257 #[v,.int .i32 r,.int .u8 34,.bool true,.bool false] w (vW B (n+10) f):=by
 obtain⟨i0,i,c,b,a⟩:=info_parts Tryz.infoByte;have t37:=underlying165;have t9:=underlying9;have l:Hid (mH xs/\0<=r/\r<=2147483647):=⟨hu,p,o⟩;clear hu;obtain⟨y,n28⟩:=jl (r/268435456) (by omega) (by omega);obtain⟨m24,n24⟩:=jl (r/16777216) (by omega) (by omega);obtain⟨m20,n20⟩:=jl (r/1048576) (by omega) (by omega);obtain⟨m16,n16⟩:=jl (r/65536) (by omega) (by omega);obtain⟨m12,x⟩:=jl (r/4096) (by omega) (by omega);obtain⟨m8,n8⟩:=jl (r/256) (by omega) (by omega);obtain⟨m4,n4⟩:=jl (r/16) (by omega) (by omega);obtain⟨m0,F⟩:=jl (r) (by omega) (by omega);obtain⟨u,q⟩:=jl (65533/4096) (by omega) (by omega);obtain⟨D,z⟩:=jl (65533/256) (by omega) (by omega);obtain⟨p4,A⟩:=jl (65533/16) (by omega) (by omega);obtain⟨E,C⟩:=jl (65533) (by omega) (by omega)
 go_enter func257,ntmps257
 go_wp2_with(first
  |(go_at_call 278;refine(Tryz.strconv_IsPrint_latin r _ (by omega)).mono ?_;rintro e w1 ⟨he,hw⟩;obtain rfl:=hw.symm;generalize Lib.isPrintLatin r=t at he;subst he;cases t)
  |(go_at_call 269;refine(Tryz.utf8_ValidRune r _).mono ?_;rintro e w1 ⟨he,hw⟩;obtain rfl:=hw.symm;generalize Lib.validRune r=vb at he;subst he;cases vb)
  |(at_builtin;first
   |(refine Lib.wpList_append_byte rfl _ _ 165 rfl B 5 i0 t37 i c b a _ _ _ rfl f _ _ (by assumption) rfl (by first|omega|(simp only[Lib.size_two];omega)) ?_;intro _ _ hb)
   |(refine Lib.wpList_append_text rfl _ _ 165 9 rfl B 5 i0 t37 t9 i c b a _ _ _ rfl f (by assumption) _ rfl (by first|omega|(simp only[Lib.size_two];omega)) ?_;intro _ _ hb)))
 all_goals try
  (go_ret
   refine .of hb ?_ ?_
   .first
     |omega
     |(simp only[Lib.size_two];omega)
   .repeat' first
     |exact l.out.1
     |exact mH.str _
     |refine mH.one ?_ _
     |refine mH.app ?_ ?_)
 .go_loopw [0,11] (λv s wr=>∃(m:Nat) (ys:List Value) (d:Int),s=.int .i64 d/\(d=12\/d=8\/d=4\/d=0\/d= -4)/\Lib.OwnBuf B 5 v m ys f wr/\mH ys/\4*(m:Int)+d<=4*((n:Int)+2)+12) (λ_ s _=>(intOf s+4).toNat)
  case atStart=>exact⟨_,_,12,rfl,.inl rfl,hb,l.out.1.app (mH.str _),by simp only[Lib.size_two];omega⟩
  case round=>
   clear hb;obtain⟨m,ys,d,rfl,j,hb,h,k⟩:=hrel;have g:Hid (mH ys):=h;clear h;rcases j with rfl|rfl|rfl|rfl|rfl
   .go_wp2_with(at_builtin;refine Lib.wpList_append_byte rfl _ _ 165 rfl B 5 i0 t37 i c b a _ _ _ rfl f _ _ (by assumption) rfl (by omega) ?_;intro _ _ hb)
    exact⟨⟨_,_,8,rfl,by omega,hb,g.out.one _,by omega⟩,by simp[intOf]⟩
   .go_wp2_with(at_builtin;refine Lib.wpList_append_byte rfl _ _ 165 rfl B 5 i0 t37 i c b a _ _ _ rfl f _ _ (by assumption) rfl (by omega) ?_;intro _ _ hb)
    exact⟨⟨_,_,4,rfl,by omega,hb,g.out.one _,by omega⟩,by simp[intOf]⟩
   .go_wp2_with(at_builtin;refine Lib.wpList_append_byte rfl _ _ 165 rfl B 5 i0 t37 i c b a _ _ _ rfl f _ _ (by assumption) rfl (by omega) ?_;intro _ _ hb)
    exact⟨⟨_,_,0,rfl,by omega,hb,g.out.one _,by omega⟩,by simp[intOf]⟩
   .go_wp2_with(at_builtin;refine Lib.wpList_append_byte rfl _ _ 165 rfl B 5 i0 t37 i c b a _ _ _ rfl f _ _ (by assumption) rfl (by omega) ?_;intro _ _ hb)
    exact⟨⟨_,_,-4,rfl,by omega,hb,g.out.one _,by omega⟩,by simp[intOf]⟩
   .go_wp2
    go_ret;exact .of hb (by omega) g.out
 .go_loopw [0,11] (λv s wr=>∃(m:Nat) (ys:List Value) (d:Int),s=.int .i64 d/\(d=12\/d=8\/d=4\/d=0\/d= -4)/\Lib.OwnBuf B 5 v m ys f wr/\mH ys/\4*(m:Int)+d<=4*((n:Int)+2)+12) (λ_ s _=>(intOf s+4).toNat)
  case atStart=>exact⟨_,_,12,rfl,.inl rfl,hb,l.out.1.app (mH.str _),by simp only[Lib.size_two];omega⟩
  case round=>
   clear hb;obtain⟨m,ys,d,rfl,j,hb,h,k⟩:=hrel;have g:Hid (mH ys):=h;clear h;rcases j with rfl|rfl|rfl|rfl|rfl
   .go_wp2_with(at_builtin;refine Lib.wpList_append_byte rfl _ _ 165 rfl B 5 i0 t37 i c b a _ _ _ rfl f _ _ (by assumption) rfl (by omega) ?_;intro _ _ hb)
    exact⟨⟨_,_,8,rfl,by omega,hb,g.out.one _,by omega⟩,by simp[intOf]⟩
   .go_wp2_with(at_builtin;refine Lib.wpList_append_byte rfl _ _ 165 rfl B 5 i0 t37 i c b a _ _ _ rfl f _ _ (by assumption) rfl (by omega) ?_;intro _ _ hb)
    exact⟨⟨_,_,4,rfl,by omega,hb,g.out.one _,by omega⟩,by simp[intOf]⟩
   .go_wp2_with(at_builtin;refine Lib.wpList_append_byte rfl _ _ 165 rfl B 5 i0 t37 i c b a _ _ _ rfl f _ _ (by assumption) rfl (by omega) ?_;intro _ _ hb)
    exact⟨⟨_,_,0,rfl,by omega,hb,g.out.one _,by omega⟩,by simp[intOf]⟩
   .go_wp2_with(at_builtin;refine Lib.wpList_append_byte rfl _ _ 165 rfl B 5 i0 t37 i c b a _ _ _ rfl f _ _ (by assumption) rfl (by omega) ?_;intro _ _ hb)
    exact⟨⟨_,_,-4,rfl,by omega,hb,g.out.one _,by omega⟩,by simp[intOf]⟩
   .go_wp2
    go_ret;exact .of hb (by omega) g.out
 .go_loopw [0,11] (λv s wr=>∃(m:Nat) (ys:List Value) (d:Int),s=.int .i64 d/\(d=12\/d=8\/d=4\/d=0\/d= -4)/\Lib.OwnBuf B 5 v m ys f wr/\mH ys/\4*(m:Int)+d<=4*((n:Int)+2)+12) (λ_ s _=>(intOf s+4).toNat)
  case atStart=>exact⟨_,_,12,rfl,.inl rfl,hb,l.out.1.app (mH.str _),by simp only[Lib.size_two];omega⟩
  case round=>
   clear hb;obtain⟨m,ys,d,rfl,j,hb,h,k⟩:=hrel;have g:Hid (mH ys):=h;clear h;rcases j with rfl|rfl|rfl|rfl|rfl
   .go_wp2_with(at_builtin;refine Lib.wpList_append_byte rfl _ _ 165 rfl B 5 i0 t37 i c b a _ _ _ rfl f _ _ (by assumption) rfl (by omega) ?_;intro _ _ hb)
    exact⟨⟨_,_,8,rfl,by omega,hb,g.out.one _,by omega⟩,by simp[intOf]⟩
   .go_wp2_with(at_builtin;refine Lib.wpList_append_byte rfl _ _ 165 rfl B 5 i0 t37 i c b a _ _ _ rfl f _ _ (by assumption) rfl (by omega) ?_;intro _ _ hb)
    exact⟨⟨_,_,4,rfl,by omega,hb,g.out.one _,by omega⟩,by simp[intOf]⟩
   .go_wp2_with(at_builtin;refine Lib.wpList_append_byte rfl _ _ 165 rfl B 5 i0 t37 i c b a _ _ _ rfl f _ _ (by assumption) rfl (by omega) ?_;intro _ _ hb)
    exact⟨⟨_,_,0,rfl,by omega,hb,g.out.one _,by omega⟩,by simp[intOf]⟩
   .go_wp2_with(at_builtin;refine Lib.wpList_append_byte rfl _ _ 165 rfl B 5 i0 t37 i c b a _ _ _ rfl f _ _ (by assumption) rfl (by omega) ?_;intro _ _ hb)
    exact⟨⟨_,_,-4,rfl,by omega,hb,g.out.one _,by omega⟩,by simp[intOf]⟩
   .go_wp2
    go_ret;exact .of hb (by omega) g.out
 .go_loopw [0,11] (λv s wr=>∃(m:Nat) (ys:List Value) (d:Int),s=.int .i64 d/\(d=12\/d=8\/d=4\/d=0\/d= -4)/\Lib.OwnBuf B 5 v m ys f wr/\mH ys/\4*(m:Int)+d<=4*((n:Int)+2)+12) (λ_ s _=>(intOf s+4).toNat)
  case atStart=>exact⟨_,_,12,rfl,.inl rfl,hb,l.out.1.app (mH.str _),by simp only[Lib.size_two];omega⟩
  case round=>
   clear hb;obtain⟨m,ys,d,rfl,j,hb,h,k⟩:=hrel;have g:Hid (mH ys):=h;clear h;rcases j with rfl|rfl|rfl|rfl|rfl
   .go_wp2_with(at_builtin;refine Lib.wpList_append_byte rfl _ _ 165 rfl B 5 i0 t37 i c b a _ _ _ rfl f _ _ (by assumption) rfl (by omega) ?_;intro _ _ hb)
    exact⟨⟨_,_,8,rfl,by omega,hb,g.out.one _,by omega⟩,by simp[intOf]⟩
   .go_wp2_with(at_builtin;refine Lib.wpList_append_byte rfl _ _ 165 rfl B 5 i0 t37 i c b a _ _ _ rfl f _ _ (by assumption) rfl (by omega) ?_;intro _ _ hb)
    exact⟨⟨_,_,4,rfl,by omega,hb,g.out.one _,by omega⟩,by simp[intOf]⟩
   .go_wp2_with(at_builtin;refine Lib.wpList_append_byte rfl _ _ 165 rfl B 5 i0 t37 i c b a _ _ _ rfl f _ _ (by assumption) rfl (by omega) ?_;intro _ _ hb)
    exact⟨⟨_,_,0,rfl,by omega,hb,g.out.one _,by omega⟩,by simp[intOf]⟩
   .go_wp2_with(at_builtin;refine Lib.wpList_append_byte rfl _ _ 165 rfl B 5 i0 t37 i c b a _ _ _ rfl f _ _ (by assumption) rfl (by omega) ?_;intro _ _ hb)
    exact⟨⟨_,_,-4,rfl,by omega,hb,g.out.one _,by omega⟩,by simp[intOf]⟩
   .go_wp2
    go_ret;exact .of hb (by omega) g.out
 .go_loopw [0,12] (λv s wr=>∃(m:Nat) (ys:List Value) (d:Int),s=.int .i64 d/\(d=28\/d=24\/d=20\/d=16\/d=12\/d=8\/d=4\/d=0\/d= -4)/\Lib.OwnBuf B 5 v m ys f wr/\mH ys/\4*(m:Int)+d<=4*((n:Int)+2)+28) (λ_ s _=>(intOf s+4).toNat)
  case atStart=>exact⟨_,_,28,rfl,.inl rfl,hb,l.out.1.app (mH.str _),by simp only[Lib.size_two];omega⟩
  case round=>
   clear hb;obtain⟨m,ys,d,rfl,j,hb,h,k⟩:=hrel;have g:Hid (mH ys):=h;clear h;rcases j with rfl|rfl|rfl|rfl|rfl|rfl|rfl|rfl|rfl
   .go_wp2_with(at_builtin;refine Lib.wpList_append_byte rfl _ _ 165 rfl B 5 i0 t37 i c b a _ _ _ rfl f _ _ (by assumption) rfl (by omega) ?_;intro _ _ hb)
    exact⟨⟨_,_,24,rfl,by omega,hb,g.out.one _,by omega⟩,by simp[intOf]⟩
   .go_wp2_with(at_builtin;refine Lib.wpList_append_byte rfl _ _ 165 rfl B 5 i0 t37 i c b a _ _ _ rfl f _ _ (by assumption) rfl (by omega) ?_;intro _ _ hb)
    exact⟨⟨_,_,20,rfl,by omega,hb,g.out.one _,by omega⟩,by simp[intOf]⟩
   .go_wp2_with(at_builtin;refine Lib.wpList_append_byte rfl _ _ 165 rfl B 5 i0 t37 i c b a _ _ _ rfl f _ _ (by assumption) rfl (by omega) ?_;intro _ _ hb)
    exact⟨⟨_,_,16,rfl,by omega,hb,g.out.one _,by omega⟩,by simp[intOf]⟩
   .go_wp2_with(at_builtin;refine Lib.wpList_append_byte rfl _ _ 165 rfl B 5 i0 t37 i c b a _ _ _ rfl f _ _ (by assumption) rfl (by omega) ?_;intro _ _ hb)
    exact⟨⟨_,_,12,rfl,by omega,hb,g.out.one _,by omega⟩,by simp[intOf]⟩
   .go_wp2_with(at_builtin;refine Lib.wpList_append_byte rfl _ _ 165 rfl B 5 i0 t37 i c b a _ _ _ rfl f _ _ (by assumption) rfl (by omega) ?_;intro _ _ hb)
    exact⟨⟨_,_,8,rfl,by omega,hb,g.out.one _,by omega⟩,by simp[intOf]⟩
   .go_wp2_with(at_builtin;refine Lib.wpList_append_byte rfl _ _ 165 rfl B 5 i0 t37 i c b a _ _ _ rfl f _ _ (by assumption) rfl (by omega) ?_;intro _ _ hb)
    exact⟨⟨_,_,4,rfl,by omega,hb,g.out.one _,by omega⟩,by simp[intOf]⟩
   .go_wp2_with(at_builtin;refine Lib.wpList_append_byte rfl _ _ 165 rfl B 5 i0 t37 i c b a _ _ _ rfl f _ _ (by assumption) rfl (by omega) ?_;intro _ _ hb)
    exact⟨⟨_,_,0,rfl,by omega,hb,g.out.one _,by omega⟩,by simp[intOf]⟩
   .go_wp2_with(at_builtin;refine Lib.wpList_append_byte rfl _ _ 165 rfl B 5 i0 t37 i c b a _ _ _ rfl f _ _ (by assumption) rfl (by omega) ?_;intro _ _ hb)
    exact⟨⟨_,_,-4,rfl,by omega,hb,g.out.one _,by omega⟩,by simp[intOf]⟩
   .go_wp2
    go_ret;exact .of hb (by omega) g.out
def Mi (x):0<=IntKind.u64.wrap x/\IntKind.u64.wrap x<18446744073709551616:=by
 have h:=wf_wrap .u64 x;simp[Lit.wf,IntKind.min,IntKind.max,IntKind.signed,IntKind.bits]at h;omega
def Zm (e:Ending):Prop:=∃x:Int,e=.returned (.int .u64 x)/\0<=x/\x<18446744073709551616
def Dy (s)(w)(hs:s.size<=140737488355328):
 Calls prog 179 #[.string s] w λe w'=>Zm e/\w'=w:=by
 go_enter func179,ntmps179
 go_wp2
 go_loop [3,7] (λv i=>∃(x:Int) (k:Nat),v=.int .u64 x/\(0<=x/\x<18446744073709551616)/\i=.int .i64 k/\k<=s.size) (λ_ i=>s.size-(intOf i).toNat)
 case atStart=>exact⟨_,0,rfl,⟨by omega,by omega⟩,rfl,by omega⟩
 case round=>
  obtain⟨x,k,rfl,hx,rfl,d⟩:=hrel;have a:Hid (0<=x/\x<18446744073709551616):=hx;clear hx
  by_cases c:k<s.size
  .have b:(k:Int)<s.size:=by omega
   go_wp2;go_round
   case rel=>exact⟨_,k+1,rfl,Mi _,by go_num,by omega⟩
   case measure=>simp[intOf];omega
  .have b:¬(k:Int)<s.size:=by omega
   go_wp2;go_ret;exact⟨⟨x,rfl,a.out.1,a.out.2⟩,rfl⟩
def rA (c)(K):∀(l:List (List UInt8)),(∀x∈l,x.length<=K)->(Lib.joinTail [c] l).length<=(K+1)*l.length
 |[],_=>by simp[Lib.joinTail]
 |a::r,h=>by
  have d:=h a (by simp);have b:=rA c K r (λx hx=>h x (ac1 _ hx));simp only[Lib.joinTail,adr,List.flatten_cons,Z7,adt,List.length_nil]at*;rw[Nat.mul_add];omega
def Nj (c)(K)(l)(h:∀x∈l,x.length<=K):(Lib.join l [c]).length<=(K+1)*l.length:=by
 cases l with
 |nil=>simp[Lib.join_nil]
 |cons a r=>
  have d:=h a (by simp);have b:=rA c K r (λx hx=>h x (ac1 _ hx));rw[Lib.join_cons,Z7,adt,Nat.mul_add];omega
def iF (n:Nat)(e:Ending):Prop:=∃t:ByteArray,e=.returned (.string t)/\t.size<=n
def qM {w:World}{base}{v}{n K}{xs}(h:w.ownsRow base 9 1 v n xs)(hx:∀u∈xs,BK K u):
 ∃ts:List ByteArray,xs=ts.map Value.string/\ts.length=n/\(∀t∈ts,t.size<=K)/\
  ((v=.slice none 0 0/\n=0)\/∃g cap,v=.slice (some ⟨g,0,none⟩) n cap/\n<=cap/\g<w.heap.size/\∀(j:Nat) x,ts[j]? =some x->w.cell? ⟨g,0+j,none⟩=some (.string x)):=by
 have hl:xs.length=n:=by have:=h.1;omega
 have i:∃ts:List ByteArray,xs=ts.map Value.string/\∀t∈ts,t.size<=K:=by
  clear hl h
  induction xs with
  |nil=>exact⟨[],rfl,by simp⟩
  |cons x r f=>
   obtain⟨ts,rfl,c⟩:=f (λu hm=>hx u (ac1 _ hm));obtain⟨s,rfl,hs⟩:=hx x ZX;exact⟨s::ts,rfl,λt hm=>by rcases ZW.1 hm with rfl|hm;exact hs;exact c t hm⟩
 obtain⟨ts,rfl,c⟩:=i;have a:ts.length=n:=by simpa using hl
 refine⟨ts,rfl,a,c,?_⟩;rcases h.2 with⟨rfl,m⟩|⟨g,cap,cur,rfl,_,d,k,hc,hs,b⟩
 .exact .inl ⟨rfl,m⟩
 .refine .inr ⟨g,cap,rfl,k,(ZK.1 d).1,λj x l=>?_⟩
  have e:(ts.map Value.string)[j]? =some (.string x):=by simp[l]
  rw[Z8,cell_of_row w g j cur _ (0,0) d];rw[<-b,Z5]at e;split at e
  .simpa using e
  .cases e
def Nk (c)(v)(n K base)(xs)(w)(h:w.ownsRow base 9 1 v n xs)(hx:∀u∈xs,BK K u)(f:(K+1)*n<=140737488355328):
 Calls prog 176 #[v,.string ⟨#[c]⟩] w λe w'=>iF ((K+1)*n) e/\Below w.heap.size w w':=by
 obtain⟨ts,rfl,hl,i,⟨rfl,l⟩|⟨g,cap,rfl,d,j,hc⟩⟩:=qM h hx
 .refine(Tryz.strings_Join_none none 0 ⟨#[c]⟩ w).mono ?_
  rintro e w' ⟨rfl,rfl⟩;exact⟨⟨_,rfl,adl _⟩,Below.refl _ _⟩
 .have b:=Nj c K (ts.map (·.data.toList)) (λx hx=>by
   obtain⟨t,a,rfl⟩:=adz.1 hx;have:=i t a;rw[<-Lib.size_eq];exact this)
  rw[adH,hl]at b;have k:n<=140737488355328:=ZP (Nat.le_mul_of_pos_left n (by omega)) f;have r:=Tryz.strings_Join g 0 cap ts ⟨#[c]⟩ w hc j (by omega) (by omega) (ZP b f);rw[hl]at r;refine r.mono ?_;rintro e w' ⟨rfl,hb⟩;exact⟨⟨_,rfl,by simpa[ByteArray.size] using b⟩,hb⟩
def rq (v)(n)(R)(w)(H:n<=1099511627776)(h:Ints w v n R)(hR:∀i,i<n->SB (R i))(f:gY w):
 Calls prog 174 #[v] w λe w'=>iF (22*n+1) e/\Below w.heap.size w w':=by
 have hF:=h;obtain⟨ao,cap,rfl,hc,hm,_⟩:=h;obtain⟨i0,D,r,q,p⟩:=info_parts Tryz.JS;have hu:=underlying115;have A:Hid (Ints w (.slice ao n cap) n R/\(∀i,i<n->SB (R i))/\gY w):=⟨hF,hR,f⟩;clear hF hR f
 by_cases E:n=0
 .subst E
  go_enter func174,ntmps174
  go_wp2;go_ret;exact⟨⟨_,rfl,by show 1<=22*0+1;omega⟩,Below.refl _ _⟩
 have C:((n:Int)==0)=false:=by rw[acZ];omega
 go_enter func174,ntmps174
 go_wp2
 go_loopw [3,11] (λv i wr=>∃(k:Nat) (xs:List Value),k<=n/\i=.int .i64 k/\wr.ownsRow w.heap.size 9 1 v k xs/\(∀u∈xs,BK 21 u)/\Below w.heap.size w wr) (λ_ i _=>n-(intOf i).toNat)
 case atStart=>exact⟨0,[],by omega,rfl,World.ownsRow_nil _ _ _ _,by simp,Below.refl _ _⟩
 case round=>
  obtain⟨k,xs,I,rfl,a,j,hb⟩:=hrel;have g:Hid (wr.ownsRow w.heap.size 9 1 u3 k xs/\(∀u∈xs,BK 21 u)/\Below w.heap.size w wr):=⟨a,j,hb⟩;have s:w.heap.size<=wr.heap.size:=hb.size
  by_cases l:k<n
  .have G:(k:Int)<n:=by omega
   obtain⟨F,B,he,_,_,hF⟩:=A.out.1.ext hb;cases he;obtain⟨b,o,y,m⟩:=hF (by omega);subst y;have J:=m k l;clear hF m hb a j
   go_wp2_with(first
        |(go_at_call 177;refine(E5 (R k) wr (A.out.2.1 k l) (A.out.2.2.ext g.out.2.2)).mono ?_;rintro e w1 ⟨d,t,rfl,x⟩;have H1:Hid (Below wr.heap.size wr w1/\t.size<=21/\wr.heap.size<=w1.heap.size):=⟨d,x,d.size⟩;clear d x)
        |(at_builtin;refine wpList_append_own _ rfl _ _ _ rfl w.heap.size 9 i0 _ 1 16 hu D r q p rfl (by omega) _ k xs rfl ((au g.out.1 H1.out.1).alloc _) ⟨w1.heap.size,0,none⟩ 1 1 [.string t] rfl rfl (cell_one_new _ _ _) (by intro u hu;simp at hu;subst hu;rfl) (by unfold maxLen;omega) (by omega) (by have:=H1.out.2.2;simp;omega) ?_;intro v' w2 a c _))
   have z:Hid (w2.ownsRow w.heap.size 9 1 v' (k+1) (xs++[.string t])/\(∀u∈xs++[Value.string t],BK 21 u)/\Below w.heap.size w w2):=by
        refine⟨a,λu hu=>?_,g.out.2.2.trans ((H1.out.1.mono s).trans (lM (au g.out.1 H1.out.1) c (ZL _) (ZP s H1.out.2.2)))⟩;rcases abz.1 hu with hu|hu
        .exact g.out.2.1 u hu
        .simp at hu;subst hu;exact⟨t,rfl,H1.out.2.1⟩
   clear a c;go_wp2;go_roundw
   case rel=>exact⟨k+1,_,by omega,by go_num,z.out.1,z.out.2.1,z.out.2.2⟩
   case measure=>simp[intOf];omega
  .obtain rfl:k=n:=by omega
   clear hb a j;go_wp2_with(go_at_call 176;refine(Nk 44 u3 k 21 w.heap.size xs wr g.out.1 g.out.2.1 (by omega)).mono ?_;rintro e w1 ⟨⟨t,rfl,x⟩,d⟩);go_ret;exact⟨⟨t,rfl,by omega⟩,g.out.2.2.trans (d.mono s)⟩
set_option linter.unusedVariables false in
def gY.low {B}{w w'}(h:gY w)(hb:Below B w w')(a:14<=B)(g:B<=w.heap.size):gY w':=by
 have c:∀b o,b<14->w'.cell? ⟨b,o,none⟩=w.cell? ⟨b,o,none⟩:=λb o hl=>hb.cell (p:=⟨b,o,none⟩) (ZO hl a)
 refine⟨ZP h.size hb.size,var?_below hb Tryz.oL (ZO (by decide) a) h.pow,⟨λk d=>?_,λi f=>?_⟩,λj e=>?_⟩
 .rw[c _ _ (by decide)];exact h.Mf.1 k d
 .rw[c _ _ (by decide),c _ _ (by decide)];exact h.Mf.2 i f
 .rw[c _ _ (by decide)];exact h.Ls j e
def Ac {B}{v}{n}{xs}{a w w1}(h:Lib.OwnBuf B 5 v n xs a w)(hb:Below w.heap.size w w1):Lib.OwnBuf B 5 v n xs a w1:=by
 have c:w.grownBy w1 none:=⟨hb.os,hb.tape,hb.output,hb.size,λk b _=>hb.block k b⟩;refine⟨h.1.kept c ?_,h.2.1.trans (hb.mono h.2.2),ZP h.2.2 hb.size⟩;cases d:v.ownBlock with
 |none=>exact .inl rfl
 |some g=>exact .inr (by simp)
def Sl (x)(b:0<=x)(a:x<256):0<=bits BinOp.and IntKind.u8 x 15/\bits BinOp.and IntKind.u8 x 15<16:=by
 rw[u8_and15 x b a];omega
def xD (B)(D)(n c)(xs)(s)(b w)(hb:Lib.OwnBuf B 5 (.slice D n c) n xs b w)(hu:mH xs)(x:n+s.size<=c)(hc:c<=9223372036854775807)(hlen:n+10*s.size+12<=140737488355328)(A:14<=B)(z:B<=b.heap.size)(h:gY b):
 Calls prog 227 #[.slice D n c,.string s,.int .u8 34,.bool true,.bool false] w (vW B (n+10*s.size+2) b):=by
 obtain⟨i0,p,g,f,d⟩:=info_parts Tryz.infoByte;have t37:=underlying165;have t9:=underlying9;have H:Hid (mH xs/\gY b):=⟨hu,h⟩;clear hu h;have f0:decide ((c:Int)-n<s.size)=false:=adg (by omega);have f1:¬((c:Int)-n<s.size):=by omega
 go_enter func227,ntmps227
 go_wp2_with(at_builtin;refine Lib.wpList_append_byte rfl _ _ 165 rfl B 5 i0 t37 p g f d _ _ _ rfl b _ _ (by assumption) rfl (by omega) ?_;intro _ _ hb)
 go_loopw [0,1] (λv a wr=>∃(m:Nat) (ys:List Value) (t:ByteArray),a=.string t/\Lib.OwnBuf B 5 v m ys b wr/\mH ys/\m+10*t.size<=n+1+10*s.size/\t.size<=s.size) (λ_ a _=>Q3 a)
 case atStart=>exact⟨_,_,s,rfl,hb,H.out.1.one _,by omega,ZL _⟩
 case round=>
  clear hb;obtain⟨m,ys,t,rfl,hb,j,L,J⟩:=hrel;have q:Hid (mH ys/\gY wr):=⟨j,H.out.2.low hb.2.1 A z⟩;clear j
  by_cases O:t.size=0
  .have C:decide ((0:Int)<t.size)=false:=adg (by omega)
   have o:¬(0:Int)<t.size:=(by omega);go_wp2_with(at_builtin;refine Lib.wpList_append_byte rfl _ _ 165 rfl B 5 i0 t37 p g f d _ _ _ rfl b _ _ (by assumption) rfl (by omega) ?_;intro _ _ hb);go_ret;exact .of hb (by omega) (q.out.1.one _)
  .have C:(0:Int)<t.size:=by omega
   have XW:0<t.size:=(by omega);obtain⟨r,k,hd⟩:∃r k:Nat,Lib.decodeGo t=(r,k):=⟨_,_,rfl⟩
   have N:r<=2147483647/\1<=k/\k<=t.size:=by
        have y:Utf8.decode t 0=(r,k):=by
         unfold Lib.decodeGo at hd
         rwa [if_neg (by omega)]at hd
        have G:=decode_le t 0;have F:=Lib.decode_width_pos t 0 (by omega);have E:=Lib.width_le t (by omega);rw[y]at G F E;exact⟨G,F,E⟩
   have P:(0:Int)<=(k:Int):=(by omega);have c2:(k:Int)<=t.size:=(by omega);have z9:(t.extract k t.size).size=t.size-k:=(by rw[ByteArray.size_extract];omega);obtain⟨b0,o⟩:∃b0,((t[0]'XW).toNat:Int)=b0:=⟨_,rfl⟩;have i:0<=b0/\b0<256:=(by rw[<-o];have:=(t[0]'XW).toNat_lt;omega);have d0:0<=b0/16:=(by omega);have d1:b0/16<16:=(by omega);obtain⟨d2,d3⟩:=Sl b0 i.1 i.2;clear i
   go_wp2_with(first
        |(go_at_call 245;refine(Tryz.utf8_DecodeRuneInString t wr q.out.2.Mf).mono ?_;rintro e w3 ⟨he,l⟩;rw[hd]at he;subst he;replace hb:=Ac hb l;clear l)
        |(go_at_call 257;refine(PK B _ _ _ (r:Int) b _ hb q.out.1 (by omega) (by omega) (by omega)).mono ?_;clear hb;rintro e w4 ⟨v',M,I,rfl,hb,K,u⟩)
        |(at_builtin;first
         |(refine Lib.wpList_append_byte rfl _ _ 165 rfl B 5 i0 t37 p g f d _ _ _ rfl b _ _ (by assumption) rfl (by first|omega|(simp only[Lib.size_two];omega)) ?_;intro _ _ hb)
         |(refine Lib.wpList_append_text rfl _ _ 165 9 rfl B 5 i0 t37 t9 p g f d _ _ _ rfl b (by assumption) _ rfl (by first|omega|(simp only[Lib.size_two];omega)) ?_;intro _ _ hb)))
   all_goals
        refine⟨⟨_,_,_,rfl,hb,?_,?_,?_⟩,?_⟩
        .repeat' first
          |exact q.out.1
          |exact u
          |exact mH.str _
          |refine mH.one ?_ _
          |refine mH.app ?_ ?_
        .simp only[ByteArray.size_extract,Lib.size_two];omega
        .simp only[ByteArray.size_extract];omega
        .show(t.extract _ t.size).size<t.size
         simp only[ByteArray.size_extract];omega
def LA {base}{w}{v}{n}{xs}(h:w.ownsRowF base 5 1 v n xs)(hu:mH xs):∃str:ByteArray,str.size=n/\(convert 165 9 v).run prog w=.ok (.string str) w:=by
 have hl:xs.length=n:=by have:=h.1;omega
 rcases h.2 with⟨rfl,k⟩|⟨g,cap,cur,l,rfl,_,j,hf,m,hc,hs,b⟩
 .refine⟨ByteArray.empty,?_,run_convert_bytes_nil (P:=prog) (w:=w) 165 5 underlying165 underlying5 0 0 _ underlying9⟩
  subst k;rfl
 .have d:∃zs:List Int,xs=zs.map (λz=>Value.int .u8 z):=by
   clear hl b h
   induction xs with
   |nil=>exact⟨[],rfl⟩
   |cons x r c=>
    obtain⟨zs,rfl⟩:=c (λu hm=>hu u (ac1 _ hm));obtain⟨z,rfl⟩:=hu x (ZX);exact⟨z::zs,rfl⟩
  obtain⟨zs,rfl⟩:=d;have a:zs.length=n:=by simpa using hl
  refine⟨strOfNums zs,?_,run_convert_bytes_arg (P:=prog) (w:=w) 165 5 underlying165 underlying5 g 0 n cap zs a (λi f=>?_) _ underlying9⟩
  .simp[strOfNums,ByteArray.size,a]
  .have e:(zs.map (λz=>Value.int .u8 z))[i]? =some (.int .u8 (zs.getD i 0)):=by simp[a,f,List.getD]
   rw[Z8,cell_of_row w g i cur _ l j];rw[<-b,Z5]at e;split at e
   .simpa using e
   .cases e
def zX (s)(w)(hs:s.size<=1099511627776)(c:gY w):
 Calls prog 200 #[.string s,.int .u8 34,.bool true,.bool false] w λe w'=>iF (10*s.size+2) e/\Below w.heap.size w w':=by
 obtain⟨i0,l,i,h,g⟩:=info_parts Tryz.infoByte;have j:=underlying165;have hC:(3*(s.size:Int)/2)=((3*s.size/2:Nat):Int):=by omega
 obtain⟨w2,d,b,a⟩:=run_make_own (P:=prog) w w.heap.size 165 5 i0 _ 1 j l i h .i64 .i64 (3*s.size/2) (by rw[g];omega) (by unfold maxLen;omega) (ZL _);rw[<-hC]at d;have f:Lib.OwnBuf w.heap.size 5 (.slice (some ⟨w.heap.size,0,none⟩) 0 (3*s.size/2)) 0 [] w w2:=⟨World.ownsRowF_of b,(Below.refl _ _).grown a (ZL _) (λk p=>by cases p),a.size⟩;have m:Hid (Lib.OwnBuf w.heap.size 5 (.slice (some ⟨w.heap.size,0,none⟩) 0 (3*s.size/2)) 0 [] w w2/\gY w):=⟨f,c⟩;clear b a f c hC
 go_enter func200,ntmps200
 go_wp2_with(go_at_call 227;refine(xD w.heap.size _ 0 (3*s.size/2) [] s w w2 m.out.1 (by intro u hu;cases hu) (by omega) (by omega) (by omega) m.out.2.size (ZL _) m.out.2).mono ?_;rintro e w3 ⟨v',t,o,rfl,hb,v,hu⟩;obtain⟨str,n,q⟩:=LA hb.1 hu;have r:Below w.heap.size w w3:=hb.2.1;clear hb hu);go_ret;exact⟨⟨str,rfl,by omega⟩,r⟩
def xE (s)(w)(hs:s.size<=1099511627776)(a:gY w):
 Calls prog 175 #[.string s] w λe w'=>iF (10*s.size+2) e/\Below w.heap.size w w':=by
 go_enter func175,ntmps175
 go_wp2_with(go_at_call 200;refine(zX s w hs a).mono ?_;rintro e w1 ⟨⟨t,rfl,b⟩,hb⟩);go_ret;exact⟨⟨t,rfl,b⟩,hb⟩
def Total (xs:List Value)(S:Nat):Prop:=∃ts:List ByteArray,xs=ts.map Value.string/\sum ts<=S
def Total.one (t):Total [.string t] t.size:=⟨[t],rfl,by simp[sum]⟩
def Total.app {xs}{S}(h:Total xs S)(t):Total (xs++[.string t]) (S+t.size):=by
 obtain⟨ts,rfl,hs⟩:=h;refine⟨ts++[t],by simp,?_⟩;have:sum (ts++[t])=sum ts+t.size:=by simp[sum]
 omega
def rz (c):∀(l:List ByteArray),(Lib.joinTail [c] (l.map (·.data.toList))).length=sum l+l.length
 |[]=>by simp[Lib.joinTail,sum]
 |a::r=>by
  have b:=rz c r;have e:a.data.toList.length=a.size:=(Lib.size_eq a).symm;rw[sum_cons];simp only[Lib.joinTail,adr,List.flatten_cons,Z7,adt,List.length_nil]at*;omega
def Ni (c)(l):(Lib.join (l.map (·.data.toList)) [c]).length<=sum l+l.length:=by
 cases l with
 |nil=>simp[Lib.join_nil]
 |cons a r=>
  have b:=rz c r;have e:a.data.toList.length=a.size:=(Lib.size_eq a).symm;rw[adr,Lib.join_cons,Z7,sum_cons,adt];omega
def Ei {xs}{S}(h:Total xs S):∀u∈xs,BK S u:=by
 obtain⟨ts,rfl,hs⟩:=h;intro u hu;obtain⟨t,b,rfl⟩:=adz.1 hu;refine⟨t,rfl,ZP ?_ hs⟩;clear hs hu
 induction ts with
 |nil=>cases b
 |cons a r c=>
  rw[sum_cons];rcases ZW.1 b with rfl|b
  .omega
  .have:=c b;omega
def Nh (c)(v)(n S base)(xs)(w)(h:w.ownsRow base 9 1 v n xs)(hx:Total xs S)(s:S+n<=140737488355328):
 Calls prog 176 #[v,.string ⟨#[c]⟩] w λe w'=>iF (S+n) e/\Below w.heap.size w w':=by
 obtain⟨d,m,i⟩:=hx;obtain⟨ts,l,hl,_,hc⟩:=qM (K:=S) h (Ei ⟨d,m,i⟩)
 have f:ts=d:=by
  rw[m]at l;exact((List.map_inj_right (λa b j=>by cases j;rfl)).1 l).symm
 subst f;rcases hc with⟨rfl,q⟩|⟨g,cap,rfl,k,p,hc⟩
 .subst q
  refine(Tryz.strings_Join_none none 0 ⟨#[c]⟩ w).mono ?_;rintro e w' ⟨rfl,rfl⟩;exact⟨⟨_,rfl,adl _⟩,Below.refl _ _⟩
 .have o:=Ni c ts
  have r:=Tryz.strings_Join g 0 cap ts ⟨#[c]⟩ w hc p (by omega) (by omega) (ZP o (by omega));rw[hl]at r;refine r.mono ?_;rintro e w' ⟨rfl,hb⟩;refine⟨⟨_,rfl,?_⟩,hb⟩;show(Lib.join (ts.map (·.data.toList)) [c]).toArray.size<=_
  simp only[List.size_toArray];omega
def UQ (nm:ByteArray)(A:Nat->Option Addr)(N C:Nat->Nat):Value:=.agg #[.string nm,.slice (A 0) (N 0) (C 0),.slice (A 1) (N 1) (C 1),.slice (A 2) (N 2) (C 2),.slice (A 3) (N 3) (C 3)]
def Nc (nm)(A)(N C)(R)(w)(hG:zA w A N C R)(Z:∀q,q<4->∀i,i<N q->SB (R q i))(hn:nm.size<=1099511627776)(I:∀q,q<4->N q<=1099511627776)(y:gY w):
 Calls prog 142 #[UQ nm A N C] w λe w'=>iF (22*(N 0+N 1+N 2+N 3)+10*nm.size+12) e/\Below w.heap.size w w':=by
 have g:Hid (zA w A N C R/\(∀q,q<4->∀i,i<N q->SB (R q i))/\(∀q,q<4->N q<=1099511627776)/\gY w):=⟨hG,Z,I,y⟩;have n0:=I 0 (by omega);have n1:=I 1 (by omega);have n2:=I 2 (by omega);have n3:=I 3 (by omega);clear hG Z I y;obtain⟨i0,P,s,r,p⟩:=info_parts Tryz.JS;have hu:=underlying115;unfold UQ
 go_enter func142,ntmps142
 have γ:=λW=>(by kernel_rfl:Sem.run prog (Instr.index 39 (.agg #[.slice (A 1) (N 1) (C 1),.slice (A 2) (N 2) (C 2),.slice (A 3) (N 3) (C 3)]) (.int .i64 0)) W=.ok (.slice (A 1) (N 1) (C 1)) W)
 have β:=λW=>(by kernel_rfl:Sem.run prog (Instr.index 39 (.agg #[.slice (A 1) (N 1) (C 1),.slice (A 2) (N 2) (C 2),.slice (A 3) (N 3) (C 3)]) (.int .i64 1)) W=.ok (.slice (A 2) (N 2) (C 2)) W)
 have α:=λW=>(by kernel_rfl:Sem.run prog (Instr.index 39 (.agg #[.slice (A 1) (N 1) (C 1),.slice (A 2) (N 2) (C 2),.slice (A 3) (N 3) (C 3)]) (.int .i64 2)) W=.ok (.slice (A 3) (N 3) (C 3)) W)
 go_wp2_with fail;have k:Below w.heap.size w (w.alloc (.cells #[.string nm,.slice (A 0) (N 0) (C 0),.slice (A 1) (N 1) (C 1),.slice (A 2) (N 2) (C 2),.slice (A 3) (N 3) (C 3)] 98)):=(Below.refl _ _).alloc (ZL _) _;refine(rq _ (N 0) (R 0) _ n0 ((g.out.1 0 (by omega)).ext k) (g.out.2.1 0 (by omega)) (g.out.2.2.2.ext k)).mono ?_;rintro e w1 ⟨⟨t0,rfl,L⟩,x⟩
 have E:w1.heap[w.heap.size]? =some (.cells #[.string nm,.slice (A 0) (N 0) (C 0),.slice (A 1) (N 1) (C 1),.slice (A 2) (N 2) (C 2),.slice (A 3) (N 3) (C 3)] 98 (0,0)):=by
  rw[x.block _ (by simp)];exact heap_alloc_new _ _
 have n:w.heap.size+1<=w1.heap.size:=by have:=x.size;simpa using this
 have l:Hid (0=0):=rfl;have J:Hid (w1.heap[w.heap.size]? =some (.cells #[.string nm,.slice (A 0) (N 0) (C 0),.slice (A 1) (N 1) (C 1),.slice (A 2) (N 2) (C 2),.slice (A 3) (N 3) (C 3)] 98 (0,0))/\Below w.heap.size w w1/\w.heap.size+1<=w1.heap.size/\t0.size<=22*N 0+1):=⟨E,k.trans (x.mono (by simp)),n,L⟩;obtain⟨p0,T⟩:=blk E;have V:w.heap.size<w1.heap.size:=n;clear E n x k L;go_wp2;clear p0 T
 go_loopw [3,14] (λv i wr=>∃(j:Int) (m:Nat) (xs:List Value) (S:Nat),i=.int .i64 j/\((j=0/\m=1)\/(j=1/\m=2)\/(j=2/\m=3)\/(j=3/\m=4))/\wr.ownsRow (w.heap.size+1) 9 1 v m xs/\Total xs S/\
  ((j=0->S<=22*N 0+1)/\(j=1->S<=22*(N 0+N 1)+2)/\(j=2->S<=22*(N 0+N 1+N 2)+3)/\(j=3->S<=22*(N 0+N 1+N 2+N 3)+4))/\
  wr.heap[w.heap.size]? =some (.cells #[.string nm,.slice (A 0) (N 0) (C 0),.slice (A 1) (N 1) (C 1),.slice (A 2) (N 2) (C 2),.slice (A 3) (N 3) (C 3)] 98 (0,0))/\Below w.heap.size w wr) (λ_ i _=>(3-intOf i).toNat)
 case atStart=>
  refine⟨0,1,[.string t0],t0.size,rfl,by omega,?_,Total.one t0,by have:=J.out.2.2.2;omega,(Below.heap_alloc _ _ _ (by have:=J.out.2.2.1;omega)).trans J.out.1,J.out.2.1.alloc (by have:=J.out.2.2.1;omega) _⟩;exact⟨rfl,.inr ⟨w1.heap.size,1,#[.string t0],rfl,by have:=J.out.2.2.1;omega,heap_alloc_new w1 _,ZL _,by unfold maxLen;omega,rfl,rfl⟩⟩
 case round=>
  obtain⟨j,m,xs,S,rfl,U,a,X,Y,D,M⟩:=hrel;have c:Hid (wr.ownsRow (w.heap.size+1) 9 1 u3 m xs/\Total xs S/\wr.heap[w.heap.size]? =some (.cells #[.string nm,.slice (A 0) (N 0) (C 0),.slice (A 1) (N 1) (C 1),.slice (A 2) (N 2) (C 2),.slice (A 3) (N 3) (C 3)] 98 (0,0))/\Below w.heap.size w wr):=⟨a,X,D,M⟩;have z:Hid ((j=0->S<=22*N 0+1)/\(j=1->S<=22*(N 0+N 1)+2)/\(j=2->S<=22*(N 0+N 1+N 2)+3)/\(j=3->S<=22*(N 0+N 1+N 2+N 3)+4)):=Y;have K:w.heap.size+1<=wr.heap.size:=(ZK.1 D).1;clear a X D M Y l;have l:Hid (w.heap.size+1<=wr.heap.size):=K;clear K;rcases U with⟨rfl,rfl⟩|⟨rfl,rfl⟩|⟨rfl,rfl⟩|⟨rfl,rfl⟩
  .have f:Hid (S<=22*N 0+1):=z.out.1 rfl
   clear z;have hw:=c.out.2.2.1;obtain⟨Q,B⟩:=blk hw;clear hw
   go_wp2_with(first
        |(go_at_call 174;refine(rq _ (N 1) (R 1) wr (g.out.2.2.1 1 (by omega)) ((g.out.1 1 (by omega)).ext c.out.2.2.2) (g.out.2.1 1 (by omega)) (g.out.2.2.2.ext c.out.2.2.2)).mono ?_;rintro e w3 ⟨⟨t,rfl,o⟩,d⟩;have H1:Hid (Below wr.heap.size wr w3/\t.size<=22*N 1+1/\wr.heap.size<=w3.heap.size):=⟨d,o,d.size⟩;clear d o)
        |(at_builtin;refine wpList_append_own _ rfl _ _ _ rfl (w.heap.size+1) 9 i0 _ 1 16 hu P s r p rfl (by omega) _ 1 xs rfl ((au c.out.1 H1.out.1).alloc _) ⟨w3.heap.size,0,none⟩ 1 1 [.string t] rfl rfl (cell_one_new _ _ _) (by intro u hu;simp at hu;subst hu;rfl) (by unfold maxLen;omega) (by omega) (by have:=H1.out.2.2;have:=c.out.2.2.2.size;have:=l.out;simp;omega) ?_;intro v' w4 a b _;have h:Hid (_/\_):=⟨a,b⟩;obtain⟨H,G,rfl⟩:=aj a;clear a b))
   exact⟨⟨1,2,_,_,rfl,by omega,h.out.1,c.out.2.1.app t,by have:=H1.out.2.1;have:=f.out;omega,(tL (au c.out.1 H1.out.1) h.out.2 ((H1.out.1.block _ (by have:=c.out.2.2.2.size;have:=l.out;omega)).trans c.out.2.2.1) (by omega)),(c.out.2.2.2.trans ((H1.out.1.mono (by have:=c.out.2.2.2.size;omega)).trans (lM (au c.out.1 H1.out.1) h.out.2 (by omega) (by have:=c.out.2.2.2.size;have:=H1.out.2.2;omega))))⟩,by simp[intOf]⟩
  .have f:Hid (S<=22*(N 0+N 1)+2):=z.out.2.1 rfl
   clear z;have hw:=c.out.2.2.1;obtain⟨Q,B⟩:=blk hw;clear hw
   go_wp2_with(first
        |(go_at_call 174;refine(rq _ (N 2) (R 2) wr (g.out.2.2.1 2 (by omega)) ((g.out.1 2 (by omega)).ext c.out.2.2.2) (g.out.2.1 2 (by omega)) (g.out.2.2.2.ext c.out.2.2.2)).mono ?_;rintro e w3 ⟨⟨t,rfl,o⟩,d⟩;have H1:Hid (Below wr.heap.size wr w3/\t.size<=22*N 2+1/\wr.heap.size<=w3.heap.size):=⟨d,o,d.size⟩;clear d o)
        |(at_builtin;refine wpList_append_own _ rfl _ _ _ rfl (w.heap.size+1) 9 i0 _ 1 16 hu P s r p rfl (by omega) _ 2 xs rfl ((au c.out.1 H1.out.1).alloc _) ⟨w3.heap.size,0,none⟩ 1 1 [.string t] rfl rfl (cell_one_new _ _ _) (by intro u hu;simp at hu;subst hu;rfl) (by unfold maxLen;omega) (by omega) (by have:=H1.out.2.2;have:=c.out.2.2.2.size;have:=l.out;simp;omega) ?_;intro v' w4 a b _;have h:Hid (_/\_):=⟨a,b⟩;obtain⟨H,G,rfl⟩:=aj a;clear a b))
   exact⟨⟨2,3,_,_,rfl,by omega,h.out.1,c.out.2.1.app t,by have:=H1.out.2.1;have:=f.out;omega,(tL (au c.out.1 H1.out.1) h.out.2 ((H1.out.1.block _ (by have:=c.out.2.2.2.size;have:=l.out;omega)).trans c.out.2.2.1) (by omega)),(c.out.2.2.2.trans ((H1.out.1.mono (by have:=c.out.2.2.2.size;omega)).trans (lM (au c.out.1 H1.out.1) h.out.2 (by omega) (by have:=c.out.2.2.2.size;have:=H1.out.2.2;omega))))⟩,by simp[intOf]⟩
  .have f:Hid (S<=22*(N 0+N 1+N 2)+3):=z.out.2.2.1 rfl
   clear z;have hw:=c.out.2.2.1;obtain⟨Q,B⟩:=blk hw;clear hw
   go_wp2_with(first
        |(go_at_call 174;refine(rq _ (N 3) (R 3) wr (g.out.2.2.1 3 (by omega)) ((g.out.1 3 (by omega)).ext c.out.2.2.2) (g.out.2.1 3 (by omega)) (g.out.2.2.2.ext c.out.2.2.2)).mono ?_;rintro e w3 ⟨⟨t,rfl,o⟩,d⟩;have H1:Hid (Below wr.heap.size wr w3/\t.size<=22*N 3+1/\wr.heap.size<=w3.heap.size):=⟨d,o,d.size⟩;clear d o)
        |(at_builtin;refine wpList_append_own _ rfl _ _ _ rfl (w.heap.size+1) 9 i0 _ 1 16 hu P s r p rfl (by omega) _ 3 xs rfl ((au c.out.1 H1.out.1).alloc _) ⟨w3.heap.size,0,none⟩ 1 1 [.string t] rfl rfl (cell_one_new _ _ _) (by intro u hu;simp at hu;subst hu;rfl) (by unfold maxLen;omega) (by omega) (by have:=H1.out.2.2;have:=c.out.2.2.2.size;have:=l.out;simp;omega) ?_;intro v' w4 a b _;have h:Hid (_/\_):=⟨a,b⟩;obtain⟨H,G,rfl⟩:=aj a;clear a b))
   exact⟨⟨3,4,_,_,rfl,by omega,h.out.1,c.out.2.1.app t,by have:=H1.out.2.1;have:=f.out;omega,(tL (au c.out.1 H1.out.1) h.out.2 ((H1.out.1.block _ (by have:=c.out.2.2.2.size;have:=l.out;omega)).trans c.out.2.2.1) (by omega)),(c.out.2.2.2.trans ((H1.out.1.mono (by have:=c.out.2.2.2.size;omega)).trans (lM (au c.out.1 H1.out.1) h.out.2 (by omega) (by have:=c.out.2.2.2.size;have:=H1.out.2.2;omega))))⟩,by simp[intOf]⟩
  .have f:Hid (S<=22*(N 0+N 1+N 2+N 3)+4):=z.out.2.2.2 rfl
   clear z;have hw:=c.out.2.2.1;obtain⟨Q,B⟩:=blk hw;clear hw
   go_wp2_with(first
        |(go_at_call 175;refine(xE nm wr hn (g.out.2.2.2.ext c.out.2.2.2)).mono ?_;rintro e w3 ⟨⟨t,rfl,o⟩,d⟩;have H1:Hid (Below wr.heap.size wr w3/\t.size<=10*nm.size+2/\wr.heap.size<=w3.heap.size):=⟨d,o,d.size⟩;clear d o)
        |(at_builtin;refine wpList_append_own _ rfl _ _ _ rfl (w.heap.size+1) 9 i0 _ 1 16 hu P s r p rfl (by omega) _ 4 xs rfl ((au c.out.1 H1.out.1).alloc _) ⟨w3.heap.size,0,none⟩ 1 1 [.string t] rfl rfl (cell_one_new _ _ _) (by intro u hu;simp at hu;subst hu;rfl) (by unfold maxLen;omega) (by omega) (by have:=H1.out.2.2;have:=c.out.2.2.2.size;have:=l.out;simp;omega) ?_;intro v' w4 a b _;have h:Hid (_/\_):=⟨a,b⟩;obtain⟨H,G,rfl⟩:=aj a;clear a b)
        |(go_at_call 176;refine(Nh 32 _ 5 (S+t.size) (w.heap.size+1) _ w4 h.out.1 (c.out.2.1.app t) (by have:=H1.out.2.1;have:=f.out;omega)).mono ?_;rintro e w5 ⟨⟨t5,rfl,F⟩,O⟩;have H5:Hid (Below w4.heap.size w4 w5/\t5.size<=S+t.size+5):=⟨O,F⟩;have δ:t5.size+1<=9223372036854775807:=ZP (Nat.succ_le_succ F) (by have:=H1.out.2.1;have:=f.out;omega);clear O F))
   go_ret;refine⟨⟨_,rfl,?_⟩,?_⟩
   .simp only[ByteArray.size_append]
    have e1:(⟨#[10]⟩:ByteArray).size=1:=rfl;have a1:=H1.out.2.1;have a2:=f.out;have a3:=H5.out.2;omega
   .exact c.out.2.2.2.trans ((H1.out.1.mono (by have:=l.out;omega)).trans ((lM (au c.out.1 H1.out.1) h.out.2 (by omega) (by have:=H1.out.2.2;have:=l.out;omega)).trans (H5.out.1.mono (by have:=(LU (au c.out.1 H1.out.1) h.out.2).size;have:=H1.out.2.2;have:=l.out;omega))))
def Mj (w)(a:gY w):
 Calls prog 262 #[.int .u64 16] w λe w'=>e=.returned (.int .i64 4)/\w'=w:=by
 have k:(IntKind.u64.wrap (bits BinOp.and IntKind.u64 16 (IntKind.u64.wrap (-16))*285870213051353865)/288230376151711744)=15:=by decide
 have hc:=a.Ls 15 (by decide);have b:Lib.deBruijn64tab.getD 15 0=4:=by decide
 rw[b]at hc
 go_enter func262,ntmps262
 go_wp2;go_ret;exact⟨rfl,rfl⟩
def uX (W:World)(a:Nat):Prop:=a<W.heap.size/\∀j,j<65->(∃z,W.cell? ⟨a,j,none⟩=some (.int .u8 z))/\W.frozen? ⟨a,j,none⟩=false
def uX.set {W}{a}(h:uX W a)(i)(c:i<65)(z):uX (W.setCell ⟨a,i,none⟩ (.int .u8 z)) a:=by
 refine⟨by have:=h.1;simpa using this,λj b=>⟨?_,by rw[World.frozen?_setCell];exact(h.2 j b).2⟩⟩
 by_cases e:j=i
 .subst e
  obtain⟨y,hy⟩:=(h.2 j b).1;exact⟨z,World.cell?_setCell_same' _ _ _ (by rw[hy];rfl)⟩
 .obtain⟨y,hy⟩:=(h.2 j b).1
  exact⟨y,(World.cell?_setCell_other _ _ _ _ (by intro he;cases he;exact e rfl)).trans hy⟩
def UG (x)(a:0<=x)(d:x<18446744073709551616):0<=bits BinOp.and IntKind.u64 x 15/\bits BinOp.and IntKind.u64 x 15<16:=by
 obtain⟨n,rfl⟩:=Int.eq_ofNat_of_zero_le a;have e:=bits_and_u64_nat n 15 (by omega) (by decide);have c:n&&&15=n%16:=Nat.and_two_pow_sub_one_eq_mod n 4;have b:bits BinOp.and IntKind.u64 (n:Int) 15=((n&&&15:Nat):Int):=e;rw[b,c];omega
def KM:Nat->Int
 |0=>16
 |k+1=>16*KM k
def OQ (W)(b k:Nat)(e:k<=15):(Instr.sliceAt 311 (.pointer (some ⟨b,0,none⟩)) (some (.int .i64 (49+(k:Int)))) none none).run prog W=.ok (.slice (some ⟨b,49+k,none⟩) (16-k) (16-k)) W:=by
 have a:Program.arrayLen prog 311=65:=by kernel_rfl
 have c:Program.elem prog 311=5:=by kernel_rfl
 have hu:prog.underlying 311=some (.array (Program.arrayLen prog 311) (Program.elem prog 311)):=by rw[a,c];exact underlying311
 rw[run_sliceAt_array_l W _ _ hu .i64 (49+(k:Int)) (by omega) (by rw[a];omega),a,c,Tryz.sizeOf5];simp only[Result.andThen,slicedAt];have d:((49+(k:Int))).toNat=49+k:=by omega
 rw[d,if_neg (by omega)];simp[Addr.add];omega
def Sb {W}{b}(h:uX W b)(k)(f:k<=15):∃str:ByteArray,str.size=16-k/\(convert 165 9 (.slice (some ⟨b,49+k,none⟩) (16-k) (16-k))).run prog W=.ok (.string str) W:=by
 have a:∀m,m<=16-k->∃zs:List Int,zs.length=m/\∀i,i<m->W.cell? ⟨b,49+k+i,none⟩=some (.int .u8 (zs.getD i 0)):=by
  intro m
  induction m with
  |zero=>exact λ_=>⟨[],rfl,λi c=>absurd c (ZV _)⟩
  |succ m d=>
   intro hm;obtain⟨zs,hl,hc⟩:=d (by omega);obtain⟨z,a⟩:=(h.2 (49+k+m) (by omega)).1;refine⟨zs++[z],by simp[hl],λi c=>?_⟩
   by_cases e:i<m
   .rw[hc i e];simp[List.getD,List.getElem?_append_left (show i<zs.length by omega)]
   .obtain rfl:i=m:=by omega
    rw[a];simp[List.getD,<-hl]
 obtain⟨zs,hl,hc⟩:=a (16-k) (ZL _);exact⟨strOfNums zs,by rw[strOfNums_size];exact hl,run_convert_bytes_arg (P:=prog) (w:=W) 165 5 underlying165 underlying5 b (49+k) (16-k) (16-k) zs hl hc _ underlying9⟩
def Oz (e:Ending):Prop:=∃t:ByteArray,e=.returned (.tuple #[.slice none 0 0,.string t])/\t.size<=65
def yA (x)(w)(u:0<=x)(t:x<18446744073709551616)(c:gY w):
 Calls prog 233 #[.slice none 0 0,.int .u64 x,.int .i64 16,.bool false,.bool false] w λe w'=>Oz e/\Below w.heap.size w w':=by
 have n:Hid (0<=x/\x<18446744073709551616/\gY w):=⟨u,t,c⟩;clear u t c
 go_enter func233,ntmps233
 go_wp2_with(first
  |(go_at_call 262;refine(Mj _ (n.out.2.2.ext ((Below.refl _ _).alloc (ZL _) _))).mono ?_;rintro e w1 ⟨rfl,hw⟩;obtain rfl:=hw.symm)
  |(go_at_call 261;go_in))
 obtain⟨f,a⟩:∃f,f=w.alloc (.cells Tryz.zeroCells311 311):=⟨_,rfl⟩;rw[<-a]
 have l:uX f w.heap.size:=by
  have hb:f.heap[w.heap.size]? =some (.cells Tryz.zeroCells311 311 (0,0)):=by rw[a];exact heap_alloc_new _ _
  obtain⟨q,B⟩:=blk hb;refine⟨by rw[a];simp,λj F=>⟨⟨0,?_⟩,B j⟩⟩;rw[q j];have C:Tryz.zeroCells311=Array.replicate 65 (Value.int .u8 0):=by kernel_rfl
  rw[C];simp[F]
 have g:Below w.heap.size w f:=by rw[a];exact(Below.refl _ _).alloc (ZL _) _
 clear a;have A:Hid (uX f w.heap.size/\Below w.heap.size w f):=⟨l,g⟩;clear l g
 go_loopw [1,13] (λv i wr=>∃(y:Int) (k:Nat),v=.int .u64 y/\(0<=y/\y<KM k/\y<18446744073709551616)/\i=.int .i64 (50+(k:Int))/\k<=15/\uX wr w.heap.size/\Below w.heap.size w wr) (λv _ _=>(intOf v).toNat)
 case atStart=>exact⟨x,15,rfl,⟨n.out.1,by have:KM 15=18446744073709551616:=by decide
                                          rw[this];exact n.out.2.1,n.out.2.1⟩,rfl,by omega,A.out.1,A.out.2⟩
 case round=>
  obtain⟨y,k,rfl,hy,rfl,s,m,hb⟩:=hrel;have p:=UG y hy.1 hy.2.2;obtain⟨d,hd⟩:∃d,bits BinOp.and IntKind.u64 y 15=d:=⟨_,rfl⟩;rw[hd]at p;have d0:(d<36):=by omega
  have b:Hid (uX wr w.heap.size/\Below w.heap.size w wr/\0<=y/\y<KM k/\y<18446744073709551616):=⟨m,hb,hy⟩;have f1:=(m.2 (49+k) (by omega)).2;obtain⟨z1,g1⟩:=(m.2 (49+k) (by omega)).1;have H:(50+(k:Int)-1)=((49+k:Nat):Int):=by omega
  clear m hb hy
  by_cases G:16<=y
  .go_wp2
   cases k with
   |zero=>
    exfalso;have h:=b.out.2.2.2.1;simp only[KM]at h;omega
   |succ k=>
    have hp:=b.out.2.2.2.1;have J:=b.out.2.2.1;have I:=b.out.2.2.2.2;simp only[KM]at hp;exact⟨⟨y/16,k,rfl,⟨by omega,by omega,by omega⟩,by congr 1;omega,by omega,b.out.1.set _ (by omega) _,b.out.2.1.setCell (ZL _) _⟩,by simp[intOf];omega⟩
  .have D:=b.out.2.2.1
   have r:y<36:=(by omega);have E:=λW=>OQ W w.heap.size k s
   have hcs:∀z:Int,∃str:ByteArray,str.size=16-k/\(convert 165 9 (.slice (some ⟨w.heap.size,49+k,none⟩) (16-k) (16-k))).run prog (wr.setCell ⟨w.heap.size,49+k,none⟩ (.int .u8 z))=.ok (.string str) (wr.setCell ⟨w.heap.size,49+k,none⟩ (.int .u8 z)):=
        λz=>Sb (b.out.1.set (49+k) (by omega) z) k s
   go_wp2;obtain⟨str,hs,o⟩:=hcs _;rw[o];go_wp2;go_ret2;exact⟨⟨str,rfl,by omega⟩,b.out.2.1.setCell (ZL _) _⟩
def yz (x)(w)(d:0<=x)(c:x<18446744073709551616)(a:gY w):
 Calls prog 178 #[.int .u64 x,.int .i64 16] w λe w'=>iF 65 e/\Below w.heap.size w w':=by
 go_enter func178,ntmps178
 go_wp2_with(first
  |(go_at_call 233;refine(yA x w d c a).mono ?_;rintro e w1 ⟨⟨t,rfl,b⟩,hb⟩)
  |go_in)
 go_ret;exact⟨⟨t,rfl,b⟩,hb⟩
def NC (n:Nat)(s)(w)(i:n<=9223372036854775807)(hs:s.size<=140737488355328)(a:gY w):
 Calls prog 143 #[.int .i64 n,.string s] w λe w'=>iF 100 e/\Below w.heap.size w w':=by
 have d:Hid (gY w):=a;clear a
 go_enter func143,ntmps143
 go_wp2_with(first
  |(go_at_call 177;refine(E5 (n:Int) w ⟨by omega,by omega⟩ d.out).mono ?_;rintro e w1 ⟨b,t1,rfl,g⟩;have h:t1.size<=1000:=by omega)
  |(go_at_call 179;refine(Dy s _ hs).mono ?_;rintro e w2 ⟨⟨x,rfl,x0,x1⟩,hw⟩;obtain rfl:=hw.symm)
  |(go_at_call 178;refine(yz x _ x0 x1 (d.out.ext b)).mono ?_;rintro e w3 ⟨⟨t3,rfl,f⟩,c⟩))
 go_ret;refine⟨⟨_,rfl,?_⟩,b.trans (c.mono b.size)⟩;simp only[ByteArray.size_append];have l:(⟨#[98,111,120,101,115,32]⟩:ByteArray).size=6:=rfl;have k:(⟨#[32]⟩:ByteArray).size=1:=rfl;have j:(⟨#[10]⟩:ByteArray).size=1:=rfl;omega
def Kg (w:World)(b o D:Nat):Prop:=∃(nm:ByteArray) (A:Nat->Option Addr) (N C:Nat->Nat) (R:Nat->Nat->Int),
 w.cell? ⟨b,o,none⟩=some (.string nm)/\w.cell? ⟨b,o+1,none⟩=some (.slice (A 0) (N 0) (C 0))/\w.cell? ⟨b,o+2,none⟩=some (.slice (A 1) (N 1) (C 1))/\w.cell? ⟨b,o+3,none⟩=some (.slice (A 2) (N 2) (C 2))/\w.cell? ⟨b,o+4,none⟩=some (.slice (A 3) (N 3) (C 3))/\
 zA w A N C R/\(∀q,q<4->∀i,i<N q->SB (R q i))/\22*(N 0+N 1+N 2+N 3)+10*nm.size<=D
def BO (w:World)(v:Value)(n D:Nat):Prop:=∃ao cap,v=.slice ao n cap/\n<=cap/\n<=9223372036854775807/\(0<n->∃b o,ao=some ⟨b,o,none⟩/\b<w.heap.size/\∀i,i<n->Kg w b (o+i*5) D)
def Kg.ext {w w'}{b o D}(h:Kg w b o D)(hl:b<w.heap.size)(hb:Below w.heap.size w w'):Kg w' b o D:=by
 obtain⟨nm,A,N,C,R,l,k,i,g,f,d,a,e⟩:=h;have c:∀j,w'.cell? ⟨b,j,none⟩=w.cell? ⟨b,j,none⟩:=λj=>hb.cell (p:=⟨b,j,none⟩) hl
 exact⟨nm,A,N,C,R,(c _).trans l,(c _).trans k,(c _).trans i,(c _).trans g,(c _).trans f,d.ext hb,a,e⟩
def BO.ext {w w'}{v}{n D}(h:BO w v n D)(hb:Below w.heap.size w w'):BO w' v n D:=by
 obtain⟨ao,cap,rfl,f,e,d⟩:=h;refine⟨ao,cap,rfl,f,e,λg=>?_⟩;obtain⟨b,o,rfl,hl,c⟩:=d g;exact⟨b,o,rfl,ZO hl hb.size,λi a=>(c i a).ext hl hb⟩
def BA {B b}{bs}{w w1}(h:Lib.IsBuilderF 200 5 B b bs w)(hb:Below w.heap.size w w1):Lib.IsBuilderF 200 5 B b bs w1:=by
 have e:w.grownBy w1 none:=⟨hb.os,hb.tape,hb.output,hb.size,λk d _=>hb.block k d⟩
 have one:∀p,Lib.BuilderAtF 200 5 B b p bs w->Lib.BuilderAtF 200 5 B b p bs w1:=by
  rintro p ⟨f,v,hw,a,c⟩;refine⟨f,v,(hb.block _ (ZK.1 hw).1).trans hw,a.kept e ?_,c⟩;cases i:v.ownBlock with
  |none=>exact .inl rfl
  |some g=>exact .inr (by simp)
 exact h.elim (λx=>.inl (one _ x)) (λx=>.inr (one _ x))
def WA:Lays.n166 prog Tryz.lays156_ren:={Tryz.lays156 with}
def Mm (v)(n D)(w)(h:BO w v n D)(hn:n*(D+12)<=140737488355000)(X:n<=1099511627776)(hD:D<=1099511627776)(p:gY w):
 Calls prog 88 #[v] w λe w'=>iF (n*(D+12)+100) e/\Below w.heap.size w w':=by
 have hF:=h;obtain⟨ao,cap,rfl,_,hm,_⟩:=h;have K:Hid (BO w (.slice ao n cap) n D/\gY w):=⟨hF,p⟩;clear hF p
 go_enter func88,ntmps88
 go_wp2_with fail;obtain⟨x,m⟩:∃x,x=w.alloc (.cells #[.pointer none,.slice none 0 0] 200):=⟨_,rfl⟩;rw[<-m];have a:Lib.IsBuilderF 200 5 w.heap.size w.heap.size (Lib.byteCells []) x:=.inl ⟨ZL _,.slice none 0 0,by rw[m];exact heap_alloc_new _ _,World.ownsRowF_nil _ _ _ _,by simp[Value.ownBlock]⟩;have G:Below w.heap.size w x:=by rw[m];exact(Below.refl _ _).alloc (ZL _) _
 have S:Hid (Lib.IsBuilderF 200 5 w.heap.size w.heap.size (Lib.byteCells []) x/\Below w.heap.size w x):=⟨a,G⟩;clear a G m
 go_loopw [8] (λi wr=>∃(k:Nat) (l:List UInt8),k<=n/\i=.int .i64 k/\Lib.IsBuilderF 200 5 w.heap.size w.heap.size (Lib.byteCells l) wr/\l.length<=k*(D+12)/\Below w.heap.size w wr) (λi _=>n-(intOf i).toNat)
 case atStart=>exact⟨0,[],by omega,rfl,S.out.1,by simp,S.out.2⟩
 case round=>
  obtain⟨k,l,hk,rfl,a,hl,hb⟩:=hrel;have j:Hid (Lib.IsBuilderF 200 5 w.heap.size w.heap.size (Lib.byteCells l) wr/\Below w.heap.size w wr/\l.length<=k*(D+12)/\w.heap.size<=wr.heap.size):=⟨a,hb,hl,hb.size⟩;have α:k*(D+12)<=n*(D+12):=Nat.mul_le_mul_right _ hk
  by_cases y:k<n
  .have kn:(k:Int)<n:=by omega
   have L:(k+1)*(D+12)<=n*(D+12):=Nat.mul_le_mul_right _ y;have Z:(k+1)*(D+12)=k*(D+12)+(D+12):=Nat.succ_mul _ _;obtain⟨γ,Q,he,_,_,hF⟩:=K.out.1.ext hb;cases he;obtain⟨b,o,I,M,F⟩:=hF (by omega);subst I;obtain⟨nm,A,N,C,R,e0,e1,e2,e3,e4,P,O,β⟩:=F k y;have J:Hid (zA wr A N C R/\(∀q,q<4->∀i,i<N q->SB (R q i))/\gY wr):=⟨P,O,K.out.2.ext hb⟩
   have E:∀q,q<4->N q<=1099511627776:=λq hq=>by
        have:q=0\/q=1\/q=2\/q=3:=(by omega);rcases this with rfl|rfl|rfl|rfl<;>omega
   have HN:Hid (∀q,q<4->N q<=1099511627776):=E;clear hF F hb P O E a hl;go_wp2_with fail;have d:Below wr.heap.size wr (wr.alloc (.cells #[.string nm,.slice (A 0) (N 0) (C 0),.slice (A 1) (N 1) (C 1),.slice (A 2) (N 2) (C 2),.slice (A 3) (N 3) (C 3)] 98)):=(Below.refl _ _).alloc (ZL _) _;refine(Nc nm A N C R _ (J.out.1.ext d) J.out.2.1 (by omega) HN.out (J.out.2.2.ext d)).mono ?_;rintro e w3 ⟨⟨t,rfl,V⟩,g⟩;have f:Below wr.heap.size wr w3:=d.trans (g.mono d.size);have H:Hid (Below wr.heap.size wr w3/\t.size<=D+12/\wr.heap.size<=w3.heap.size):=⟨f,by omega,f.size⟩;clear d g f V;go_wp2_with(go_at_call 141;refine(Any.Builder_WriteString_f WA Tryz.Builder_Extra_156 w.heap.size w.heap.size (Lib.byteCells l) t w3 (BA j.out.1 H.out.1) (by have:=H.out.2.1;have:=j.out.2.2.1;simp only[Lib.byteCells,adH];omega) (by have:=H.out.2.2;have:=j.out.2.2.2;omega)).mono ?_;rintro e w4 ⟨rfl,r,c⟩;have u:Hid (_/\Below w.heap.size w3 w4):=⟨r,c⟩;clear r c);go_roundw
   case rel=>exact⟨k+1,l++t.data.toList,by omega,by go_num,by rw[Lib.byteCells_append,<-Lib.strCells_eq];exact .inr u.out.1,by have:=H.out.2.1;have:=j.out.2.2.1;have e:=Lib.size_eq t;simp only[Z7];omega,j.out.2.1.trans ((H.out.1.mono j.out.2.2.2).trans u.out.2)⟩
   case measure=>simp[intOf];omega
  .obtain rfl:k=n:=by omega
   clear hb a hl;go_wp2_with fail;refine(Tryz.Builder_String_any_f w.heap.size w.heap.size l wr j.out.1 j.out.2.2.2).mono ?_;rintro e w3 ⟨rfl,s,g⟩;have H3:Hid (Lib.IsBuilderF 200 5 w.heap.size w.heap.size (Lib.byteCells l) w3/\Below w.heap.size w w3):=⟨s,j.out.2.1.trans g⟩;clear s g;go_wp2_with fail;have W:(⟨l.toArray⟩:ByteArray).size<=k*(D+12):=by have:=j.out.2.2.1;simpa[ByteArray.size] using this
   refine(NC k ⟨l.toArray⟩ w3 hm (by omega) (K.out.2.ext H3.out.2)).mono ?_;rintro e w4 ⟨⟨t4,rfl,U⟩,c⟩;have u:Hid (Below w3.heap.size w3 w4/\w.heap.size<=w3.heap.size/\w3.heap.size<=w4.heap.size):=⟨c,H3.out.2.size,c.size⟩;clear c;go_wp2_with fail;refine(Tryz.Builder_String_any_f w.heap.size w.heap.size l w4 (BA H3.out.1 u.out.1) (by have:=u.out.2.1;have:=u.out.2.2;omega)).mono ?_;rintro e T ⟨rfl,z,B⟩;have H5:Hid (Below w.heap.size w4 T):=B;clear z B;have Y:t4.size+(⟨l.toArray⟩:ByteArray).size<=9223372036854775807:=(by omega);go_wp2;go_ret;refine⟨⟨_,rfl,?_⟩,H3.out.2.trans ((u.out.1.mono u.out.2.1).trans H5.out)⟩;simp only[ByteArray.size_append];omega
end
section
open Go Go.Conc Go.ConcN Go.RowKit
open Go.ConcR (KK wgBlock WgAt stA smA rd wr mk Payload DC0)
def SG:List Nat:=[4,5,12,13]
abbrev T8 (c:Nat):Prop:=c∈SG
def WX:List Nat:=[0]
structure Az (w:World)(Z:Nat->Prop):Prop where
 env:gY w
 err:∀g,g∈WX->∃t a,w.cell? ⟨g,0,none⟩=some (.iface t (.pointer (some a)))/\sO t=true/\Z a.block
 tabs:∀g,T8 g->∃xs e f,w.heap[g]? =some (.cells xs e f)/\∀v∈xs.toList,∃k n,v=.int k n
 JV:∀g,g∈QD->Z g
def QZ {g}(h:T8 g):g∈QD:=by
 have key:(SG.all λg=>QD.contains g)=true:=by decide
 exact adv (ZU.1 key g h)
def LF {w:World}{g}{cs}{e}{f}(h:w.heap[g]? =some (.cells cs e f))(n)(a:prog.globalNamed n=some g):w.var? prog n=some cs:=by
 unfold World.var?;rw[a];simp[h]
def Az.copy {st}{w k}{Z}{lv}(h:Az w Z)(hl:DT st Z lv)(hs:k.heap.size=w.heap.size)
 (hF:∀b xs e g,¬T8 b->w.heap[b]? =some (.cells xs e g)->k.heap[b]? =some (.cells (xs.map lv) e (0,max xs.size g.2)))(hc:∀a v,w.cell? a=some v->(T8 a.block->k.cell? a=some v)/\(¬T8 a.block->k.cell? a=some (lv v))):gY k:=by
 have same:∀a v,w.cell? a=some v->jH Z v->k.cell? a=some v:=λa v d hp=>by
  obtain⟨p,n⟩:=hc a v d
  by_cases q:T8 a.block
  .exact p q
  .rw[n q,hl.same v hp]
 refine⟨by rw[hs];exact h.env.size,?_,⟨λc m=>?_,λi r=>?_⟩,λj s=>?_⟩
 .have d:=h.env.pow
  unfold Lib.TabIs World.var? at d;rw[Tryz.oL]at d;simp only[Option.bind_some]at d;cases l:w.heap[(3:Nat)]? with
  |none=>rw[l]at d;cases d
  |some o=>
   rw[l]at d;cases o with
   |cells cs e f=>
    simp only[ac2]at d;have p:=hF _ cs e f (by decide) l
    have n:cs.map lv=cs:=by
     rw[d];refine Array.ext (by simp) λi t i2=>?_
     simp only[List.map_toArray,List.map_map,List.getElem_toArray,List.getElem_map,Function.comp];exact hl.same _ trivial
    unfold Lib.TabIs;rw[LF p _ Tryz.oL,n,d]
   |_=>cases d
 .exact(hc _ _ (h.env.Mf.1 c m)).1 (show(4:Nat)∈SG by decide)
 .exact⟨(hc _ _ (h.env.Mf.2 i r).1).1 (show(5:Nat)∈SG by decide),(hc _ _ (h.env.Mf.2 i r).2).1 (show(5:Nat)∈SG by decide)⟩
 .exact(hc _ _ (h.env.Ls j s)).1 (show(13:Nat)∈SG by decide)
def C4 {w}{Z}{v}{n}{R}(h:vF w Z v n R):Ints w v n R:=by
 obtain⟨ao,cap,e,c,b,a,_⟩:=h;exact⟨ao,cap,e,c,b,a⟩
def y9 {w}{Z}{v}{n D}(h:je w Z v n D):BO w v n D/\n<=1000000/\D<=1000000:=by
 obtain⟨ao,cap,e,k,j,f,g,_⟩:=h;refine⟨⟨ao,cap,e,k,by omega,λd=>?_⟩,j,f⟩;obtain⟨b,o,x,y⟩:=g d;refine⟨b,o,x,?_,λi c=>?_⟩
 .obtain⟨nm,A,N,C,R,f1,_⟩:=y 0 d
  exact block_lt_of_cell f1
 .obtain⟨nm,A,N,C,R,f1,f2,f3,f4,f5⟩:=y i c
  exact⟨nm,A,N,C,R,f1,f2 0 (by omega),f2 1 (by omega),f2 2 (by omega),f2 3 (by omega),λq a=>C4 (f3 q a),λq a i c=>⟨(f4 q a i c).1,by have:=(f4 q a i c).2;omega⟩,f5⟩
def Ko {n D}(a:n<=1000000)(b:D<=1000000):n*(D+12)<=140737488355000:=by
 have:n*(D+12)<=1000000*(1000000+12):=Nat.mul_le_mul a (by omega);omega
def V9 (u0:World)(Z:Nat->Prop)(p:Rel False)(u:World):Prop:=
 (u.tape=u0.tape/\u.os=u0.os/\u.output=u0.output/\u0.heap.size<=u.heap.size)/\(∀b c,p b c->c<u0.heap.size->b=c/\Z c)/\∀c,c<u0.heap.size->¬T8 c->u.heap[c]? =u0.heap[c]?
def Nr {u0}{Z}:∀p q u u',V9 u0 Z p u->dE (λc=>Z c/\¬T8 c) p q u u'->V9 u0 Z q u':=by
 intro p q u u' ⟨⟨k,j,i,h⟩,d,f⟩ g;refine⟨⟨g.tape.trans k,g.os.trans j,g.output.trans i,ZP h g.size⟩,λb c e hc=>?_,λc hc a=>?_⟩
 .by_cases hp:p b c
  .exact d b c hp hc
  .have:=g.fresh b c e hp;omega
 .exact(g.keep c (by omega) λb hb=>⟨(d b c hb hc).2,a⟩).trans (f c hc a)
def vM:prog.funcs[88]? =some f88:=func88
def RX (a:World)(v:Value)(w':World):Prop:=(∃s,v=.string s)/\∀c,c<a.heap.size->w'.heap[c]? =a.heap[c]?
def Cf {Z S}{gs}{u}{sl}{t}{q}{b}{bs}{y}{n D}
 (ρ:∀c,Z c->CB u c)(σ:∀c,Z c->¬S c)(d:Az u Z)(hT:je u Z y n D)(hF:ni prog S gs u.heap.size t q)(h0:gs[0]? =some (df (Frame.enter prog 88 #[y] .normal) (b::bs))):
 ∃(N:Nat) (E:Array Goroutine) (u':World) (W:Option (Nat×Nat)) (t':Trace) (q':Nat->Nat) (s:ByteArray),runNT prog N (crowd gs u sl) t=(.next (crowd E u' W),t')/\E[0]? =some (df (b.finish (.string s)) bs)/\ni prog S E u'.heap.size t' q'/\
  u'.tape=u.tape/\u'.os=u.os/\u'.output=u.output/\u.heap.size<=u'.heap.size/\∀c,c<u.heap.size->u'.heap[c]? =u.heap[c]?:=by
 have η:prog.globals.size=14:=by kernel_rfl
 obtain⟨H,lv,hl,τ,r,hs,rT,rF,hc⟩:=wU False prog.globals.size T8 Z u (by rw[η];exact d.env.size) ρ (c0:=4) (d.JV _ (by decide)) d.tabs
 have same:=λa v p hp=>by
  obtain⟨R,Q⟩:=hc a v p
  by_cases ht:T8 a.block
  .exact R ht
  .rw[Q ht,hl.same v hp]
 have j:=d.copy hl hs rF hc;have β:=hT.same (λ_ h=>h) same;obtain⟨κ,hn,hD⟩:=y9 β
 have I:aF (VR (NA Z)) #[y] #[y]:=aF.same λv p=>by
  simp at p;rw[p];exact sH (λb hb=>⟨rfl,hb⟩) hT.pure
 have L:∀g,g∈QD->NA Z g g:=λg hg=>⟨rfl,d.JV g hg⟩
 have tree:Tree prog (RX H) (Frame.enter prog 88 #[y] .normal) [] H:=by
  refine pz (C:=LD) (K:=λ_=>False) (st:=False) trivial MK Qs (.inr ⟨λ_ h=>h,λh=>h⟩) rfl (λ_=>rfl)
   ⟨NA Z,Frame.enter prog 88 #[y] .normal,[],H,⟨FR.enter MK (by exact adv (show lX.contains 88=true by kernel_rfl)) (by simp[LD]) I L,.inl rfl,trivial,⟨λh=>absurd rfl h,λ_=>⟨rfl,rfl,λh=>by cases h⟩⟩⟩,r⟩ λT=>?_
  refine(Mm y n D (ay H T) κ (Ko hn hD) (by omega) (by omega) ⟨j.size,j.pow,j.Mf,j.Ls⟩).mono ?_;rintro e w' ⟨⟨s,rfl,_⟩,hb⟩;exact⟨⟨s,rfl⟩,λc hc=>hb.block c hc⟩
 obtain⟨c,hb,ε,γ,k,m⟩:=Kq;have M:Frame.enter prog 88 #[y] .normal=(base 88).at ⟨#[y]++Array.replicate (Func.ntmps f88-(#[y]:Array Value).size) undef,[]⟩ [.code c]:=enter_at _ vM hb
 have A:Live uP prog (NA Z) (Frame.enter prog 88 #[y] .normal) [] (Frame.enter prog 88 #[y] .normal) []:=by
  rw[M];refine⟨⟨⟨_,vM⟩,J'.of ?_,aU.of ε (λ_ hy=>by cases hy),rfl,rfl,rfl,?_,λ_=>?_,λ_=>trivial,(λe=>by cases e),L⟩,.inl rfl,trivial,⟨λh=>absurd rfl h,λ_=>⟨rfl,rfl,λ_=>rfl⟩⟩⟩
  .refine aF.append I (aF.same λv p=>?_)
   rw[(Array.mem_replicate.1 p).2];exact VR.undef
  .simp only[Frame.at,adr,List.map_nil,qE,γ]
  .show(#[y]++Array.replicate _ undef).getD 1000000 undef=undef
   rw[ZY,Array.getElem?_eq_none (by rw[Array.size_append,Array.size_replicate];simp)];simp
 have υ:V9 u Z (NA Z) u:=⟨⟨rfl,rfl,rfl,ZL _⟩,λb c h _=>⟨h.1,h.1▸h.2⟩,λ_ _ _=>rfl⟩;obtain⟨N,ψ,u1,V,t1,q1,p1,a1,b1,w1,r1,r2,l,Y,φ,Γ,⟨⟨X,i2,i3,i4⟩,i6,i7⟩,B,Lc⟩:=I6 (C:=uP) (Iv:=V9 u Z) (λ_ _ _ h=>h) Nr trivial Pb Qs (.inr λh=>h) (λ_=>rfl) rfl (cs:=b::bs) tree (NA Z) _ [] gs u sl t q S A τ h0 hF (λb c h=>h.1▸σ _ h.2) υ;obtain⟨m1,_,_,fn,T,v,f1,f2,⟨s,rfl⟩,f3⟩:=B;obtain⟨ο,ν,μ⟩:=l.deep.2 rfl;have O:a1.fn=88:=μ rfl;rw[O,vM]at f1;cases f1;have ζ:=l.fr.mode.trans m1;have ξ:=l.fr.fn.trans O
 have hval:∀(x:Array Value) (w:World),(results f88 x).runT prog w #[]=(.ok (x.getD k undef) w,#[]):=λx w=>by
  rw[Sem.runT_eq,results_tmp m,events_results_tmp m]
 have p:Value.string s=a1.tmps.getD k undef:=by
  rw[<-Sem.runT_fst _ _ _ #[],hval]at f2;simp only[Result.ok.injEq,and_true]at f2;exact f2.symm
 have α:b1.tmps.getD k undef=.string s:=by
  have:=(l.fr.tmps.get k).resolve_left λh=>by cases h.2
  rw[<-p]at this;exact this.bO
 have kb:=ν;have rb:b1.roundOf=none:=by rw[l.fr.same];exact l.fr.ra
 have ι:=ο
 have J:aC prog true (λ_=>False) (λg _ _=>g=df (b.finish (.string s)) bs) (df b1 (b::bs)) u1 (λ_=>False):=by
  refine aC.ctl (g':=df (b.finish (.string s)) bs) rfl (λaz=>?_) (aC.stop λ_ _=>rfl);have θ:prog.funcs[b1.fn]? =some f88:=by rw[ξ];exact vM
  have δ:(results f88 b1.tmps).run prog az=.ok (.string s) az:=by
   have:=hval b1.tmps az;rw[Sem.runT_eq,Prod.mk.injEq]at this;rw[this.1,α]
  have e:df b1 (b::bs)=G {b1.at ⟨b1.tmps,[]⟩ b1.todo with mode:=.returning} (b::bs):=by
   obtain⟨fn,tmps,todo,defers,mode,kind,ro⟩:=b1;subst ζ ι rb;rfl
  rw[e];exact stepG_leave (b:=b1) (a:=⟨b1.tmps,[]⟩) kb rfl θ δ (events_results_tmp m _ _)
 obtain⟨N2,χ,g2,u2,U,t2,q2,M2,x1,x2,rfl,x4,F⟩:=I7 J ψ V t1 q1 φ r2 (λc h=>h.elim (λh=>h.elim) λh=>h.elim)
 have z:∀c,c<u.heap.size->u1.heap[c]? =u.heap[c]?:=λc o=>by
  by_cases P:T8 c
  .obtain⟨xs,e,g,g1,g2⟩:=d.tabs c P
   have R:=rT c xs e g P g1;have Q:w1.heap[c]? =H.heap[c]?:=f3 c (by rw[hs];exact o);obtain⟨ω,ys,e',f,g',k1,k2,k3,_,k5⟩|⟨_,_,_,k1,_⟩|⟨_,_,_,k1,_⟩:=Y.rows c c (Lc _ _ ⟨rfl,d.JV _ (QZ P)⟩)
   .rw[Q,R]at k1
    simp at k1;obtain⟨rfl,rfl,rfl⟩:=k1;obtain rfl:=k5 λhk=>hk.2 P
    have:ys=xs:=by
     refine Array.ext k3.1.symm λi X i2=>?_
     have:=k3.2 i xs[i] ys[i] (ZM i2) (ZM X);obtain⟨kd,n,hx⟩:=g2 xs[i] (by simp);rw[hx]at this⊢;exact this.bT
    rw[k2,g1,this]
   .rw[Q,R]at k1;cases k1
   .rw[Q,R]at k1;cases k1
  .exact i7 c o P
 refine⟨N+N2,χ,u2,U,t2,q2,s,?_,x2,x4,F.tape.trans X,F.os.trans i2,F.output.trans i3,ZP i4 F.size,λc o=>(F.keep c (ZO o i4) (λh=>h)).trans (z c o)⟩;rw[runNT_add,r1];exact x1
end
section
open Go Go.Conc Go.ConcN Go.RowKit Go.Conc.Lib
attribute [local go_sem ↓] Go.wp_at_zero Go.wp_at_succ
attribute [local go_sem] After.cell After.frozen After.const
def vY {P}{id}{ops}{Q}{a}{w}(c:∀j q,w.tape j q=0)
 (h:wpOps P ops Q (Region.schedule (P.follows .mixedOrders) ops 0) a w.drew):(Code.region id ops true).wp P Q a w:=λb k cs=>by
 obtain⟨e,a',w',q,r⟩:=wp_ops _ a _ h b k cs;refine⟨e,a',w',q,.of_steps (.one ?_) r⟩;have hs:=step_region_draw (P:=P) (b:=b) (a:=a) (k:=k) (cs:=cs) (id:=id) (ops:=ops) (w:=w);rw[c]at hs;exact hs
def BQ {P}{t}{id}(b:t=22\/t=23\/t=1){Q}{a}{w}(c:∀j q,w.tape j q=0)
 (h:Q .normal ((a.put (some t) (.bool true)).put (some t) (.bool false)) w.drew):(Code.region id (CO t) true).wp P Q a w:=by
 refine vY c ?_;have hs:Region.schedule (P.follows .mixedOrders) (CO t) 0=[0,1]:=(Ms (P.follows .mixedOrders) t b).1;rw[hs];have e:(CO t)[0]? =some (bg (some t) (.move (.const (.bool true)))):=rfl;have d:(CO t)[1]? =some (bg (some t) (.move (.const (.bool false)))):=rfl;have hw:∀(v:Value) y,Region.wanted (bg (some t) (.move (.const v))) y=true:=λ_ _=>rfl
 simp only[wpOps,e,d,hw,if_true];exact .inl (.inl h)
def Kr (x0)(w)(a:∀j q,w.tape j q=0):Calls (patch ae prog) 88 #[x0] w fun|.returned v,w'=>v=.nilFunc/\w'.heap=w.heap|_,_=>False:=by
 refine calls_of_wp AX lh ?_;have hp:(#[x0]:Array Value)++Array.replicate ((AQ 342 f88).ntmps-(#[x0]:Array Value).size) undef= #[x0,undef,undef]:=rfl;rw[hp];unfold J6;refine wp_seq (BQ (.inr (.inr rfl)) a ?_);simp only[Exit.then,Act.put,ZN,ZS,ZR];refine wp_seq (wp_cond_false rfl (wp_skip ?_));simp only[Exit.then];refine wp_seq (wp_region ?_);have c:(#[bg (some 2) (.move (.const .nilFunc))]:Array Oper)[0]? =some (bg (some 2) (.move (.const .nilFunc))):=rfl;have b:List.range (#[bg (some 2) (.move (.const .nilFunc))]:Array Oper).size=[0]:=rfl;have hw:∀(v:Value) y,Region.wanted (bg (some 2) (.move (.const v))) y=true:=λ_ _=>rfl
 rw[b];simp only[wpOps,c,hw,if_true];refine .inl ?_;refine wp_ret ?_;refine⟨rfl,.nilFunc,?_,rfl,rfl⟩;rw[results_tmp (t:=2) rfl];rfl
def WR.lone {G}{K}{st}{p:Rel st}{w a u}(h:WR G K p w u)(e:a.heap=w.heap):WR G K p a u:=
 ⟨h.fit,λb c d=>by have:=h.rows b c d;unfold Qn at this⊢;rw[e];exact this,h.qp,h.low,by rw[e];exact h.BB⟩
def Qp (u0:World)(p:Rel True)(u:World):Prop:=
 (u.tape=u0.tape/\u.os=u0.os/\u.output=u0.output/\u0.heap.size<=u.heap.size)/\(∀b c,p b c->c<u0.heap.size->b=c/\CB u0 c)/\(∀c,CB u0 c->p c c)/\∀c,c<u0.heap.size->u.heap[c]? =u0.heap[c]?
def RN {u0}:∀p u d,Qp u0 p u->Qp u0 p (u.at d):=λ_ _ _ h=>h
def EZ {u0}:∀p q u u',Qp u0 p u->dE (CB u0) p q u u'->Qp u0 q u':=by
 intro p q u u' ⟨⟨k,j,i,h⟩,a,f,e⟩ g;refine⟨⟨g.tape.trans k,g.os.trans j,g.output.trans i,ZP h g.size⟩,λb c d hc=>?_,λc hc=>g.ext _ _ (f c hc),λc hc=>?_⟩
 .by_cases hp:p b c
  .exact a b c hp hc
  .have:=g.fresh b c d hp;omega
 .exact(g.keep c (by omega) λb hb=>(a b c hb hc).2).trans (e c hc)
def NU {u0 u:World}(h:∀c,c<u0.heap.size->u.heap[c]? =u0.heap[c]?){a}{v}(b:u0.cell? a=some v):u.cell? a=some v:=by
 have hl:a.block<u0.heap.size:=block_lt_of_cell b;unfold World.cell? at b⊢;rw[h _ hl];exact b
def QH {w}{c}(h:CB w c):c<w.heap.size:=let ⟨_,_,_,h⟩:=h;(ZK.1 h).1
def P4 {K}{st}{p:Rel st}{w u}{G b c}(hw:WR G K p w u)(hp:p b c)(h:CB u c):CB w b:=by
 obtain⟨xs,e,g,hb⟩:=h;obtain⟨d,ys,j,f,g',i,a,_⟩|⟨_,_,_,_,a,_⟩|⟨_,_,_,_,a,_⟩:=hw.rows b c hp
 .exact⟨d,j,f,i⟩
 .rw[hb]at a;cases a
 .rw[hb]at a;cases a
def PL {u0 u w}{p}{K}{G}(h:Az u0 (CB u0))(q:Qp u0 p u)(hw:WR G K p w u):Az u (QP p u (CB w)):=by
 obtain⟨⟨o,i2,i3,i4⟩,i5,k,i⟩:=q;have hb:Below u0.heap.size u0 u:=⟨i2,o,i3,i4,i⟩
 have l:∀c,CB u0 c->QP p u (CB w) c:=λc hc=>by
  have d:CB u c:=by
   obtain⟨xs,e,g,m⟩:=hc;exact⟨xs,e,g,(i c (QH ⟨xs,e,g,m⟩)).trans m⟩
  exact⟨d,c,k c hc,P4 hw (k c hc) d⟩
 refine⟨h.env.ext hb,λg b=>?_,λg b=>?_,λg b=>l g (h.JV g b)⟩
 .obtain⟨t,a,k1,j,n⟩:=h.err g b
  exact⟨t,a,NU i k1,j,l _ n⟩
 .obtain⟨xs,e,f,k1,j⟩:=h.tabs g b
  exact⟨xs,e,f,(i g (QH ⟨xs,e,f,k1⟩)).trans k1,j⟩
def UA {u0}(O:Az u0 (CB u0)){C C0}{R}(hC:j6 C)(P:88∉C0.sp)(k:∀f,f∈C0.sp->f=340\/f=341\/f=342)(K:∀f,f∈C0.sp->f∉C.fns/\f≠C.root)(J:C.jh=true)
 {x y}{a}{fs}{b}{bs}{w u}{gs}{sl}{t}{q}{S}{p}
 (Y:bI (patch ae prog) C0 R JJ (Frame.enter (patch ae prog) 88 x .normal) (a::fs) w)(j:aF (VR p) x y)(hx:x.size=1)(r:CR C (patch ae prog) p (a::fs) (b::bs))(hw:WR (patch ae prog).globals.size (CB u0) p w u)(hF:ni prog S gs u.heap.size t q)
 (h0:gs[0]? =some (df (Frame.enter prog 88 y .normal) (b::bs)))(Z:∀b c,p b c->¬S c)(B:Qp u0 p u):
 ∃N m' F n s',runNT prog N (crowd gs u sl) t=(.next m',F)/\Down (patch ae prog) C0 n ⟨Frame.enter (patch ae prog) 88 x .normal,a::fs,w⟩ s'/\Om C (patch ae prog) prog (CB u0) (Qp u0) s' m' F:=by
 obtain⟨x0,rfl⟩:=ji hx;obtain⟨n,D,hT⟩:=(Rz P Y).2.2 rfl;have M:je w (CB w) x0 n D:=hT;obtain⟨V,rfl⟩:=ji (j.1.symm.trans hx);have L:je u (QP p u (CB w)) V n D:=M.carry hw (λ_ h=>h) (j.2 0 x0 V rfl rfl);obtain⟨N,Q,u',G,F,q',s,r1,r2,r3,r4,r5,r6,X,W⟩:=Cf (sl:=sl) (λc hc=>hc.1) (λc ⟨_,b,hb,_⟩=>Z b c hb) (PL O B hw) L hF h0
 have A:∀f x fs w,f∈C0.sp->¬bI (patch ae prog) C0 R JJ (Frame.enter (patch ae prog) f x .normal) fs w:=λf x fs w hf=>by
  rcases k f hf with rfl|rfl|rfl
  .exact(ig x w).lZ fs
  .exact(gH x w).lZ fs
  .exact(gG x w).lZ fs
 have z:∀f x fs cs w n fr w',f∈C0.sp->(∀y∈fs,y.mode=.run/\y.defers=[]/\∃fn,(patch ae prog).funcs[y.fn]? =some fn)->runN (patch ae prog) n (lone (Frame.enter (patch ae prog) f x .normal) (fs++[stop (patch ae prog)]) w)=.next (lone fr cs w')->fr.mode≠.returning:=λf x fs cs w n fr w' hf g H=>by
  rcases k f hf with rfl|rfl|rfl
  .exact(ig x w).lost fs g H
  .exact(gH x w).lost fs g H
  .exact(gG x w).lost fs g H
 have o:∀v f x,f∈C0.sp->a.finish v≠Frame.enter (patch ae prog) f x .normal:=λv f x hf e=>by
  have h1:=congrArg Frame.fn e;rw[(oU a v).1]at h1;have E:a.fn=f:=h1;obtain⟨n1,n2⟩:=K f hf;obtain⟨_,_,_,d⟩:=r.1
  by_cases m:fs=[]
  .exact n2 (E.symm.trans ((d.2 m).2.2 J))
  .exact n1 (E▸(d.1 m).2.2.1)
 obtain⟨n,v,w',⟨rfl,g1⟩,hd⟩:=yO (C0:=C0) A z (T:=λ_ _=>0) Y rfl o (Kr x0 (ay w λ_ _=>0) (λ_ _=>rfl));obtain⟨⟨I,l,i,d⟩,hcs⟩:=r;have U:w'.heap=w.heap:=g1;obtain⟨⟨i1,i2,i3,i4⟩,i5,i6,i7⟩:=B;refine⟨N,_,F,n,_,r1,hd,p,b.finish (.string s),bs,Q,u',G,q',S,rfl,r2,⟨?_,.inl ((jd _ _).trans l),hcs,d.finish _ _⟩,?_,r3,Z,⟨r4.trans i1,r5.trans i2,r6.trans i3,ZP i4 X⟩,i5,i6,λc hc=>(W c (ZO hc i4)).trans (i7 c hc)⟩
 .exact I.finish hC (VR.gU rfl) i
 .exact(hw.lone U).keep (λb c h=>W c (hw.lt h).2) X
end
namespace Z
open Go.RowKit
attribute [local go_sem ↓] Go.wp_at_zero Go.wp_at_succ
attribute [local go_sem] After.cell After.frozen After.const
def Io (D)(B)(c)(w)(hb:aW w B D)(a:D.ok)(b:∀j q,w.tape j q=0):
 adO 42 #[ptr B,.agg (aQ c)] w fun|.returned v,w'=>dm (λi=>zF D i (c i)) c w v w'|_,_=>False:=by
 refine calls_of_wp sK jK ?_
 have hp:(#[ptr B,.agg (aQ c)]:Array Value)++Array.replicate ((eD 340 f42).ntmps-(#[ptr B,.agg (aQ c)]:Array Value).size) undef= #[ptr B,.agg (aQ c),undef,undef,undef,undef,undef,undef,undef,undef,undef,undef,undef,undef,undef,undef,undef,undef,undef,undef,undef,undef,undef,undef,undef,undef,undef,undef]:=by
  rw[CJ];simp only[List.size_toArray,adt,List.length_nil,Nat.reduceAdd,Nat.reduceSub,Array.replicate_succ,Array.replicate_zero,List.push_toArray,List.append_toArray,List.cons_append,List.nil_append]
 rw[hp];have d:=Im D B c (.bool false) (.bool false) w.drew.drew (hb.same (λ_ h=>h) λ_ _ h=>h) a;have e:∀v w',dm (λi=>zF D i (c i)) c w.drew.drew v w'->dm (λi=>zF D i (c i)) c w v w':=λv w' h=>h
 generalize xB ((eD 340 f42).body.getD .skip)=c4 at d⊢;refine wp_seq (BQ (.inl rfl) b ?_);simp only[Exit.then,Act.put,ZN,ZS,ZR];refine wp_seq (wp_cond_false rfl (wp_skip ?_));simp only[Exit.then];refine wp_seq (BQ (.inr (.inl rfl)) (λj q=>b j q) ?_);simp only[Exit.then,Act.put,ZN,ZS,ZR];refine wp_seq (wp_cond_false rfl (wp_skip ?_));simp only[Exit.then];exact d
end Z
section
open Go Go.Conc Go.ConcN Go.RowKit
open Go.ConcR (Payload)
def rU {p:Nat->Prop}{l m:List Nat}(h:∀g∈l,p g)(k:∀g∈m,p g):∀g∈l++m,p g:=λg a=>(abz.1 a).elim (h g) (k g)
def Lg {Q}(a)(B):ni Q (λ_=>False) #[a] B #[] (λ_=>0):=by
 refine⟨?_,by simp,λi g d=>?_,rfl,λop b=>by simp at b,λc hc=>hc.elim,λi g e d=>?_⟩
 .exact CT.lone (λop b=>by simp at b) (λop b=>by simp at b)
 .simp[Trace.g?]at d
 .have:=(ZK.1 d).1
  simp at this;omega
def AA (ch:List PanicEntry)(w:World):Prop:=
 (∃B D a,ch=raised 31 (ptr B)/\bM w a B D/\D.ok/\tX w a/\a B)\/(∃b c,ch=raised 37 (ptr b)/\w.heap[b]? =some (.cells (aQ c) 37))\/∃v n D,ch=raised 47 v/\je w (CB w) v n D
def SF:∀ch w,AA ch w->∃e∈ch,¬EJ e.v:=by
 rintro ch w (⟨B,D,Z,rfl,_⟩|⟨b,c,rfl,_⟩|⟨v,n,D,rfl,ao,cap,rfl,_⟩)
 .exact⟨_,ZX,λh=>absurd (show iT.contains 31=false from h) (by decide)⟩
 .exact⟨_,ZX,λh=>absurd (show iT.contains 37=false from h) (by decide)⟩
 .exact⟨_,ZX,λh=>absurd (show iT.contains 47=false from h) (by decide)⟩
def Sd {v:Value}{c}(h:v.cells=aQ c):v=.agg (aQ c):=by
 cases v with
 |agg xs=>
  have:xs=aQ c:=h;rw[this]
 |_=>exact absurd (congrArg Array.size h) (by simp[Value.cells,aQ])
def OD:List Nat:=[340,341,342]
def Ga:∀f x w,f∈OD->Calls (patch ae prog) f x w λe w'=>∃ch,e=.panicked ch/\(AA ch w'->JJ f x w):=by
 intro f x w hf
 have g:f=340\/f=341\/f=342:=by
  have:f∈[340,341,342]:=hf;simpa using this
 rcases g with rfl|rfl|rfl
 .refine(BI ae x w).mono ?_
  rintro e w' ⟨rfl,rfl⟩;refine⟨_,rfl,?_⟩;rintro(⟨B,D,Z,a,d⟩|⟨b,c,a,_⟩|⟨v,n,D,a,_⟩)
  .refine⟨λ_=>⟨B,D,Z,?_,d⟩,λh=>absurd h (by decide),λh=>absurd h (by decide)⟩
   simpa[raised] using a
  .simp[raised]at a
  .simp[raised]at a
 .refine(rV ae x w).mono ?_
  rintro e w' ⟨rfl,rfl⟩;refine⟨_,rfl,?_⟩;rintro(⟨B,D,Z,a,d⟩|⟨b,c,a,d⟩|⟨v,n,D,a,_⟩)
  .simp[raised]at a
  .refine⟨λh=>absurd h (by decide),λ_=>⟨c,Sd ?_⟩,λh=>absurd h (by decide)⟩
   have hb:b=w.heap.size:=by
        simp only[raised,ptr,ac0,PanicEntry.mk.injEq,Value.iface.injEq,Value.pointer.injEq,ac2,Addr.mk.injEq,and_true,true_and]at a;exact a.symm
   rw[hb,tN]at d;simp only[ac2,Obj.cells.injEq]at d;exact d.1
  .simp[raised]at a
 .refine(zm ae x w).mono ?_
  rintro e w' ⟨rfl,rfl⟩;refine⟨_,rfl,?_⟩;rintro(⟨B,D,Z,a,d⟩|⟨b,c,a,_⟩|⟨v,n,D,a,d⟩)
  .simp[raised]at a
  .simp[raised]at a
  .refine⟨λh=>absurd h (by decide),λh=>absurd h (by decide),λ_=>⟨n,D,?_⟩⟩
   have:zk x=v:=by simpa[raised] using a
   rw[this];exact d
def GZ {C0}{R}{J}{g}{f}{x}{fs}{w}(h:(patch ae prog).funcs[g]? =some (shut f)):¬bI (patch ae prog) C0 R J (Frame.enter (patch ae prog) g x .normal) fs w:=by
 intro i;rw[enter_at x h (c:=.exit 0) rfl]at i;have hs:∃o w' es,stepG (patch ae prog) true (df ((base g).at ⟨x++Array.replicate ((shut f).ntmps-x.size) undef,[]⟩ [.code (.exit 0)]) (fs++[stop (patch ae prog)])) (ay w w.tape)=.ended o w' es:=⟨_,_,_,by simp only[stepG,stepG.exec,Frame.at,exitTo];rfl⟩;obtain⟨o,w',es,hs⟩:=hs;rcases i.step with b|⟨_,b⟩
 .exact absurd b.1 (by simp[Frame.at])
 .rcases b w.tape with⟨a2,e,w2,d,a,_⟩|⟨f2,x2,e,w2,d,_,a,_⟩
  .rw[hs]at a;cases a
  .rw[hs]at a;cases a
def pS {g}{f}(h:prog.funcs[g]? =some f)(a:(g==42||g==69||g==88)=false/\ae.contains g=true):(patch ae prog).funcs[g]? =some (shut f):=by
 rw[iO ae prog h];unfold swap;simp only[Bool.or_eq_false_iff,acZ]at a;rw[if_neg a.1.1.1,if_neg a.1.1.2,if_neg a.1.2,if_pos a.2]
def RD:List Nat:=42::88::ae
def RE:List Nat:=42::69::88::ae
def Uw:List Nat:=[0]
def Q8:PS (patch ae prog) prog 88:=⟨_,_,_,AX,by kernel_rfl,lh,func88,by kernel_rfl,by kernel_rfl⟩
def O':PS (patch ae prog) prog 42:=⟨_,_,_,sK,by kernel_rfl,jK,rE,Uj,by rw[xV];rfl⟩
def Wo:∀g∈OD,PS (patch ae prog) (patch ae prog) g:=
 all_cons ⟨_,_,_,OB ae,by kernel_rfl,rfl,OB ae,by kernel_rfl,rfl⟩<|
 all_cons ⟨_,_,_,xK ae,by kernel_rfl,rfl,xK ae,by kernel_rfl,rfl⟩<|
 all_cons ⟨_,_,_,z8 ae,by kernel_rfl,rfl,z8 ae,by kernel_rfl,rfl⟩<|
 all_nil
def Zj:Code:=.region 0 #[bg (some 1) (.makeInterface 31 (.tmp 0)),bg none (.panic (.tmp 1))] false
def Zi:Code:=.region 0 #[bg (some 1) (.box 37 (.tmp 0)),bg (some 2) (.makeInterface 37 (.tmp 1)),bg none (.panic (.tmp 2))] false
def Zh:Code:=.region 0 #[bg (some 1) (.makeInterface 47 (.tmp 0)),bg none (.panic (.tmp 1))] false
def xM {C}{g}{f}{c}(hf:(patch ae prog).funcs[g]? =some f)(hb:f.body=some c)(h:fB C (patch ae prog) g (.code c)=false)(x):¬aU C (patch ae prog) (Frame.enter (patch ae prog) g x .normal).fn (Frame.enter (patch ae prog) g x .normal).todo:=by
 rw[enter_at x hf hb];intro b;have a:fB C (patch ae prog) g (.code c)=true:=b.cons.1;rw[a]at h;cases h
structure QM (C C0:iG)(r:Nat)(fr:Func):Prop where
 sJ:aH C (patch ae prog) prog
 xG:aH C0 (patch ae prog) (patch ae prog)
 sp:C.sp=RD
 Qt:C0.sp=OD
 sd:C.sd=false
 root:C.root=r
 rt:C.rt=1000000
 mark:∀o,C.mark o=false
 QB:∀o,C0.mark o=false
 gl:C.gl=Uw
 XX:C0.gl=Uw
 okF:∀x y,C.okF x y
 V6:C.jh=true
 dd:C.dd=[]
 kd:C.kd=.normal
 pv:∀i,C.pv i=false
 X0:C0.jh=false
 XZ:C0.dd=[]
 XA:C0.kd=.normal
 init:prog.inits.idxOf? r=none
 Sk:(OD.all λg=> !C.fns.contains g&&g !=r)=true
 Uk:C0.fns.contains r=true
 Xv:fB C (patch ae prog) 340 (.code Zj)=false
 Xu:fB C (patch ae prog) 341 (.code Zi)=false
 Xt:fB C (patch ae prog) 342 (.code Zh)=false
 pr:(patch ae prog).funcs[r]? =some fr
 ar:prog.funcs[r]? =some fr
 body:∃c,fr.body=some c/\bA C (patch ae prog) r c=true/\uq C c=c/\(∃k,fr.results= #[.tmp k])
 ntmps:fr.ntmps<1000
def vX:dM (patch ae prog):=trivial
def Fp {C C0}{r}{fr}(L:QM C C0 r fr)(A:∀g∈ae,∃f',(patch ae prog).funcs[g]? =some (shut f')){vd:BD->Nat->Int->Array Value}(X:∀D i n,i<4->0<n->(vd D i n).size=17/\∀v∈(vd D i n).toList,jP v)
 (η:∀(D:BD) (B bb rB nB r:Nat) (n:Int) (w:World),aW w B D->D.ok->r<4->0<n->w.cell? ⟨bb,0,none⟩=some (ptr B)->w.cell? ⟨rB,0,none⟩=some (.int .i64 r)->w.cell? ⟨nB,0,none⟩=some (.int .i64 n)->
  Calls (patch ae prog) 69 #[undef,ptr bb,ptr rB,ptr nB,undef] w fun|.returned v,w'=>o9 (vd D r n) r v w'|_,_=>False)
 (θ:∀(D:BD) (B:Nat) (c:Nat->Int) (w:World),aW w B D->D.ok->(∀j q,w.tape j q=0)->Calls (patch ae prog) 42 #[ptr B,.agg (aQ c)] w fun|.returned v,w'=>dm (λi=>vd D i (c i)) c w v w'|_,_=>False)
 {args la}{w H}(ι:args.size<1000)(hE:Az w (CB w))(E:WR ((patch ae prog)).globals.size (λ_=>False) (NA (CB w)) H H)(ε:WR ((patch ae prog)).globals.size (CB w) (DV True (CB w)) H w)(δ:aF (VR (NA (CB w))) la la)(hA:aF (VR (DV True (CB w))) la args)
 (HD:∀T,Calls (patch ae prog) r la (ay H T) (RJ (λv _=>v=.bool true) AA)):
 ∃N last o w' t',runNT prog (N+1) (solo (G (Frame.enter prog r args .normal) []) w) #[]=(.ended o w',t')/\runN prog N (solo (G (Frame.enter prog r args .normal) []) w)=.next last/\
  step prog last=.ended o w'/\Conc.Good prog (λv u=>v=.bool true/\Below w.heap.size w u) last o w' t':=by
 have tw:Twin (patch ae prog) prog:=xJ ae prog lH FV;have W:=uz ae prog lH FV
 have d:∀g∈Uw,CB w g:=λg O=>by
  have:g=0:=adi.1 O;subst this;obtain⟨_,_,V,_⟩:=hE.err 0 (by decide);exact jY V
 have β:r∉OD:=λh=>by
  have:=ZU.1 L.Sk r h;simp at this
 have tree:bI (patch ae prog) C0 (λv _=>v=.bool true) JJ (Frame.enter (patch ae prog) r la .normal) [] H:=
  wV (K:=λ_=>False) (st:=False) vX L.xG W (.inr ⟨λ_ h=>h,λh=>h⟩) L.QB Qo SF (λf x w hf=>Ga f x w (L.Qt▸hf))
   ⟨NA (CB w),_,[],H,⟨FR.enter L.xG (adv L.Uk) (by rw[L.Qt];exact β) δ (λg O=>⟨rfl,d g (L.XX▸O)⟩),.inl rfl,trivial,⟨λh=>absurd rfl h,λ_=>⟨L.XZ.symm▸rfl,L.XA.symm▸rfl,λh=>by rw[L.X0]at h;cases h⟩⟩⟩,E⟩ HD
 obtain⟨c,hb,γ,α,k,M⟩:=L.body;have z:∀{P:Program} (a:Array Value),P.funcs[r]? =some fr->Frame.enter P r a .normal=(base r).at ⟨a++Array.replicate (fr.ntmps-a.size) undef,[]⟩ [.code c]:=λa h=>enter_at a h hb
 have F:Live C (patch ae prog) (DV True (CB w)) (Frame.enter (patch ae prog) r la .normal) [] (Frame.enter prog r args .normal) []:=by
  rw[z _ L.pr,z _ L.ar];refine⟨⟨⟨_,L.pr⟩,J'.of ?_,aU.of γ (λ_ hy=>by cases hy),rfl,rfl,rfl,?_,λ_=>?_,λ_=>L.okF _ _,(λe=>by cases e),λg O=>⟨rfl,d g (L.gl▸O)⟩⟩,.inl rfl,trivial,⟨λh=>absurd rfl h,λ_=>⟨L.dd.symm▸rfl,L.kd.symm▸rfl,λ_=>L.root.symm⟩⟩⟩
  .rw[hA.1]
   refine aF.append hA (aF.same λv Y=>?_);rw[(Array.mem_replicate.1 Y).2];exact VR.undef
  .simp only[Frame.at,adr,List.map_nil,qE,α]
  .rw[L.rt]
   show(la++Array.replicate _ undef).getD 1000000 undef=undef
   have:=L.ntmps;have:=hA.1;rw[ZY,Array.getElem?_eq_none (by rw[Array.size_append,Array.size_replicate];omega)];rfl
 have ζ:Qp w (DV True (CB w)) w:=⟨⟨rfl,rfl,rfl,ZL _⟩,λb c h _=>⟨h.1,h.1▸h.2⟩,λ_ h=>⟨rfl,h⟩,λ_ _=>rfl⟩
 letI:Payload:=⟨91⟩
 have m:∀f,f∈C0.sp->f=340\/f=341\/f=342:=λf hf=>by
  rw[L.Qt]at hf;have:f∈[340,341,342]:=hf;simpa using this
 have l:∀f,f∈C0.sp->f∉C.fns/\f≠C.root:=λf hf=>by
  rw[L.Qt]at hf;have:=ZU.1 L.Sk f hf;simp at this;exact⟨λh=>by simp[h]at this,L.root▸this.2⟩
 have:=R5 (C:=C) (C0:=C0) (Q:=prog) (K:=CB w) (Iv:=Qp w) (Post:=λv u=>v=.bool true/\Below w.heap.size w u) RN EZ vX L.sJ tw (.inl L.sd) L.mark (λf V h2=>?_) (λ_ _=>rfl) (λ_ _=>rfl) (λf x hf=>?_) L.V6 L.dd L.kd L.pv (by rw[L.root];exact L.init) (λfn h=>?_) (λp v v' w' T u hR Y hw U=>?_) (λfn h=>?_)
  (λf x y a fs b bs w' u gs sl t q S p J Z s R hw hF h0 hS U=>?_) tree (crowd #[df (Frame.enter prog r args .normal) []] w none) #[] ⟨_,_,[],_,w,none,λ_=>0,λ_=>False,rfl,rfl,F,ε,Lg _ _,λ_ _ _ h=>h,ζ⟩
 .exact this
 .rw[L.sp]at V
  rw[L.Qt]at h2;have h:(RD.all λg=> !OD.contains g)=true:=by kernel_rfl
  have:=ZU.1 h f V;simp[h2]at this
 .rcases m f hf with rfl|rfl|rfl
  .exact xM (OB ae) rfl L.Xv x
  .exact xM (xK ae) rfl L.Xu x
  .exact xM (z8 ae) rfl L.Xt x
 .rw[L.root,L.pr]at h
  cases h;exact⟨_,by rw[L.root];exact L.ar,rfl⟩
 .obtain rfl:=hR
  obtain⟨⟨i1,i2,i3,i4⟩,i5,i6,i7⟩:=U;exact⟨Y.j3,i2,i1,i3,i4,i7⟩
 .rw[L.root,L.pr]at h
  cases h;exact⟨k,M⟩
 .rw[L.sp]at J
  have I:f=42\/f=88\/f∈ae:=by
   have:f∈42::88::ae:=J;simpa only[ZW] using this
  rcases I with rfl|rfl|hf
  .exact PN (C:=C) (C0:=C0) EZ rfl vX L.sJ.cfg (by rw[L.Qt];exact adj (show decide (¬42∈[340,341,342])=true by kernel_rfl)) m l L.V6 X η θ Z s.1 (s.2.1 rfl) R hw hF h0 hS U
  .exact UA (C:=C) (C0:=C0) hE L.sJ.cfg (by rw[L.Qt];exact adj (show decide (¬88∈[340,341,342])=true by kernel_rfl)) m l L.V6 Z s.1 (s.2.2 rfl) R hw hF h0 hS U
  .exfalso
   obtain⟨f',h'⟩:=A f hf;exact GZ h' Z
end
namespace Z
open Go.RowKit
attribute [local go_sem ↓] Go.wp_at_zero Go.wp_at_succ
attribute [local go_sem] After.cell After.frozen After.const
def x9 (l:List Nat):Bool:=l== [0,1]||l== [1,0]
def allTwo (md:Region.Mode)(ops:Array Oper):Nat->Array Bool->List Nat->Bool
 |0,_,acc=>x9 acc.reverse
 |n+1,listed,acc=>if(Region.ready md ops listed).isEmpty then x9 acc.reverse else(Region.ready md ops listed).all λi=>allTwo md ops n (listed.setIfInBounds i true) (i::acc)
def BG {md}{ops}:∀(n t:Nat) (listed:Array Bool) (acc:List Nat),allTwo md ops n listed acc=true->x9 (Region.linearise.go md ops n t listed acc)=true
 |0,_,_,_,h=>h
 |n+1,t,listed,acc,h=>by
  simp only[Region.linearise.go]
  change x9 (match(Region.ready md ops listed)[t% (Region.ready md ops listed).length]? with
   |some i=>Region.linearise.go md ops n (t/ (Region.ready md ops listed).length) (listed.setIfInBounds i true) (i::acc)
   |none=>acc.reverse)=true
  unfold allTwo at h;cases d:(Region.ready md ops listed)[t% (Region.ready md ops listed).length]? with
  |none=>
   have a:Region.ready md ops listed=[]:=by
    cases b:Region.ready md ops listed with
    |nil=>rfl
    |cons x xs=>
     rw[b]at d;have e:t% (x::xs).length< (x::xs).length:=Nat.mod_lt _ (by simp);rw[List.getElem?_eq_none_iff]at d;omega
   rw[a]at h;simpa using h
  |some i=>
   have hm:=aak d
   have c:(Region.ready md ops listed).isEmpty=false:=by
    cases b:Region.ready md ops listed with
    |nil=>rw[b]at hm;cases hm
    |cons x xs=>rfl
   rw[c]at h;simp only[Z0,if_false,ZU]at h;exact BG n _ _ _ (h i hm)
def Uz (md)(t)(a:t=22\/t=23\/t=1):allTwo md (CO t) 2 (Array.replicate 2 false) []=true:=by
 rcases a with rfl|rfl|rfl<;>cases md<;>kernel_rfl
def KE (m)(t n)(b:t=22\/t=23\/t=1):x9 (Region.schedule m (CO t) n)=true:=by
 have a:(CO t).size=2:=rfl
 have key:∀md n,x9 (Region.linearise md (CO t) n)=true:=λmd n=>by
  unfold Region.linearise;rw[a];exact BG _ _ _ _ (Uz md t b)
 unfold Region.schedule;split
 .exact key _ _
 .split<;>exact key _ _
def enters {P}{f}{fn}{c}(hf:P.funcs[f]? =some fn)(a:(fn.name== "runtime.NumGoroutine")=false)(hb:fn.body=some c)(args)(w):Sem.run P (callFunc f args) w=.ok (.enter f args) w:=by
 have b:fn.name≠ "runtime.NumGoroutine" :=by simpa using a
 simp[callFunc,hf,b,hb]
def BP {t}{id}(c:t=22\/t=23\/t=1){Q}{a}{w}
 (h:∀b,Q .normal ((a.put (some t) (.bool (!b))).put (some t) (.bool b)) w.drew):(Code.region id (CO t) true).wp (patch ae prog) Q a w:=by
 refine wp_region_draw λn=>?_
 have hs:Region.schedule (((patch ae prog)).follows .mixedOrders) (CO t) n=[0,1]\/Region.schedule (((patch ae prog)).follows .mixedOrders) (CO t) n=[1,0]:=by
  have:=KE (((patch ae prog)).follows .mixedOrders) t n c;unfold x9 at this;simpa using this
 have e:(CO t)[0]? =some (bg (some t) (.move (.const (.bool true)))):=rfl;have d:(CO t)[1]? =some (bg (some t) (.move (.const (.bool false)))):=rfl;have hw:∀(v:Value) y,Region.wanted (bg (some t) (.move (.const v))) y=true:=λ_ _=>rfl
 rcases hs with hs|hs
 .rw[hs]
  simp only[wpOps,e,d,hw,if_true];exact .inl (.inl (h false))
 .rw[hs]
  simp only[wpOps,e,d,hw,if_true];exact .inl (.inl (h true))
def xW (D)(B)(c)(f)(w)(hb:bM w f B D)(d:D.ok)(g:tX w f)(p:f B):
 adO 42 #[ptr B,.agg (aQ c)] w (RJ (λv w'=>dm (λi=>zF D i (c i)) c w v w'/\adN w w') AA):=by
 refine calls_of_wp sK jK ?_
 have hp:(#[ptr B,.agg (aQ c)]:Array Value)++Array.replicate ((eD 340 f42).ntmps-(#[ptr B,.agg (aQ c)]:Array Value).size) undef= #[ptr B,.agg (aQ c),undef,undef,undef,undef,undef,undef,undef,undef,undef,undef,undef,undef,undef,undef,undef,undef,undef,undef,undef,undef,undef,undef,undef,undef,undef,undef]:=by
  rw[CJ];simp only[List.size_toArray,adt,List.length_nil,Nat.reduceAdd,Nat.reduceSub,Array.replicate_succ,Array.replicate_zero,List.push_toArray,List.append_toArray,List.cons_append,List.nil_append]
 rw[hp]
 have n:(xB ((eD 340 f42).body.getD .skip)).wp (patch ae prog) (bodyPost (patch ae prog) (eD 340 f42) (RJ (λv w'=>dm (λi=>zF D i (c i)) c w v w'/\adN w w') AA)) ⟨#[ptr B,.agg (aQ c),undef,undef,undef,undef,undef,undef,undef,undef,undef,undef,undef,undef,undef,undef,undef,undef,undef,undef,undef,undef,.bool false,.bool false,undef,undef,undef,undef],[]⟩ w.drew.drew:=by
  refine Code.wp_mono ?_ (uD D B c (.bool false) (.bool false) w.drew.drew (hb.any.same (λ_ h=>h) λ_ _ h=>h) d);rintro e a u h;cases e with
  |normal=>exact⟨h.1,h.2.choose,h.2.choose_spec.1,h.2.choose_spec.2.1,(aab _ _).drew.drew.trans h.2.choose_spec.2.2⟩
  |ret=>exact⟨h.1,h.2.choose,h.2.choose_spec.1,h.2.choose_spec.2.1,(aab _ _).drew.drew.trans h.2.choose_spec.2.2⟩
  |panic ch=>exact h.2.elim
  |_=>exact h
 have j:Hid (∀u:World,adO 341 #[.agg (aQ c)] u λe w'=>∃ch,e=.panicked ch/\AA ch w'):=λu=>by
  refine(rV ae _ _).mono ?_;rintro e w' ⟨rfl,rfl⟩;exact⟨_,rfl,.inr (.inl ⟨u.heap.size,c,rfl,aae _ _⟩)⟩
 have o:∀u:World,u.heap=w.heap->AA (raised 31 (ptr B)) u:=λu hu=>.inl ⟨B,D,f,rfl,uS hu hb,d,A9 hu g,p⟩
 have k:Hid (∀u:World,u.heap=w.heap->adO 340 #[ptr B] u λe w'=>∃ch,e=.panicked ch/\AA ch w'):=λu hu=>by
  refine(BI ae _ _).mono ?_;rintro e w' ⟨rfl,rfl⟩;exact⟨_,rfl,o _ hu⟩
 clear o;have m:∀x u,Sem.run (patch ae prog) (callFunc 340 x) u=.ok (.enter 340 x) u:=λx u=>enters (OB ae) rfl rfl x u
 have l:∀x u,Sem.run (patch ae prog) (callFunc 341 x) u=.ok (.enter 341 x) u:=λx u=>enters (xK ae) rfl rfl x u
 generalize xB ((eD 340 f42).body.getD .skip)=c4 at n⊢;refine wp_seq (BP (.inl rfl) λb1=>?_);simp only[Exit.then,Act.put,ZN,ZS,ZR];cases b1
 .refine wp_seq (wp_cond_false rfl (wp_skip ?_))
  simp only[Exit.then];refine wp_seq (BP (.inr (.inl rfl)) λb2=>?_);simp only[Exit.then,Act.put,ZN,ZS,ZR];cases b2
  .refine wp_seq (wp_cond_false rfl (wp_skip ?_))
   simp only[Exit.then];exact n
  .refine wp_seq (wp_cond_true rfl ?_)
   simp only[bg,bX];go_wp2_with(go_at_call 341;refine(j.out _).mono ?_;rintro e w2 ⟨ch,rfl,b⟩);exact⟨rfl,b⟩
 .refine wp_seq (wp_cond_true rfl ?_)
  simp only[bg,bX];go_wp2_with(go_at_call 340;refine(k.out w.drew rfl).mono ?_;rintro e w2 ⟨ch,rfl,b⟩);exact⟨rfl,b⟩
def Ks (x0)(n D)(w)(h:je w (CB w) x0 n D):
 adO 88 #[x0] w (RJ (λv w'=>v=.nilFunc/\w'.heap=w.heap/\adN w w') AA):=by
 refine calls_of_wp AX lh ?_;have hp:(#[x0]:Array Value)++Array.replicate ((AQ 342 f88).ntmps-(#[x0]:Array Value).size) undef= #[x0,undef,undef]:=rfl;rw[hp];unfold J6
 have j:Hid (∀u:World,u.heap=w.heap->adO 342 #[x0] u λe w'=>∃ch,e=.panicked ch/\AA ch w'):=λu hu=>by
  refine(zm ae _ _).mono ?_;rintro e w' ⟨rfl,rfl⟩;exact⟨_,rfl,.inr (.inr ⟨x0,n,D,rfl,h.same (λ_ ⟨xs,e,g,hb⟩=>⟨xs,e,g,by rw[hu];exact hb⟩) λa v d _=>mE hu a v d⟩)⟩
 have c:∀x u,Sem.run (patch ae prog) (callFunc 342 x) u=.ok (.enter 342 x) u:=λx u=>enters (z8 ae) rfl rfl x u
 refine wp_seq (BP (.inr (.inr rfl)) λb1=>?_);simp only[Exit.then,Act.put,ZN,ZS,ZR];cases b1
 .refine wp_seq (wp_cond_false rfl (wp_skip ?_))
  simp only[Exit.then];refine wp_seq (wp_region ?_);have i:(#[bg (some 2) (.move (.const .nilFunc))]:Array Oper)[0]? =some (bg (some 2) (.move (.const .nilFunc))):=rfl;have f:List.range (#[bg (some 2) (.move (.const .nilFunc))]:Array Oper).size=[0]:=rfl;have hw:∀(v:Value) y,Region.wanted (bg (some 2) (.move (.const v))) y=true:=λ_ _=>rfl
  rw[f];simp only[wpOps,i,hw,if_true];refine .inl ?_;refine wp_ret ?_;refine⟨rfl,.nilFunc,?_,rfl,rfl,(aab _ _).drew⟩;rw[results_tmp (t:=2) rfl];rfl
 .refine wp_seq (wp_cond_true rfl ?_)
  simp only[bg,bX];go_wp2_with(go_at_call 342;refine(j.out w.drew rfl).mono ?_;rintro e w2 ⟨ch,rfl,b⟩);exact⟨rfl,b⟩
def D3 (D)(B bb a b r:Nat)(n)(w)(hb:aW w B D)(c:D.ok)(d:r<4)(f:0<n)(j:w.cell? ⟨bb,0,none⟩=some (ptr B))(i:w.cell? ⟨a,0,none⟩=some (.int .i64 r))(g:w.cell? ⟨b,0,none⟩=some (.int .i64 n)):
 adO 69 #[undef,ptr bb,ptr a,ptr b,undef] w fun|.returned v,w'=>o9 (zF D r n) r v w'|_,_=>False:=
 (ug D B bb a b r n undef undef w hb c d f j i g).mono λe w' h=>by
  cases e with
  |returned v=>exact h.1
  |panicked _=>exact h
  |outgrown=>exact h
def RH (c:Nat->Int)(W):Sem.run (patch ae prog) (Instr.index 27 (.agg #[.int .i64 (c 1),.int .i64 (c 2),.int .i64 (c 3)]) (.int .i64 0)) W=.ok (.int .i64 (c 1)) W:=by kernel_rfl
def RG (c:Nat->Int)(W):Sem.run (patch ae prog) (Instr.index 27 (.agg #[.int .i64 (c 1),.int .i64 (c 2),.int .i64 (c 3)]) (.int .i64 1)) W=.ok (.int .i64 (c 2)) W:=by kernel_rfl
def RF (c:Nat->Int)(W):Sem.run (patch ae prog) (Instr.index 27 (.agg #[.int .i64 (c 1),.int .i64 (c 2),.int .i64 (c 3)]) (.int .i64 2)) W=.ok (.int .i64 (c 3)) W:=by kernel_rfl
def info4:((patch ae prog).info? 37).map (·.size)=some 4:=by kernel_rfl
def qJ (c)(w):
 adO 43 #[.agg (aQ c)] w λe w'=>e=.returned (.agg (aQ c))/\adN w w':=by
 unfold aQ
 go_enter (pf func43 (by rfl)),ntmps43
 have b:=RH c;have k1:=RG c;have a:=RF c;go_wp2_with fail;refine wp_loop_rounds 4 ?_;rw[aal];go_wp2_with fail;rw[aal];go_wp2_with fail;rw[aal];go_wp2_with fail;rw[aal];go_wp2_with fail;refine bodyPost_ret_by (results_cell_row rfl _ _ (w.heap.size+1) 37 _ (0,0) _ rfl ((aac _ _ _ (by simp)).trans (aam _ _ _)) ((ax ae prog 37).trans underlying37) rfl info4) rfl ⟨rfl,?_⟩;exact((((aab _ _).alloc (ZL _) _).alloc (by simp) _).alloc (by simp;omega) _)
def zy {w w'}{Z}(h:tX w Z)(hb:adN w w'):tX w' Z:=λb c=>by
 obtain⟨xs,e,a⟩:=h b c;exact⟨xs,e,(hb.block b (ZK.1 a).1).trans a⟩
def eG (D:BD)(c:Nat->Int)(i:Nat):Int:=if 0<c i then l9 (dz D i (dL D i)) (c i)else 0
def BV (D:BD)(c:Nat->Int)(k j:Nat):Value:=if j<k then .int .i64 (eG D c j)else .int .i64 0
def Mb {D}{c}{k}(j):BV D c (k+1) j=if j=k then .int .i64 (eG D c k)else BV D c k j:=by
 unfold BV
 by_cases h:j=k
 .subst h;rw[if_pos (by omega),if_pos rfl]
 .rw[if_neg h]
  by_cases a:j<k
  .rw[if_pos (by omega),if_pos a]
  .rw[if_neg (by omega),if_neg a]
def O5 {w:World}{b}{D}{c}(h:w.rowIs b 37 4 (BV D c 4)):w.heap[b]? =some (.cells (aQ (eG D c)) 37 (0,0)):=by
 obtain⟨cur,f,e,d⟩:=h
 have:cur=aQ (eG D c):=by
  refine Array.ext (by rw[e];rfl) λj a g=>?_
  have:=d j (by omega);rw[ZM a]at this;obtain rfl|rfl|rfl|rfl:j=0\/j=1\/j=2\/j=3:=by omega
  all_goals(simpa[aQ,BV] using this)
 rw[<-this];exact f
def Ht {D}{c}{w w'}{v}(h:dm (λi=>zF D i (c i)) c w v w'):∃b row,v=ko b/\w'.heap[b]? =some (.cells row 91 (0,0))/\row.size=68/\(∀i,i<4->row[17*i]? =some (.int .i64 (eG D c i)))/\∀x,x<68->∃u,row[x]? =some u/\u.oneCell'=true:=by
 obtain⟨b,row,rfl,_,_,_,k,j,g,f⟩:=h;refine⟨b,row,rfl,k,j,λi a=>?_,λx hx=>?_⟩
 .unfold eG
  by_cases hc:0<c i
  .rw[if_pos hc]
   have:=g i a hc 0 (by omega);rw[Nat.add_zero]at this;rw[this];simp[zF,eF,jC]
  .rw[if_neg hc]
   have:=f i a hc 0 (by omega);rw[Nat.add_zero]at this;rw[this];obtain rfl|rfl|rfl|rfl:i=0\/i=1\/i=2\/i=3:=by omega
   all_goals rfl
 .obtain⟨i,o,a,d,rfl⟩:∃i o,i<4/\o<17/\x=17*i+o:=⟨x/17,x%17,by omega,by omega,by omega⟩
  by_cases hc:0<c i
  .have hf:=Ee D i (c i) a hc
   have e:o< (zF D i (c i)).size:=(by rw[hf.1];exact d);refine⟨_,(g i a hc o d).trans (ZM e),Bj (hf.2 _ (by simp))⟩
  .refine⟨_,f i a hc o d,?_⟩
   have key:(List.range 68).all (λx=>(mK x).oneCell')=true:=(by kernel_rfl);exact ZU.1 key (17*i+o) (Z9.2 (by omega))
def Mr (wr)(zs cs)(t)(v)(a:cs[0]? =some v):∃b,(wr.alloc (.cells zs t)).setRow wr.heap.size cs=b/\b.cell? ⟨wr.heap.size,0,none⟩=some v/\adN wr b:=by
 have d:(wr.alloc (.cells zs t)).heap[wr.heap.size]? =some (.cells zs t (0,0)):=aae _ _;have e:=setRow_heap (wr.alloc (.cells zs t)) wr.heap.size zs cs t (0,0) d;refine⟨_,rfl,?_,rfl,rfl,rfl,by simp,λk c=>?_⟩
 .rw[cell_of_row _ _ 0 cs t (0,0) e];exact a
 .exact(setRow_other _ _ _ _ (by omega)).trans (aac _ _ _ c)
def GL (D)(B)(c)(s)(w)(hb:bM w s B D)(J:D.ok)(a:tX w s)(hZ:s B):
 adO 12 #[ptr B,.agg (aQ c)] w (RJ (λv w'=>v=.agg (aQ (eG D c))/\adN w w') AA):=by
 have R:Hid (bM w s B D/\D.ok/\tX w s/\s B):=⟨hb,J,a,hZ⟩;clear hb J a hZ;have HJ:Hid (∀u,adN w u->adO 42 #[.pointer (some ⟨B,0,none⟩),.agg (aQ c)] u (RJ (λv w'=>dm (λi=>zF D i (c i)) c u v w'/\adN u w') AA)):=λu hu=>xW D B c s u (bM.below R.out.1 hu) R.out.2.1 (zy R.out.2.2.1 hu) R.out.2.2.2
 have γ:Hid (∀u,adO 43 #[.agg #[.int .i64 (c 0),.int .i64 (c 1),.int .i64 (c 2),.int .i64 (c 3)]] u λe w'=>e=.returned (.agg (aQ c))/\adN u w'):=λu=>qJ c u
 unfold ptr aQ
 go_enter (pf func12 (by rfl)),ntmps12
 go_wp2_with(first
  |(go_at_call 43;refine(γ.out _).mono ?_;rintro e w1 ⟨rfl,P⟩;have z:=av P;clear P)|fail)
 obtain⟨W,hW⟩:∃W,W=((w.alloc (.cells #[.int .i64 (c 0),.int .i64 (c 1),.int .i64 (c 2),.int .i64 (c 3)] 29)).alloc (.cells #[.int .i64 0,.int .i64 0,.int .i64 0,.int .i64 0] 37)).alloc (.cells #[.int .i64 0,.int .i64 0,.int .i64 0,.int .i64 0] 37):=⟨_,rfl⟩
 have y:Hid (adN w W/\W.heap[w.heap.size+1]? =some (.cells #[.int .i64 0,.int .i64 0,.int .i64 0,.int .i64 0] 37 (0,0))/\W.heap[w.heap.size+1+1]? =some (.cells #[.int .i64 0,.int .i64 0,.int .i64 0,.int .i64 0] 37 (0,0))/\W.heap.size=w.heap.size+3/\adN W w1):=by
  rw[<-hW]at z;refine⟨?_,?_,?_,?_,z.out⟩
  .rw[hW];exact((((aab _ _).alloc (ZL _) _).alloc (by simp) _).alloc (by simp;omega) _)
  .rw[hW];exact(aac _ _ _ (by simp)).trans (aam _ _ _)
  .rw[hW]
   have:=aae ((w.alloc (.cells #[.int .i64 (c 0),.int .i64 (c 1),.int .i64 (c 2),.int .i64 (c 3)] 29)).alloc (.cells #[.int .i64 0,.int .i64 0,.int .i64 0,.int .i64 0] 37)) (.cells #[.int .i64 0,.int .i64 0,.int .i64 0,.int .i64 0] 37);simpa using this
  .rw[hW];simp
 clear z hW;refine(HJ.out w1 (ai y.out.1 y.out.2.2.2.2)).mono ?_;intro e w2 he;cases e with
 |outgrown=>exact he.elim
 |panicked ch=>exact⟨rfl,he⟩
 |returned v=>
  obtain⟨hp,O⟩:=he;obtain⟨t,row,rfl,H,G,F,E⟩:=Ht hp;unfold ko
  have l:Hid (w2.heap[t]? =some (.cells row 91 (0,0))/\row.size=68/\(∀i,i<4->row[17*i]? =some (.int .i64 (eG D c i)))/\(∀x,x<68->∃u,row[x]? =some u/\u.oneCell'=true)/\adN w1 w2/\w1.heap.size<=t):=by
   refine⟨H,G,F,E,O,?_⟩;obtain⟨_,_,q,hle,_⟩:=hp;simp only[ko,Value.slice.injEq,ac2,Addr.mk.injEq]at q;omega
  clear hp O H G F E;go_wp2_with fail;have Q:=y.out.2.2.2;have T:=l.out.2.2.2.2.1.size;have S:=Q.2.size;have p:adN w w2:=ai (ai y.out.1 Q.2) l.out.2.2.2.2.1
  have hA:w2.rowIs (w.heap.size+1+1) 37 4 (BV D c 0):=by
   refine⟨_,((l.out.2.2.2.2.1.block _ (by omega)).trans (Q.2.block _ (by omega))).trans y.out.2.2.1,rfl,λj o=>?_⟩;obtain rfl|rfl|rfl|rfl:j=0\/j=1\/j=2\/j=3:=by omega
   all_goals rfl
  have A:Hid (adN w w2/\w2.heap[w.heap.size+1]? =some (.cells #[.int .i64 0,.int .i64 0,.int .i64 0,.int .i64 0] 37 (0,0))/\w.heap.size+3<=w2.heap.size/\w.heap.size+3<=t/\t<w2.heap.size):=⟨p,((l.out.2.2.2.2.1.block _ (by omega)).trans (Q.2.block _ (by omega))).trans y.out.2.1,by omega,by have:=l.out.2.2.2.2.2;omega,(ZK.1 l.out.1).1⟩;clear Q T S p
  go_loopw [13] (λi wr=>∃k:Nat,k<=4/\i=.int .i64 k/\wr.rowIs (w.heap.size+1+1) 37 4 (BV D c k)/\(∀b,b<w2.heap.size->b≠w.heap.size+1+1->wr.heap[b]? =w2.heap[b]?)/\adN w wr/\w2.heap.size<=wr.heap.size) (λi _=>4-(intOf i).toNat)
  case atStart=>exact⟨0,by omega,rfl,hA,λ_ _ _=>rfl,A.out.1,ZL _⟩
  case round=>
   obtain⟨k,hk,rfl,n,M,hb,f⟩:=hrel;have h:Hid (wr.rowIs (w.heap.size+1+1) 37 4 (BV D c k)/\(∀b,b<w2.heap.size->b≠w.heap.size+1+1->wr.heap[b]? =w2.heap[b]?)/\adN w wr/\w2.heap.size<=wr.heap.size):=⟨n,M,hb,f⟩;clear n M hb f hA
   by_cases L:k<4
   .have kn:(k:Int)<4:=by omega
    obtain⟨cs,hcs⟩:∃cs:List Value,cs=(row.toList.drop (k*17)).take 17:=⟨_,rfl⟩;have a:cs.length=17:=(by rw[hcs];have:=l.out.2.1;simp;omega);have m:∀j,j<17->cs[j]? =row[k*17+j]?:=λj o=>by rw[hcs,Z5,if_pos o,List.getElem?_drop];simp
    have α:cs.toArray[0]? =some (.int .i64 (eG D c k)):=by
     have:=m 0 (by omega);rw[Nat.add_zero,Nat.mul_comm,l.out.2.2.1 k L]at this;simpa using this
    have V:wr.rangeAt t (k*17) cs:=λj v q=>by
     have o:j<17:=(by rw[<-a];exact(ZZ.1 q).1);rw[m j o]at q;have hh:=(h.out.2.1 t A.out.2.2.2.2 (by have:=A.out.2.2.2.1;omega)).trans l.out.1;simpa[World.cell?,hh] using q
    have I:cs.toArray.all (·.oneCell')=true:=by
     rw[adb];intro v q;obtain⟨j,o⟩:=List.getElem?_of_mem (show v∈cs by simpa using q);have N:j<17:=(by rw[<-a];exact(ZZ.1 o).1);rw[m j N]at o;obtain⟨u,C,U⟩:=l.out.2.2.2.1 (k*17+j) (by omega);rw[o]at C;cases C;exact U
    have X:((patch ae prog).info? 91).map (·.size)=some cs.length:=(by rw[a];exact iA);have Y:((patch ae prog).info? 91).map (·.size)=some cs.toArray.size:=(by rw[List.size_toArray,a];exact iA);clear hcs m
    go_wp2_with(first
     |refine wpList_load_mid rfl 91 _ rfl t (k*17) rfl cs _ V ((ax ae prog 91).trans underlying91) rfl X ?_
     |(refine wpList_store_row rfl 91 _ _ rfl wr.heap.size cs.toArray rfl rfl 91 _ (aae _ _) Y (by simp[a]) I ?_;obtain⟨W3,e3,c3,b3⟩:=Mr wr _ cs.toArray 91 _ α;rw[e3];have R3:=h.out.1.of_block (b3.block _ h.out.1.lt);have q3:=R3.cell L;have f3:=R3.frozen k;have H3:Hid (W3.rowIs (w.heap.size+1+1) 37 4 (BV D c k)/\adN wr W3):=⟨R3,b3⟩;clear R3 b3 e3))
    go_roundw
    case rel=>
     have sb:=A.out;have so:=h.out.2.2.2;have r:=H3.out.2;have s3:=r.size;refine⟨k+1,by omega,by go_num,?_,λb hb K=>?_,?_,?_⟩
     .exact(H3.out.1.set k _).congr λj _=>(Mb j).symm
     .exact(aad _ _ _ _ K).trans ((r.block b (by omega)).trans (h.out.2.1 b hb K))
     .exact(ai h.out.2.2.1 r).setCell (by show w.heap.size<=w.heap.size+1+1;omega) _
     .simp;omega
    case measure=>simp[intOf];omega
   .have:k=4:=by omega
    subst this;obtain⟨vs,d⟩:∃vs,vs=aQ (eG D c):=⟨_,rfl⟩;have f:vs.size=4:=(by rw[d];rfl);have h1:vs.all (·.oneCell')=true:=(by rw[d];simp[aQ,Value.oneCell']);have β:wr.heap[w.heap.size+1+1]? =some (.cells vs 37 (0,0)):=(by rw[d];exact O5 h.out.1);have hR:=(h.out.2.1 (w.heap.size+1) (by have:=A.out.2.2.1;omega) (by omega)).trans A.out.2.1;have Z:((patch ae prog).info? 37).map (·.size)=some vs.size:=(by rw[f];exact info4);have δ:Hid (vs=aQ (eG D c)):=d;have g:Hid (adN w wr):=h.out.2.2.1;clear d h R y
    go_wp2_with(first
     |refine wpList_load_row rfl 37 _ rfl (w.heap.size+1+1) rfl 37 vs (0,0) _ β ((ax ae prog 37).trans underlying37) rfl Z ?_
     |refine wpList_store_row rfl 37 _ _ rfl (w.heap.size+1) vs rfl rfl 37 _ hR Z (by rw[f];rfl) h1 ?_)
    (try simp only[Exit.inBlock,Exit.then])
    refine bodyPost_ret_by (results_cell_row rfl _ _ (w.heap.size+1) 37 vs (0,0) _ rfl (setRow_heap _ _ _ _ _ _ hR) ((ax ae prog 37).trans underlying37) rfl Z) rfl ?_;refine⟨by rw[δ.out];rfl,?_⟩;exact⟨g.out.os,g.out.tape,g.out.output,by simpa using g.out.size,λk hk=>(setRow_other _ _ _ _ (by omega)).trans (g.out.block k hk)⟩
end Z
