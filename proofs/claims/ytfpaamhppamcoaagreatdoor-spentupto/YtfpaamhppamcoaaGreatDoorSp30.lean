/- Part 30 of the proof. -/
import Derived.Test.YtfpaamhppamcoaaGreatDoorSp28
import Derived.Test.YtfpaamhppamcoaaGreatDoorProg
import Derived.Lib.Bytealg
import Derived.ProofKit
import Derived.SizedLaws
import Derived.Deep.Slices
import Derived.JoinedOf
import Derived.KernelRfl
import Derived.LaidLaws
import Derived.MakeChecks
import Derived.Lib.LaidIn
import Derived.Great.LaidInts
set_option linter.all false
set_option maxRecDepth 100000
set_option maxHeartbeats 60000000
namespace Go.Proofs.YtfpaamhppamcoaaGreatDoor
open Go.Proofs.Tryz
section
open Go Go.RowKit
theorem kL {P}(w)(p q ty elem)(g o c h)(a)(b d)(cur)(t)(cs)(k m)
 (hu:P.underlying p=some (.slice elem))(hs:(P.info? elem).map (·.size)=some k)
 (u:w.heap[g]? =some (.cells cur t (0,0)))(hm:Nat.min b c=m)(r:cs.length=m*k)
 (e:∀j v,cs[j]? =some v->w.cell? (a.add j)=some v)(f:o+cs.length<=cur.size)(x:∀v∈cs,v.oneCell'=true):
 (Builtin.copy_ #[p,q] ty #[.slice (some ⟨g,o,none⟩) c h,.slice (some a) b d]).run P w=
  .ok (goInt m) (w.setRow g (cur.toList.take o++cs++cur.toList.drop (o+cs.length)).toArray):=by
 have hl:=run_loadCells_list (P:=P) w a cs e;have l:=run_storeCells_at P g o t cs 0 cur w u (by simpa using f) x;cases n:P.info? elem with
 |none=>simp[n]at hs
 |some i=>
  have s:i.size=k:=by simpa[n] using hs
  simp[Builtin.copy_,run_underlying hu,Builtin.lenOf,Builtin.firstCells,sizeOf,typeInfo,n,s,hm,<-r,hl,l]
theorem wpList_copy_wide {P}{w}{ops}{rest}{o}{a}{Q}(q:o.guard=none)(d s)(r u)
 (x:o.op=.call {callee:=.builtin .copy,args:= #[d,s],argTypes:= #[r,u]})(elem)(k m)(hu:P.underlying r=some (.slice elem))(p:(P.info? elem).map (·.size)=some k)
 (g off c f)(ad)(b e)(hd:a.eval d=.slice (some ⟨g,off,none⟩) c f)(hs:a.eval s=.slice (some ad) b e)
 (cur)(t)(z:w.heap[g]? =some (.cells cur t (0,0)))(cs)(hm:Nat.min b c=m)(y:cs.length=m*k)
 (i:∀j v,cs[j]? =some v->w.cell? (ad.add j)=some v)(n:off+cs.length<=cur.size)(B:∀v∈cs,v.oneCell'=true)
 (h:wpList P ops Q rest (a.put o.dst (goInt m)) (w.setRow g (cur.toList.take off++(cs++cur.toList.drop (off+cs.length))).toArray)):wpList P ops Q (o::rest) a w:=by
 refine wpList_plain q λK A=>?_
 have l:=kL (P:=P) w r u o.type elem g off c f ad b e cur t cs k m hu p z hm y i n B;unfold Oper.wp;simp[execOp,x,resolve,invoke,builtin,hd,hs,l,Result.andThen];exact A _ _ h
theorem jG {P}(w)(n o ty elem)(d a)(c f b e k)(hu:P.underlying n=some (.slice elem))(hs:(P.info? elem).map (·.size)=some k)(l:Nat.min b c=0):
 (Builtin.copy_ #[n,o] ty #[.slice d c f,.slice a b e]).run P w=.ok (goInt 0) w:=by
 cases g:P.info? elem with
 |none=>simp[g]at hs
 |some i=>
  have m:i.size=k:=by simpa[g] using hs
  cases a with
  |none=>cases d<;>simp[Builtin.copy_,run_underlying hu,Builtin.lenOf,Builtin.firstCells,sizeOf,typeInfo,g,m,l,storeCells]
  |some a=>
   have hl:=run_loadCells_list (P:=P) w a [] (λj v h=>by simp at h);simp only[List.length_nil]at hl;cases d<;>simp[Builtin.copy_,run_underlying hu,Builtin.lenOf,Builtin.firstCells,sizeOf,typeInfo,g,m,l,hl,storeCells]
theorem wpList_copy_wsplice {P}{w}{ops}{rest}{o}{a}{Q}(q:o.guard=none)(d s)(u x)
 (D:o.op=.call {callee:=.builtin .copy,args:= #[d,s],argTypes:= #[u,x]})(elem)(k m)(hu:P.underlying u=some (.slice elem))(i:(P.info? elem).map (·.size)=some k)(F:0<k)
 (A sp)(c f b e)(hd:a.eval d=.slice A c f)(hs:a.eval s=.slice sp b e)
 (g off)(cur)(t)(y:w.heap[g]? =some (.cells cur.toArray t (0,0)))(cs)(hm:Nat.min b c=m)(E:cs.length=m*k)
 (p:0<cs.length->A=some ⟨g,off,none⟩/\∃ad,sp=some ad/\∀j v,cs[j]? =some v->w.cell? (ad.add j)=some v)
 (r:off+cs.length<=cur.length)(H:∀v∈cs,v.oneCell'=true)(B)(C)(hb:Below B C w)(z:B<=g)
 (h:∀w',Hid (w'.heap[g]? =some (.cells (splice cur off cs).toArray t (0,0)))->Below B C w'->(∀k,k≠g->w'.heap[k]? =w.heap[k]?)->wpList P ops Q rest (a.put o.dst (goInt m)) w'):
 wpList P ops Q (o::rest) a w:=by
 by_cases I:cs.length=0
 .obtain rfl:cs=[]:=List.eq_nil_of_length_eq_zero I
  have m0:m=0:=by
   rcases Nat.mul_eq_zero.1 E.symm with h|h<;>omega
  subst m0;refine wpList_plain q λK G=>?_
  have n:=jG (P:=P) w u x o.type elem A sp c f b e k hu i hm;unfold Oper.wp;simp[execOp,D,resolve,invoke,builtin,hd,hs,n,Result.andThen];exact G _ _ (h w (show _=_ by simpa[splice] using y) hb λ_ _=>rfl)
 .obtain⟨rfl,ad,rfl,l⟩:=p (by omega)
  refine wpList_copy_wide q d s u x D elem k m hu i g off c f ad b e hd hs cur.toArray t y cs hm E l (by simpa using r) H ?_;exact h _ (show _=_ by simpa[splice] using setRow_heap w g _ _ t _ y) (below_setRow hb z _) λk F=>setRow_other w g k _ F
theorem ky {P}{ops}{o}{a}{w}{K}{Q}{E}(x:o.guard=none)(d s)(r u)
 (D:o.op=.call {callee:=.builtin .copy,args:= #[d,s],argTypes:= #[r,u]})(elem)(k m)(hu:P.underlying r=some (.slice elem))(l:(P.info? elem).map (·.size)=some k)(G:0<k)
 (A sp)(c i b e)(hd:a.eval d=.slice A c i)(hs:a.eval s=.slice sp b e)
 (g off)(cur)(t)(y:w.heap[g]? =some (.cells cur.toArray t (0,0)))(cs)(hm:Nat.min b c=m)(F:cs.length=m*k)
 (p:0<cs.length->A=some ⟨g,off,none⟩/\∃ad,sp=some ad/\∀j v,cs[j]? =some v->w.cell? (ad.add j)=some v)
 (q:off+cs.length<=cur.length)(H:∀v∈cs,v.oneCell'=true)(B)(C)(hb:Below B C w)(z:B<=g)
 (h:∀w',Hid (w'.heap[g]? =some (.cells (splice cur off cs).toArray t (0,0)))->Below B C w'->(∀k,k≠g->w'.heap[k]? =w.heap[k]?)->K (a.put o.dst (goInt m)) w'):
 if Region.wanted o (yielded ops a.tmps)=true then Oper.wp P o a w K Q else E:=by
 have hw:Region.wanted o (yielded ops a.tmps)=true:=by simp[Region.wanted,x]
 rw[if_pos hw]
 by_cases I:cs.length=0
 .obtain rfl:cs=[]:=List.eq_nil_of_length_eq_zero I
  have m0:m=0:=by
   rcases Nat.mul_eq_zero.1 F.symm with h|h<;>omega
  subst m0;have f:=jG (P:=P) w r u o.type elem A sp c i b e k hu l hm;unfold Oper.wp;simp[execOp,D,resolve,invoke,builtin,hd,hs,f,Result.andThen];exact h w (show _=_ by simpa[splice] using y) hb λ_ _=>rfl
 .obtain⟨rfl,ad,rfl,n⟩:=p (by omega)
  have f:=kL (P:=P) w r u o.type elem g off c i ad b e cur.toArray t cs k m hu l y hm F n (by simpa using q) H;unfold Oper.wp;simp[execOp,D,resolve,invoke,builtin,hd,hs,f,Result.andThen];exact h _ (show _=_ by simpa[splice] using setRow_heap w g _ _ t _ y) (below_setRow hb z _) λk G=>setRow_other w g k _ G
end
section
open Go
theorem cmpL_self (a:List UInt8):Lib.compareBytes a a=0:=by
 induction a with
 |nil=>rfl
 |cons x a b=>simp[Lib.compareBytes,b]
theorem cmpL_neg:∀(a b:List UInt8),Lib.compareBytes b a= -Lib.compareBytes a b
 |[],[]=>rfl
 |[],_::_=>rfl
 |_::_,[]=>rfl
 |x::a,y::b=>by
  have e:=cmpL_neg a b;have h:¬(x<y/\y<x):=fun⟨d,c⟩=>by simp only[UInt8.lt_iff_toNat_lt]at d c;omega
  unfold Lib.compareBytes
  by_cases d:x<y
  .have c:¬y<x:=λc=>h ⟨d,c⟩
   simp[d,c]
  .by_cases c:y<x
   .simp[d,c]
   .simp[d,c,e]
theorem cmpL_eq0:∀{a b:List UInt8},Lib.compareBytes a b=0->a=b
 |[],[],_=>rfl
 |[],_::_,h=>by simp[Lib.compareBytes]at h
 |_::_,[],h=>by simp[Lib.compareBytes]at h
 |x::a,y::b,h=>by
  unfold Lib.compareBytes at h
  by_cases c:x<y
  .simp[c]at h
  .by_cases e:y<x
   .simp[c,e]at h
   .simp[c,e]at h
    have d:x=y:=UInt8.toNat_inj.1 (by simp only[UInt8.lt_iff_toNat_lt]at c e;omega);rw[d,cmpL_eq0 h]
theorem cmpL_trans:∀{a b c:List UInt8},Lib.compareBytes a b<0->Lib.compareBytes b c<0->Lib.compareBytes a c<0
 |[],_,[],h,k=>by
  rename_i b;cases b with
  |nil=>simp[Lib.compareBytes]at h
  |cons y b=>simp[Lib.compareBytes]at k
 |[],_,_::_,_,_=>by simp[Lib.compareBytes]
 |_::_,[],_,h,_=>by simp[Lib.compareBytes]at h
 |_::_,_::_,[],_,k=>by simp[Lib.compareBytes]at k
 |x::a,y::b,z::c,h,k=>by
  unfold Lib.compareBytes at h k⊢
  by_cases e:x<y
  .by_cases k1:y<z
   .have:x<z:=by simp only[UInt8.lt_iff_toNat_lt]at e k1⊢;omega
    simp[this]
   .by_cases d:z<y
    .simp[k1,d]at k
    .have:y=z:=UInt8.toNat_inj.1 (by simp only[UInt8.lt_iff_toNat_lt]at k1 d;omega)
     subst this;simp[e]
  .by_cases g:y<x
   .simp[e,g]at h
   .have f:x=y:=UInt8.toNat_inj.1 (by simp only[UInt8.lt_iff_toNat_lt]at e g;omega)
    subst f;simp only[e,if_false]at h
    by_cases k1:x<z
    .simp[k1]
    .by_cases d:z<x
     .simp[k1,d]at k
     .simp only[k1,d,if_false]at k⊢
      exact cmpL_trans h k
end
namespace Z
open Go.RowKit
attribute [local go_sem ↓] Go.wp_at_zero Go.wp_at_succ
attribute [local go_sem] After.cell After.frozen After.const
def A7 (i:Nat):Int:=if i=0 then 24 else 16
theorem mostOf_any (i:Nat)(w):Calls (patch ae prog) 82 #[.int .i64 i] w λe w'=>e=.returned (.int .i64 (A7 i))/\w'=w:=by
 by_cases h:i=0
 .subst h
  go_enter (pf func82 (by rfl)),ntmps82
  go_wp2_with fail;go_ret;exact⟨rfl,rfl⟩
 .have hb:((i:Int)==0)=false:=beq_eq_false_iff_ne.2 (by omega)
  go_enter (pf func82 (by rfl)),ntmps82
  go_wp2_with fail;go_ret;exact⟨by simp[A7,h],rfl⟩
def inB (c:Nat->Int)(k:Nat):Prop:=∀i,i<k->0<=c i/\c i<=A7 i
def asksB (c:Nat->Int)(k:Nat):Bool:=(List.range k).any λi=>decide (0<c i)
theorem asksB_step (c)(k):asksB c (k+1)=(asksB c k||decide (0<c k)):=by
 unfold asksB;rw[Z6,List.any_append];simp
def inDec (c:Nat->Int)(k:Nat):Decidable (inB c k):=by unfold inB;infer_instance
def qo (c:Nat->Int):Bool:= @decide (inB c 4) (inDec c 4)&&asksB c 4
theorem mayBeWanted_any (c)(w):Calls (patch ae prog) 53 #[.agg (aQ c)] w λe w'=>e=.returned (.bool (qo c))/\Below w.heap.size w w':=by
 unfold aQ;have b0:Below w.heap.size w (w.alloc (.cells #[.int .i64 (c 0),.int .i64 (c 1),.int .i64 (c 2),.int .i64 (c 3)] 37)):=(aab _ _).alloc (ZL _) _;have m:=av b0;clear b0
 go_enter (pf func53 (by rfl)),ntmps53
 go_wp2_with fail
 go_loopw [3,7] (λa i wr=>∃k:Nat,k<=4/\i=.int .i64 k/\a=.bool (asksB c k)/\inB c k/\wr=w.alloc (.cells #[.int .i64 (c 0),.int .i64 (c 1),.int .i64 (c 2),.int .i64 (c 3)] 37)) (λ_ i _=>4-(intOf i).toNat)
 case atStart=>exact⟨0,by omega,rfl,rfl,λi n=>absurd n (ZV _),rfl⟩
 case round=>
  obtain⟨k,y,rfl,rfl,j,hw⟩:=hrel;have s:=av j;have r:=av hw;rw[<-hw]at m;clear j hw
  by_cases g:k<4
  .have x:(k:Int)<4:=by omega
   have t:=λW=>index_ints c k g W
   by_cases v:c k<0
   .have l:=av v
    go_wp2_with fail;go_ret
    have f:qo c=false:=by
     unfold qo;have:¬inB c 4:=λh=>by have:=(h k g).1;have:=l.out;omega
     simp[this]
    exact⟨by rw[f];rfl,m.out⟩
   .by_cases q:A7 k<c k
    .have l:=av q
     have u:(c k>A7 k):=q;go_wp2_with(go_at_call 82;refine(mostOf_any k _).mono ?_;rintro e w1 ⟨rfl,b⟩;obtain rfl:=b.symm);go_ret
     have f:qo c=false:=by
      unfold qo;have:¬inB c 4:=λh=>by have:=(h k g).2;have:=l.out;omega
      simp[this]
     exact⟨by rw[f];rfl,m.out⟩
    .have l:Hid (0<=c k/\c k<=A7 k):=⟨by omega,by omega⟩
     have d:Hid (inB c (k+1)):=λi n=>by
      rcases Nat.lt_succ_iff_lt_or_eq.1 n with h|rfl
      .exact s.out i h
      .exact l.out
     cases p:asksB c k
     .have o:=av p
      go_wp2_with(go_at_call 82;refine(mostOf_any k _).mono ?_;rintro e w1 ⟨rfl,b⟩;obtain rfl:=b.symm);go_roundw
      case rel=>exact⟨k+1,by omega,by go_num,by rw[asksB_step,o.out];simp,d.out,r.out⟩
      case measure=>simp[intOf];omega
     .have o:=av p
      go_wp2_with(go_at_call 82;refine(mostOf_any k _).mono ?_;rintro e w1 ⟨rfl,b⟩;obtain rfl:=b.symm);go_roundw
      case rel=>exact⟨k+1,by omega,by go_num,by rw[asksB_step,o.out];simp,d.out,r.out⟩
      case measure=>simp[intOf];omega
  .have:k=4:=by omega
   subst this;go_wp2_with fail;go_ret;exact⟨by unfold qo;simp[s.out],m.out⟩
def GVal (A:Nat->Option Addr)(N C:Nat->Nat):Value:=.agg #[.slice (A 0) (N 0) (C 0),.slice (A 1) (N 1) (C 1),.slice (A 2) (N 2) (C 2),.slice (A 3) (N 3) (C 3)]
def zA (w:World)(A:Nat->Option Addr)(N C:Nat->Nat)(R:Nat->Nat->Int):Prop:=∀q,q<4->Ints w (.slice (A q) (N q) (C q)) (N q) (R q)
theorem zA.ext {w w':World}{A:Nat->Option Addr}{N C:Nat->Nat}{R:Nat->Nat->Int}(h:zA w A N C R)(hb:Below w.heap.size w w'):zA w' A N C R:=λq a=>(h q a).ext hb
def ek (N:Nat->Nat)(R:Nat->Nat->Int)(b:Nat->Nat)(a:Nat->Nat->Int)(k:Nat):Prop:=∀q,q<k->W9 (N q) (R q) (b q) (a q)
theorem ek.one {N b:Nat->Nat}{R a:Nat->Nat->Int}:ek N R b a 1↔W9 (N 0) (R 0) (b 0) (a 0):=by
 refine⟨λh=>h 0 (by omega),λh q c=>?_⟩;obtain rfl:q=0:=by omega
 exact h
theorem ek.succ {N c:Nat->Nat}{R b:Nat->Nat->Int}{k:Nat}(h:ek N R c b k)(hs:W9 (N k) (R k) (c k) (b k)):ek N R c b (k+1):=λq d=>by
 rcases Nat.lt_succ_iff_lt_or_eq.1 d with a|a
 .exact h q a
 .subst a;exact hs
theorem ek.step_yes {r:Bool}{N b:Nat->Nat}{R a:Nat->Nat->Int}{k:Nat}(h:r=true↔ek N R b a (k+1))(hs:W9 (N (k+1)) (R (k+1)) (b (k+1)) (a (k+1))):r=true↔ek N R b a (k+1+1):=
 h.trans ⟨λh=>h.succ hs,λh q c=>h q (by omega)⟩
theorem ek.step_no {r:Bool}{N b:Nat->Nat}{R a:Nat->Nat->Int}{k:Nat}(_:r=true↔ek N R b a (k+1))(hs:¬W9 (N (k+1)) (R (k+1)) (b (k+1)) (a (k+1))):false=true↔ek N R b a (k+1+1):=
 ⟨λh=>(by cases h),λh=>absurd (h (k+1) (by omega)) hs⟩
theorem aar (v v':Value)(n p:Nat)(R c:Nat->Int)(w:World)(h:Ints w v n R)(z:Ints w v' p c):
 Calls (patch ae prog) 50 #[v,v'] w λe w'=>Ans (W9 n R p c) e/\Below w.heap.size w w':=by
 obtain⟨ao,cap,rfl,hc,hm,r⟩:=h;obtain⟨B,u,rfl,y,x,f⟩:=z
 by_cases g:n=p
 case neg=>
  go_enter (pf func50 (by rfl)),ntmps50
  go_wp2_with(first|(go_at_call 102;go_enter (pf func102 (by rfl)),ntmps102)|(go_at_call 65;go_enter (pf func65 (by rfl)),ntmps65));go_ret;exact⟨.no λh=>g h.1,aab _ _⟩
 subst g
 go_enter (pf func50 (by rfl)),ntmps50
 go_wp2_with(first|(go_at_call 102;go_enter (pf func102 (by rfl)),ntmps102)|(go_at_call 65;go_enter (pf func65 (by rfl)),ntmps65))
 go_loopw [5] (λi wr=>∃k:Nat,k<=n/\i=.int .i64 k/\Below w.heap.size w wr/\∀j,j<k->R j=c j) (λi _=>n-(intOf i).toNat)
 case atStart=>exact⟨0,by omega,rfl,aab _ _,λj q=>absurd q (ZV _)⟩
 case round=>
  obtain⟨k,E,rfl,hb,a⟩:=hrel;have m:Hid ((∀j,j<k->R j=c j)/\Below w.heap.size w wr):=⟨a,hb⟩
  by_cases d:k<n
  .obtain⟨b,o,rfl,t⟩:=r (by omega)
   obtain⟨F,C,rfl,l⟩:=f (by omega);have u0:=(t.ext hb) k d;have u1:=(l.ext hb) k d;have D:(k:Int)<n:=(by omega);clear a hb t l r f
   by_cases he:R k=c k
   .have s:Hid (R k=c k):=he
    have A:(R k==c k)=true:=(by simp[he]);clear he;go_wp2_with(first|(go_at_call 102;go_enter (pf func102 (by rfl)),ntmps102)|(go_at_call 65;go_enter (pf func65 (by rfl)),ntmps65));go_quiet(fail);go_wp2_with(first|(go_at_call 102;go_enter (pf func102 (by rfl)),ntmps102)|(go_at_call 65;go_enter (pf func65 (by rfl)),ntmps65));go_roundw
    case rel=>exact⟨k+1,by omega,by go_num,m.out.2.drewN _,λj q=>by
     rcases Nat.lt_succ_iff_lt_or_eq.1 q with h|h
     .exact m.out.1 j h
     .subst h;exact s.out⟩
    case measure=>simp[intOf];omega
   .have s:Hid (R k≠c k):=he
    have A:(R k==c k)=false:=(by simp[he]);clear he;go_wp2_with(first|(go_at_call 102;go_enter (pf func102 (by rfl)),ntmps102)|(go_at_call 65;go_enter (pf func65 (by rfl)),ntmps65));go_quiet(fail);go_wp2_with(first|(go_at_call 102;go_enter (pf func102 (by rfl)),ntmps102)|(go_at_call 65;go_enter (pf func65 (by rfl)),ntmps65));go_ret;exact⟨.no λh=>s.out (h.2 k d),m.out.2.drewN _⟩
  .have:k=n:=by omega
   subst this;clear a hb r f;go_wp2_with(first|(go_at_call 102;go_enter (pf func102 (by rfl)),ntmps102)|(go_at_call 65;go_enter (pf func65 (by rfl)),ntmps65));go_ret;exact⟨.yes ⟨rfl,m.out.1⟩,m.out.2⟩
theorem sameGrantK_any (A d:Nat->Option Addr)(N C a c:Nat->Nat)(R g:Nat->Nat->Int)(w:World)(h:zA w A N C R)(B:zA w d a c g):
 Calls (patch ae prog) 26 #[GVal A N C,GVal d a c] w λe w'=>Ans (ek N R a g 4) e/\Below w.heap.size w w':=by
 unfold GVal;obtain⟨b,f⟩:∃b,b=(w.alloc (.cells #[.slice (A 0) (N 0) (C 0),.slice (A 1) (N 1) (C 1),.slice (A 2) (N 2) (C 2),.slice (A 3) (N 3) (C 3)] 41)).alloc (.cells #[.slice (d 0) (a 0) (c 0),.slice (d 1) (a 1) (c 1),.slice (d 2) (a 2) (c 2),.slice (d 3) (a 3) (c 3)] 41):=⟨_,rfl⟩;have k:Below w.heap.size w b:=by rw[f];exact((aab _ _).alloc (ZL _) _).alloc (by simp) _
 have x:b.heap[w.heap.size]? =some (.cells #[.slice (A 0) (N 0) (C 0),.slice (A 1) (N 1) (C 1),.slice (A 2) (N 2) (C 2),.slice (A 3) (N 3) (C 3)] 41 (0,0)):=by rw[f];exact aap _ _ _
 have k1:b.heap[w.heap.size+1]? =some (.cells #[.slice (d 0) (a 0) (c 0),.slice (d 1) (a 1) (c 1),.slice (d 2) (a 2) (c 2),.slice (d 3) (a 3) (c 3)] 41 (0,0)):=by rw[f];exact aam _ _ _
 have y:w.heap.size+1<b.heap.size:=by rw[f];simp
 have m:Hid (Below w.heap.size w b/\zA b A N C R/\zA b d a c g):=⟨k,h.ext k,B.ext k⟩;obtain⟨H,v⟩:=blk x;obtain⟨G,u⟩:=blk k1;have D:Hid (b.heap[w.heap.size]? =some (.cells #[.slice (A 0) (N 0) (C 0),.slice (A 1) (N 1) (C 1),.slice (A 2) (N 2) (C 2),.slice (A 3) (N 3) (C 3)] 41 (0,0))/\b.heap[w.heap.size+1]? =some (.cells #[.slice (d 0) (a 0) (c 0),.slice (d 1) (a 1) (c 1),.slice (d 2) (a 2) (c 2),.slice (d 3) (a 3) (c 3)] 41 (0,0))):=⟨x,k1⟩;clear k h B x k1
 go_enter (pf func26 (by rfl)),ntmps26
 go_wp2_with(go_at_call 50;rw[<-f];clear f;refine(aar _ _ (N 0) (a 0) (R 0) (g 0) b (m.out.2.1 0 (by omega)) (m.out.2.2 0 (by omega))).mono ?_;rintro e w1 ⟨he,o⟩;obtain⟨r0,rfl,n⟩:=he;have H1:Hid (Below b.heap.size b w1/\(r0=true↔ek N R a g 1)):=⟨o,n.trans ek.one.symm⟩;clear o n);go_wp2_with fail
 go_loopw [5,6] (λs i wr=>∃q:Nat,q<=3/\i=.int .i64 q/\∃r:Bool,s=.bool r/\Below b.heap.size b wr/\(r=true↔ek N R a g (q+1))) (λ_ i _=>3-(intOf i).toNat)
 case atStart=>exact⟨0,by omega,rfl,r0,rfl,H1.out.1,H1.out.2⟩
 case round=>
  obtain⟨q,O,rfl,r,rfl,hb,z⟩:=hrel;have j:Hid (Below b.heap.size b wr/\(r=true↔ek N R a g (q+1))):=⟨hb,z⟩;obtain⟨M,F⟩:=blk ((hb.block w.heap.size (by omega)).trans D.out.1);obtain⟨L,E⟩:=blk ((hb.block (w.heap.size+1) y).trans D.out.2);have J:w.heap.size<wr.heap.size:=by have:=hb.size;omega
  have I:w.heap.size+1<wr.heap.size:=by have:=hb.size;omega
  clear H v G u hb z
  by_cases K:q<3
  .by_cases t:W9 (N (q+1)) (R (q+1)) (a (q+1)) (g (q+1))
   .have p:Hid (W9 (N (q+1)) (R (q+1)) (a (q+1)) (g (q+1))):=t
    clear t
    rcases(show q=0\/q=1\/q=2 by omega)with rfl|rfl|rfl<;>(
     go_wp2_with(first|(go_at_call 102;go_enter (pf func102 (by rfl)),ntmps102)|(go_at_call 65;go_enter (pf func65 (by rfl)),ntmps65));refine dx (by kernel_rfl) (by kernel_rfl) ?_
     repeat(go_big_quiet_step (first|(go_at_call 50;exact Calls.iU p.out (aar _ _ _ _ _ _ _ (((m.out.2.1.ext j.out.1).ext (After.later _)) _ (by omega)) (((m.out.2.2.ext j.out.1).ext (After.later _)) _ (by omega))))))
     refine wpQuiet_nil ?_;rintro _ ⟨⟨w1,l⟩,rfl⟩
     cases r<;>(
      go_wp2_with(first|(go_at_call 102;go_enter (pf func102 (by rfl)),ntmps102)|(go_at_call 65;go_enter (pf func65 (by rfl)),ntmps65));go_roundw
      case rel=>exact⟨_+1,by omega,by go_num,_,rfl,ai j.out.1 l,ek.step_yes j.out.2 p.out⟩
      case measure=>simp[intOf]))
   .have p:Hid (¬W9 (N (q+1)) (R (q+1)) (a (q+1)) (g (q+1))):=t
    clear t
    rcases(show q=0\/q=1\/q=2 by omega)with rfl|rfl|rfl<;>(
     go_wp2_with(first|(go_at_call 102;go_enter (pf func102 (by rfl)),ntmps102)|(go_at_call 65;go_enter (pf func65 (by rfl)),ntmps65));refine dx (by kernel_rfl) (by kernel_rfl) ?_
     repeat(go_big_quiet_step (first|(go_at_call 50;exact Calls.after_no p.out (aar _ _ _ _ _ _ _ (((m.out.2.1.ext j.out.1).ext (After.later _)) _ (by omega)) (((m.out.2.2.ext j.out.1).ext (After.later _)) _ (by omega))))))
     refine wpQuiet_nil ?_;rintro _ ⟨⟨w1,l⟩,rfl⟩
     cases r<;>(
      go_wp2_with(first|(go_at_call 102;go_enter (pf func102 (by rfl)),ntmps102)|(go_at_call 65;go_enter (pf func65 (by rfl)),ntmps65));go_roundw
      case rel=>exact⟨_+1,by omega,by go_num,_,rfl,ai j.out.1 l,ek.step_no j.out.2 p.out⟩
      case measure=>simp[intOf]))
  .have:q=3:=by omega
   subst this;go_wp2_with fail;go_ret;exact⟨⟨r,rfl,j.out.2⟩,ai m.out.1 j.out.1⟩
def IntsL (w:World)(v:Value)(l:List Nat):Prop:=Ints w v l.length (λj=>((l[j]?.getD 0:Nat):Int))
theorem IntsL.ext {w w':World}{v:Value}{l:List Nat}(h:IntsL w v l)(hb:Below w.heap.size w w'):IntsL w' v l:=Ints.ext h hb
theorem IntsL.own {w:World}{base:Nat}{v:Value}{l:List Nat}(h:w.ownsRow base 3 1 v l.length (aT l)):IntsL w v l:=dh h
theorem getD_at {l:List Nat}{j:Nat}(h:j<l.length):l[j]?.getD 0=l[j]:=by rw[ZT h];rfl
theorem sameI_list {l l':List Nat}:W9 l.length (λj=>((l[j]?.getD 0:Nat):Int)) l'.length (λj=>((l'[j]?.getD 0:Nat):Int))↔l=l':=by
 refine⟨λh=>List.ext_getElem h.1 λi a b=>?_,λh=>by subst h;exact⟨rfl,λ_ _=>rfl⟩⟩;have:=h.2 i a;simp only at this;rw[getD_at a,getD_at b]at this;exact Int.ofNat.inj this
def aav (w:World)(A:Nat->Option Addr)(C:Nat->Nat)(L:Nat->List Nat):Prop:=∀q,q<4->IntsL w (.slice (A q) (L q).length (C q)) (L q)
theorem aav.ext {w w':World}{A:Nat->Option Addr}{C:Nat->Nat}{L:Nat->List Nat}(h:aav w A C L)(hb:Below w.heap.size w w'):aav w' A C L:=λq a=>(h q a).ext hb
def gVal (A:Nat->Option Addr)(C:Nat->Nat)(L:Nat->List Nat):Value:=.agg #[.slice (A 0) (L 0).length (C 0),.slice (A 1) (L 1).length (C 1),.slice (A 2) (L 2).length (C 2),.slice (A 3) (L 3).length (C 3)]
theorem aaq (A d:Nat->Option Addr)(C c:Nat->Nat)(L a:Nat->List Nat)(w:World)(h:aav w A C L)(g:aav w d c a):
 Calls (patch ae prog) 26 #[gVal A C L,gVal d c a] w λe w'=>Ans (∀q,q<4->L q=a q) e/\Below w.heap.size w w':=by
 refine(sameGrantK_any A d (λq=>(L q).length) C (λq=>(a q).length) c _ _ w h g).mono ?_;rintro e w' ⟨⟨r,rfl,f⟩,hb⟩;exact⟨⟨r,rfl,f.trans ⟨λh q b=>sameI_list.1 (h q b),λh q b=>sameI_list.2 (h q b)⟩⟩,hb⟩
theorem empty_any (A:Nat->Option Addr)(C:Nat->Nat)(L:Nat->List Nat)(w:World)(h:aav w A C L):
 Calls (patch ae prog) 22 #[gVal A C L] w λe w'=>Ans (∀q,q<4->L q=[]) e/\Below w.heap.size w w':=by
 have a:Below w.heap.size w (w.alloc (.cells #[.slice (A 0) (L 0).length (C 0),.slice (A 1) (L 1).length (C 1),.slice (A 2) (L 2).length (C 2),.slice (A 3) (L 3).length (C 3)] 41)):=(aab _ _).alloc (ZL _) _;have c:=av (aaq A (λ_=>none) C (λ_=>0) L (λ_=>[]) _ (h.ext a) (λ_ _=>⟨none,0,rfl,ZL _,by simp,λh=>absurd h (Nat.lt_irrefl _)⟩));have d:=av a;clear h a;unfold gVal at*
 go_enter (pf func22 (by rfl)),ntmps22
 go_wp2_with fail;refine c.out.mono ?_;rintro e w1 ⟨⟨r,rfl,b⟩,hb⟩;have H1:=av (aaa b (ai d.out hb));clear b hb;go_wp2_with fail;go_ret;exact⟨⟨r,rfl,H1.out.1⟩,H1.out.2⟩
end Z
section
open Go.ChangeShapes Go.WideShapes Go.ChangeAt Go.RowKit Go.Deep Go.Joins
end
section
theorem spentUpto_c0:(Rows.spentUptoRow.wf (OpenSpec.ofChange Rows.spentSpec))=true:=by kernel_rfl
theorem spentUpto_c1:(laidOutB prog)=true:=by kernel_rfl
theorem spentUpto_c2:(mapsRowed prog)=true:=by kernel_rfl
theorem spentUpto_c3:(Tryz.f6.params.all (prog.readableRec ·))=true:=by kernel_rfl
theorem spentUpto_c4:(namedTie prog Rows.spentUptoRow.named Rows.spentSpec.vars)=true:=by kernel_rfl
theorem spentUpto_c5:((Rows.spentUptoRow.stops== []))=true:=by kernel_rfl
theorem spentUpto_c6:((prog.stops== []))=true:=by kernel_rfl
theorem spentUpto_c7:((Rows.spentUptoRow.knobs== []))=true:=by kernel_rfl
theorem spentUpto_c8:((prog.stopKnobs== []))=true:=by kernel_rfl
theorem spentUpto_c9:((Rows.spentUptoRow.inPlace==prog.inPlace 6))=true:=by kernel_rfl
theorem spentUpto_c10:((Rows.spentUptoRow.unfollowed==prog.unfollowed 6))=true:=by kernel_rfl
theorem spentUpto_c11:((Rows.spentUptoRow.recurses==prog.recurses 6))=true:=by kernel_rfl
theorem spentUpto_c12:((Rows.spentUptoRow.named==prog.varsNamed 6))=true:=by kernel_rfl
theorem spentUpto_c13:((Rows.spentUptoRow.maps==(Tryz.f6.params.toList++Rows.spentSpec.plain.varTypes prog).any (prog.mapsRec ·)))=true:=by kernel_rfl
theorem spentUpto_c14:((Rows.spentUptoRow.ifaces==(Tryz.f6.params.toList++Rows.spentSpec.plain.varTypes prog).any (prog.ifacesRec ·)))=true:=by kernel_rfl
theorem spentUpto_c15:((Rows.spentUptoRow.mapsOut==prog.mapsAmong Tryz.f6.resultTypes.toList))=true:=by kernel_rfl
theorem spentUpto_c16:((Rows.spentUptoRow.loops==(Tryz.f6.params.toList++Rows.spentSpec.plain.varTypes prog).any (prog.loopsFrom ·)))=true:=by kernel_rfl
theorem spentUpto_c17:((Rows.spentUptoRow.wideKeys==(Tryz.f6.params.toList++Rows.spentSpec.plain.varTypes prog++Tryz.f6.resultTypes.toList).any (prog.wideKeysFrom ·)))=true:=by kernel_rfl
theorem spentUpto_c18:(Rows.spentSpec.vars.all (prog.varReadable ·))=true:=by kernel_rfl
theorem spentUpto_c19:(Tryz.f6.resultTypes.all (λt=>prog.readableRec t&&decide (t<prog.types.size)))=true:=by kernel_rfl
theorem spentUpto_c20:((Rows.spentUptoRow.ifacesOut==Tryz.f6.resultTypes.toList.any (prog.ifacesRec ·)))=true:=by kernel_rfl
theorem spentUpto_c21:((Rows.spentUptoRow.loopsOut==Tryz.f6.resultTypes.toList.any (prog.loopsFrom ·)))=true:=by kernel_rfl
theorem spentUpto_c22:((Rows.spentUptoRow.plainKeys==prog.plainKeys))=true:=by kernel_rfl
theorem spentUpto_c23:(Rows.spentUptoRow.shortTexts.isNone)=true:=by kernel_rfl
theorem spentUpto_c24:(prog.stopsHeard)=true:=by kernel_rfl
theorem spentUpto_c25:(prog.mayEnter)=true:=by kernel_rfl
theorem spentUpto_c26:((Rows.spentUptoRow.lifted==prog.liftsFinal))=true:=by kernel_rfl
theorem spentUpto_c27:((prog.make==some Rows.spentUptoRow.make))=true:=by kernel_rfl
theorem spentUpto_c28:((Rows.spentUptoRow.kinds==(if Rows.spentUptoRow.domain.isEmpty then []else Tryz.f6.params.toList.map λt=>match prog.underlying t with|some (.int k)=>some k|_=>none)))=true:=by kernel_rfl
theorem spentUpto_c29:((Rows.spentUptoRow.pinned==Rows.spentUptoRow.pinnedBy))=true:=by kernel_rfl
theorem spentUpto_c30:((Rows.spentUptoRow.veiled==(Tryz.f6.params.toList++Rows.spentSpec.plain.varTypes prog++Tryz.f6.resultTypes.toList).any (prog.veiledRec ·)))=true:=by kernel_rfl
theorem spentUpto_c31:(Rows.spentUptoRow.veiledFits prog Tryz.f6.params.toList (Tryz.f6.params.toList++Rows.spentSpec.plain.varTypes prog++Tryz.f6.resultTypes.toList))=true:=by kernel_rfl
theorem ed {a b:Bool}(c:a=true)(hb:b=true):(a&&b)=true:=by rw[c,hb];rfl
theorem spentUpto_closed:joinedFacts prog 6 Tryz.f6 Rows.spentSpec Rows.spentUptoRow=true:=
 ed (ed (ed (ed (ed (ed (ed (ed (ed (ed (ed (ed (ed (ed (ed (ed (ed (ed (ed (ed (ed (ed (ed (ed (ed (ed (ed (ed (ed (ed (ed (spentUpto_c0) spentUpto_c1) spentUpto_c2) spentUpto_c3) spentUpto_c4) spentUpto_c5) spentUpto_c6) spentUpto_c7) spentUpto_c8) spentUpto_c9) spentUpto_c10) spentUpto_c11) spentUpto_c12) spentUpto_c13) spentUpto_c14) spentUpto_c15) spentUpto_c16) spentUpto_c17) spentUpto_c18) spentUpto_c19) spentUpto_c20) spentUpto_c21) spentUpto_c22) spentUpto_c23) spentUpto_c24) spentUpto_c25) spentUpto_c26) spentUpto_c27) spentUpto_c28) spentUpto_c29) spentUpto_c30) spentUpto_c31
open Go.ChangeShapes Go.WideShapes Go.ChangeAt Go.RowKit Go.Great
def putCells (cs:Array Value):Obj->Obj
 |.cells _ t f=>.cells cs t f
 |o=>o
def litOne:DataW Unit->List Value
 |.lit (.int k n)=>[.int k n]
 |_=>[]
def litTwo:DataW Unit->List Value
 |.agg ps=>ps.flatMap litOne
 |d=>litOne d
def litAll:DataW Unit->List Value
 |.agg ps=>ps.flatMap litTwo
 |d=>litTwo d
def oo (d:DataW Unit):Array Value:=(litAll d).toArray
def gT (l:List Nat):List Int:=l.map fun(n:Nat)=>(n:Int)
def over (k:IntKind)(l:List Nat):Array Value:=((gT l).map (Value.int k)).toArray
def row1 (b:Nat)(l:List Nat):Array Value:= #[.slice (some ⟨b,0,none⟩) (gT l).length (gT l).length]
def iJ (h:Array Obj):Array Obj:=
 (((((((((((((h.modify 0 (putCells #[.iface 345 (.pointer (some ⟨24,0,none⟩))])).modify 3 (putCells (oo Rows.laid_internal_strconv_uint64pow10))).modify 12 (putCells (oo Rows.laid_math_bits_deBruijn32tab))).modify 13 (putCells (oo Rows.laid_math_bits_deBruijn64tab))).modify 5 (putCells (oo Rows.laid_unicode_utf8_acceptRanges))).modify 4
   (putCells (oo Rows.laid_unicode_utf8_first))).modify 7 (putCells (row1 19 Pinned.isPrint16Z))).modify 8 (putCells (row1 20 Pinned.isNotPrint16Z))).modify 9 (putCells (row1 21 Pinned.isPrint32Z))).modify 10 (putCells (row1 22 Pinned.isNotPrint32Z))).modify 11 (putCells (row1 23 Pinned.isGraphicZ))).modify 2
   (putCells #[.iface 345 (.pointer (some ⟨25,0,none⟩))])).modify 6 (putCells #[.iface 345 (.pointer (some ⟨26,0,none⟩))]))++
 #[.cells (over .u16 Pinned.isPrint16Z) 337,.cells (over .u16 Pinned.isNotPrint16Z) 337,.cells (over .u32 Pinned.isPrint32Z) 128,.cells (over .u16 Pinned.isNotPrint32Z) 337,.cells (over .u16 Pinned.isGraphicZ) 337,
    .cells #[.string ⟨#[116,104,101,32,100,105,115,107,32,111,112,101,114,97,116,105,111,110,32,102,97,105,108,101,100]⟩] 347,.cells #[.string ⟨#[105,110,118,97,108,105,100,32,115,121,110,116,97,120]⟩] 347,.cells #[.string ⟨#[118,97,108,117,101,32,111,117,116,32,111,102,32,114,97,110,103,101]⟩] 347]
theorem nats_wf (k)(l)(h:((gT l).all λn=>(Lit.int k n).wf)=true):∀n∈gT l,(Lit.int k n).wf=true:=λn a=>ZU.1 h n a
theorem pieceA (os)(args):LaidIn prog (({World.settled prog os with heap:=iJ (World.settled prog os).heap}:World).forCall (λ_ _=>0) ⟨#[],args,[]⟩).memory (Rows.widthsUptoRow.laid.take 5) [12,13,3,5,0,24]:=
 LaidIn.of_run [12,13,3,5,0,24] 10 (by kernel_rfl) (by kernel_rfl) (by kernel_rfl) (by kernel_rfl)
theorem pieceF (os)(args):LaidIn prog (({World.settled prog os with heap:=iJ (World.settled prog os).heap}:World).forCall (λ_ _=>0) ⟨#[],args,[]⟩).memory [("unicode/utf8.first",Rows.laid_unicode_utf8_first)] [4]:=
 LaidIn.of_run [4] 10 (by kernel_rfl) (by kernel_rfl) (by kernel_rfl) (by kernel_rfl)
theorem piece11 (os)(args):LaidIn prog (({World.settled prog os with heap:=iJ (World.settled prog os).heap}:World).forCall (λ_ _=>0) ⟨#[],args,[]⟩).memory [("strconv.isGraphic",Rows.laid_strconv_isGraphic)] [11,23]:=by
 have e:Rows.laid_strconv_isGraphic=.slice ((gT Pinned.isGraphicZ).map λn=>.lit (.int .u16 n)) []:=by kernel_rfl
 rw[e];exact laidIn_ints (name:= "strconv.isGraphic") (g:=11) (R:=23) (t:=338) (e:=337) (tg:=338) (k:=.u16) (zs:=gT Pinned.isGraphicZ) (by kernel_rfl) (by kernel_rfl) (by kernel_rfl) (by kernel_rfl) (by kernel_rfl) (Nat.le_of_ble_eq_true (by kernel_rfl)) (nats_wf _ _ (by kernel_rfl)) (by kernel_rfl) (by kernel_rfl) (Nat.ne_of_beq_eq_false (by kernel_rfl))
theorem piece8 (os)(args):LaidIn prog (({World.settled prog os with heap:=iJ (World.settled prog os).heap}:World).forCall (λ_ _=>0) ⟨#[],args,[]⟩).memory [("strconv.isNotPrint16",Rows.laid_strconv_isNotPrint16)] [8,20]:=by
 have e:Rows.laid_strconv_isNotPrint16=.slice ((gT Pinned.isNotPrint16Z).map λn=>.lit (.int .u16 n)) []:=by kernel_rfl
 rw[e];exact laidIn_ints (name:= "strconv.isNotPrint16") (g:=8) (R:=20) (t:=338) (e:=337) (tg:=338) (k:=.u16) (zs:=gT Pinned.isNotPrint16Z) (by kernel_rfl) (by kernel_rfl) (by kernel_rfl) (by kernel_rfl) (by kernel_rfl) (Nat.le_of_ble_eq_true (by kernel_rfl)) (nats_wf _ _ (by kernel_rfl)) (by kernel_rfl) (by kernel_rfl) (Nat.ne_of_beq_eq_false (by kernel_rfl))
theorem piece10 (os)(args):LaidIn prog (({World.settled prog os with heap:=iJ (World.settled prog os).heap}:World).forCall (λ_ _=>0) ⟨#[],args,[]⟩).memory [("strconv.isNotPrint32",Rows.laid_strconv_isNotPrint32)] [10,22]:=by
 have e:Rows.laid_strconv_isNotPrint32=.slice ((gT Pinned.isNotPrint32Z).map λn=>.lit (.int .u16 n)) []:=by kernel_rfl
 rw[e];exact laidIn_ints (name:= "strconv.isNotPrint32") (g:=10) (R:=22) (t:=338) (e:=337) (tg:=338) (k:=.u16) (zs:=gT Pinned.isNotPrint32Z) (by kernel_rfl) (by kernel_rfl) (by kernel_rfl) (by kernel_rfl) (by kernel_rfl) (Nat.le_of_ble_eq_true (by kernel_rfl)) (nats_wf _ _ (by kernel_rfl)) (by kernel_rfl) (by kernel_rfl) (Nat.ne_of_beq_eq_false (by kernel_rfl))
theorem piece7 (os)(args):LaidIn prog (({World.settled prog os with heap:=iJ (World.settled prog os).heap}:World).forCall (λ_ _=>0) ⟨#[],args,[]⟩).memory [("strconv.isPrint16",Rows.laid_strconv_isPrint16)] [7,19]:=by
 have e:Rows.laid_strconv_isPrint16=.slice ((gT Pinned.isPrint16Z).map λn=>.lit (.int .u16 n)) []:=by kernel_rfl
 rw[e];exact laidIn_ints (name:= "strconv.isPrint16") (g:=7) (R:=19) (t:=338) (e:=337) (tg:=338) (k:=.u16) (zs:=gT Pinned.isPrint16Z) (by kernel_rfl) (by kernel_rfl) (by kernel_rfl) (by kernel_rfl) (by kernel_rfl) (Nat.le_of_ble_eq_true (by kernel_rfl)) (nats_wf _ _ (by kernel_rfl)) (by kernel_rfl) (by kernel_rfl) (Nat.ne_of_beq_eq_false (by kernel_rfl))
theorem piece9 (os)(args):LaidIn prog (({World.settled prog os with heap:=iJ (World.settled prog os).heap}:World).forCall (λ_ _=>0) ⟨#[],args,[]⟩).memory [("strconv.isPrint32",Rows.laid_strconv_isPrint32)] [9,21]:=by
 have e:Rows.laid_strconv_isPrint32=.slice ((gT Pinned.isPrint32Z).map λn=>.lit (.int .u32 n)) []:=by kernel_rfl
 rw[e];exact laidIn_ints (name:= "strconv.isPrint32") (g:=9) (R:=21) (t:=340) (e:=128) (tg:=340) (k:=.u32) (zs:=gT Pinned.isPrint32Z) (by kernel_rfl) (by kernel_rfl) (by kernel_rfl) (by kernel_rfl) (by kernel_rfl) (Nat.le_of_ble_eq_true (by kernel_rfl)) (nats_wf _ _ (by kernel_rfl)) (by kernel_rfl) (by kernel_rfl) (Nat.ne_of_beq_eq_false (by kernel_rfl))
theorem tabled_met (os)(args):laidMetH prog Rows.widthsUptoRow.laid (({World.settled prog os with heap:=iJ (World.settled prog os).heap}:World).forCall (λ_ _=>0) ⟨#[],args,[]⟩).memory:=by
 rw[MakeChecks.laidMetH_plain _ _ _ (by kernel_rfl)];exact((pieceA os args).append ((piece11 os args).append ((piece8 os args).append ((piece10 os args).append ((piece7 os args).append ((piece9 os args).append (pieceF os args) (by kernel_rfl)) (by kernel_rfl)) (by kernel_rfl)) (by kernel_rfl)) (by kernel_rfl)) (by kernel_rfl)).met
theorem tabled_shaped (os)(args):(({World.settled prog os with heap:=iJ (World.settled prog os).heap}:World).forCall (λ_ _=>0) ⟨#[],args,[]⟩).Shaped prog:=
 World.shaped_of_RefB (by kernel_rfl) (by kernel_rfl)
end
