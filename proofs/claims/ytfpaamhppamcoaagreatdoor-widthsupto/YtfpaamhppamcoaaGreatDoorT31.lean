/- Part 31 of the proof. -/
import Derived.Test.YtfpaamhppamcoaaGreatDoorT15
import Derived.ProofKit
import Derived.LaidLaws
import Derived.MakeChecks
import Derived.Lib.LaidIn
import Derived.Great.LaidInts
import Derived.KernelRfl
import Derived.Conc.Holds
import Derived.JoinedCond
import Derived.Conc.LeavingOf
import Derived.LaidByTextLater
import Derived.SevenTiedAt
import Derived.LaidOnce
import Derived.Test.YtfpaamhppamcoaaGreatDoorProg
import Derived.Test.YtfpaamhppamcoaaGreatDoorShelf
import Derived.Shelf.Sort.Plain
import Derived.Shelf.Slices.In.SortNone
import Derived.Lib.OwnBridge
import Derived.Lib.AppendIntMem
set_option linter.all false
set_option maxRecDepth 100000
set_option maxHeartbeats 60000000
namespace Go.Proofs.YtfpaamhppamcoaaGreatDoor
open Go.Proofs.Tryz
section
open Go.ChangeShapes Go.WideShapes Go.ChangeAt Go.RowKit Go.Great
def putCells (cs:Array Value):Obj->Obj
 |.cells _ t f=>.cells cs t f
 |o=>o
def Nb:DataW Unit->List Value
 |.lit (.int k n)=>[.int k n]
 |_=>[]
def Na:DataW Unit->List Value
 |.agg ps=>ps.flatMap Nb
 |d=>Nb d
def Ry:DataW Unit->List Value
 |.agg ps=>ps.flatMap Na
 |d=>Na d
def oo (d:DataW Unit):Array Value:=(Ry d).toArray
def gT (l:List Nat):List Int:=l.map fun(n:Nat)=>(n:Int)
def over (k:IntKind)(l:List Nat):Array Value:=((gT l).map (Value.int k)).toArray
def MB (b:Nat)(l:List Nat):Array Value:= #[.slice (some ⟨b,0,none⟩) (gT l).length (gT l).length]
def iJ (h:Array Obj):Array Obj:=
 (((((((((((((h.modify 0 (putCells #[.iface 345 (.pointer (some ⟨24,0,none⟩))])).modify 3 (putCells (oo Rows.laid_internal_strconv_uint64pow10))).modify 12 (putCells (oo Rows.laid_math_bits_deBruijn32tab))).modify 13 (putCells (oo Rows.laid_math_bits_deBruijn64tab))).modify 5 (putCells (oo Rows.laid_unicode_utf8_acceptRanges))).modify 4
   (putCells (oo Rows.laid_unicode_utf8_first))).modify 7 (putCells (MB 19 Pinned.isPrint16Z))).modify 8 (putCells (MB 20 Pinned.isNotPrint16Z))).modify 9 (putCells (MB 21 Pinned.isPrint32Z))).modify 10 (putCells (MB 22 Pinned.isNotPrint32Z))).modify 11 (putCells (MB 23 Pinned.isGraphicZ))).modify 2
   (putCells #[.iface 345 (.pointer (some ⟨25,0,none⟩))])).modify 6 (putCells #[.iface 345 (.pointer (some ⟨26,0,none⟩))]))++
 #[.cells (over .u16 Pinned.isPrint16Z) 337,.cells (over .u16 Pinned.isNotPrint16Z) 337,.cells (over .u32 Pinned.isPrint32Z) 128,.cells (over .u16 Pinned.isNotPrint32Z) 337,.cells (over .u16 Pinned.isGraphicZ) 337,
    .cells #[.string ⟨#[116,104,101,32,100,105,115,107,32,111,112,101,114,97,116,105,111,110,32,102,97,105,108,101,100]⟩] 347,.cells #[.string ⟨#[105,110,118,97,108,105,100,32,115,121,110,116,97,120]⟩] 347,.cells #[.string ⟨#[118,97,108,117,101,32,111,117,116,32,111,102,32,114,97,110,103,101]⟩] 347]
theorem qX (k)(l)(h:((gT l).all λn=>(Lit.int k n).wf)=true):∀n∈gT l,(Lit.int k n).wf=true:=λn a=>ZU.1 h n a
theorem Rc (os)(args):LaidIn prog (({World.settled prog os with heap:=iJ (World.settled prog os).heap}:World).forCall (λ_ _=>0) ⟨#[],args,[]⟩).memory (Rows.widthsUptoRow.laid.take 5) [12,13,3,5,0,24]:=
 LaidIn.of_run [12,13,3,5,0,24] 10 (by kernel_rfl) (by kernel_rfl) (by kernel_rfl) (by kernel_rfl)
theorem Rb (os)(args):LaidIn prog (({World.settled prog os with heap:=iJ (World.settled prog os).heap}:World).forCall (λ_ _=>0) ⟨#[],args,[]⟩).memory [("unicode/utf8.first",Rows.laid_unicode_utf8_first)] [4]:=
 LaidIn.of_run [4] 10 (by kernel_rfl) (by kernel_rfl) (by kernel_rfl) (by kernel_rfl)
theorem Pd (os)(args):LaidIn prog (({World.settled prog os with heap:=iJ (World.settled prog os).heap}:World).forCall (λ_ _=>0) ⟨#[],args,[]⟩).memory [("strconv.isGraphic",Rows.laid_strconv_isGraphic)] [11,23]:=by
 have e:Rows.laid_strconv_isGraphic=.slice ((gT Pinned.isGraphicZ).map λn=>.lit (.int .u16 n)) []:=by kernel_rfl
 rw[e];exact laidIn_ints (name:= "strconv.isGraphic") (g:=11) (R:=23) (t:=338) (e:=337) (tg:=338) (k:=.u16) (zs:=gT Pinned.isGraphicZ) (by kernel_rfl) (by kernel_rfl) (by kernel_rfl) (by kernel_rfl) (by kernel_rfl) (Nat.le_of_ble_eq_true (by kernel_rfl)) (qX _ _ (by kernel_rfl)) (by kernel_rfl) (by kernel_rfl) (Nat.ne_of_beq_eq_false (by kernel_rfl))
theorem Rf (os)(args):LaidIn prog (({World.settled prog os with heap:=iJ (World.settled prog os).heap}:World).forCall (λ_ _=>0) ⟨#[],args,[]⟩).memory [("strconv.isNotPrint16",Rows.laid_strconv_isNotPrint16)] [8,20]:=by
 have e:Rows.laid_strconv_isNotPrint16=.slice ((gT Pinned.isNotPrint16Z).map λn=>.lit (.int .u16 n)) []:=by kernel_rfl
 rw[e];exact laidIn_ints (name:= "strconv.isNotPrint16") (g:=8) (R:=20) (t:=338) (e:=337) (tg:=338) (k:=.u16) (zs:=gT Pinned.isNotPrint16Z) (by kernel_rfl) (by kernel_rfl) (by kernel_rfl) (by kernel_rfl) (by kernel_rfl) (Nat.le_of_ble_eq_true (by kernel_rfl)) (qX _ _ (by kernel_rfl)) (by kernel_rfl) (by kernel_rfl) (Nat.ne_of_beq_eq_false (by kernel_rfl))
theorem Pe (os)(args):LaidIn prog (({World.settled prog os with heap:=iJ (World.settled prog os).heap}:World).forCall (λ_ _=>0) ⟨#[],args,[]⟩).memory [("strconv.isNotPrint32",Rows.laid_strconv_isNotPrint32)] [10,22]:=by
 have e:Rows.laid_strconv_isNotPrint32=.slice ((gT Pinned.isNotPrint32Z).map λn=>.lit (.int .u16 n)) []:=by kernel_rfl
 rw[e];exact laidIn_ints (name:= "strconv.isNotPrint32") (g:=10) (R:=22) (t:=338) (e:=337) (tg:=338) (k:=.u16) (zs:=gT Pinned.isNotPrint32Z) (by kernel_rfl) (by kernel_rfl) (by kernel_rfl) (by kernel_rfl) (by kernel_rfl) (Nat.le_of_ble_eq_true (by kernel_rfl)) (qX _ _ (by kernel_rfl)) (by kernel_rfl) (by kernel_rfl) (Nat.ne_of_beq_eq_false (by kernel_rfl))
theorem Rh (os)(args):LaidIn prog (({World.settled prog os with heap:=iJ (World.settled prog os).heap}:World).forCall (λ_ _=>0) ⟨#[],args,[]⟩).memory [("strconv.isPrint16",Rows.laid_strconv_isPrint16)] [7,19]:=by
 have e:Rows.laid_strconv_isPrint16=.slice ((gT Pinned.isPrint16Z).map λn=>.lit (.int .u16 n)) []:=by kernel_rfl
 rw[e];exact laidIn_ints (name:= "strconv.isPrint16") (g:=7) (R:=19) (t:=338) (e:=337) (tg:=338) (k:=.u16) (zs:=gT Pinned.isPrint16Z) (by kernel_rfl) (by kernel_rfl) (by kernel_rfl) (by kernel_rfl) (by kernel_rfl) (Nat.le_of_ble_eq_true (by kernel_rfl)) (qX _ _ (by kernel_rfl)) (by kernel_rfl) (by kernel_rfl) (Nat.ne_of_beq_eq_false (by kernel_rfl))
theorem Re (os)(args):LaidIn prog (({World.settled prog os with heap:=iJ (World.settled prog os).heap}:World).forCall (λ_ _=>0) ⟨#[],args,[]⟩).memory [("strconv.isPrint32",Rows.laid_strconv_isPrint32)] [9,21]:=by
 have e:Rows.laid_strconv_isPrint32=.slice ((gT Pinned.isPrint32Z).map λn=>.lit (.int .u32 n)) []:=by kernel_rfl
 rw[e];exact laidIn_ints (name:= "strconv.isPrint32") (g:=9) (R:=21) (t:=340) (e:=128) (tg:=340) (k:=.u32) (zs:=gT Pinned.isPrint32Z) (by kernel_rfl) (by kernel_rfl) (by kernel_rfl) (by kernel_rfl) (by kernel_rfl) (Nat.le_of_ble_eq_true (by kernel_rfl)) (qX _ _ (by kernel_rfl)) (by kernel_rfl) (by kernel_rfl) (Nat.ne_of_beq_eq_false (by kernel_rfl))
theorem GU (os)(args):laidMetH prog Rows.widthsUptoRow.laid (({World.settled prog os with heap:=iJ (World.settled prog os).heap}:World).forCall (λ_ _=>0) ⟨#[],args,[]⟩).memory:=by
 rw[MakeChecks.laidMetH_plain _ _ _ (by kernel_rfl)];exact((Rc os args).append ((Pd os args).append ((Rf os args).append ((Pe os args).append ((Rh os args).append ((Re os args).append (Rb os args) (by kernel_rfl)) (by kernel_rfl)) (by kernel_rfl)) (by kernel_rfl)) (by kernel_rfl)) (by kernel_rfl)).met
theorem zT (os)(args):(({World.settled prog os with heap:=iJ (World.settled prog os).heap}:World).forCall (λ_ _=>0) ⟨#[],args,[]⟩).Shaped prog:=
 World.shaped_of_RefB (by kernel_rfl) (by kernel_rfl)
end
section
open Go Go.ChangeShapes Go.Conc
theorem mZ {p}{s}{c}(f)(fn)
 (hn:c.program=p.name)(hs:c.sum=p.sum)(N:c.spec=s.name)
 (hstart:c.start=.entering)(d:c.outside=[])(R:c.inits=[])(M:c.under=none)(S:c.initsInPlace=[]/\c.initsUnfollowed=false/\c.initsRecurse=false/\c.initsNamed=[]/\c.initsPassed=[])(u:c.noBlocks=false)(Q:c.leaving=true)(j:c.followed=none)(v:c.narrowed=s.cond.isSome)(e:c.still=false)
 (T:p.checked.prog.funcNamed c.func=some f)(hf:p.checked.prog.funcs[f]? =some fn)
 (closed:joinedFacts p.checked.prog f fn s.bare c=true)
 (i:fn.isInstance p.checked.prog c.origin c.targs)(g:fn.isWrapper p.checked.prog c.wrapper c.mainSum)
 (h:∀os:Os,os.Started->∀(H:Type) (enc:TypeId×Value->H),(∀a b,enc a=enc b->a=b)->∀F:Stop.Interp,
  ReturnsInLeavingWide c.assume p.checked os f .any (c.pre enc p.checked.prog fn s) ((s.at F).post enc p.checked.prog fn c.apart c.fresh c.handsOn c.again)):c.holds p s:=by
 simp only[joinedFacts,ZQ,beq_iff_eq,Array.all_eq_true_iff_forall_mem,ZU,decide_eq_true_eq]at closed;obtain⟨⟨⟨⟨⟨⟨⟨⟨⟨⟨⟨⟨⟨⟨⟨⟨⟨⟨⟨⟨⟨⟨⟨⟨⟨⟨⟨⟨⟨⟨⟨k1,k2⟩,Z⟩,Y⟩,X⟩,U⟩,k7⟩,W⟩,k9⟩,L⟩,Ur⟩,VZ⟩,Uq⟩,K⟩,J⟩,I⟩,G⟩,t⟩,E⟩,D⟩,C⟩,B⟩,A⟩,r⟩,q⟩,o⟩,m⟩,l⟩,z⟩,y⟩,x⟩,w⟩:=closed;have hq:∀os:Os,Stop.quiet p.checked.prog os:=λos k V=>by rw[k9]at V;cases V
 refine⟨k1,hn,hs,N,k2,Z,by unfold OpenClaim.startFits;rw[hstart];exact o,by unfold OpenClaim.startTold;rw[hstart];exact⟨R,M,S⟩,f,fn,T,hf,⟨Y,D⟩,(λhb=>by rw[u]at hb;cases hb),by unfold OpenClaim.namedList;rw[j];exact X,i,g,
  U.trans k7.symm,⟨W.trans k9.symm,by unfold Program.envWorded;rw[k9];rfl,q⟩,L,Ur,VZ,Uq,K,⟨J,x,w⟩,⟨I,C⟩,⟨G,B,z,y⟩,⟨A,m,l,t⟩,(by rw[d,v];cases O:c.shortTexts with|none=>simp|some _=>rw[O]at r;cases r),λn P=>varReadable_some (E n P),
  ⟨_,by unfold OpenClaim.world;rw[d,hstart];exact WideRow.started_initial,hq _⟩,[],by unfold OpenClaim.lists;rw[j],λos st _ H enc inj=>?_⟩
 have zG:os.Started:=by unfold OpenClaim.world at st;rw[d,hstart]at st;exact st
 rw[OpenClaim.post_not_still e];unfold OpenClaim.form;rw[hstart,U];intro F;have e1:c.okInput=Input.okWide:=by unfold OpenClaim.okInput;rw[u]
 have e2:c.atReturn p.checked.prog=leavingAtReturn p.checked.prog:=by unfold OpenClaim.atReturn;rw[Q]
 have e3:c.always p.checked.prog []=nothingAlways:=by unfold OpenClaim.always;rw[j]
 have e4:s.post enc p.checked.prog fn F c.outside c.apart c.fresh c.handsOn c.again=(s.at F).post enc p.checked.prog fn c.apart c.fresh c.handsOn c.again:=by rw[d];rfl
 rw[e1,e2,e3];show ReturnsInOpen _ _ _ _ _ _ _ _ (s.post enc p.checked.prog fn F c.outside c.apart c.fresh c.handsOn c.again) _ _
 rw[e4];exact h os zG H enc inj F o
end
section
open Go
theorem Mc:prog.laidByTextLater [("math/bits.deBruijn32tab",Rows.laid_math_bits_deBruijn32tab),("math/bits.deBruijn64tab",Rows.laid_math_bits_deBruijn64tab),("internal/strconv.uint64pow10",Rows.laid_internal_strconv_uint64pow10),("unicode/utf8.acceptRanges",Rows.laid_unicode_utf8_acceptRanges),("berth/disk.ErrFailed",Rows.laid_berth_disk_ErrFailed)] [.data,.data,.data,.data,.sentinel] true:=
 Program.laidByTextLater_by_one 91 8 65 (by kernel_rfl) (by kernel_rfl) (by kernel_rfl) (by kernel_rfl) (by kernel_rfl) (by kernel_rfl) (λ_ _=>by kernel_rfl)
theorem Rp:Tryz.pinned.checked.prog.headLifts.contains "ownunsafe" =false:=by kernel_rfl
theorem OG:Rows.widthsUptoRow.laidByTextAt .later Tryz.pinned [.data,.data,.data,.data,.sentinel,.pinned,.pinned,.pinned,.pinned,.pinned,.pinned] true:=
 OpenClaim.laidByTextAt_pinned rfl rfl Mc rfl rfl rfl rfl (λy hy e=>by
  simp only[Rows.widthsUptoRow,List.zip_cons_cons,List.zip_nil_right,ZW,List.mem_nil_iff,or_false]at hy;rcases hy with rfl|rfl|rfl|rfl|rfl|rfl|rfl|rfl|rfl|rfl|rfl<;>first|(cases e;done)|exact⟨by kernel_rfl,by kernel_rfl⟩) (by
  unfold Program.listedFits;rw[Rp]
  kernel_rfl)
end
section
open Go Go.Shelf
theorem AY:Lays.n189 (patch ae prog) Tryz.lays189_ren:=
 have L:=Tryz.lays189
 {mixed:=L.mixed,
  f125:=pf L.f125 (by rfl),
  f128:=pf L.f128 (by rfl),
  f129:=pf L.f129 (by rfl),
  f189:=pf L.f189 (by rfl),
  f215:=pf L.f215 (by rfl),
  f216:=pf L.f216 (by rfl),
  f257:=pf L.f257 (by rfl),
  f294:=pf L.f294 (by rfl),
  f295:=pf L.f295 (by rfl),
  f296:=pf L.f296 (by rfl),
  f297:=pf L.f297 (by rfl),
  f298:=pf L.f298 (by rfl),
  f299:=pf L.f299 (by rfl),
  f300:=pf L.f300 (by rfl),
  f301:=pf L.f301 (by rfl),
  f328:=pf L.f328 (by rfl),
  f329:=pf L.f329 (by rfl),
  f330:=pf L.f330 (by rfl),
  f331:=pf L.f331 (by rfl),
  f332:=pf L.f332 (by rfl),
  f343:=pf L.f343 (by rfl),
  t0:=L.t0,
  a0:=λw=>(aP _ _ _ w).trans (L.a0 w),
  z0:=λw=>(aM _ _ _ w).trans (L.z0 w),
  v0:=λw=>(aI _ _ _ w).trans (L.v0 w),
  t3:=L.t3,
  a3:=λw=>(aP _ _ _ w).trans (L.a3 w),
  z3:=λw=>(aM _ _ _ w).trans (L.z3 w),
  v3:=λw=>(aI _ _ _ w).trans (L.v3 w),
  t4:=L.t4,
  a4:=λw=>(aP _ _ _ w).trans (L.a4 w),
  z4:=λw=>(aM _ _ _ w).trans (L.z4 w),
  v4:=λw=>(aI _ _ _ w).trans (L.v4 w),
  t5:=L.t5,
  a5:=λw=>(aP _ _ _ w).trans (L.a5 w),
  z5:=λw=>(aM _ _ _ w).trans (L.z5 w),
  v5:=λw=>(aI _ _ _ w).trans (L.v5 w),
  t9:=L.t9,
  a9:=λw=>(aP _ _ _ w).trans (L.a9 w),
  z9:=λw=>(aM _ _ _ w).trans (L.z9 w),
  v9:=λw=>(aI _ _ _ w).trans (L.v9 w),
  t28:=L.t28,
  a28:=λw=>(aP _ _ _ w).trans (L.a28 w),
  z28:=λw=>(aM _ _ _ w).trans (L.z28 w),
  v28:=λw=>(aI _ _ _ w).trans (L.v28 w),
  t46:=L.t46,
  a46:=λw=>(aP _ _ _ w).trans (L.a46 w),
  z46:=λw=>(aM _ _ _ w).trans (L.z46 w),
  v46:=λw=>(aI _ _ _ w).trans (L.v46 w),
  t51:=L.t51,
  a51:=λw=>(aP _ _ _ w).trans (L.a51 w),
  z51:=λw=>(aM _ _ _ w).trans (L.z51 w),
  v51:=λw=>(aI _ _ _ w).trans (L.v51 w),
  t53:=L.t53,
  a53:=λw=>(aP _ _ _ w).trans (L.a53 w),
  z53:=λw=>(aM _ _ _ w).trans (L.z53 w),
  v53:=λw=>(aI _ _ _ w).trans (L.v53 w),
  t131:=L.t131,
  a131:=λw=>(aP _ _ _ w).trans (L.a131 w),
  z131:=λw=>(aM _ _ _ w).trans (L.z131 w),
  v131:=λw=>(aI _ _ _ w).trans (L.v131 w),
  t182:=L.t182,
  a182:=λw=>(aP _ _ _ w).trans (L.a182 w),
  z182:=λw=>(aM _ _ _ w).trans (L.z182 w),
  v182:=λw=>(aI _ _ _ w).trans (L.v182 w),
  t183:=L.t183,
  a183:=λw=>(aP _ _ _ w).trans (L.a183 w),
  z183:=λw=>(aM _ _ _ w).trans (L.z183 w),
  v183:=λw=>(aI _ _ _ w).trans (L.v183 w),
  t218:=L.t218,
  a218:=λw=>(aP _ _ _ w).trans (L.a218 w),
  z218:=λw=>(aM _ _ _ w).trans (L.z218 w),
  v218:=λw=>(aI _ _ _ w).trans (L.v218 w),
  t222:=L.t222,
  a222:=λw=>(aP _ _ _ w).trans (L.a222 w),
  z222:=λw=>(aM _ _ _ w).trans (L.z222 w),
  v222:=λw=>(aI _ _ _ w).trans (L.v222 w),
  t228:=L.t228,
  a228:=λw=>(aP _ _ _ w).trans (L.a228 w),
  z228:=λw=>(aM _ _ _ w).trans (L.z228 w),
  v228:=λw=>(aI _ _ _ w).trans (L.v228 w),
  t229:=L.t229,
  a229:=λw=>(aP _ _ _ w).trans (L.a229 w),
  z229:=λw=>(aM _ _ _ w).trans (L.z229 w),
  v229:=λw=>(aI _ _ _ w).trans (L.v229 w)}
end
namespace Z
open Go.RowKit
attribute [local go_sem ↓] Go.wp_at_zero Go.wp_at_succ
attribute [local go_sem] After.cell After.frozen After.const
theorem E9 (l):aT l=(l.map λi:Nat=>(i:Int)).map (Value.int .i64):=by unfold aT;rw[List.map_map];rfl
def SH (a b:Nat):Bool:=decide (a<=b)
def mM (l:List Nat):List Nat:=l.mergeSort SH
theorem KA (l):(l.map λi:Nat=>(i:Int)).mergeSort (λx y=>decide (x<=y))=(mM l).map λi:Nat=>(i:Int):=by
 unfold mM;rw[List.map_mergeSort (s:=λx y:Int=>decide (x<=y))];intro a _ b _;unfold SH;simp
theorem lT (l):(mM l).Perm l:=List.mergeSort_perm _ _
theorem Cj (l):(mM l).Pairwise (·<=·):=by
 have:=List.pairwise_mergeSort (le:=SH) (λa b c e d=>by unfold SH at*;simp at*;omega) (λa b=>by unfold SH;simp;omega) l;exact this.imp λh=>by unfold SH at h;simpa using h
theorem El (base B)(v)(l)(w)(h:w.ownsRow base 3 1 v l.length (aT l))(p:B<=base)(c:B<=w.heap.size)(hl:l.length<=1000):
 Calls (patch ae prog) 172 #[v] w λe w'=>e=.returned (.tuple #[])/\w'.ownsRow base 3 1 v (mM l).length (aT (mM l))/\Below B w w':=by
 have hlen:(mM l).length=l.length:=(lT l).length_eq
 by_cases a:v=.slice none 0 0
 .have d:l.length=0:=by
   rcases h.2 with⟨_,d⟩|⟨g,cap,cur,e,_⟩
   .exact d
   .rw[e]at a;cases a
  subst a;refine(show Calls (patch ae prog) 172 #[.slice none 0 0] w _ from Go.Proofs.Any.slices_Sort_int_none AY none 0 w).mono ?_;rintro e w' ⟨rfl,rfl⟩;have:l=[]:=List.eq_nil_of_length_eq_zero d;subst this;exact⟨rfl,by simpa[mM,aT] using h,aab _ _⟩
 .rw[E9]at h
  obtain⟨g,cap,rfl,hb,b,r,hm,m,o⟩:=Go.Lib.holds_of_ownsRow h a;have hc:=Go.Proofs.Any.slices_Sort_int AY g 0 cap (l.map λi:Nat=>(i:Int)) w o b (by simp;omega);rw[List.length_map]at hc;refine(show Calls (patch ae prog) 172 #[.slice (some ⟨g,0,none⟩) l.length cap] w _ from hc).mono ?_;rintro e w' ⟨rfl,n,os,rfl⟩;rw[KA];have j:=Go.Lib.ownsRow_putRow (q:=n) (k:=l.length) (ys:=(mM l).map λi:Nat=>(i:Int)) h (by simp[hlen]) (ZL _);rw[aah (by simp[hlen]),<-E9]at j;refine⟨rfl,?_,?_⟩
  .rw[hlen]
   exact Go.Lib.ownsRow_grow j 0 os
  .have f:Below B w (Go.Sort.putRow (Value.int .i64) (Go.Sort.ahead w n) g 0 ((mM l).map λi:Nat=>(i:Int)).toArray):=Go.Lib.below_putRow (aab B w) (ZP p hb)
   exact f.trans (Go.Lib.below_grow B _ (ZP c f.size) 0 os)
theorem nL:∀(a b:List Nat),a.Nodup->(∀x∈a,x∈b)->a.length<=b.length
 |[],_,_,_=>by simp
 |x::a,b,c,h=>by
  have hx:=h x ZX;obtain⟨g,f⟩:=List.nodup_cons.1 c;have:=nL a (b.erase x) f λy hy=>(List.mem_erase_of_ne (λe=>g (by rw[<-e];exact hy))).2 (h y (List.mem_cons_of_mem _ hy))
  rw[List.length_erase_of_mem hx]at this;have d:0<b.length:=List.length_pos_of_mem hx;simp;omega
def Ia (m:Nat)(N:Nat->Int)(l:List Nat)(i:Nat):Bool:=l.contains i&&bE m N i
theorem MV {m}{N}{l:List Nat}{j x}(h:l[j]? =some x)(i):Ia m N (l.take (j+1)) i=if i=x then bE m N x else Ia m N (l.take j) i:=by
 unfold Ia;rw[List.take_add_one,h]
 by_cases he:i=x
 .subst he;simp
 .rw[if_neg he];simp[he]
theorem aX.OL {w}{c tb n}{vc}{op d}{j}{tk}{x}{b}(h:aX w c tb n vc op j tk)(he:∀i,d i=if i=x then b else op i):aX (w.setCell ⟨c,x,none⟩ (.bool b)) c tb n vc d j tk:=by
 obtain⟨⟨l,p,o⟩,m,k⟩:=h;have g:=k.1;refine⟨⟨l,(aad _ _ _ _ (by show tb≠c;omega)).trans p,aaf o (by show c<tb+1;omega) _⟩,(m.set x _).congr λi _=>?_,g,λe=>(World.cell?_of_block (a:=⟨tb,3,none⟩) (aad _ _ _ _ (by show tb≠c;omega))).trans (k.2 e)⟩;unfold uR;rw[he]
 by_cases f:i=x
 .rw[if_pos f,if_pos f]
 .rw[if_neg f,if_neg f]
theorem aX.same {w w'}{c tb n}{vc}{op}{b}{tk}(h:aX w c tb n vc op b tk)(e:w'.heap=w.heap):aX w' c tb n vc op b tk:=by
 obtain⟨⟨g,k,f⟩,⟨cur,j,i⟩,d⟩:=h;refine⟨⟨g,by rw[e];exact k,?_⟩,⟨cur,by rw[e];exact j,i⟩,d.1,λl=>(World.cell?_of_block (a:=⟨tb,3,none⟩) (by rw[e])).trans (d.2 l)⟩;unfold World.ownsRow at f⊢;rw[e];exact f
theorem Nw:((patch ae prog).info? 4).map (λi=>(i.zero,i.size,i.bytes))=some (some (.bool false),1,1):=by kernel_rfl
theorem KZ (n:Nat)(e:n<=24)(w):∃cs:Array Value,(Instr.makeSlice 233 (.int .i64 n) (.int .i64 n)).run (patch ae prog) w=.ok (.slice (some ⟨w.heap.size,0,none⟩) n n) (w.alloc (.cells cs 4))/\cs.size=n/\∀j,j<n->cs[j]? =some (.bool false):=by
 have hb:=Nw;cases a:(patch ae prog).info? 4 with
 |none=>rw[a]at hb;cases hb
 |some i=>
  rw[a]at hb;simp only[Option.map_some,Option.some.injEq,Prod.mk.injEq]at hb;obtain⟨c,hs,b⟩:=hb;have h:=run_makeSlice w 233 4 i (.bool false) ((ax ae prog 233).trans underlying233) a c .i64 .i64 n n (by omega) (by omega) (by rw[hs];omega) (by rw[b];omega) (by omega);rw[hs,Nat.mul_one]at h;simp only[Int.toNat_natCast]at h;refine⟨_,h,size_madeCells _ _,λj d=>?_⟩;simp[madeCells,Value.cells,d,Nat.mod_one]
theorem Je (n k m)(S N C)(vc vl)(l:List Nat)(w)(hm:m<16)(Z:k<=1000)(hc:dO w vc n S N C)(hN:∀i,i<n->0<=N i/\N i<4)(hl:Ints w vl l.length (λj=>((l[j]?.getD 0:Nat):Int)))(L:∀i∈l,i<n)(κ:l.Nodup)(hlen:l.length<=24)(τ:k<=(l.filter (bE m N)).length):
 Calls (patch ae prog) 137 #[vc,vl,.int .u64 m,.int .i64 k] w λe w'=>∃v tk,e=.returned v/\w'.ownsRow w.heap.size 3 1 v tk.length (aT tk)/\tk.length=k/\tk.Pairwise (· < ·)/\(∀i∈tk,i∈l/\bE m N i=true)/\Below w.heap.size w w'/\NZ v:=by
 have HC:=av hc;obtain⟨ao,cap,rfl,z,d,h3⟩:=hc;obtain⟨al,ρ,rfl,h4,h5,h6⟩:=hl;have H3:Hid (0<n->∃b o,ao=some ⟨b,o,none⟩/\∀i,i<n->w.cell? ⟨b,o+i*3,none⟩=some (.int .i64 (S i))/\w.cell? ⟨b,o+i*3+1,none⟩=some (.int .i64 (N i))/\w.cell? ⟨b,o+i*3+2,none⟩=some (.int .i64 (C i))):=h3;have H6:Hid (0<l.length->∃b o,al=some ⟨b,o,none⟩/\gM w b o l.length (λj=>((l[j]?.getD 0:Nat):Int))):=h6;clear h3 h6;obtain⟨cs,μ,hcs,P⟩:=KZ n d w
 go_enter (pf func137 (by rfl)),ntmps137
 go_wp2_with fail;obtain⟨W,hW⟩:∃W,W=(w.alloc (.cells cs 4)).alloc (.cells #[.slice ao n cap,.slice (some ⟨w.heap.size,0,none⟩) n n,.int .i64 k,.slice none 0 0] 235):=⟨_,rfl⟩
 have HT:Hid (aX W w.heap.size (w.heap.size+1) n (.slice ao n cap) (Ia m N (l.take 0)) k []/\Below w.heap.size w W):=by
  rw[hW];refine⟨⟨⟨.slice none 0 0,aam _ _ _,aag _ _ _ _⟩,⟨cs,aap _ _ _,hcs,λj hj=>by rw[P j hj];simp[uR,Ia]⟩,Z4 _,λ_=>by rw[(blk (aam w (.cells cs 4) (.cells #[.slice ao n cap,.slice (some ⟨w.heap.size,0,none⟩) n n,.int .i64 k,.slice none 0 0] 235))).1 3];rfl⟩,((aab _ _).alloc (ZL _) _).alloc (by simp) _⟩
 rw[<-hW];clear hW μ hcs P
 go_loopw [11,20] (λ_ i wr=>∃j:Nat,j<=l.length/\i=.int .i64 j/\aX wr w.heap.size (w.heap.size+1) n (.slice ao n cap) (Ia m N (l.take j)) k []/\Below w.heap.size w wr) (λ_ i _=>l.length-(intOf i).toNat)
 case atStart=>exact⟨0,by omega,rfl,HT.out.1,HT.out.2⟩
 case round=>
  obtain⟨j,hj,rfl,h,hb⟩:=hrel;have r:=av (aaa h hb)
  by_cases K:j<l.length
  .obtain⟨x,hx⟩:∃x,l[j]? =some x:=⟨_,ZT K⟩
   have g:x<n:=L x (aak hx);obtain⟨b,o,rfl,t⟩:=H3.out (by omega);obtain⟨bl,ol,rfl,O⟩:=H6.out (by omega);have q0:=(O.ext hb) j K;simp only[hx,Option.getD_some]at q0;have q1:=keeps hb (t x g).2.1;obtain⟨f,J,s⟩:∃f:Nat,f<4/\N x=(f:Int):=⟨(N x).toNat,by have:=hN x g;omega,by have:=hN x g;omega⟩;rw[s]at q1;have HX:Hid (l[j]? =some x/\bE m N x=has m f):=⟨hx,by unfold bE;rw[s];rfl⟩;obtain⟨⟨vt,k1,_⟩,B,_⟩:=h;obtain⟨t0,ε⟩:=blk k1;have q2:=B.cell g;have ζ:=B.frozen x;have jn:(j:Int)< (l.length:Int):=(by omega);have xn:(x:Int)< (n:Int):=(by omega);have d1:wr.drew.cell? ⟨b,o+x*3+1,none⟩=some (.int .i64 f):=q1;have d2:wr.drew.cell? ⟨w.heap.size,x,none⟩=some (uR (Ia m N (l.take j)) x):=q2;have υ:wr.drew.frozen? ⟨w.heap.size,x,none⟩=false:=ζ;have d3:wr.drew.cell? ⟨w.heap.size+1,1,none⟩=some (.slice (some ⟨w.heap.size,0,none⟩) n n):=t0 1;have Q:=aan (t x g).2.1;have d4:(wr.setCell ⟨w.heap.size,x,none⟩ (.bool (has m f))).drew.cell? ⟨w.heap.size+1,1,none⟩=some (.slice (some ⟨w.heap.size,0,none⟩) n n):=(World.cell?_of_block (a:=⟨w.heap.size+1,1,none⟩) (aad wr ⟨w.heap.size,x,none⟩ _ _ (show w.heap.size+1≠w.heap.size by omega))).trans d3;have d5:(wr.setCell ⟨w.heap.size,x,none⟩ (.bool (has m f))).drew.cell? ⟨b,o+x*3+1,none⟩=some (.int .i64 f):=(World.cell?_of_block (a:=⟨b,o+x*3+1,none⟩) (aad wr ⟨w.heap.size,x,none⟩ _ _ (Nat.ne_of_lt Q))).trans d1;clear t O hx s k1 B hb Q;go_wp2_with fail
   go_region_held3(λw'=>w'.cell? ⟨w.heap.size+1,1,none⟩=some (.slice (some ⟨w.heap.size,0,none⟩) n n)/\w'.cell? ⟨b,o+x*3+1,none⟩=some (.int .i64 f)/\(w'=wr.drew\/w'=(wr.setCell ⟨w.heap.size,x,none⟩ (.bool (has m f))).drew)) (with_reducible (first|exact⟨d3,d1,.inl rfl⟩|exact⟨d4,d5,.inr rfl⟩|assumption))
        (first|(go_at_call 164;refine(vL m f hm J _).mono ?_;rintro e w2 ⟨rfl,rfl⟩))
   all_goals
        go_wp2_with fail;go_roundw
        case rel=>exact⟨j+1,by omega,by go_num,(r.out.1.OL (b:=has m f) (λi=>by rw[MV HX.out.1,HX.out.2])).same rfl,(r.out.2.setCell (ZL _) _).drew⟩
        case measure=>simp[intOf];omega
  .have:j=l.length:=by omega
   subst this;rw[List.take_length]at h;clear r;have r:=av (aaa h hb);clear h hb;have e0:cu (Ia m N l) []=Ia m N l:=(by funext i;simp[cu]);have y:Hid (∀w1,Below w.heap.size wr w1->∀w',Below w.heap.size w1 w'->dO w' (.slice ao n cap) n S N C):=λw1 z w' V=>HC.out.below ((r.out.2.trans z).trans V)
   have ο:w.heap.size<=wr.heap.size:=r.out.2.size;go_wp2_with fail;refine(wY w.heap.size (w.heap.size+1) n k 4 _ S N C (Ia m N l) k [] wr (by rw[e0];exact r.out.1) (y.out wr (aab _ _)) ⟨List.nodup_nil,λi hi=>by simp at hi,by simp,by omega⟩ Z d (by decide)).mono ?_;rintro e w1 ⟨u1,β,δ,rfl,F,H,U⟩;have H1:=av (aaa F (aaa H U));clear F H U;go_wp2_with fail;refine(wZ w.heap.size (w.heap.size+1) n k 24 _ S N C (Ia m N l) β δ w1 H1.out.1 (y.out w1 H1.out.2.2) H1.out.2.1 Z d (by decide)).mono ?_;rintro e w2 ⟨u2,α,γ,rfl,E,G,T⟩;have H2:=av (aaa E (aaa G (H1.out.2.2.trans T)));clear E G T;go_wp2_with fail;refine(w9 w.heap.size (w.heap.size+1) n k _ S N C (Ia m N l) α γ w2 H2.out.1 (y.out w2 H2.out.2.2) H2.out.2.1 Z d).mono ?_;rintro e w3 ⟨u3,A,c,rfl,θ,p,M,R⟩
   have q:Hid (c.length=k):=by
        show c.length=k
        have ξ:=p.sum;have h0:=p.UU;rcases M with hz|hd
        .omega
        .have hle:=nL (l.filter (bE m N)) c (List.Pairwise.filter _ κ) λx hx=>by
          obtain⟨D,η⟩:=List.mem_filter.1 hx;have:=hd x (L x D);unfold cu Ia at this;simp[D,η]at this;exact this
         omega
   obtain⟨⟨vt,k1,Y⟩,B,k4⟩:=θ;obtain⟨tq,tc,rfl⟩:=aj Y;obtain⟨t0,ε⟩:=blk k1
   have ν:Hid (NZ (.slice tq c.length tc)):=by
        by_cases h0:c=[]
        .have z:=(t0 3).symm.trans (k4.2 h0)
         have V:Value.slice tq c.length tc=.slice none 0 0:=Option.some.inj z;show NZ _
         rw[V];trivial
        .exact NZ.Ic Y (List.length_pos_iff.2 h0)
   have X:Hid (w3.heap[w.heap.size+1]? =some (.cells #[.slice ao n cap,.slice (some ⟨w.heap.size,0,none⟩) n n,.int .i64 A,.slice tq c.length tc] 235 (0,0))/\w3.ownsRow (w.heap.size+1+1) 3 1 (.slice tq c.length tc) c.length (aT c)/\Below w.heap.size w w3/\gB n (Ia m N l) k A c):=⟨k1,Y,r.out.2.trans (H2.out.2.2.trans R),p⟩;have ι:w.heap.size+1+1<=w3.heap.size:=(ZK.1 k1).1;clear k1 Y B k4 p R M;go_wp2_with fail;refine(El (w.heap.size+1+1) (w.heap.size+1+1) _ c w3 X.out.2.1 (ZL _) ι (by rw[q.out];exact Z)).mono ?_;rintro e w4 ⟨rfl,I,u⟩;have HL:=av (aaa I u);obtain⟨s0,σ⟩:=blk ((u.block (w.heap.size+1) (Z4 _)).trans X.out.1);clear I u;go_wp2_with fail;go_ret;refine⟨_,mM c,rfl,?_,?_,?_,?_,?_,ν.out⟩
   .exact aB HL.out.1 (by omega)
   .rw[(lT c).length_eq];exact q.out
   .have z:=Cj c
    have V:(mM c).Nodup:=(lT c).nodup_iff.2 X.out.2.2.2.nodup;exact(z.and V).imp fun⟨a,b⟩=>by omega
   .intro i hi
    have:=(X.out.2.2.2.mem i ((lT c).mem_iff.1 hi)).2;unfold Ia at this;simpa using this
   .exact X.out.2.2.1.trans (HL.out.2.mono (by omega))
end Z
