/- Part 31 of the proof. -/
import Derived.Test.YtfpaamhppamcoaaGreatDoorSp15
import Derived.Test.YtfpaamhppamcoaaGreatDoorSp29
import Derived.Conc.Holds
import Derived.JoinedCond
import Derived.Conc.LeavingOf
import Derived.LaidByTextLater
import Derived.SevenTiedAt
import Derived.LaidOnce
import Derived.Test.YtfpaamhppamcoaaGreatDoorProg
import Derived.Test.YtfpaamhppamcoaaGreatDoorShelf
import Derived.Shelf.Sort.Plain
import Derived.Shelf.Slices.In.SortNone
import Derived.Lib.OwnBridge
import Derived.Lib.AppendIntMem
import Derived.RangeFuncNested
import Derived.RangeFuncBound
import Derived.RangeFuncCalls
import Derived.RangeFuncLeaves
import Derived.Shelf.Abstract
import Derived.Shelf.RegionOpen
import Derived.OwnWalkIn
import Derived.TacticsInMore
import Derived.LoopNIn
import Derived.LoopIn
import Derived.WalkSmall
import Derived.Lib.ItoaLen
import Derived.Lib.AtoiErrMem
import Derived.Lib.AtoiAllCases
import Derived.Shelf.Spec.TrailingZeros
import Derived.Shelf.Strings.SplitCore
import Derived.Shelf.Unicode.ValidAny
import Derived.Laws.RangeAny
import Derived.Lib.RuneCount
import Derived.Lib.QuoteLoop
import Derived.OpenShut
import Derived.Laws.BytesArg
import Derived.BigFrame
import Derived.Lib.QuoteBits
import Derived.Lib.BufSteps
set_option linter.all false
set_option maxRecDepth 100000
set_option maxHeartbeats 60000000
namespace Go.Proofs.YtfpaamhppamcoaaGreatDoor
open Go.Proofs.Tryz
section
open Go Go.ChangeShapes Go.Conc
theorem mZ {p}{s}{c}(f)(fn)
 (hn:c.program=p.name)(hs:c.sum=p.sum)(R:c.spec=s.name)
 (hstart:c.start=.entering)(d:c.outside=[])(V:c.inits=[])(Q:c.under=none)(W:c.initsInPlace=[]/\c.initsUnfollowed=false/\c.initsRecurse=false/\c.initsNamed=[]/\c.initsPassed=[])(u:c.noBlocks=false)(U:c.leaving=true)(j:c.followed=none)(v:c.narrowed=s.cond.isSome)(e:c.still=false)
 (X:p.checked.prog.funcNamed c.func=some f)(hf:p.checked.prog.funcs[f]? =some fn)
 (closed:joinedFacts p.checked.prog f fn s.bare c=true)
 (i:fn.isInstance p.checked.prog c.origin c.targs)(g:fn.isWrapper p.checked.prog c.wrapper c.mainSum)
 (h:∀os:Os,os.Started->∀(H:Type) (enc:TypeId×Value->H),(∀a b,enc a=enc b->a=b)->∀F:Stop.Interp,
  ReturnsInLeavingWide c.assume p.checked os f .any (c.pre enc p.checked.prog fn s) ((s.at F).post enc p.checked.prog fn c.apart c.fresh c.handsOn c.again)):c.holds p s:=by
 simp only[joinedFacts,ZQ,beq_iff_eq,Array.all_eq_true_iff_forall_mem,ZU,decide_eq_true_eq]at closed;obtain⟨⟨⟨⟨⟨⟨⟨⟨⟨⟨⟨⟨⟨⟨⟨⟨⟨⟨⟨⟨⟨⟨⟨⟨⟨⟨⟨⟨⟨⟨⟨k1,k2⟩,k3⟩,k4⟩,k5⟩,Y⟩,k7⟩,k8⟩,w⟩,P⟩,O⟩,N⟩,M⟩,L⟩,K⟩,J⟩,I⟩,t⟩,G⟩,E⟩,D⟩,C⟩,B⟩,r⟩,q⟩,o⟩,m⟩,l⟩,A⟩,z⟩,y⟩,x⟩:=closed;have hq:∀os:Os,Stop.quiet p.checked.prog os:=λos k Z=>by rw[w]at Z;cases Z
 refine⟨k1,hn,hs,R,k2,k3,by unfold OpenClaim.startFits;rw[hstart];exact o,by unfold OpenClaim.startTold;rw[hstart];exact⟨V,Q,W⟩,f,fn,X,hf,⟨k4,E⟩,(λhb=>by rw[u]at hb;cases hb),by unfold OpenClaim.namedList;rw[j];exact k5,i,g,
  Y.trans k7.symm,⟨k8.trans w.symm,by unfold Program.envWorded;rw[w];rfl,q⟩,P,O,N,M,L,⟨K,y,x⟩,⟨J,D⟩,⟨I,C,A,z⟩,⟨B,m,l,t⟩,(by rw[d,v];cases S:c.shortTexts with|none=>simp|some _=>rw[S]at r;cases r),λn T=>varReadable_some (G n T),
  ⟨_,by unfold OpenClaim.world;rw[d,hstart];exact WideRow.started_initial,hq _⟩,[],by unfold OpenClaim.lists;rw[j],λos st _ H enc inj=>?_⟩
 have st':os.Started:=by unfold OpenClaim.world at st;rw[d,hstart]at st;exact st
 rw[OpenClaim.post_not_still e];unfold OpenClaim.form;rw[hstart,Y];intro F;have e1:c.okInput=Input.okWide:=by unfold OpenClaim.okInput;rw[u]
 have e2:c.atReturn p.checked.prog=leavingAtReturn p.checked.prog:=by unfold OpenClaim.atReturn;rw[U]
 have e3:c.always p.checked.prog []=nothingAlways:=by unfold OpenClaim.always;rw[j]
 have e4:s.post enc p.checked.prog fn F c.outside c.apart c.fresh c.handsOn c.again=(s.at F).post enc p.checked.prog fn c.apart c.fresh c.handsOn c.again:=by rw[d];rfl
 rw[e1,e2,e3];show ReturnsInOpen _ _ _ _ _ _ _ _ (s.post enc p.checked.prog fn F c.outside c.apart c.fresh c.handsOn c.again) _ _
 rw[e4];exact h os st' H enc inj F o
end
section
open Go
theorem wid_laid:prog.laidByTextLater [("math/bits.deBruijn32tab",Rows.laid_math_bits_deBruijn32tab),("math/bits.deBruijn64tab",Rows.laid_math_bits_deBruijn64tab),("internal/strconv.uint64pow10",Rows.laid_internal_strconv_uint64pow10),("unicode/utf8.acceptRanges",Rows.laid_unicode_utf8_acceptRanges),("berth/disk.ErrFailed",Rows.laid_berth_disk_ErrFailed)] [.data,.data,.data,.data,.sentinel] true:=
 Program.laidByTextLater_by_one 91 8 65 (by kernel_rfl) (by kernel_rfl) (by kernel_rfl) (by kernel_rfl) (by kernel_rfl) (by kernel_rfl) (λ_ _=>by kernel_rfl)
theorem no_own:Tryz.pinned.checked.prog.headLifts.contains "ownunsafe" =false:=by kernel_rfl
theorem wid_tie:Rows.widthsUptoRow.laidByTextAt .later Tryz.pinned [.data,.data,.data,.data,.sentinel,.pinned,.pinned,.pinned,.pinned,.pinned,.pinned] true:=
 OpenClaim.laidByTextAt_pinned rfl rfl wid_laid rfl rfl rfl rfl (λy hy e=>by
  simp only[Rows.widthsUptoRow,List.zip_cons_cons,List.zip_nil_right,ZW,List.mem_nil_iff,or_false]at hy;rcases hy with rfl|rfl|rfl|rfl|rfl|rfl|rfl|rfl|rfl|rfl|rfl<;>first|(cases e;done)|exact⟨by kernel_rfl,by kernel_rfl⟩) (by
  unfold Program.listedFits;rw[no_own]
  kernel_rfl)
end
section
open Go Go.Shelf
theorem pplays189:Lays.n189 (patch ae prog) Tryz.lays189_ren:=
 have L:=Tryz.lays189
 {mixed:=L.mixed,
  f125:=pf L.f125 (by rfl),
  f128:=pf L.f128 (by rfl),
  f129:=pf L.f129 (by rfl),
  f189:=pf L.f189 (by rfl),
  f215:=pf L.f215 (by rfl),
  f216:=pf L.f216 (by rfl),
  f257:=pf L.f257 (by rfl),
  f294:=pf L.f294 (by rfl),
  f295:=pf L.f295 (by rfl),
  f296:=pf L.f296 (by rfl),
  f297:=pf L.f297 (by rfl),
  f298:=pf L.f298 (by rfl),
  f299:=pf L.f299 (by rfl),
  f300:=pf L.f300 (by rfl),
  f301:=pf L.f301 (by rfl),
  f328:=pf L.f328 (by rfl),
  f329:=pf L.f329 (by rfl),
  f330:=pf L.f330 (by rfl),
  f331:=pf L.f331 (by rfl),
  f332:=pf L.f332 (by rfl),
  f343:=pf L.f343 (by rfl),
  t0:=L.t0,
  a0:=λw=>(aP _ _ _ w).trans (L.a0 w),
  z0:=λw=>(aM _ _ _ w).trans (L.z0 w),
  v0:=λw=>(aI _ _ _ w).trans (L.v0 w),
  t3:=L.t3,
  a3:=λw=>(aP _ _ _ w).trans (L.a3 w),
  z3:=λw=>(aM _ _ _ w).trans (L.z3 w),
  v3:=λw=>(aI _ _ _ w).trans (L.v3 w),
  t4:=L.t4,
  a4:=λw=>(aP _ _ _ w).trans (L.a4 w),
  z4:=λw=>(aM _ _ _ w).trans (L.z4 w),
  v4:=λw=>(aI _ _ _ w).trans (L.v4 w),
  t5:=L.t5,
  a5:=λw=>(aP _ _ _ w).trans (L.a5 w),
  z5:=λw=>(aM _ _ _ w).trans (L.z5 w),
  v5:=λw=>(aI _ _ _ w).trans (L.v5 w),
  t9:=L.t9,
  a9:=λw=>(aP _ _ _ w).trans (L.a9 w),
  z9:=λw=>(aM _ _ _ w).trans (L.z9 w),
  v9:=λw=>(aI _ _ _ w).trans (L.v9 w),
  t28:=L.t28,
  a28:=λw=>(aP _ _ _ w).trans (L.a28 w),
  z28:=λw=>(aM _ _ _ w).trans (L.z28 w),
  v28:=λw=>(aI _ _ _ w).trans (L.v28 w),
  t46:=L.t46,
  a46:=λw=>(aP _ _ _ w).trans (L.a46 w),
  z46:=λw=>(aM _ _ _ w).trans (L.z46 w),
  v46:=λw=>(aI _ _ _ w).trans (L.v46 w),
  t51:=L.t51,
  a51:=λw=>(aP _ _ _ w).trans (L.a51 w),
  z51:=λw=>(aM _ _ _ w).trans (L.z51 w),
  v51:=λw=>(aI _ _ _ w).trans (L.v51 w),
  t53:=L.t53,
  a53:=λw=>(aP _ _ _ w).trans (L.a53 w),
  z53:=λw=>(aM _ _ _ w).trans (L.z53 w),
  v53:=λw=>(aI _ _ _ w).trans (L.v53 w),
  t131:=L.t131,
  a131:=λw=>(aP _ _ _ w).trans (L.a131 w),
  z131:=λw=>(aM _ _ _ w).trans (L.z131 w),
  v131:=λw=>(aI _ _ _ w).trans (L.v131 w),
  t182:=L.t182,
  a182:=λw=>(aP _ _ _ w).trans (L.a182 w),
  z182:=λw=>(aM _ _ _ w).trans (L.z182 w),
  v182:=λw=>(aI _ _ _ w).trans (L.v182 w),
  t183:=L.t183,
  a183:=λw=>(aP _ _ _ w).trans (L.a183 w),
  z183:=λw=>(aM _ _ _ w).trans (L.z183 w),
  v183:=λw=>(aI _ _ _ w).trans (L.v183 w),
  t218:=L.t218,
  a218:=λw=>(aP _ _ _ w).trans (L.a218 w),
  z218:=λw=>(aM _ _ _ w).trans (L.z218 w),
  v218:=λw=>(aI _ _ _ w).trans (L.v218 w),
  t222:=L.t222,
  a222:=λw=>(aP _ _ _ w).trans (L.a222 w),
  z222:=λw=>(aM _ _ _ w).trans (L.z222 w),
  v222:=λw=>(aI _ _ _ w).trans (L.v222 w),
  t228:=L.t228,
  a228:=λw=>(aP _ _ _ w).trans (L.a228 w),
  z228:=λw=>(aM _ _ _ w).trans (L.z228 w),
  v228:=λw=>(aI _ _ _ w).trans (L.v228 w),
  t229:=L.t229,
  a229:=λw=>(aP _ _ _ w).trans (L.a229 w),
  z229:=λw=>(aM _ _ _ w).trans (L.z229 w),
  v229:=λw=>(aI _ _ _ w).trans (L.v229 w)}
end
namespace Z
open Go.RowKit
attribute [local go_sem ↓] Go.wp_at_zero Go.wp_at_succ
attribute [local go_sem] After.cell After.frozen After.const
theorem intV_map (l):aT l=(l.map λi:Nat=>(i:Int)).map (Value.int .i64):=by unfold aT;rw[List.map_map];rfl
def leN (a b:Nat):Bool:=decide (a<=b)
def mM (l:List Nat):List Nat:=l.mergeSort leN
theorem sortN_map (l):(l.map λi:Nat=>(i:Int)).mergeSort (λx y=>decide (x<=y))=(mM l).map λi:Nat=>(i:Int):=by
 unfold mM;rw[List.map_mergeSort (s:=λx y:Int=>decide (x<=y))];intro a _ b _;unfold leN;simp
theorem lT (l):(mM l).Perm l:=List.mergeSort_perm _ _
theorem sortN_sorted (l):(mM l).Pairwise (·<=·):=by
 have:=List.pairwise_mergeSort (le:=leN) (λa b c e d=>by unfold leN at*;simp at*;omega) (λa b=>by unfold leN;simp;omega) l;exact this.imp λh=>by unfold leN at h;simpa using h
theorem sortOwn_any (base B)(v)(l)(w)(h:w.ownsRow base 3 1 v l.length (aT l))(p:B<=base)(c:B<=w.heap.size)(hl:l.length<=1000):
 Calls (patch ae prog) 172 #[v] w λe w'=>e=.returned (.tuple #[])/\w'.ownsRow base 3 1 v (mM l).length (aT (mM l))/\Below B w w':=by
 have hlen:(mM l).length=l.length:=(lT l).length_eq
 by_cases a:v=.slice none 0 0
 .have d:l.length=0:=by
   rcases h.2 with⟨_,d⟩|⟨g,cap,cur,e,_⟩
   .exact d
   .rw[e]at a;cases a
  subst a;refine(show Calls (patch ae prog) 172 #[.slice none 0 0] w _ from Go.Proofs.Any.slices_Sort_int_none pplays189 none 0 w).mono ?_;rintro e w' ⟨rfl,rfl⟩;have:l=[]:=List.eq_nil_of_length_eq_zero d;subst this;exact⟨rfl,by simpa[mM,aT] using h,aab _ _⟩
 .rw[intV_map]at h
  obtain⟨g,cap,rfl,hb,b,r,hm,m,o⟩:=Go.Lib.holds_of_ownsRow h a;have hc:=Go.Proofs.Any.slices_Sort_int pplays189 g 0 cap (l.map λi:Nat=>(i:Int)) w o b (by simp;omega);rw[List.length_map]at hc;refine(show Calls (patch ae prog) 172 #[.slice (some ⟨g,0,none⟩) l.length cap] w _ from hc).mono ?_;rintro e w' ⟨rfl,n,os,rfl⟩;rw[sortN_map];have j:=Go.Lib.ownsRow_putRow (q:=n) (k:=l.length) (ys:=(mM l).map λi:Nat=>(i:Int)) h (by simp[hlen]) (ZL _);rw[aah (by simp[hlen]),<-intV_map]at j;refine⟨rfl,?_,?_⟩
  .rw[hlen]
   exact Go.Lib.ownsRow_grow j 0 os
  .have f:Below B w (Go.Sort.putRow (Value.int .i64) (Go.Sort.ahead w n) g 0 ((mM l).map λi:Nat=>(i:Int)).toArray):=Go.Lib.below_putRow (aab B w) (ZP p hb)
   exact f.trans (Go.Lib.below_grow B _ (ZP c f.size) 0 os)
theorem nL:∀(a b:List Nat),a.Nodup->(∀x∈a,x∈b)->a.length<=b.length
 |[],_,_,_=>by simp
 |x::a,b,c,h=>by
  have hx:=h x ZX;obtain⟨g,f⟩:=List.nodup_cons.1 c;have:=nL a (b.erase x) f λy hy=>(List.mem_erase_of_ne (λe=>g (by rw[<-e];exact hy))).2 (h y (List.mem_cons_of_mem _ hy))
  rw[List.length_erase_of_mem hx]at this;have d:0<b.length:=List.length_pos_of_mem hx;simp;omega
def opN (m:Nat)(N:Nat->Int)(l:List Nat)(i:Nat):Bool:=l.contains i&&bE m N i
theorem opN_step {m}{N}{l:List Nat}{j x}(h:l[j]? =some x)(i):opN m N (l.take (j+1)) i=if i=x then bE m N x else opN m N (l.take j) i:=by
 unfold opN;rw[List.take_add_one,h]
 by_cases he:i=x
 .subst he;simp
 .rw[if_neg he];simp[he]
theorem aX.turn {w}{c tb n}{vc}{op d}{j}{tk}{x}{b}(h:aX w c tb n vc op j tk)(he:∀i,d i=if i=x then b else op i):aX (w.setCell ⟨c,x,none⟩ (.bool b)) c tb n vc d j tk:=by
 obtain⟨⟨l,p,o⟩,m,k⟩:=h;have g:=k.1;refine⟨⟨l,(aad _ _ _ _ (by show tb≠c;omega)).trans p,aaf o (by show c<tb+1;omega) _⟩,(m.set x _).congr λi _=>?_,g,λe=>(World.cell?_of_block (a:=⟨tb,3,none⟩) (aad _ _ _ _ (by show tb≠c;omega))).trans (k.2 e)⟩;unfold boolV;rw[he]
 by_cases f:i=x
 .rw[if_pos f,if_pos f]
 .rw[if_neg f,if_neg f]
theorem aX.same {w w'}{c tb n}{vc}{op}{b}{tk}(h:aX w c tb n vc op b tk)(e:w'.heap=w.heap):aX w' c tb n vc op b tk:=by
 obtain⟨⟨g,k,f⟩,⟨cur,j,i⟩,d⟩:=h;refine⟨⟨g,by rw[e];exact k,?_⟩,⟨cur,by rw[e];exact j,i⟩,d.1,λl=>(World.cell?_of_block (a:=⟨tb,3,none⟩) (by rw[e])).trans (d.2 l)⟩;unfold World.ownsRow at f⊢;rw[e];exact f
theorem infoBool:((patch ae prog).info? 4).map (λi=>(i.zero,i.size,i.bytes))=some (some (.bool false),1,1):=by kernel_rfl
theorem make_open (n:Nat)(e:n<=24)(w):∃cs:Array Value,(Instr.makeSlice 233 (.int .i64 n) (.int .i64 n)).run (patch ae prog) w=.ok (.slice (some ⟨w.heap.size,0,none⟩) n n) (w.alloc (.cells cs 4))/\cs.size=n/\∀j,j<n->cs[j]? =some (.bool false):=by
 have hb:=infoBool;cases a:(patch ae prog).info? 4 with
 |none=>rw[a]at hb;cases hb
 |some i=>
  rw[a]at hb;simp only[Option.map_some,Option.some.injEq,Prod.mk.injEq]at hb;obtain⟨c,hs,b⟩:=hb;have h:=run_makeSlice w 233 4 i (.bool false) ((ax ae prog 233).trans underlying233) a c .i64 .i64 n n (by omega) (by omega) (by rw[hs];omega) (by rw[b];omega) (by omega);rw[hs,Nat.mul_one]at h;simp only[Int.toNat_natCast]at h;refine⟨_,h,size_madeCells _ _,λj d=>?_⟩;simp[madeCells,Value.cells,d,Nat.mod_one]
theorem chCPUs_any (n k m)(S N C)(vc vl)(l:List Nat)(w)(hm:m<16)(Z:k<=1000)(hc:dO w vc n S N C)(hN:∀i,i<n->0<=N i/\N i<4)(hl:Ints w vl l.length (λj=>((l[j]?.getD 0:Nat):Int)))(L:∀i∈l,i<n)(κ:l.Nodup)(hlen:l.length<=24)(τ:k<=(l.filter (bE m N)).length):
 Calls (patch ae prog) 137 #[vc,vl,.int .u64 m,.int .i64 k] w λe w'=>∃v tk,e=.returned v/\w'.ownsRow w.heap.size 3 1 v tk.length (aT tk)/\tk.length=k/\tk.Pairwise (· < ·)/\(∀i∈tk,i∈l/\bE m N i=true)/\Below w.heap.size w w'/\NZ v:=by
 have HC:=av hc;obtain⟨ao,cap,rfl,z,d,h3⟩:=hc;obtain⟨al,ρ,rfl,h4,h5,h6⟩:=hl;have H3:Hid (0<n->∃b o,ao=some ⟨b,o,none⟩/\∀i,i<n->w.cell? ⟨b,o+i*3,none⟩=some (.int .i64 (S i))/\w.cell? ⟨b,o+i*3+1,none⟩=some (.int .i64 (N i))/\w.cell? ⟨b,o+i*3+2,none⟩=some (.int .i64 (C i))):=h3;have H6:Hid (0<l.length->∃b o,al=some ⟨b,o,none⟩/\gM w b o l.length (λj=>((l[j]?.getD 0:Nat):Int))):=h6;clear h3 h6;obtain⟨cs,μ,hcs,P⟩:=make_open n d w
 go_enter (pf func137 (by rfl)),ntmps137
 go_wp2_with fail;obtain⟨W,hW⟩:∃W,W=(w.alloc (.cells cs 4)).alloc (.cells #[.slice ao n cap,.slice (some ⟨w.heap.size,0,none⟩) n n,.int .i64 k,.slice none 0 0] 235):=⟨_,rfl⟩
 have HT:Hid (aX W w.heap.size (w.heap.size+1) n (.slice ao n cap) (opN m N (l.take 0)) k []/\Below w.heap.size w W):=by
  rw[hW];refine⟨⟨⟨.slice none 0 0,aam _ _ _,aag _ _ _ _⟩,⟨cs,aap _ _ _,hcs,λj hj=>by rw[P j hj];simp[boolV,opN]⟩,Z4 _,λ_=>by rw[(blk (aam w (.cells cs 4) (.cells #[.slice ao n cap,.slice (some ⟨w.heap.size,0,none⟩) n n,.int .i64 k,.slice none 0 0] 235))).1 3];rfl⟩,((aab _ _).alloc (ZL _) _).alloc (by simp) _⟩
 rw[<-hW];clear hW μ hcs P
 go_loopw [11,20] (λ_ i wr=>∃j:Nat,j<=l.length/\i=.int .i64 j/\aX wr w.heap.size (w.heap.size+1) n (.slice ao n cap) (opN m N (l.take j)) k []/\Below w.heap.size w wr) (λ_ i _=>l.length-(intOf i).toNat)
 case atStart=>exact⟨0,by omega,rfl,HT.out.1,HT.out.2⟩
 case round=>
  obtain⟨j,hj,rfl,h,hb⟩:=hrel;have r:=av (aaa h hb)
  by_cases K:j<l.length
  .obtain⟨x,hx⟩:∃x,l[j]? =some x:=⟨_,ZT K⟩
   have g:x<n:=L x (aak hx);obtain⟨b,o,rfl,t⟩:=H3.out (by omega);obtain⟨bl,ol,rfl,O⟩:=H6.out (by omega);have q0:=(O.ext hb) j K;simp only[hx,Option.getD_some]at q0;have q1:=keeps hb (t x g).2.1;obtain⟨f,J,s⟩:∃f:Nat,f<4/\N x=(f:Int):=⟨(N x).toNat,by have:=hN x g;omega,by have:=hN x g;omega⟩;rw[s]at q1;have HX:Hid (l[j]? =some x/\bE m N x=has m f):=⟨hx,by unfold bE;rw[s];rfl⟩;obtain⟨⟨vt,k1,_⟩,B,_⟩:=h;obtain⟨t0,ε⟩:=blk k1;have q2:=B.cell g;have ζ:=B.frozen x;have jn:(j:Int)< (l.length:Int):=(by omega);have xn:(x:Int)< (n:Int):=(by omega);have d1:wr.drew.cell? ⟨b,o+x*3+1,none⟩=some (.int .i64 f):=q1;have d2:wr.drew.cell? ⟨w.heap.size,x,none⟩=some (boolV (opN m N (l.take j)) x):=q2;have υ:wr.drew.frozen? ⟨w.heap.size,x,none⟩=false:=ζ;have d3:wr.drew.cell? ⟨w.heap.size+1,1,none⟩=some (.slice (some ⟨w.heap.size,0,none⟩) n n):=t0 1;have Q:=aan (t x g).2.1;have d4:(wr.setCell ⟨w.heap.size,x,none⟩ (.bool (has m f))).drew.cell? ⟨w.heap.size+1,1,none⟩=some (.slice (some ⟨w.heap.size,0,none⟩) n n):=(World.cell?_of_block (a:=⟨w.heap.size+1,1,none⟩) (aad wr ⟨w.heap.size,x,none⟩ _ _ (show w.heap.size+1≠w.heap.size by omega))).trans d3;have d5:(wr.setCell ⟨w.heap.size,x,none⟩ (.bool (has m f))).drew.cell? ⟨b,o+x*3+1,none⟩=some (.int .i64 f):=(World.cell?_of_block (a:=⟨b,o+x*3+1,none⟩) (aad wr ⟨w.heap.size,x,none⟩ _ _ (Nat.ne_of_lt Q))).trans d1;clear t O hx s k1 B hb Q;go_wp2_with fail
   go_region_held3(λw'=>w'.cell? ⟨w.heap.size+1,1,none⟩=some (.slice (some ⟨w.heap.size,0,none⟩) n n)/\w'.cell? ⟨b,o+x*3+1,none⟩=some (.int .i64 f)/\(w'=wr.drew\/w'=(wr.setCell ⟨w.heap.size,x,none⟩ (.bool (has m f))).drew)) (with_reducible (first|exact⟨d3,d1,.inl rfl⟩|exact⟨d4,d5,.inr rfl⟩|assumption))
        (first|(go_at_call 164;refine(has_any m f hm J _).mono ?_;rintro e w2 ⟨rfl,rfl⟩))
   all_goals
        go_wp2_with fail;go_roundw
        case rel=>exact⟨j+1,by omega,by go_num,(r.out.1.turn (b:=has m f) (λi=>by rw[opN_step HX.out.1,HX.out.2])).same rfl,(r.out.2.setCell (ZL _) _).drew⟩
        case measure=>simp[intOf];omega
  .have:j=l.length:=by omega
   subst this;rw[List.take_length]at h;clear r;have r:=av (aaa h hb);clear h hb;have e0:cu (opN m N l) []=opN m N l:=(by funext i;simp[cu]);have y:Hid (∀w1,Below w.heap.size wr w1->∀w',Below w.heap.size w1 w'->dO w' (.slice ao n cap) n S N C):=λw1 z w' V=>HC.out.below ((r.out.2.trans z).trans V)
   have ο:w.heap.size<=wr.heap.size:=r.out.2.size;go_wp2_with fail;refine(takeWholeS_any w.heap.size (w.heap.size+1) n k 4 _ S N C (opN m N l) k [] wr (by rw[e0];exact r.out.1) (y.out wr (aab _ _)) ⟨List.nodup_nil,λi hi=>by simp at hi,by simp,by omega⟩ Z d (by decide)).mono ?_;rintro e w1 ⟨u1,β,δ,rfl,F,H,U⟩;have H1:=av (aaa F (aaa H U));clear F H U;go_wp2_with fail;refine(takeWholeC_any w.heap.size (w.heap.size+1) n k 24 _ S N C (opN m N l) β δ w1 H1.out.1 (y.out w1 H1.out.2.2) H1.out.2.1 Z d (by decide)).mono ?_;rintro e w2 ⟨u2,α,γ,rfl,E,G,T⟩;have H2:=av (aaa E (aaa G (H1.out.2.2.trans T)));clear E G T;go_wp2_with fail;refine(takeSingly_any w.heap.size (w.heap.size+1) n k _ S N C (opN m N l) α γ w2 H2.out.1 (y.out w2 H2.out.2.2) H2.out.2.1 Z d).mono ?_;rintro e w3 ⟨u3,A,c,rfl,θ,p,M,R⟩
   have q:Hid (c.length=k):=by
        show c.length=k
        have ξ:=p.sum;have h0:=p.wt0;rcases M with hz|hd
        .omega
        .have hle:=nL (l.filter (bE m N)) c (List.Pairwise.filter _ κ) λx hx=>by
          obtain⟨D,η⟩:=List.mem_filter.1 hx;have:=hd x (L x D);unfold cu opN at this;simp[D,η]at this;exact this
         omega
   obtain⟨⟨vt,k1,Y⟩,B,k4⟩:=θ;obtain⟨tq,tc,rfl⟩:=aj Y;obtain⟨t0,ε⟩:=blk k1
   have ν:Hid (NZ (.slice tq c.length tc)):=by
        by_cases h0:c=[]
        .have z:=(t0 3).symm.trans (k4.2 h0)
         have V:Value.slice tq c.length tc=.slice none 0 0:=Option.some.inj z;show NZ _
         rw[V];trivial
        .exact NZ.of_own Y (List.length_pos_iff.2 h0)
   have X:Hid (w3.heap[w.heap.size+1]? =some (.cells #[.slice ao n cap,.slice (some ⟨w.heap.size,0,none⟩) n n,.int .i64 A,.slice tq c.length tc] 235 (0,0))/\w3.ownsRow (w.heap.size+1+1) 3 1 (.slice tq c.length tc) c.length (aT c)/\Below w.heap.size w w3/\gB n (opN m N l) k A c):=⟨k1,Y,r.out.2.trans (H2.out.2.2.trans R),p⟩;have ι:w.heap.size+1+1<=w3.heap.size:=(ZK.1 k1).1;clear k1 Y B k4 p R M;go_wp2_with fail;refine(sortOwn_any (w.heap.size+1+1) (w.heap.size+1+1) _ c w3 X.out.2.1 (ZL _) ι (by rw[q.out];exact Z)).mono ?_;rintro e w4 ⟨rfl,I,u⟩;have HL:=av (aaa I u);obtain⟨s0,σ⟩:=blk ((u.block (w.heap.size+1) (Z4 _)).trans X.out.1);clear I u;go_wp2_with fail;go_ret;refine⟨_,mM c,rfl,?_,?_,?_,?_,?_,ν.out⟩
   .exact aB HL.out.1 (by omega)
   .rw[(lT c).length_eq];exact q.out
   .have z:=sortN_sorted c
    have V:(mM c).Nodup:=(lT c).nodup_iff.2 X.out.2.2.2.nodup;exact(z.and V).imp fun⟨a,b⟩=>by omega
   .intro i hi
    have:=(X.out.2.2.2.mem i ((lT c).mem_iff.1 hi)).2;unfold opN at this;simpa using this
   .exact X.out.2.2.1.trans (HL.out.2.mono (by omega))
end Z
section
open Go.RowKit
attribute [local go_sem] Oper.semAt_some
end
section
open Go.RowKit
attribute [local go_sem ↓] Go.wp_at_zero Go.wp_at_succ
attribute [local go_sem] After.cell After.frozen After.const
structure gY (w:World):Prop where
 size:14<=w.heap.size
 pow:Lib.TabIs prog w "internal/strconv.uint64pow10" .u64 Lib.pow10Tab
 utf:Lib.Utf8Tabs 4 5 w
 db64:TabAt 13 Lib.deBruijn64tab w
theorem Tryz.oL:prog.globalNamed "internal/strconv.uint64pow10" =some 3:=by kernel_rfl
theorem gY.ext {w w'}(h:gY w)(hb:Below w.heap.size w w'):gY w':=by
 have c:∀b o,b<14->w'.cell? ⟨b,o,none⟩=w.cell? ⟨b,o,none⟩:=λb o hl=>hb.cell (p:=⟨b,o,none⟩) (ZO hl h.size)
 refine⟨ZP h.size hb.size,var?_below hb Tryz.oL (ZO (by decide) h.size) h.pow,⟨λk a=>?_,λi e=>?_⟩,λj d=>?_⟩
 .rw[c _ _ (by decide)];exact h.utf.1 k a
 .rw[c _ _ (by decide),c _ _ (by decide)];exact h.utf.2 i e
 .rw[c _ _ (by decide)];exact h.db64 j d
def I64 (z:Int):Prop:= -9223372036854775808<=z/\z<=9223372036854775807
theorem itoa_any (z)(w)(a:I64 z)(he:gY w):
 Calls prog 177 #[.int .i64 z] w λe w'=>Below w.heap.size w w'/\∃t:ByteArray,e=.returned (.string t)/\t.size<=21:=by
 refine(Tryz.strconv_Itoa z a.1 a.2 w he.pow).mono ?_;rintro e w' ⟨rfl,k,os,rfl⟩;exact⟨Lib.below_grow _ _ (ZL _) _ _,_,rfl,by have:=Lib.itoa_length_le z a.1 a.2;simpa[ByteArray.size] using this⟩
end
section
open Go.RowKit
attribute [local go_sem] Oper.semAt_some
theorem app_block {w1 w2:World}{base}{e}{size}{v}{n}{xs}{o}(a:w1.ownsRow base e size v n xs)(d:(w1.alloc o).grownBy w2 v.ownBlock){b}{q}(hb:w1.heap[b]? =some q)(c:b<base):w2.heap[b]? =some q:=by
 have hl:=(ZK.1 hb).1;refine(d.block b (by simp;omega) (λh=>?_)).trans ((Below.heap_alloc w1 o b hl).trans hb);have:=(a.lt b h.symm).1;omega
theorem app_keeps {w1 w2}{base}{e}{size}{v}{n}{xs}{o}(f:w1.ownsRow base e size v n xs)(h:(w1.alloc o).grownBy w2 v.ownBlock):KeepsOthers w1 w2:=by
 refine(KeepsOthers.alloc w1 o).trans (KeepsOthers.of_grownBy h λj q a b=>?_);rcases f.2 with⟨i,_⟩|⟨g,cap,cur,d,_,c,_⟩
 .rw[i]at a;cases a
 .rw[d]at a
  cases a;rw[Below.heap_alloc w1 o _ (ZK.1 c).1,c]at b;cases b;rfl
theorem lM {w1 w2}{base B}{e}{size}{v}{n}{xs}{o}(a:w1.ownsRow base e size v n xs)(c:(w1.alloc o).grownBy w2 v.ownBlock)(d:B<=base)(hs:B<=w1.heap.size):Below B w1 w2:=
 ((Below.refl B w1).alloc hs o).grown c (by simp;omega) (λk b=>by have:=(a.lt k b).1;omega)
end
section
open Go.RowKit
attribute [local go_sem ↓] Go.wp_at_zero Go.wp_at_succ
attribute [local go_sem] After.cell After.frozen After.const
def sum (l:List ByteArray):Nat:=(l.map (·.size)).sum
theorem sum_cons (a)(l):sum (a::l)=a.size+sum l:=by simp[sum]
def Place (n:Nat)(e:Ending):Prop:=∃z:Int,e=.returned (.int .i64 z)/\-1<=z/\z<n
theorem Tryz.infoByte:(prog.info? 5).map (λi=>(i.zero,i.size,i.bytes))=some (some (.int .u8 0),1,1):=by kernel_rfl
def mH (xs:List Value):Prop:=∀u∈xs,∃z,u=.int .u8 z
theorem mH.one {xs}(h:mH xs)(z):mH (xs++[.int .u8 z]):=λu hu=>by
 rcases aaz.1 hu with hu|hu
 .exact h u hu
 .simp at hu;subst hu;exact⟨z,rfl⟩
def strLen:Value->Nat
 |.string s=>s.size
 |_=>0
theorem mH.app {xs ys}(h:mH xs)(k:mH ys):mH (xs++ys):=λu hu=>(aaz.1 hu).elim (h u) (k u)
theorem mH.str (s):mH (Lib.strCells s):=λu hu=>by
 simp[Lib.strCells]at hu;obtain⟨x,_,rfl⟩:=hu;exact⟨_,rfl⟩
theorem jl (x)(a:0<=x)(c:x<2147483648):0<=bits BinOp.and IntKind.i32 x 15/\bits BinOp.and IntKind.i32 x 15<16:=by
 obtain⟨k,rfl⟩:=Int.eq_ofNat_of_zero_le a;have e:=Lib.and15_i32 k (by omega);have b:bits BinOp.and IntKind.i32 (k:Int) 15=((k%16:Nat):Int):=e;rw[b];omega
def EscPost (B N:Nat)(c:World)(e:Ending)(w':World):Prop:=∃v' b a,e=.returned v'/\Lib.OwnBuf B 5 v' b a c w'/\b<=N/\mH a
theorem EscPost.of {B N}{c w'}{v'}{b}{a}(h:Lib.OwnBuf B 5 v' b a c w')(d:b<=N)(hu:mH a):EscPost B N c (.returned v') w':=⟨v',b,a,rfl,h,d,hu⟩
theorem esc_any (B)(v)(n)(xs)(r)(f w)(hb:Lib.OwnBuf B 5 v n xs f w)(hu:mH xs)(hlen:n+10<=140737488355328)(p:0<=r)(o:r<=2147483647):
 Calls prog 257 #[v,.int .i32 r,.int .u8 34,.bool true,.bool false] w (EscPost B (n+10) f):=by
 obtain⟨i0,i,c,b,a⟩:=info_parts Tryz.infoByte;have t37:=underlying165;have t9:=underlying9;have l:Hid (mH xs/\0<=r/\r<=2147483647):=⟨hu,p,o⟩;clear hu;obtain⟨y,n28⟩:=jl (r/268435456) (by omega) (by omega);obtain⟨m24,n24⟩:=jl (r/16777216) (by omega) (by omega);obtain⟨m20,n20⟩:=jl (r/1048576) (by omega) (by omega);obtain⟨m16,n16⟩:=jl (r/65536) (by omega) (by omega);obtain⟨m12,x⟩:=jl (r/4096) (by omega) (by omega);obtain⟨m8,n8⟩:=jl (r/256) (by omega) (by omega);obtain⟨m4,n4⟩:=jl (r/16) (by omega) (by omega);obtain⟨m0,E⟩:=jl (r) (by omega) (by omega);obtain⟨u,q⟩:=jl (65533/4096) (by omega) (by omega);obtain⟨D,z⟩:=jl (65533/256) (by omega) (by omega);obtain⟨p4,A⟩:=jl (65533/16) (by omega) (by omega);obtain⟨p0,C⟩:=jl (65533) (by omega) (by omega)
 go_enter func257,ntmps257
 go_wp2_with(first
  |(go_at_call 278;refine(Tryz.strconv_IsPrint_latin r _ (by omega)).mono ?_;rintro e w1 ⟨he,hw⟩;obtain rfl:=hw.symm;generalize Lib.isPrintLatin r=t at he;subst he;cases t)
  |(go_at_call 269;refine(Tryz.utf8_ValidRune r _).mono ?_;rintro e w1 ⟨he,hw⟩;obtain rfl:=hw.symm;generalize Lib.validRune r=vb at he;subst he;cases vb)
  |(at_builtin;first
   |(refine Lib.wpList_append_byte rfl _ _ 165 rfl B 5 i0 t37 i c b a _ _ _ rfl f _ _ (by assumption) rfl (by first|omega|(simp only[Lib.size_two];omega)) ?_;intro _ _ hb)
   |(refine Lib.wpList_append_text rfl _ _ 165 9 rfl B 5 i0 t37 t9 i c b a _ _ _ rfl f (by assumption) _ rfl (by first|omega|(simp only[Lib.size_two];omega)) ?_;intro _ _ hb)))
 all_goals try
  (go_ret
   refine .of hb ?_ ?_
   .first
     |omega
     |(simp only[Lib.size_two];omega)
   .repeat' first
     |exact l.out.1
     |exact mH.str _
     |refine mH.one ?_ _
     |refine mH.app ?_ ?_)
 .go_loopw [0,11] (λv s wr=>∃(m:Nat) (ys:List Value) (d:Int),s=.int .i64 d/\(d=12\/d=8\/d=4\/d=0\/d= -4)/\Lib.OwnBuf B 5 v m ys f wr/\mH ys/\4*(m:Int)+d<=4*((n:Int)+2)+12) (λ_ s _=>(intOf s+4).toNat)
  case atStart=>exact⟨_,_,12,rfl,.inl rfl,hb,l.out.1.app (mH.str _),by simp only[Lib.size_two];omega⟩
  case round=>
   clear hb;obtain⟨m,ys,d,rfl,j,hb,h,k⟩:=hrel;have g:Hid (mH ys):=h;clear h;rcases j with rfl|rfl|rfl|rfl|rfl
   .go_wp2_with(at_builtin;refine Lib.wpList_append_byte rfl _ _ 165 rfl B 5 i0 t37 i c b a _ _ _ rfl f _ _ (by assumption) rfl (by omega) ?_;intro _ _ hb)
    exact⟨⟨_,_,8,rfl,by omega,hb,g.out.one _,by omega⟩,by simp[intOf]⟩
   .go_wp2_with(at_builtin;refine Lib.wpList_append_byte rfl _ _ 165 rfl B 5 i0 t37 i c b a _ _ _ rfl f _ _ (by assumption) rfl (by omega) ?_;intro _ _ hb)
    exact⟨⟨_,_,4,rfl,by omega,hb,g.out.one _,by omega⟩,by simp[intOf]⟩
   .go_wp2_with(at_builtin;refine Lib.wpList_append_byte rfl _ _ 165 rfl B 5 i0 t37 i c b a _ _ _ rfl f _ _ (by assumption) rfl (by omega) ?_;intro _ _ hb)
    exact⟨⟨_,_,0,rfl,by omega,hb,g.out.one _,by omega⟩,by simp[intOf]⟩
   .go_wp2_with(at_builtin;refine Lib.wpList_append_byte rfl _ _ 165 rfl B 5 i0 t37 i c b a _ _ _ rfl f _ _ (by assumption) rfl (by omega) ?_;intro _ _ hb)
    exact⟨⟨_,_,-4,rfl,by omega,hb,g.out.one _,by omega⟩,by simp[intOf]⟩
   .go_wp2
    go_ret;exact .of hb (by omega) g.out
 .go_loopw [0,11] (λv s wr=>∃(m:Nat) (ys:List Value) (d:Int),s=.int .i64 d/\(d=12\/d=8\/d=4\/d=0\/d= -4)/\Lib.OwnBuf B 5 v m ys f wr/\mH ys/\4*(m:Int)+d<=4*((n:Int)+2)+12) (λ_ s _=>(intOf s+4).toNat)
  case atStart=>exact⟨_,_,12,rfl,.inl rfl,hb,l.out.1.app (mH.str _),by simp only[Lib.size_two];omega⟩
  case round=>
   clear hb;obtain⟨m,ys,d,rfl,j,hb,h,k⟩:=hrel;have g:Hid (mH ys):=h;clear h;rcases j with rfl|rfl|rfl|rfl|rfl
   .go_wp2_with(at_builtin;refine Lib.wpList_append_byte rfl _ _ 165 rfl B 5 i0 t37 i c b a _ _ _ rfl f _ _ (by assumption) rfl (by omega) ?_;intro _ _ hb)
    exact⟨⟨_,_,8,rfl,by omega,hb,g.out.one _,by omega⟩,by simp[intOf]⟩
   .go_wp2_with(at_builtin;refine Lib.wpList_append_byte rfl _ _ 165 rfl B 5 i0 t37 i c b a _ _ _ rfl f _ _ (by assumption) rfl (by omega) ?_;intro _ _ hb)
    exact⟨⟨_,_,4,rfl,by omega,hb,g.out.one _,by omega⟩,by simp[intOf]⟩
   .go_wp2_with(at_builtin;refine Lib.wpList_append_byte rfl _ _ 165 rfl B 5 i0 t37 i c b a _ _ _ rfl f _ _ (by assumption) rfl (by omega) ?_;intro _ _ hb)
    exact⟨⟨_,_,0,rfl,by omega,hb,g.out.one _,by omega⟩,by simp[intOf]⟩
   .go_wp2_with(at_builtin;refine Lib.wpList_append_byte rfl _ _ 165 rfl B 5 i0 t37 i c b a _ _ _ rfl f _ _ (by assumption) rfl (by omega) ?_;intro _ _ hb)
    exact⟨⟨_,_,-4,rfl,by omega,hb,g.out.one _,by omega⟩,by simp[intOf]⟩
   .go_wp2
    go_ret;exact .of hb (by omega) g.out
 .go_loopw [0,11] (λv s wr=>∃(m:Nat) (ys:List Value) (d:Int),s=.int .i64 d/\(d=12\/d=8\/d=4\/d=0\/d= -4)/\Lib.OwnBuf B 5 v m ys f wr/\mH ys/\4*(m:Int)+d<=4*((n:Int)+2)+12) (λ_ s _=>(intOf s+4).toNat)
  case atStart=>exact⟨_,_,12,rfl,.inl rfl,hb,l.out.1.app (mH.str _),by simp only[Lib.size_two];omega⟩
  case round=>
   clear hb;obtain⟨m,ys,d,rfl,j,hb,h,k⟩:=hrel;have g:Hid (mH ys):=h;clear h;rcases j with rfl|rfl|rfl|rfl|rfl
   .go_wp2_with(at_builtin;refine Lib.wpList_append_byte rfl _ _ 165 rfl B 5 i0 t37 i c b a _ _ _ rfl f _ _ (by assumption) rfl (by omega) ?_;intro _ _ hb)
    exact⟨⟨_,_,8,rfl,by omega,hb,g.out.one _,by omega⟩,by simp[intOf]⟩
   .go_wp2_with(at_builtin;refine Lib.wpList_append_byte rfl _ _ 165 rfl B 5 i0 t37 i c b a _ _ _ rfl f _ _ (by assumption) rfl (by omega) ?_;intro _ _ hb)
    exact⟨⟨_,_,4,rfl,by omega,hb,g.out.one _,by omega⟩,by simp[intOf]⟩
   .go_wp2_with(at_builtin;refine Lib.wpList_append_byte rfl _ _ 165 rfl B 5 i0 t37 i c b a _ _ _ rfl f _ _ (by assumption) rfl (by omega) ?_;intro _ _ hb)
    exact⟨⟨_,_,0,rfl,by omega,hb,g.out.one _,by omega⟩,by simp[intOf]⟩
   .go_wp2_with(at_builtin;refine Lib.wpList_append_byte rfl _ _ 165 rfl B 5 i0 t37 i c b a _ _ _ rfl f _ _ (by assumption) rfl (by omega) ?_;intro _ _ hb)
    exact⟨⟨_,_,-4,rfl,by omega,hb,g.out.one _,by omega⟩,by simp[intOf]⟩
   .go_wp2
    go_ret;exact .of hb (by omega) g.out
 .go_loopw [0,11] (λv s wr=>∃(m:Nat) (ys:List Value) (d:Int),s=.int .i64 d/\(d=12\/d=8\/d=4\/d=0\/d= -4)/\Lib.OwnBuf B 5 v m ys f wr/\mH ys/\4*(m:Int)+d<=4*((n:Int)+2)+12) (λ_ s _=>(intOf s+4).toNat)
  case atStart=>exact⟨_,_,12,rfl,.inl rfl,hb,l.out.1.app (mH.str _),by simp only[Lib.size_two];omega⟩
  case round=>
   clear hb;obtain⟨m,ys,d,rfl,j,hb,h,k⟩:=hrel;have g:Hid (mH ys):=h;clear h;rcases j with rfl|rfl|rfl|rfl|rfl
   .go_wp2_with(at_builtin;refine Lib.wpList_append_byte rfl _ _ 165 rfl B 5 i0 t37 i c b a _ _ _ rfl f _ _ (by assumption) rfl (by omega) ?_;intro _ _ hb)
    exact⟨⟨_,_,8,rfl,by omega,hb,g.out.one _,by omega⟩,by simp[intOf]⟩
   .go_wp2_with(at_builtin;refine Lib.wpList_append_byte rfl _ _ 165 rfl B 5 i0 t37 i c b a _ _ _ rfl f _ _ (by assumption) rfl (by omega) ?_;intro _ _ hb)
    exact⟨⟨_,_,4,rfl,by omega,hb,g.out.one _,by omega⟩,by simp[intOf]⟩
   .go_wp2_with(at_builtin;refine Lib.wpList_append_byte rfl _ _ 165 rfl B 5 i0 t37 i c b a _ _ _ rfl f _ _ (by assumption) rfl (by omega) ?_;intro _ _ hb)
    exact⟨⟨_,_,0,rfl,by omega,hb,g.out.one _,by omega⟩,by simp[intOf]⟩
   .go_wp2_with(at_builtin;refine Lib.wpList_append_byte rfl _ _ 165 rfl B 5 i0 t37 i c b a _ _ _ rfl f _ _ (by assumption) rfl (by omega) ?_;intro _ _ hb)
    exact⟨⟨_,_,-4,rfl,by omega,hb,g.out.one _,by omega⟩,by simp[intOf]⟩
   .go_wp2
    go_ret;exact .of hb (by omega) g.out
 .go_loopw [0,12] (λv s wr=>∃(m:Nat) (ys:List Value) (d:Int),s=.int .i64 d/\(d=28\/d=24\/d=20\/d=16\/d=12\/d=8\/d=4\/d=0\/d= -4)/\Lib.OwnBuf B 5 v m ys f wr/\mH ys/\4*(m:Int)+d<=4*((n:Int)+2)+28) (λ_ s _=>(intOf s+4).toNat)
  case atStart=>exact⟨_,_,28,rfl,.inl rfl,hb,l.out.1.app (mH.str _),by simp only[Lib.size_two];omega⟩
  case round=>
   clear hb;obtain⟨m,ys,d,rfl,j,hb,h,k⟩:=hrel;have g:Hid (mH ys):=h;clear h;rcases j with rfl|rfl|rfl|rfl|rfl|rfl|rfl|rfl|rfl
   .go_wp2_with(at_builtin;refine Lib.wpList_append_byte rfl _ _ 165 rfl B 5 i0 t37 i c b a _ _ _ rfl f _ _ (by assumption) rfl (by omega) ?_;intro _ _ hb)
    exact⟨⟨_,_,24,rfl,by omega,hb,g.out.one _,by omega⟩,by simp[intOf]⟩
   .go_wp2_with(at_builtin;refine Lib.wpList_append_byte rfl _ _ 165 rfl B 5 i0 t37 i c b a _ _ _ rfl f _ _ (by assumption) rfl (by omega) ?_;intro _ _ hb)
    exact⟨⟨_,_,20,rfl,by omega,hb,g.out.one _,by omega⟩,by simp[intOf]⟩
   .go_wp2_with(at_builtin;refine Lib.wpList_append_byte rfl _ _ 165 rfl B 5 i0 t37 i c b a _ _ _ rfl f _ _ (by assumption) rfl (by omega) ?_;intro _ _ hb)
    exact⟨⟨_,_,16,rfl,by omega,hb,g.out.one _,by omega⟩,by simp[intOf]⟩
   .go_wp2_with(at_builtin;refine Lib.wpList_append_byte rfl _ _ 165 rfl B 5 i0 t37 i c b a _ _ _ rfl f _ _ (by assumption) rfl (by omega) ?_;intro _ _ hb)
    exact⟨⟨_,_,12,rfl,by omega,hb,g.out.one _,by omega⟩,by simp[intOf]⟩
   .go_wp2_with(at_builtin;refine Lib.wpList_append_byte rfl _ _ 165 rfl B 5 i0 t37 i c b a _ _ _ rfl f _ _ (by assumption) rfl (by omega) ?_;intro _ _ hb)
    exact⟨⟨_,_,8,rfl,by omega,hb,g.out.one _,by omega⟩,by simp[intOf]⟩
   .go_wp2_with(at_builtin;refine Lib.wpList_append_byte rfl _ _ 165 rfl B 5 i0 t37 i c b a _ _ _ rfl f _ _ (by assumption) rfl (by omega) ?_;intro _ _ hb)
    exact⟨⟨_,_,4,rfl,by omega,hb,g.out.one _,by omega⟩,by simp[intOf]⟩
   .go_wp2_with(at_builtin;refine Lib.wpList_append_byte rfl _ _ 165 rfl B 5 i0 t37 i c b a _ _ _ rfl f _ _ (by assumption) rfl (by omega) ?_;intro _ _ hb)
    exact⟨⟨_,_,0,rfl,by omega,hb,g.out.one _,by omega⟩,by simp[intOf]⟩
   .go_wp2_with(at_builtin;refine Lib.wpList_append_byte rfl _ _ 165 rfl B 5 i0 t37 i c b a _ _ _ rfl f _ _ (by assumption) rfl (by omega) ?_;intro _ _ hb)
    exact⟨⟨_,_,-4,rfl,by omega,hb,g.out.one _,by omega⟩,by simp[intOf]⟩
   .go_wp2
    go_ret;exact .of hb (by omega) g.out
end
