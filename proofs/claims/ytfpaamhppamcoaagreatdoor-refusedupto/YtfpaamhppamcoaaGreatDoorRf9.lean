/- Part 9 of the proof. -/
import Derived.Test.YtfpaamhppamcoaaGreatDoorRf8
import Derived.Conc.LeavingOf
import Derived.Test.YtfpaamhppamcoaaGreatDoorShelf
import Derived.Lib.OwnBridge
import Derived.Lib.AppendIntMem
import Derived.RangeFuncNested
import Derived.RangeFuncBound
import Derived.Lib.ItoaLen
import Derived.Shelf.Spec.TrailingZeros
import Derived.Lib.RuneCount
import Derived.Lib.QuoteLoop
import Derived.Lib.BufSteps
set_option linter.all false
set_option maxRecDepth 100000
set_option maxHeartbeats 60000000
namespace Go.Proofs.YtfpaamhppamcoaaGreatDoor
open Go.Proofs.Tryz
section
open Go Go.ChangeShapes Go.Conc
def mZ {p}{s}{c}(f)(fn)
 (hn:c.program=p.name)(hs:c.sum=p.sum)(R:c.spec=s.name)
 (hstart:c.start=.entering)(d:c.outside=[])(V:c.inits=[])(Q:c.under=none)(W:c.initsInPlace=[]/\c.initsUnfollowed=false/\c.initsRecurse=false/\c.initsNamed=[]/\c.initsPassed=[])(u:c.noBlocks=false)(U:c.leaving=true)(j:c.followed=none)(v:c.narrowed=s.cond.isSome)(e:c.still=false)
 (X:p.checked.prog.funcNamed c.func=some f)(hf:p.checked.prog.funcs[f]? =some fn)
 (closed:joinedFacts p.checked.prog f fn s.bare c=true)
 (i:fn.isInstance p.checked.prog c.origin c.targs)(g:fn.isWrapper p.checked.prog c.wrapper c.mainSum)
 (h:∀os:Os,os.Started->∀(H:Type) (enc:TypeId×Value->H),(∀a b,enc a=enc b->a=b)->∀F:Stop.Interp,
  ReturnsInLeavingWide c.assume p.checked os f .any (c.pre enc p.checked.prog fn s) ((s.at F).post enc p.checked.prog fn c.apart c.fresh c.handsOn c.again)):c.holds p s:=by
 simp only[joinedFacts,ZQ,beq_iff_eq,Array.all_eq_true_iff_forall_mem,ZU,decide_eq_true_eq]at closed;obtain⟨⟨⟨⟨⟨⟨⟨⟨⟨⟨⟨⟨⟨⟨⟨⟨⟨⟨⟨⟨⟨⟨⟨⟨⟨⟨⟨⟨⟨⟨⟨k1,k2⟩,k3⟩,k4⟩,k5⟩,Y⟩,k7⟩,k8⟩,w⟩,P⟩,O⟩,N⟩,M⟩,L⟩,K⟩,J⟩,I⟩,t⟩,G⟩,E⟩,D⟩,C⟩,B⟩,r⟩,q⟩,o⟩,m⟩,l⟩,A⟩,z⟩,y⟩,x⟩:=closed;have hq:∀os:Os,Stop.quiet p.checked.prog os:=λos k Z=>by rw[w]at Z;cases Z
 refine⟨k1,hn,hs,R,k2,k3,by unfold OpenClaim.startFits;rw[hstart];exact o,by unfold OpenClaim.startTold;rw[hstart];exact⟨V,Q,W⟩,f,fn,X,hf,⟨k4,E⟩,(λhb=>by rw[u]at hb;cases hb),by unfold OpenClaim.namedList;rw[j];exact k5,i,g,
  Y.trans k7.symm,⟨k8.trans w.symm,by unfold Program.envWorded;rw[w];rfl,q⟩,P,O,N,M,L,⟨K,y,x⟩,⟨J,D⟩,⟨I,C,A,z⟩,⟨B,m,l,t⟩,(by rw[d,v];cases S:c.shortTexts with|none=>simp|some _=>rw[S]at r;cases r),λn T=>varReadable_some (G n T),
  ⟨_,by unfold OpenClaim.world;rw[d,hstart];exact WideRow.started_initial,hq _⟩,[],by unfold OpenClaim.lists;rw[j],λos st _ H enc inj=>?_⟩
 have zG:os.Started:=by unfold OpenClaim.world at st;rw[d,hstart]at st;exact st
 rw[OpenClaim.post_not_still e];unfold OpenClaim.form;rw[hstart,Y];intro F;have e1:c.okInput=Input.okWide:=by unfold OpenClaim.okInput;rw[u]
 have e2:c.atReturn p.checked.prog=leavingAtReturn p.checked.prog:=by unfold OpenClaim.atReturn;rw[U]
 have e3:c.always p.checked.prog []=nothingAlways:=by unfold OpenClaim.always;rw[j]
 have e4:s.post enc p.checked.prog fn F c.outside c.apart c.fresh c.handsOn c.again=(s.at F).post enc p.checked.prog fn c.apart c.fresh c.handsOn c.again:=by rw[d];rfl
 rw[e1,e2,e3];show ReturnsInOpen _ _ _ _ _ _ _ _ (s.post enc p.checked.prog fn F c.outside c.apart c.fresh c.handsOn c.again) _ _
 rw[e4];exact h os zG H enc inj F o
end
section
open Go Go.Shelf
def AY:Lays.n189 (patch ae prog) Tryz.lays189_ren:=
 have L:=Tryz.lays189
 {mixed:=L.mixed,
  f125:=pf L.f125 (by rfl),
  f128:=pf L.f128 (by rfl),
  f129:=pf L.f129 (by rfl),
  f189:=pf L.f189 (by rfl),
  f215:=pf L.f215 (by rfl),
  f216:=pf L.f216 (by rfl),
  f257:=pf L.f257 (by rfl),
  f294:=pf L.f294 (by rfl),
  f295:=pf L.f295 (by rfl),
  f296:=pf L.f296 (by rfl),
  f297:=pf L.f297 (by rfl),
  f298:=pf L.f298 (by rfl),
  f299:=pf L.f299 (by rfl),
  f300:=pf L.f300 (by rfl),
  f301:=pf L.f301 (by rfl),
  f328:=pf L.f328 (by rfl),
  f329:=pf L.f329 (by rfl),
  f330:=pf L.f330 (by rfl),
  f331:=pf L.f331 (by rfl),
  f332:=pf L.f332 (by rfl),
  f343:=pf L.f343 (by rfl),
  t0:=L.t0,
  a0:=λw=>(aP _ _ _ w).trans (L.a0 w),
  z0:=λw=>(aM _ _ _ w).trans (L.z0 w),
  v0:=λw=>(aI _ _ _ w).trans (L.v0 w),
  t3:=L.t3,
  a3:=λw=>(aP _ _ _ w).trans (L.a3 w),
  z3:=λw=>(aM _ _ _ w).trans (L.z3 w),
  v3:=λw=>(aI _ _ _ w).trans (L.v3 w),
  t4:=L.t4,
  a4:=λw=>(aP _ _ _ w).trans (L.a4 w),
  z4:=λw=>(aM _ _ _ w).trans (L.z4 w),
  v4:=λw=>(aI _ _ _ w).trans (L.v4 w),
  t5:=L.t5,
  a5:=λw=>(aP _ _ _ w).trans (L.a5 w),
  z5:=λw=>(aM _ _ _ w).trans (L.z5 w),
  v5:=λw=>(aI _ _ _ w).trans (L.v5 w),
  t9:=L.t9,
  a9:=λw=>(aP _ _ _ w).trans (L.a9 w),
  z9:=λw=>(aM _ _ _ w).trans (L.z9 w),
  v9:=λw=>(aI _ _ _ w).trans (L.v9 w),
  t28:=L.t28,
  a28:=λw=>(aP _ _ _ w).trans (L.a28 w),
  z28:=λw=>(aM _ _ _ w).trans (L.z28 w),
  v28:=λw=>(aI _ _ _ w).trans (L.v28 w),
  t46:=L.t46,
  a46:=λw=>(aP _ _ _ w).trans (L.a46 w),
  z46:=λw=>(aM _ _ _ w).trans (L.z46 w),
  v46:=λw=>(aI _ _ _ w).trans (L.v46 w),
  t51:=L.t51,
  a51:=λw=>(aP _ _ _ w).trans (L.a51 w),
  z51:=λw=>(aM _ _ _ w).trans (L.z51 w),
  v51:=λw=>(aI _ _ _ w).trans (L.v51 w),
  t53:=L.t53,
  a53:=λw=>(aP _ _ _ w).trans (L.a53 w),
  z53:=λw=>(aM _ _ _ w).trans (L.z53 w),
  v53:=λw=>(aI _ _ _ w).trans (L.v53 w),
  t131:=L.t131,
  a131:=λw=>(aP _ _ _ w).trans (L.a131 w),
  z131:=λw=>(aM _ _ _ w).trans (L.z131 w),
  v131:=λw=>(aI _ _ _ w).trans (L.v131 w),
  t182:=L.t182,
  a182:=λw=>(aP _ _ _ w).trans (L.a182 w),
  z182:=λw=>(aM _ _ _ w).trans (L.z182 w),
  v182:=λw=>(aI _ _ _ w).trans (L.v182 w),
  t183:=L.t183,
  a183:=λw=>(aP _ _ _ w).trans (L.a183 w),
  z183:=λw=>(aM _ _ _ w).trans (L.z183 w),
  v183:=λw=>(aI _ _ _ w).trans (L.v183 w),
  t218:=L.t218,
  a218:=λw=>(aP _ _ _ w).trans (L.a218 w),
  z218:=λw=>(aM _ _ _ w).trans (L.z218 w),
  v218:=λw=>(aI _ _ _ w).trans (L.v218 w),
  t222:=L.t222,
  a222:=λw=>(aP _ _ _ w).trans (L.a222 w),
  z222:=λw=>(aM _ _ _ w).trans (L.z222 w),
  v222:=λw=>(aI _ _ _ w).trans (L.v222 w),
  t228:=L.t228,
  a228:=λw=>(aP _ _ _ w).trans (L.a228 w),
  z228:=λw=>(aM _ _ _ w).trans (L.z228 w),
  v228:=λw=>(aI _ _ _ w).trans (L.v228 w),
  t229:=L.t229,
  a229:=λw=>(aP _ _ _ w).trans (L.a229 w),
  z229:=λw=>(aM _ _ _ w).trans (L.z229 w),
  v229:=λw=>(aI _ _ _ w).trans (L.v229 w)}
end
namespace Z
open Go.RowKit
attribute [local go_sem ↓] Go.wp_at_zero Go.wp_at_succ
attribute [local go_sem] After.cell After.frozen After.const
def E9 (l):aT l=(l.map λi:Nat=>(i:Int)).map (Value.int .i64):=by unfold aT;rw[List.map_map];rfl
def SH (a b:Nat):Bool:=decide (a<=b)
def mM (l:List Nat):List Nat:=l.mergeSort SH
def KA (l):(l.map λi:Nat=>(i:Int)).mergeSort (λx y=>decide (x<=y))=(mM l).map λi:Nat=>(i:Int):=by
 unfold mM;rw[List.map_mergeSort (s:=λx y:Int=>decide (x<=y))];intro a _ b _;unfold SH;simp
def lT (l):(mM l).Perm l:=List.mergeSort_perm _ _
def Cj (l):(mM l).Pairwise (·<=·):=by
 have:=List.pairwise_mergeSort (le:=SH) (λa b c e d=>by unfold SH at*;simp at*;omega) (λa b=>by unfold SH;simp;omega) l;exact this.imp λh=>by unfold SH at h;simpa using h
def El (base B)(v)(l)(w)(h:w.ownsRow base 3 1 v l.length (aT l))(p:B<=base)(c:B<=w.heap.size)(hl:l.length<=1000):
 adO 172 #[v] w λe w'=>e=.returned (.tuple #[])/\w'.ownsRow base 3 1 v (mM l).length (aT (mM l))/\Below B w w':=by
 have hlen:(mM l).length=l.length:=(lT l).length_eq
 by_cases a:v=.slice none 0 0
 .have d:l.length=0:=by
   rcases h.2 with⟨_,d⟩|⟨g,cap,cur,e,_⟩
   .exact d
   .rw[e]at a;cases a
  subst a;refine(show adO 172 #[.slice none 0 0] w _ from Go.Proofs.Any.slices_Sort_int_none AY none 0 w).mono ?_;rintro e w' ⟨rfl,rfl⟩;have:l=[]:=List.eq_nil_of_length_eq_zero d;subst this;exact⟨rfl,by simpa[mM,aT] using h,aab _ _⟩
 .rw[E9]at h
  obtain⟨g,cap,rfl,hb,b,r,hm,m,o⟩:=Go.Lib.holds_of_ownsRow h a;have hc:=Go.Proofs.Any.slices_Sort_int AY g 0 cap (l.map λi:Nat=>(i:Int)) w o b (by simp;omega);rw[adH]at hc;refine(show adO 172 #[.slice (some ⟨g,0,none⟩) l.length cap] w _ from hc).mono ?_;rintro e w' ⟨rfl,n,os,rfl⟩;rw[KA];have j:=Go.Lib.ownsRow_putRow (q:=n) (k:=l.length) (ys:=(mM l).map λi:Nat=>(i:Int)) h (by simp[hlen]) (ZL _);rw[aah (by simp[hlen]),<-E9]at j;refine⟨rfl,?_,?_⟩
  .rw[hlen]
   exact Go.Lib.ownsRow_grow j 0 os
  .have f:Below B w (Go.Sort.putRow (Value.int .i64) (Go.Sort.ahead w n) g 0 ((mM l).map λi:Nat=>(i:Int)).toArray):=Go.Lib.below_putRow (aab B w) (ZP p hb)
   exact f.trans (Go.Lib.below_grow B _ (ZP c f.size) 0 os)
def nL:∀(a b:List Nat),a.Nodup->(∀x∈a,x∈b)->a.length<=b.length
 |[],_,_,_=>by simp
 |x::a,b,c,h=>by
  have hx:=h x ZX;obtain⟨g,f⟩:=List.nodup_cons.1 c;have:=nL a (b.erase x) f λy hy=>(List.mem_erase_of_ne (λe=>g (by rw[<-e];exact hy))).2 (h y (ac1 _ hy))
  rw[List.length_erase_of_mem hx]at this;have d:0<b.length:=List.length_pos_of_mem hx;simp;omega
def Ia (m:Nat)(N:Nat->Int)(l:List Nat)(i:Nat):Bool:=l.contains i&&bE m N i
def MV {m}{N}{l:List Nat}{j x}(h:l[j]? =some x)(i):Ia m N (l.take (j+1)) i=if i=x then bE m N x else Ia m N (l.take j) i:=by
 unfold Ia;rw[adq,h]
 by_cases he:i=x
 .subst he;simp
 .rw[if_neg he];simp[he]
def aX.OL {w}{c tb n}{vc}{op d}{j}{tk}{x}{b}(h:aX w c tb n vc op j tk)(he:∀i,d i=if i=x then b else op i):aX (w.setCell ⟨c,x,none⟩ (.bool b)) c tb n vc d j tk:=by
 obtain⟨⟨l,p,o⟩,m,k⟩:=h;have g:=k.1;refine⟨⟨l,(aad _ _ _ _ (by show tb≠c;omega)).trans p,aaf o (by show c<tb+1;omega) _⟩,(m.set x _).congr λi _=>?_,g,λe=>(adK (a:=⟨tb,3,none⟩) (aad _ _ _ _ (by show tb≠c;omega))).trans (k.2 e)⟩;unfold uR;rw[he]
 by_cases f:i=x
 .rw[if_pos f,if_pos f]
 .rw[if_neg f,if_neg f]
def aX.same {w w'}{c tb n}{vc}{op}{b}{tk}(h:aX w c tb n vc op b tk)(e:w'.heap=w.heap):aX w' c tb n vc op b tk:=by
 obtain⟨⟨g,k,f⟩,⟨cur,j,i⟩,d⟩:=h;refine⟨⟨g,by rw[e];exact k,?_⟩,⟨cur,by rw[e];exact j,i⟩,d.1,λl=>(adK (a:=⟨tb,3,none⟩) (by rw[e])).trans (d.2 l)⟩;unfold World.ownsRow at f⊢;rw[e];exact f
def Nw:((patch ae prog).info? 4).map (λi=>(i.zero,i.size,i.bytes))=some (some (.bool false),1,1):=by kernel_rfl
def KZ (n:Nat)(e:n<=24)(w):∃cs:Array Value,(Instr.makeSlice 233 (.int .i64 n) (.int .i64 n)).run (patch ae prog) w=.ok (.slice (some ⟨w.heap.size,0,none⟩) n n) (w.alloc (.cells cs 4))/\cs.size=n/\∀j,j<n->cs[j]? =some (.bool false):=by
 have hb:=Nw;cases a:(patch ae prog).info? 4 with
 |none=>rw[a]at hb;cases hb
 |some i=>
  rw[a]at hb;simp only[ads,ac2,Prod.mk.injEq]at hb;obtain⟨c,hs,b⟩:=hb;have h:=run_makeSlice w 233 4 i (.bool false) ((ax ae prog 233).trans underlying233) a c .i64 .i64 n n (by omega) (by omega) (by rw[hs];omega) (by rw[b];omega) (by omega);rw[hs,Nat.mul_one]at h;simp only[acX]at h;refine⟨_,h,size_madeCells _ _,λj d=>?_⟩;simp[madeCells,Value.cells,d,Nat.mod_one]
def Je (n k m)(S N C)(vc vl)(l:List Nat)(w)(hm:m<16)(Z:k<=1000)(hc:dO w vc n S N C)(hN:∀i,i<n->0<=N i/\N i<4)(hl:Ints w vl l.length (λj=>((l[j]?.getD 0:Nat):Int)))(L:∀i∈l,i<n)(κ:l.Nodup)(hlen:l.length<=24)(τ:k<=(l.filter (bE m N)).length):
 adO 137 #[vc,vl,.int .u64 m,.int .i64 k] w λe w'=>∃v tk,e=.returned v/\w'.ownsRow w.heap.size 3 1 v tk.length (aT tk)/\tk.length=k/\tk.Pairwise (· < ·)/\(∀i∈tk,i∈l/\bE m N i=true)/\adN w w'/\NZ v:=by
 have HC:=av hc;obtain⟨ao,cap,rfl,z,d,h3⟩:=hc;obtain⟨al,ρ,rfl,h4,h5,h6⟩:=hl;have H3:Hid (0<n->∃b o,ao=some ⟨b,o,none⟩/\∀i,i<n->w.cell? ⟨b,o+i*3,none⟩=some (.int .i64 (S i))/\w.cell? ⟨b,o+i*3+1,none⟩=some (.int .i64 (N i))/\w.cell? ⟨b,o+i*3+2,none⟩=some (.int .i64 (C i))):=h3;have H6:Hid (0<l.length->∃b o,al=some ⟨b,o,none⟩/\gM w b o l.length (λj=>((l[j]?.getD 0:Nat):Int))):=h6;clear h3 h6;obtain⟨cs,μ,hcs,P⟩:=KZ n d w
 go_enter (pf func137 (by rfl)),ntmps137
 go_wp2_with fail;obtain⟨W,hW⟩:∃W,W=(w.alloc (.cells cs 4)).alloc (.cells #[.slice ao n cap,.slice (some ⟨w.heap.size,0,none⟩) n n,.int .i64 k,.slice none 0 0] 235):=⟨_,rfl⟩
 have HT:Hid (aX W w.heap.size (w.heap.size+1) n (.slice ao n cap) (Ia m N (l.take 0)) k []/\adN w W):=by
  rw[hW];refine⟨⟨⟨.slice none 0 0,aam _ _ _,aag _ _ _ _⟩,⟨cs,aap _ _ _,hcs,λj hj=>by rw[P j hj];simp[uR,Ia]⟩,Z4 _,λ_=>by rw[(blk (aam w (.cells cs 4) (.cells #[.slice ao n cap,.slice (some ⟨w.heap.size,0,none⟩) n n,.int .i64 k,.slice none 0 0] 235))).1 3];rfl⟩,((aab _ _).alloc (ZL _) _).alloc (by simp) _⟩
 rw[<-hW];clear hW μ hcs P
 go_loopw [11,20] (λ_ i wr=>∃j:Nat,j<=l.length/\i=.int .i64 j/\aX wr w.heap.size (w.heap.size+1) n (.slice ao n cap) (Ia m N (l.take j)) k []/\adN w wr) (λ_ i _=>l.length-(intOf i).toNat)
 case atStart=>exact⟨0,by omega,rfl,HT.out.1,HT.out.2⟩
 case round=>
  obtain⟨j,hj,rfl,h,hb⟩:=hrel;have r:=av (aaa h hb)
  by_cases K:j<l.length
  .obtain⟨x,hx⟩:∃x,l[j]? =some x:=⟨_,ZT K⟩
   have g:x<n:=L x (aak hx);obtain⟨b,o,rfl,t⟩:=H3.out (by omega);obtain⟨bl,ol,rfl,O⟩:=H6.out (by omega);have q0:=(O.ext hb) j K;simp only[hx,ac9]at q0;have q1:=keeps hb (t x g).2.1;obtain⟨f,J,s⟩:∃f:Nat,f<4/\N x=(f:Int):=⟨(N x).toNat,by have:=hN x g;omega,by have:=hN x g;omega⟩;rw[s]at q1;have HX:Hid (l[j]? =some x/\bE m N x=has m f):=⟨hx,by unfold bE;rw[s];rfl⟩;obtain⟨⟨vt,k1,_⟩,B,_⟩:=h;obtain⟨t0,ε⟩:=blk k1;have q2:=B.cell g;have ζ:=B.frozen x;have jn:(j:Int)< (l.length:Int):=(by omega);have xn:(x:Int)< (n:Int):=(by omega);have d1:wr.drew.cell? ⟨b,o+x*3+1,none⟩=some (.int .i64 f):=q1;have d2:wr.drew.cell? ⟨w.heap.size,x,none⟩=some (uR (Ia m N (l.take j)) x):=q2;have υ:wr.drew.frozen? ⟨w.heap.size,x,none⟩=false:=ζ;have d3:wr.drew.cell? ⟨w.heap.size+1,1,none⟩=some (.slice (some ⟨w.heap.size,0,none⟩) n n):=t0 1;have Q:=aan (t x g).2.1;have d4:(wr.setCell ⟨w.heap.size,x,none⟩ (.bool (has m f))).drew.cell? ⟨w.heap.size+1,1,none⟩=some (.slice (some ⟨w.heap.size,0,none⟩) n n):=(adK (a:=⟨w.heap.size+1,1,none⟩) (aad wr ⟨w.heap.size,x,none⟩ _ _ (show w.heap.size+1≠w.heap.size by omega))).trans d3;have d5:(wr.setCell ⟨w.heap.size,x,none⟩ (.bool (has m f))).drew.cell? ⟨b,o+x*3+1,none⟩=some (.int .i64 f):=(adK (a:=⟨b,o+x*3+1,none⟩) (aad wr ⟨w.heap.size,x,none⟩ _ _ (Nat.ne_of_lt Q))).trans d1;clear t O hx s k1 B hb Q;go_wp2_with fail
   go_region_held3(λw'=>w'.cell? ⟨w.heap.size+1,1,none⟩=some (.slice (some ⟨w.heap.size,0,none⟩) n n)/\w'.cell? ⟨b,o+x*3+1,none⟩=some (.int .i64 f)/\(w'=wr.drew\/w'=(wr.setCell ⟨w.heap.size,x,none⟩ (.bool (has m f))).drew)) (with_reducible (first|exact⟨d3,d1,.inl rfl⟩|exact⟨d4,d5,.inr rfl⟩|assumption))
        (first|(go_at_call 164;refine(vL m f hm J _).mono ?_;rintro e w2 ⟨rfl,rfl⟩))
   all_goals
        go_wp2_with fail;go_roundw
        case rel=>exact⟨j+1,by omega,by go_num,(r.out.1.OL (b:=has m f) (λi=>by rw[MV HX.out.1,HX.out.2])).same rfl,(r.out.2.setCell (ZL _) _).drew⟩
        case measure=>simp[intOf];omega
  .have:j=l.length:=by omega
   subst this;rw[List.take_length]at h;clear r;have r:=av (aaa h hb);clear h hb;have e0:cu (Ia m N l) []=Ia m N l:=(by funext i;simp[cu]);have y:Hid (∀w1,Below w.heap.size wr w1->∀w',Below w.heap.size w1 w'->dO w' (.slice ao n cap) n S N C):=λw1 z w' V=>HC.out.below ((r.out.2.trans z).trans V)
   have ο:w.heap.size<=wr.heap.size:=r.out.2.size;go_wp2_with fail;refine(wY w.heap.size (w.heap.size+1) n k 4 _ S N C (Ia m N l) k [] wr (by rw[e0];exact r.out.1) (y.out wr (aab _ _)) ⟨List.nodup_nil,λi hi=>by simp at hi,by simp,by omega⟩ Z d (by decide)).mono ?_;rintro e w1 ⟨u1,β,δ,rfl,F,H,U⟩;have H1:=av (aaa F (aaa H U));clear F H U;go_wp2_with fail;refine(wZ w.heap.size (w.heap.size+1) n k 24 _ S N C (Ia m N l) β δ w1 H1.out.1 (y.out w1 H1.out.2.2) H1.out.2.1 Z d (by decide)).mono ?_;rintro e w2 ⟨u2,α,γ,rfl,E,G,T⟩;have H2:=av (aaa E (aaa G (H1.out.2.2.trans T)));clear E G T;go_wp2_with fail;refine(w9 w.heap.size (w.heap.size+1) n k _ S N C (Ia m N l) α γ w2 H2.out.1 (y.out w2 H2.out.2.2) H2.out.2.1 Z d).mono ?_;rintro e w3 ⟨u3,A,c,rfl,θ,p,M,R⟩
   have q:Hid (c.length=k):=by
        show c.length=k
        have ξ:=p.sum;have h0:=p.UU;rcases M with hz|hd
        .omega
        .have hle:=nL (l.filter (bE m N)) c (adx _ κ) λx hx=>by
          obtain⟨D,η⟩:=adp.1 hx;have:=hd x (L x D);unfold cu Ia at this;simp[D,η]at this;exact this
         omega
   obtain⟨⟨vt,k1,Y⟩,B,k4⟩:=θ;obtain⟨tq,tc,rfl⟩:=aj Y;obtain⟨t0,ε⟩:=blk k1
   have ν:Hid (NZ (.slice tq c.length tc)):=by
        by_cases h0:c=[]
        .have z:=(t0 3).symm.trans (k4.2 h0)
         have V:Value.slice tq c.length tc=.slice none 0 0:=adn z;show NZ _
         rw[V];trivial
        .exact NZ.Ic Y (List.length_pos_iff.2 h0)
   have X:Hid (w3.heap[w.heap.size+1]? =some (.cells #[.slice ao n cap,.slice (some ⟨w.heap.size,0,none⟩) n n,.int .i64 A,.slice tq c.length tc] 235 (0,0))/\w3.ownsRow (w.heap.size+1+1) 3 1 (.slice tq c.length tc) c.length (aT c)/\adN w w3/\gB n (Ia m N l) k A c):=⟨k1,Y,r.out.2.trans (H2.out.2.2.trans R),p⟩;have ι:w.heap.size+1+1<=w3.heap.size:=(ZK.1 k1).1;clear k1 Y B k4 p R M;go_wp2_with fail;refine(El (w.heap.size+1+1) (w.heap.size+1+1) _ c w3 X.out.2.1 (ZL _) ι (by rw[q.out];exact Z)).mono ?_;rintro e w4 ⟨rfl,I,u⟩;have HL:=av (aaa I u);obtain⟨s0,σ⟩:=blk ((u.block (w.heap.size+1) (Z4 _)).trans X.out.1);clear I u;go_wp2_with fail;go_ret;refine⟨_,mM c,rfl,?_,?_,?_,?_,?_,ν.out⟩
   .exact aB HL.out.1 (by omega)
   .rw[(lT c).length_eq];exact q.out
   .have z:=Cj c
    have V:(mM c).Nodup:=(lT c).nodup_iff.2 X.out.2.2.2.nodup;exact(z.and V).imp fun⟨a,b⟩=>by omega
   .intro i hi
    have:=(X.out.2.2.2.mem i ((lT c).mem_iff.1 hi)).2;unfold Ia at this;simpa using this
   .exact X.out.2.2.1.trans (HL.out.2.mono (by omega))
end Z
section
open Go.RowKit
attribute [local go_sem] Oper.semAt_some
end
section
open Go.RowKit
attribute [local go_sem ↓] Go.wp_at_zero Go.wp_at_succ
attribute [local go_sem] After.cell After.frozen After.const
structure gY (w:World):Prop where
 size:14<=w.heap.size
 pow:Lib.TabIs prog w "internal/strconv.uint64pow10" .u64 Lib.pow10Tab
 Mf:Lib.Utf8Tabs 4 5 w
 Ls:TabAt 13 Lib.deBruijn64tab w
def Tryz.oL:prog.globalNamed "internal/strconv.uint64pow10" =some 3:=by kernel_rfl
def gY.ext {w w'}(h:gY w)(hb:Below w.heap.size w w'):gY w':=by
 have c:∀b o,b<14->w'.cell? ⟨b,o,none⟩=w.cell? ⟨b,o,none⟩:=λb o hl=>hb.cell (p:=⟨b,o,none⟩) (ZO hl h.size)
 refine⟨ZP h.size hb.size,var?_below hb Tryz.oL (ZO (by decide) h.size) h.pow,⟨λk a=>?_,λi e=>?_⟩,λj d=>?_⟩
 .rw[c _ _ (by decide)];exact h.Mf.1 k a
 .rw[c _ _ (by decide),c _ _ (by decide)];exact h.Mf.2 i e
 .rw[c _ _ (by decide)];exact h.Ls j d
def SB (z:Int):Prop:= -9223372036854775808<=z/\z<=9223372036854775807
def E5 (z)(w)(a:SB z)(he:gY w):
 Calls prog 177 #[.int .i64 z] w λe w'=>Below w.heap.size w w'/\∃t:ByteArray,e=.returned (.string t)/\t.size<=21:=by
 refine(Tryz.strconv_Itoa z a.1 a.2 w he.pow).mono ?_;rintro e w' ⟨rfl,k,os,rfl⟩;exact⟨Lib.below_grow _ _ (ZL _) _ _,_,rfl,by have:=Lib.itoa_length_le z a.1 a.2;simpa[ByteArray.size] using this⟩
end
section
open Go.RowKit
attribute [local go_sem] Oper.semAt_some
def tL {w1 w2:World}{base}{e}{size}{v}{n}{xs}{o}(a:w1.ownsRow base e size v n xs)(d:(w1.alloc o).grownBy w2 v.ownBlock){b}{q}(hb:w1.heap[b]? =some q)(c:b<base):w2.heap[b]? =some q:=by
 have hl:=(ZK.1 hb).1;refine(d.block b (by simp;omega) (λh=>?_)).trans ((Below.heap_alloc w1 o b hl).trans hb);have:=(a.lt b h.symm).1;omega
def LU {w1 w2}{base}{e}{size}{v}{n}{xs}{o}(f:w1.ownsRow base e size v n xs)(h:(w1.alloc o).grownBy w2 v.ownBlock):KeepsOthers w1 w2:=by
 refine(KeepsOthers.alloc w1 o).trans (KeepsOthers.of_grownBy h λj q a b=>?_);rcases f.2 with⟨i,_⟩|⟨g,cap,cur,d,_,c,_⟩
 .rw[i]at a;cases a
 .rw[d]at a
  cases a;rw[Below.heap_alloc w1 o _ (ZK.1 c).1,c]at b;cases b;rfl
def lM {w1 w2}{base B}{e}{size}{v}{n}{xs}{o}(a:w1.ownsRow base e size v n xs)(c:(w1.alloc o).grownBy w2 v.ownBlock)(d:B<=base)(hs:B<=w1.heap.size):Below B w1 w2:=
 ((Below.refl B w1).alloc hs o).grown c (by simp;omega) (λk b=>by have:=(a.lt k b).1;omega)
end
section
open Go.RowKit
attribute [local go_sem ↓] Go.wp_at_zero Go.wp_at_succ
attribute [local go_sem] After.cell After.frozen After.const
def sum (l:List ByteArray):Nat:=(l.map (·.size)).sum
def sum_cons (a)(l):sum (a::l)=a.size+sum l:=by simp[sum]
def Place (n:Nat)(e:Ending):Prop:=∃z:Int,e=.returned (.int .i64 z)/\-1<=z/\z<n
def Tryz.infoByte:(prog.info? 5).map (λi=>(i.zero,i.size,i.bytes))=some (some (.int .u8 0),1,1):=by kernel_rfl
def mH (xs:List Value):Prop:=∀u∈xs,∃z,u=.int .u8 z
def mH.one {xs}(h:mH xs)(z):mH (xs++[.int .u8 z]):=λu hu=>by
 rcases abz.1 hu with hu|hu
 .exact h u hu
 .simp at hu;subst hu;exact⟨z,rfl⟩
def Q3:Value->Nat
 |.string s=>s.size
 |_=>0
def mH.app {xs ys}(h:mH xs)(k:mH ys):mH (xs++ys):=λu hu=>(abz.1 hu).elim (h u) (k u)
def mH.str (s):mH (Lib.strCells s):=λu hu=>by
 simp[Lib.strCells]at hu;obtain⟨x,_,rfl⟩:=hu;exact⟨_,rfl⟩
def jl (x)(a:0<=x)(c:x<2147483648):0<=bits BinOp.and IntKind.i32 x 15/\bits BinOp.and IntKind.i32 x 15<16:=by
 obtain⟨k,rfl⟩:=Int.eq_ofNat_of_zero_le a;have e:=Lib.and15_i32 k (by omega);have b:bits BinOp.and IntKind.i32 (k:Int) 15=((k%16:Nat):Int):=e;rw[b];omega
def vW (B N:Nat)(c:World)(e:Ending)(w':World):Prop:=∃v' b a,e=.returned v'/\Lib.OwnBuf B 5 v' b a c w'/\b<=N/\mH a
def vW.of {B N}{c w'}{v'}{b}{a}(h:Lib.OwnBuf B 5 v' b a c w')(d:b<=N)(hu:mH a):vW B N c (.returned v') w':=⟨v',b,a,rfl,h,d,hu⟩
def PK (B)(v)(n)(xs)(r)(f w)(hb:Lib.OwnBuf B 5 v n xs f w)(hu:mH xs)(hlen:n+10<=140737488355328)(p:0<=r)(o:r<=2147483647):
 Calls prog 257 #[v,.int .i32 r,.int .u8 34,.bool true,.bool false] w (vW B (n+10) f):=by
 obtain⟨i0,i,c,b,a⟩:=info_parts Tryz.infoByte;have t37:=underlying165;have t9:=underlying9;have l:Hid (mH xs/\0<=r/\r<=2147483647):=⟨hu,p,o⟩;clear hu;obtain⟨y,n28⟩:=jl (r/268435456) (by omega) (by omega);obtain⟨m24,n24⟩:=jl (r/16777216) (by omega) (by omega);obtain⟨m20,n20⟩:=jl (r/1048576) (by omega) (by omega);obtain⟨m16,n16⟩:=jl (r/65536) (by omega) (by omega);obtain⟨m12,x⟩:=jl (r/4096) (by omega) (by omega);obtain⟨m8,n8⟩:=jl (r/256) (by omega) (by omega);obtain⟨m4,n4⟩:=jl (r/16) (by omega) (by omega);obtain⟨m0,F⟩:=jl (r) (by omega) (by omega);obtain⟨u,q⟩:=jl (65533/4096) (by omega) (by omega);obtain⟨D,z⟩:=jl (65533/256) (by omega) (by omega);obtain⟨p4,A⟩:=jl (65533/16) (by omega) (by omega);obtain⟨E,C⟩:=jl (65533) (by omega) (by omega)
 go_enter func257,ntmps257
 go_wp2_with(first
  |(go_at_call 278;refine(Tryz.strconv_IsPrint_latin r _ (by omega)).mono ?_;rintro e w1 ⟨he,hw⟩;obtain rfl:=hw.symm;generalize Lib.isPrintLatin r=t at he;subst he;cases t)
  |(go_at_call 269;refine(Tryz.utf8_ValidRune r _).mono ?_;rintro e w1 ⟨he,hw⟩;obtain rfl:=hw.symm;generalize Lib.validRune r=vb at he;subst he;cases vb)
  |(at_builtin;first
   |(refine Lib.wpList_append_byte rfl _ _ 165 rfl B 5 i0 t37 i c b a _ _ _ rfl f _ _ (by assumption) rfl (by first|omega|(simp only[Lib.size_two];omega)) ?_;intro _ _ hb)
   |(refine Lib.wpList_append_text rfl _ _ 165 9 rfl B 5 i0 t37 t9 i c b a _ _ _ rfl f (by assumption) _ rfl (by first|omega|(simp only[Lib.size_two];omega)) ?_;intro _ _ hb)))
 all_goals try
  (go_ret
   refine .of hb ?_ ?_
   .first
     |omega
     |(simp only[Lib.size_two];omega)
   .repeat' first
     |exact l.out.1
     |exact mH.str _
     |refine mH.one ?_ _
     |refine mH.app ?_ ?_)
 .go_loopw [0,11] (λv s wr=>∃(m:Nat) (ys:List Value) (d:Int),s=.int .i64 d/\(d=12\/d=8\/d=4\/d=0\/d= -4)/\Lib.OwnBuf B 5 v m ys f wr/\mH ys/\4*(m:Int)+d<=4*((n:Int)+2)+12) (λ_ s _=>(intOf s+4).toNat)
  case atStart=>exact⟨_,_,12,rfl,.inl rfl,hb,l.out.1.app (mH.str _),by simp only[Lib.size_two];omega⟩
  case round=>
   clear hb;obtain⟨m,ys,d,rfl,j,hb,h,k⟩:=hrel;have g:Hid (mH ys):=h;clear h;rcases j with rfl|rfl|rfl|rfl|rfl
   .go_wp2_with(at_builtin;refine Lib.wpList_append_byte rfl _ _ 165 rfl B 5 i0 t37 i c b a _ _ _ rfl f _ _ (by assumption) rfl (by omega) ?_;intro _ _ hb)
    exact⟨⟨_,_,8,rfl,by omega,hb,g.out.one _,by omega⟩,by simp[intOf]⟩
   .go_wp2_with(at_builtin;refine Lib.wpList_append_byte rfl _ _ 165 rfl B 5 i0 t37 i c b a _ _ _ rfl f _ _ (by assumption) rfl (by omega) ?_;intro _ _ hb)
    exact⟨⟨_,_,4,rfl,by omega,hb,g.out.one _,by omega⟩,by simp[intOf]⟩
   .go_wp2_with(at_builtin;refine Lib.wpList_append_byte rfl _ _ 165 rfl B 5 i0 t37 i c b a _ _ _ rfl f _ _ (by assumption) rfl (by omega) ?_;intro _ _ hb)
    exact⟨⟨_,_,0,rfl,by omega,hb,g.out.one _,by omega⟩,by simp[intOf]⟩
   .go_wp2_with(at_builtin;refine Lib.wpList_append_byte rfl _ _ 165 rfl B 5 i0 t37 i c b a _ _ _ rfl f _ _ (by assumption) rfl (by omega) ?_;intro _ _ hb)
    exact⟨⟨_,_,-4,rfl,by omega,hb,g.out.one _,by omega⟩,by simp[intOf]⟩
   .go_wp2
    go_ret;exact .of hb (by omega) g.out
 .go_loopw [0,11] (λv s wr=>∃(m:Nat) (ys:List Value) (d:Int),s=.int .i64 d/\(d=12\/d=8\/d=4\/d=0\/d= -4)/\Lib.OwnBuf B 5 v m ys f wr/\mH ys/\4*(m:Int)+d<=4*((n:Int)+2)+12) (λ_ s _=>(intOf s+4).toNat)
  case atStart=>exact⟨_,_,12,rfl,.inl rfl,hb,l.out.1.app (mH.str _),by simp only[Lib.size_two];omega⟩
  case round=>
   clear hb;obtain⟨m,ys,d,rfl,j,hb,h,k⟩:=hrel;have g:Hid (mH ys):=h;clear h;rcases j with rfl|rfl|rfl|rfl|rfl
   .go_wp2_with(at_builtin;refine Lib.wpList_append_byte rfl _ _ 165 rfl B 5 i0 t37 i c b a _ _ _ rfl f _ _ (by assumption) rfl (by omega) ?_;intro _ _ hb)
    exact⟨⟨_,_,8,rfl,by omega,hb,g.out.one _,by omega⟩,by simp[intOf]⟩
   .go_wp2_with(at_builtin;refine Lib.wpList_append_byte rfl _ _ 165 rfl B 5 i0 t37 i c b a _ _ _ rfl f _ _ (by assumption) rfl (by omega) ?_;intro _ _ hb)
    exact⟨⟨_,_,4,rfl,by omega,hb,g.out.one _,by omega⟩,by simp[intOf]⟩
   .go_wp2_with(at_builtin;refine Lib.wpList_append_byte rfl _ _ 165 rfl B 5 i0 t37 i c b a _ _ _ rfl f _ _ (by assumption) rfl (by omega) ?_;intro _ _ hb)
    exact⟨⟨_,_,0,rfl,by omega,hb,g.out.one _,by omega⟩,by simp[intOf]⟩
   .go_wp2_with(at_builtin;refine Lib.wpList_append_byte rfl _ _ 165 rfl B 5 i0 t37 i c b a _ _ _ rfl f _ _ (by assumption) rfl (by omega) ?_;intro _ _ hb)
    exact⟨⟨_,_,-4,rfl,by omega,hb,g.out.one _,by omega⟩,by simp[intOf]⟩
   .go_wp2
    go_ret;exact .of hb (by omega) g.out
 .go_loopw [0,11] (λv s wr=>∃(m:Nat) (ys:List Value) (d:Int),s=.int .i64 d/\(d=12\/d=8\/d=4\/d=0\/d= -4)/\Lib.OwnBuf B 5 v m ys f wr/\mH ys/\4*(m:Int)+d<=4*((n:Int)+2)+12) (λ_ s _=>(intOf s+4).toNat)
  case atStart=>exact⟨_,_,12,rfl,.inl rfl,hb,l.out.1.app (mH.str _),by simp only[Lib.size_two];omega⟩
  case round=>
   clear hb;obtain⟨m,ys,d,rfl,j,hb,h,k⟩:=hrel;have g:Hid (mH ys):=h;clear h;rcases j with rfl|rfl|rfl|rfl|rfl
   .go_wp2_with(at_builtin;refine Lib.wpList_append_byte rfl _ _ 165 rfl B 5 i0 t37 i c b a _ _ _ rfl f _ _ (by assumption) rfl (by omega) ?_;intro _ _ hb)
    exact⟨⟨_,_,8,rfl,by omega,hb,g.out.one _,by omega⟩,by simp[intOf]⟩
   .go_wp2_with(at_builtin;refine Lib.wpList_append_byte rfl _ _ 165 rfl B 5 i0 t37 i c b a _ _ _ rfl f _ _ (by assumption) rfl (by omega) ?_;intro _ _ hb)
    exact⟨⟨_,_,4,rfl,by omega,hb,g.out.one _,by omega⟩,by simp[intOf]⟩
   .go_wp2_with(at_builtin;refine Lib.wpList_append_byte rfl _ _ 165 rfl B 5 i0 t37 i c b a _ _ _ rfl f _ _ (by assumption) rfl (by omega) ?_;intro _ _ hb)
    exact⟨⟨_,_,0,rfl,by omega,hb,g.out.one _,by omega⟩,by simp[intOf]⟩
   .go_wp2_with(at_builtin;refine Lib.wpList_append_byte rfl _ _ 165 rfl B 5 i0 t37 i c b a _ _ _ rfl f _ _ (by assumption) rfl (by omega) ?_;intro _ _ hb)
    exact⟨⟨_,_,-4,rfl,by omega,hb,g.out.one _,by omega⟩,by simp[intOf]⟩
   .go_wp2
    go_ret;exact .of hb (by omega) g.out
 .go_loopw [0,11] (λv s wr=>∃(m:Nat) (ys:List Value) (d:Int),s=.int .i64 d/\(d=12\/d=8\/d=4\/d=0\/d= -4)/\Lib.OwnBuf B 5 v m ys f wr/\mH ys/\4*(m:Int)+d<=4*((n:Int)+2)+12) (λ_ s _=>(intOf s+4).toNat)
  case atStart=>exact⟨_,_,12,rfl,.inl rfl,hb,l.out.1.app (mH.str _),by simp only[Lib.size_two];omega⟩
  case round=>
   clear hb;obtain⟨m,ys,d,rfl,j,hb,h,k⟩:=hrel;have g:Hid (mH ys):=h;clear h;rcases j with rfl|rfl|rfl|rfl|rfl
   .go_wp2_with(at_builtin;refine Lib.wpList_append_byte rfl _ _ 165 rfl B 5 i0 t37 i c b a _ _ _ rfl f _ _ (by assumption) rfl (by omega) ?_;intro _ _ hb)
    exact⟨⟨_,_,8,rfl,by omega,hb,g.out.one _,by omega⟩,by simp[intOf]⟩
   .go_wp2_with(at_builtin;refine Lib.wpList_append_byte rfl _ _ 165 rfl B 5 i0 t37 i c b a _ _ _ rfl f _ _ (by assumption) rfl (by omega) ?_;intro _ _ hb)
    exact⟨⟨_,_,4,rfl,by omega,hb,g.out.one _,by omega⟩,by simp[intOf]⟩
   .go_wp2_with(at_builtin;refine Lib.wpList_append_byte rfl _ _ 165 rfl B 5 i0 t37 i c b a _ _ _ rfl f _ _ (by assumption) rfl (by omega) ?_;intro _ _ hb)
    exact⟨⟨_,_,0,rfl,by omega,hb,g.out.one _,by omega⟩,by simp[intOf]⟩
   .go_wp2_with(at_builtin;refine Lib.wpList_append_byte rfl _ _ 165 rfl B 5 i0 t37 i c b a _ _ _ rfl f _ _ (by assumption) rfl (by omega) ?_;intro _ _ hb)
    exact⟨⟨_,_,-4,rfl,by omega,hb,g.out.one _,by omega⟩,by simp[intOf]⟩
   .go_wp2
    go_ret;exact .of hb (by omega) g.out
 .go_loopw [0,12] (λv s wr=>∃(m:Nat) (ys:List Value) (d:Int),s=.int .i64 d/\(d=28\/d=24\/d=20\/d=16\/d=12\/d=8\/d=4\/d=0\/d= -4)/\Lib.OwnBuf B 5 v m ys f wr/\mH ys/\4*(m:Int)+d<=4*((n:Int)+2)+28) (λ_ s _=>(intOf s+4).toNat)
  case atStart=>exact⟨_,_,28,rfl,.inl rfl,hb,l.out.1.app (mH.str _),by simp only[Lib.size_two];omega⟩
  case round=>
   clear hb;obtain⟨m,ys,d,rfl,j,hb,h,k⟩:=hrel;have g:Hid (mH ys):=h;clear h;rcases j with rfl|rfl|rfl|rfl|rfl|rfl|rfl|rfl|rfl
   .go_wp2_with(at_builtin;refine Lib.wpList_append_byte rfl _ _ 165 rfl B 5 i0 t37 i c b a _ _ _ rfl f _ _ (by assumption) rfl (by omega) ?_;intro _ _ hb)
    exact⟨⟨_,_,24,rfl,by omega,hb,g.out.one _,by omega⟩,by simp[intOf]⟩
   .go_wp2_with(at_builtin;refine Lib.wpList_append_byte rfl _ _ 165 rfl B 5 i0 t37 i c b a _ _ _ rfl f _ _ (by assumption) rfl (by omega) ?_;intro _ _ hb)
    exact⟨⟨_,_,20,rfl,by omega,hb,g.out.one _,by omega⟩,by simp[intOf]⟩
   .go_wp2_with(at_builtin;refine Lib.wpList_append_byte rfl _ _ 165 rfl B 5 i0 t37 i c b a _ _ _ rfl f _ _ (by assumption) rfl (by omega) ?_;intro _ _ hb)
    exact⟨⟨_,_,16,rfl,by omega,hb,g.out.one _,by omega⟩,by simp[intOf]⟩
   .go_wp2_with(at_builtin;refine Lib.wpList_append_byte rfl _ _ 165 rfl B 5 i0 t37 i c b a _ _ _ rfl f _ _ (by assumption) rfl (by omega) ?_;intro _ _ hb)
    exact⟨⟨_,_,12,rfl,by omega,hb,g.out.one _,by omega⟩,by simp[intOf]⟩
   .go_wp2_with(at_builtin;refine Lib.wpList_append_byte rfl _ _ 165 rfl B 5 i0 t37 i c b a _ _ _ rfl f _ _ (by assumption) rfl (by omega) ?_;intro _ _ hb)
    exact⟨⟨_,_,8,rfl,by omega,hb,g.out.one _,by omega⟩,by simp[intOf]⟩
   .go_wp2_with(at_builtin;refine Lib.wpList_append_byte rfl _ _ 165 rfl B 5 i0 t37 i c b a _ _ _ rfl f _ _ (by assumption) rfl (by omega) ?_;intro _ _ hb)
    exact⟨⟨_,_,4,rfl,by omega,hb,g.out.one _,by omega⟩,by simp[intOf]⟩
   .go_wp2_with(at_builtin;refine Lib.wpList_append_byte rfl _ _ 165 rfl B 5 i0 t37 i c b a _ _ _ rfl f _ _ (by assumption) rfl (by omega) ?_;intro _ _ hb)
    exact⟨⟨_,_,0,rfl,by omega,hb,g.out.one _,by omega⟩,by simp[intOf]⟩
   .go_wp2_with(at_builtin;refine Lib.wpList_append_byte rfl _ _ 165 rfl B 5 i0 t37 i c b a _ _ _ rfl f _ _ (by assumption) rfl (by omega) ?_;intro _ _ hb)
    exact⟨⟨_,_,-4,rfl,by omega,hb,g.out.one _,by omega⟩,by simp[intOf]⟩
   .go_wp2
    go_ret;exact .of hb (by omega) g.out
def Mi (x):0<=IntKind.u64.wrap x/\IntKind.u64.wrap x<18446744073709551616:=by
 have h:=wf_wrap .u64 x;simp[Lit.wf,IntKind.min,IntKind.max,IntKind.signed,IntKind.bits]at h;omega
def Zm (e:Ending):Prop:=∃x:Int,e=.returned (.int .u64 x)/\0<=x/\x<18446744073709551616
def Dy (s)(w)(hs:s.size<=140737488355328):
 Calls prog 179 #[.string s] w λe w'=>Zm e/\w'=w:=by
 go_enter func179,ntmps179
 go_wp2
 go_loop [3,7] (λv i=>∃(x:Int) (k:Nat),v=.int .u64 x/\(0<=x/\x<18446744073709551616)/\i=.int .i64 k/\k<=s.size) (λ_ i=>s.size-(intOf i).toNat)
 case atStart=>exact⟨_,0,rfl,⟨by omega,by omega⟩,rfl,by omega⟩
 case round=>
  obtain⟨x,k,rfl,hx,rfl,d⟩:=hrel;have a:Hid (0<=x/\x<18446744073709551616):=hx;clear hx
  by_cases c:k<s.size
  .have b:(k:Int)<s.size:=by omega
   go_wp2;go_round
   case rel=>exact⟨_,k+1,rfl,Mi _,by go_num,by omega⟩
   case measure=>simp[intOf];omega
  .have b:¬(k:Int)<s.size:=by omega
   go_wp2;go_ret;exact⟨⟨x,rfl,a.out.1,a.out.2⟩,rfl⟩
def rA (c)(K):∀(l:List (List UInt8)),(∀x∈l,x.length<=K)->(Lib.joinTail [c] l).length<=(K+1)*l.length
 |[],_=>by simp[Lib.joinTail]
 |a::r,h=>by
  have d:=h a (by simp);have b:=rA c K r (λx hx=>h x (ac1 _ hx));simp only[Lib.joinTail,adr,List.flatten_cons,Z7,adt,List.length_nil]at*;rw[Nat.mul_add];omega
def Nj (c)(K)(l)(h:∀x∈l,x.length<=K):(Lib.join l [c]).length<=(K+1)*l.length:=by
 cases l with
 |nil=>simp[Lib.join_nil]
 |cons a r=>
  have d:=h a (by simp);have b:=rA c K r (λx hx=>h x (ac1 _ hx));rw[Lib.join_cons,Z7,adt,Nat.mul_add];omega
def iF (n:Nat)(e:Ending):Prop:=∃t:ByteArray,e=.returned (.string t)/\t.size<=n
def qM {w:World}{base}{v}{n K}{xs}(h:w.ownsRow base 9 1 v n xs)(hx:∀u∈xs,BK K u):
 ∃ts:List ByteArray,xs=ts.map Value.string/\ts.length=n/\(∀t∈ts,t.size<=K)/\
  ((v=.slice none 0 0/\n=0)\/∃g cap,v=.slice (some ⟨g,0,none⟩) n cap/\n<=cap/\g<w.heap.size/\∀(j:Nat) x,ts[j]? =some x->w.cell? ⟨g,0+j,none⟩=some (.string x)):=by
 have hl:xs.length=n:=by have:=h.1;omega
 have i:∃ts:List ByteArray,xs=ts.map Value.string/\∀t∈ts,t.size<=K:=by
  clear hl h
  induction xs with
  |nil=>exact⟨[],rfl,by simp⟩
  |cons x r f=>
   obtain⟨ts,rfl,c⟩:=f (λu hm=>hx u (ac1 _ hm));obtain⟨s,rfl,hs⟩:=hx x ZX;exact⟨s::ts,rfl,λt hm=>by rcases ZW.1 hm with rfl|hm;exact hs;exact c t hm⟩
 obtain⟨ts,rfl,c⟩:=i;have a:ts.length=n:=by simpa using hl
 refine⟨ts,rfl,a,c,?_⟩;rcases h.2 with⟨rfl,m⟩|⟨g,cap,cur,rfl,_,d,k,hc,hs,b⟩
 .exact .inl ⟨rfl,m⟩
 .refine .inr ⟨g,cap,rfl,k,(ZK.1 d).1,λj x l=>?_⟩
  have e:(ts.map Value.string)[j]? =some (.string x):=by simp[l]
  rw[Z8,cell_of_row w g j cur _ (0,0) d];rw[<-b,Z5]at e;split at e
  .simpa using e
  .cases e
def Nk (c)(v)(n K base)(xs)(w)(h:w.ownsRow base 9 1 v n xs)(hx:∀u∈xs,BK K u)(f:(K+1)*n<=140737488355328):
 Calls prog 176 #[v,.string ⟨#[c]⟩] w λe w'=>iF ((K+1)*n) e/\Below w.heap.size w w':=by
 obtain⟨ts,rfl,hl,i,⟨rfl,l⟩|⟨g,cap,rfl,d,j,hc⟩⟩:=qM h hx
 .refine(Tryz.strings_Join_none none 0 ⟨#[c]⟩ w).mono ?_
  rintro e w' ⟨rfl,rfl⟩;exact⟨⟨_,rfl,adl _⟩,Below.refl _ _⟩
 .have b:=Nj c K (ts.map (·.data.toList)) (λx hx=>by
   obtain⟨t,a,rfl⟩:=adz.1 hx;have:=i t a;rw[<-Lib.size_eq];exact this)
  rw[adH,hl]at b;have k:n<=140737488355328:=ZP (Nat.le_mul_of_pos_left n (by omega)) f;have r:=Tryz.strings_Join g 0 cap ts ⟨#[c]⟩ w hc j (by omega) (by omega) (ZP b f);rw[hl]at r;refine r.mono ?_;rintro e w' ⟨rfl,hb⟩;exact⟨⟨_,rfl,by simpa[ByteArray.size] using b⟩,hb⟩
def rq (v)(n)(R)(w)(H:n<=1099511627776)(h:Ints w v n R)(hR:∀i,i<n->SB (R i))(f:gY w):
 Calls prog 174 #[v] w λe w'=>iF (22*n+1) e/\Below w.heap.size w w':=by
 have hF:=h;obtain⟨ao,cap,rfl,hc,hm,_⟩:=h;obtain⟨i0,D,r,q,p⟩:=info_parts Tryz.JS;have hu:=underlying115;have A:Hid (Ints w (.slice ao n cap) n R/\(∀i,i<n->SB (R i))/\gY w):=⟨hF,hR,f⟩;clear hF hR f
 by_cases E:n=0
 .subst E
  go_enter func174,ntmps174
  go_wp2;go_ret;exact⟨⟨_,rfl,by show 1<=22*0+1;omega⟩,Below.refl _ _⟩
 have C:((n:Int)==0)=false:=by rw[acZ];omega
 go_enter func174,ntmps174
 go_wp2
 go_loopw [3,11] (λv i wr=>∃(k:Nat) (xs:List Value),k<=n/\i=.int .i64 k/\wr.ownsRow w.heap.size 9 1 v k xs/\(∀u∈xs,BK 21 u)/\Below w.heap.size w wr) (λ_ i _=>n-(intOf i).toNat)
 case atStart=>exact⟨0,[],by omega,rfl,World.ownsRow_nil _ _ _ _,by simp,Below.refl _ _⟩
 case round=>
  obtain⟨k,xs,I,rfl,a,j,hb⟩:=hrel;have g:Hid (wr.ownsRow w.heap.size 9 1 u3 k xs/\(∀u∈xs,BK 21 u)/\Below w.heap.size w wr):=⟨a,j,hb⟩;have s:w.heap.size<=wr.heap.size:=hb.size
  by_cases l:k<n
  .have G:(k:Int)<n:=by omega
   obtain⟨F,B,he,_,_,hF⟩:=A.out.1.ext hb;cases he;obtain⟨b,o,y,m⟩:=hF (by omega);subst y;have J:=m k l;clear hF m hb a j
   go_wp2_with(first
        |(go_at_call 177;refine(E5 (R k) wr (A.out.2.1 k l) (A.out.2.2.ext g.out.2.2)).mono ?_;rintro e w1 ⟨d,t,rfl,x⟩;have H1:Hid (Below wr.heap.size wr w1/\t.size<=21/\wr.heap.size<=w1.heap.size):=⟨d,x,d.size⟩;clear d x)
        |(at_builtin;refine wpList_append_own _ rfl _ _ _ rfl w.heap.size 9 i0 _ 1 16 hu D r q p rfl (by omega) _ k xs rfl ((au g.out.1 H1.out.1).alloc _) ⟨w1.heap.size,0,none⟩ 1 1 [.string t] rfl rfl (cell_one_new _ _ _) (by intro u hu;simp at hu;subst hu;rfl) (by unfold maxLen;omega) (by omega) (by have:=H1.out.2.2;simp;omega) ?_;intro v' w2 a c _))
   have z:Hid (w2.ownsRow w.heap.size 9 1 v' (k+1) (xs++[.string t])/\(∀u∈xs++[Value.string t],BK 21 u)/\Below w.heap.size w w2):=by
        refine⟨a,λu hu=>?_,g.out.2.2.trans ((H1.out.1.mono s).trans (lM (au g.out.1 H1.out.1) c (ZL _) (ZP s H1.out.2.2)))⟩;rcases abz.1 hu with hu|hu
        .exact g.out.2.1 u hu
        .simp at hu;subst hu;exact⟨t,rfl,H1.out.2.1⟩
   clear a c;go_wp2;go_roundw
   case rel=>exact⟨k+1,_,by omega,by go_num,z.out.1,z.out.2.1,z.out.2.2⟩
   case measure=>simp[intOf];omega
  .obtain rfl:k=n:=by omega
   clear hb a j;go_wp2_with(go_at_call 176;refine(Nk 44 u3 k 21 w.heap.size xs wr g.out.1 g.out.2.1 (by omega)).mono ?_;rintro e w1 ⟨⟨t,rfl,x⟩,d⟩);go_ret;exact⟨⟨t,rfl,by omega⟩,g.out.2.2.trans (d.mono s)⟩
set_option linter.unusedVariables false in
def gY.low {B}{w w'}(h:gY w)(hb:Below B w w')(a:14<=B)(g:B<=w.heap.size):gY w':=by
 have c:∀b o,b<14->w'.cell? ⟨b,o,none⟩=w.cell? ⟨b,o,none⟩:=λb o hl=>hb.cell (p:=⟨b,o,none⟩) (ZO hl a)
 refine⟨ZP h.size hb.size,var?_below hb Tryz.oL (ZO (by decide) a) h.pow,⟨λk d=>?_,λi f=>?_⟩,λj e=>?_⟩
 .rw[c _ _ (by decide)];exact h.Mf.1 k d
 .rw[c _ _ (by decide),c _ _ (by decide)];exact h.Mf.2 i f
 .rw[c _ _ (by decide)];exact h.Ls j e
def Ac {B}{v}{n}{xs}{a w w1}(h:Lib.OwnBuf B 5 v n xs a w)(hb:Below w.heap.size w w1):Lib.OwnBuf B 5 v n xs a w1:=by
 have c:w.grownBy w1 none:=⟨hb.os,hb.tape,hb.output,hb.size,λk b _=>hb.block k b⟩;refine⟨h.1.kept c ?_,h.2.1.trans (hb.mono h.2.2),ZP h.2.2 hb.size⟩;cases d:v.ownBlock with
 |none=>exact .inl rfl
 |some g=>exact .inr (by simp)
def Sl (x)(b:0<=x)(a:x<256):0<=bits BinOp.and IntKind.u8 x 15/\bits BinOp.and IntKind.u8 x 15<16:=by
 rw[u8_and15 x b a];omega
def xD (B)(D)(n c)(xs)(s)(b w)(hb:Lib.OwnBuf B 5 (.slice D n c) n xs b w)(hu:mH xs)(x:n+s.size<=c)(hc:c<=9223372036854775807)(hlen:n+10*s.size+12<=140737488355328)(A:14<=B)(z:B<=b.heap.size)(h:gY b):
 Calls prog 227 #[.slice D n c,.string s,.int .u8 34,.bool true,.bool false] w (vW B (n+10*s.size+2) b):=by
 obtain⟨i0,p,g,f,d⟩:=info_parts Tryz.infoByte;have t37:=underlying165;have t9:=underlying9;have H:Hid (mH xs/\gY b):=⟨hu,h⟩;clear hu h;have f0:decide ((c:Int)-n<s.size)=false:=adg (by omega);have f1:¬((c:Int)-n<s.size):=by omega
 go_enter func227,ntmps227
 go_wp2_with(at_builtin;refine Lib.wpList_append_byte rfl _ _ 165 rfl B 5 i0 t37 p g f d _ _ _ rfl b _ _ (by assumption) rfl (by omega) ?_;intro _ _ hb)
 go_loopw [0,1] (λv a wr=>∃(m:Nat) (ys:List Value) (t:ByteArray),a=.string t/\Lib.OwnBuf B 5 v m ys b wr/\mH ys/\m+10*t.size<=n+1+10*s.size/\t.size<=s.size) (λ_ a _=>Q3 a)
 case atStart=>exact⟨_,_,s,rfl,hb,H.out.1.one _,by omega,ZL _⟩
 case round=>
  clear hb;obtain⟨m,ys,t,rfl,hb,j,L,J⟩:=hrel;have q:Hid (mH ys/\gY wr):=⟨j,H.out.2.low hb.2.1 A z⟩;clear j
  by_cases O:t.size=0
  .have C:decide ((0:Int)<t.size)=false:=adg (by omega)
   have o:¬(0:Int)<t.size:=(by omega);go_wp2_with(at_builtin;refine Lib.wpList_append_byte rfl _ _ 165 rfl B 5 i0 t37 p g f d _ _ _ rfl b _ _ (by assumption) rfl (by omega) ?_;intro _ _ hb);go_ret;exact .of hb (by omega) (q.out.1.one _)
  .have C:(0:Int)<t.size:=by omega
   have XW:0<t.size:=(by omega);obtain⟨r,k,hd⟩:∃r k:Nat,Lib.decodeGo t=(r,k):=⟨_,_,rfl⟩
   have N:r<=2147483647/\1<=k/\k<=t.size:=by
        have y:Utf8.decode t 0=(r,k):=by
         unfold Lib.decodeGo at hd
         rwa [if_neg (by omega)]at hd
        have G:=decode_le t 0;have F:=Lib.decode_width_pos t 0 (by omega);have E:=Lib.width_le t (by omega);rw[y]at G F E;exact⟨G,F,E⟩
   have P:(0:Int)<=(k:Int):=(by omega);have c2:(k:Int)<=t.size:=(by omega);have z9:(t.extract k t.size).size=t.size-k:=(by rw[ByteArray.size_extract];omega);obtain⟨b0,o⟩:∃b0,((t[0]'XW).toNat:Int)=b0:=⟨_,rfl⟩;have i:0<=b0/\b0<256:=(by rw[<-o];have:=(t[0]'XW).toNat_lt;omega);have d0:0<=b0/16:=(by omega);have d1:b0/16<16:=(by omega);obtain⟨d2,d3⟩:=Sl b0 i.1 i.2;clear i
   go_wp2_with(first
        |(go_at_call 245;refine(Tryz.utf8_DecodeRuneInString t wr q.out.2.Mf).mono ?_;rintro e w3 ⟨he,l⟩;rw[hd]at he;subst he;replace hb:=Ac hb l;clear l)
        |(go_at_call 257;refine(PK B _ _ _ (r:Int) b _ hb q.out.1 (by omega) (by omega) (by omega)).mono ?_;clear hb;rintro e w4 ⟨v',M,I,rfl,hb,K,u⟩)
        |(at_builtin;first
         |(refine Lib.wpList_append_byte rfl _ _ 165 rfl B 5 i0 t37 p g f d _ _ _ rfl b _ _ (by assumption) rfl (by first|omega|(simp only[Lib.size_two];omega)) ?_;intro _ _ hb)
         |(refine Lib.wpList_append_text rfl _ _ 165 9 rfl B 5 i0 t37 t9 p g f d _ _ _ rfl b (by assumption) _ rfl (by first|omega|(simp only[Lib.size_two];omega)) ?_;intro _ _ hb)))
   all_goals
        refine⟨⟨_,_,_,rfl,hb,?_,?_,?_⟩,?_⟩
        .repeat' first
          |exact q.out.1
          |exact u
          |exact mH.str _
          |refine mH.one ?_ _
          |refine mH.app ?_ ?_
        .simp only[ByteArray.size_extract,Lib.size_two];omega
        .simp only[ByteArray.size_extract];omega
        .show(t.extract _ t.size).size<t.size
         simp only[ByteArray.size_extract];omega
def LA {base}{w}{v}{n}{xs}(h:w.ownsRowF base 5 1 v n xs)(hu:mH xs):∃str:ByteArray,str.size=n/\(convert 165 9 v).run prog w=.ok (.string str) w:=by
 have hl:xs.length=n:=by have:=h.1;omega
 rcases h.2 with⟨rfl,k⟩|⟨g,cap,cur,l,rfl,_,j,hf,m,hc,hs,b⟩
 .refine⟨ByteArray.empty,?_,run_convert_bytes_nil (P:=prog) (w:=w) 165 5 underlying165 underlying5 0 0 _ underlying9⟩
  subst k;rfl
 .have d:∃zs:List Int,xs=zs.map (λz=>Value.int .u8 z):=by
   clear hl b h
   induction xs with
   |nil=>exact⟨[],rfl⟩
   |cons x r c=>
    obtain⟨zs,rfl⟩:=c (λu hm=>hu u (ac1 _ hm));obtain⟨z,rfl⟩:=hu x (ZX);exact⟨z::zs,rfl⟩
  obtain⟨zs,rfl⟩:=d;have a:zs.length=n:=by simpa using hl
  refine⟨strOfNums zs,?_,run_convert_bytes_arg (P:=prog) (w:=w) 165 5 underlying165 underlying5 g 0 n cap zs a (λi f=>?_) _ underlying9⟩
  .simp[strOfNums,ByteArray.size,a]
  .have e:(zs.map (λz=>Value.int .u8 z))[i]? =some (.int .u8 (zs.getD i 0)):=by simp[a,f,List.getD]
   rw[Z8,cell_of_row w g i cur _ l j];rw[<-b,Z5]at e;split at e
   .simpa using e
   .cases e
def zX (s)(w)(hs:s.size<=1099511627776)(c:gY w):
 Calls prog 200 #[.string s,.int .u8 34,.bool true,.bool false] w λe w'=>iF (10*s.size+2) e/\Below w.heap.size w w':=by
 obtain⟨i0,l,i,h,g⟩:=info_parts Tryz.infoByte;have j:=underlying165;have hC:(3*(s.size:Int)/2)=((3*s.size/2:Nat):Int):=by omega
 obtain⟨w2,d,b,a⟩:=run_make_own (P:=prog) w w.heap.size 165 5 i0 _ 1 j l i h .i64 .i64 (3*s.size/2) (by rw[g];omega) (by unfold maxLen;omega) (ZL _);rw[<-hC]at d;have f:Lib.OwnBuf w.heap.size 5 (.slice (some ⟨w.heap.size,0,none⟩) 0 (3*s.size/2)) 0 [] w w2:=⟨World.ownsRowF_of b,(Below.refl _ _).grown a (ZL _) (λk p=>by cases p),a.size⟩;have m:Hid (Lib.OwnBuf w.heap.size 5 (.slice (some ⟨w.heap.size,0,none⟩) 0 (3*s.size/2)) 0 [] w w2/\gY w):=⟨f,c⟩;clear b a f c hC
 go_enter func200,ntmps200
 go_wp2_with(go_at_call 227;refine(xD w.heap.size _ 0 (3*s.size/2) [] s w w2 m.out.1 (by intro u hu;cases hu) (by omega) (by omega) (by omega) m.out.2.size (ZL _) m.out.2).mono ?_;rintro e w3 ⟨v',t,o,rfl,hb,v,hu⟩;obtain⟨str,n,q⟩:=LA hb.1 hu;have r:Below w.heap.size w w3:=hb.2.1;clear hb hu);go_ret;exact⟨⟨str,rfl,by omega⟩,r⟩
def xE (s)(w)(hs:s.size<=1099511627776)(a:gY w):
 Calls prog 175 #[.string s] w λe w'=>iF (10*s.size+2) e/\Below w.heap.size w w':=by
 go_enter func175,ntmps175
 go_wp2_with(go_at_call 200;refine(zX s w hs a).mono ?_;rintro e w1 ⟨⟨t,rfl,b⟩,hb⟩);go_ret;exact⟨⟨t,rfl,b⟩,hb⟩
def Total (xs:List Value)(S:Nat):Prop:=∃ts:List ByteArray,xs=ts.map Value.string/\sum ts<=S
def Total.one (t):Total [.string t] t.size:=⟨[t],rfl,by simp[sum]⟩
def Total.app {xs}{S}(h:Total xs S)(t):Total (xs++[.string t]) (S+t.size):=by
 obtain⟨ts,rfl,hs⟩:=h;refine⟨ts++[t],by simp,?_⟩;have:sum (ts++[t])=sum ts+t.size:=by simp[sum]
 omega
def rz (c):∀(l:List ByteArray),(Lib.joinTail [c] (l.map (·.data.toList))).length=sum l+l.length
 |[]=>by simp[Lib.joinTail,sum]
 |a::r=>by
  have b:=rz c r;have e:a.data.toList.length=a.size:=(Lib.size_eq a).symm;rw[sum_cons];simp only[Lib.joinTail,adr,List.flatten_cons,Z7,adt,List.length_nil]at*;omega
def Ni (c)(l):(Lib.join (l.map (·.data.toList)) [c]).length<=sum l+l.length:=by
 cases l with
 |nil=>simp[Lib.join_nil]
 |cons a r=>
  have b:=rz c r;have e:a.data.toList.length=a.size:=(Lib.size_eq a).symm;rw[adr,Lib.join_cons,Z7,sum_cons,adt];omega
def Ei {xs}{S}(h:Total xs S):∀u∈xs,BK S u:=by
 obtain⟨ts,rfl,hs⟩:=h;intro u hu;obtain⟨t,b,rfl⟩:=adz.1 hu;refine⟨t,rfl,ZP ?_ hs⟩;clear hs hu
 induction ts with
 |nil=>cases b
 |cons a r c=>
  rw[sum_cons];rcases ZW.1 b with rfl|b
  .omega
  .have:=c b;omega
def Nh (c)(v)(n S base)(xs)(w)(h:w.ownsRow base 9 1 v n xs)(hx:Total xs S)(s:S+n<=140737488355328):
 Calls prog 176 #[v,.string ⟨#[c]⟩] w λe w'=>iF (S+n) e/\Below w.heap.size w w':=by
 obtain⟨d,m,i⟩:=hx;obtain⟨ts,l,hl,_,hc⟩:=qM (K:=S) h (Ei ⟨d,m,i⟩)
 have f:ts=d:=by
  rw[m]at l;exact((List.map_inj_right (λa b j=>by cases j;rfl)).1 l).symm
 subst f;rcases hc with⟨rfl,q⟩|⟨g,cap,rfl,k,p,hc⟩
 .subst q
  refine(Tryz.strings_Join_none none 0 ⟨#[c]⟩ w).mono ?_;rintro e w' ⟨rfl,rfl⟩;exact⟨⟨_,rfl,adl _⟩,Below.refl _ _⟩
 .have o:=Ni c ts
  have r:=Tryz.strings_Join g 0 cap ts ⟨#[c]⟩ w hc p (by omega) (by omega) (ZP o (by omega));rw[hl]at r;refine r.mono ?_;rintro e w' ⟨rfl,hb⟩;refine⟨⟨_,rfl,?_⟩,hb⟩;show(Lib.join (ts.map (·.data.toList)) [c]).toArray.size<=_
  simp only[List.size_toArray];omega
def UQ (nm:ByteArray)(A:Nat->Option Addr)(N C:Nat->Nat):Value:=.agg #[.string nm,.slice (A 0) (N 0) (C 0),.slice (A 1) (N 1) (C 1),.slice (A 2) (N 2) (C 2),.slice (A 3) (N 3) (C 3)]
def Nc (nm)(A)(N C)(R)(w)(hG:zA w A N C R)(Z:∀q,q<4->∀i,i<N q->SB (R q i))(hn:nm.size<=1099511627776)(I:∀q,q<4->N q<=1099511627776)(y:gY w):
 Calls prog 142 #[UQ nm A N C] w λe w'=>iF (22*(N 0+N 1+N 2+N 3)+10*nm.size+12) e/\Below w.heap.size w w':=by
 have g:Hid (zA w A N C R/\(∀q,q<4->∀i,i<N q->SB (R q i))/\(∀q,q<4->N q<=1099511627776)/\gY w):=⟨hG,Z,I,y⟩;have n0:=I 0 (by omega);have n1:=I 1 (by omega);have n2:=I 2 (by omega);have n3:=I 3 (by omega);clear hG Z I y;obtain⟨i0,P,s,r,p⟩:=info_parts Tryz.JS;have hu:=underlying115;unfold UQ
 go_enter func142,ntmps142
 have γ:=λW=>(by kernel_rfl:Sem.run prog (Instr.index 39 (.agg #[.slice (A 1) (N 1) (C 1),.slice (A 2) (N 2) (C 2),.slice (A 3) (N 3) (C 3)]) (.int .i64 0)) W=.ok (.slice (A 1) (N 1) (C 1)) W)
 have β:=λW=>(by kernel_rfl:Sem.run prog (Instr.index 39 (.agg #[.slice (A 1) (N 1) (C 1),.slice (A 2) (N 2) (C 2),.slice (A 3) (N 3) (C 3)]) (.int .i64 1)) W=.ok (.slice (A 2) (N 2) (C 2)) W)
 have α:=λW=>(by kernel_rfl:Sem.run prog (Instr.index 39 (.agg #[.slice (A 1) (N 1) (C 1),.slice (A 2) (N 2) (C 2),.slice (A 3) (N 3) (C 3)]) (.int .i64 2)) W=.ok (.slice (A 3) (N 3) (C 3)) W)
 go_wp2_with fail;have k:Below w.heap.size w (w.alloc (.cells #[.string nm,.slice (A 0) (N 0) (C 0),.slice (A 1) (N 1) (C 1),.slice (A 2) (N 2) (C 2),.slice (A 3) (N 3) (C 3)] 98)):=(Below.refl _ _).alloc (ZL _) _;refine(rq _ (N 0) (R 0) _ n0 ((g.out.1 0 (by omega)).ext k) (g.out.2.1 0 (by omega)) (g.out.2.2.2.ext k)).mono ?_;rintro e w1 ⟨⟨t0,rfl,L⟩,x⟩
 have E:w1.heap[w.heap.size]? =some (.cells #[.string nm,.slice (A 0) (N 0) (C 0),.slice (A 1) (N 1) (C 1),.slice (A 2) (N 2) (C 2),.slice (A 3) (N 3) (C 3)] 98 (0,0)):=by
  rw[x.block _ (by simp)];exact heap_alloc_new _ _
 have n:w.heap.size+1<=w1.heap.size:=by have:=x.size;simpa using this
 have l:Hid (0=0):=rfl;have J:Hid (w1.heap[w.heap.size]? =some (.cells #[.string nm,.slice (A 0) (N 0) (C 0),.slice (A 1) (N 1) (C 1),.slice (A 2) (N 2) (C 2),.slice (A 3) (N 3) (C 3)] 98 (0,0))/\Below w.heap.size w w1/\w.heap.size+1<=w1.heap.size/\t0.size<=22*N 0+1):=⟨E,k.trans (x.mono (by simp)),n,L⟩;obtain⟨p0,T⟩:=blk E;have V:w.heap.size<w1.heap.size:=n;clear E n x k L;go_wp2;clear p0 T
 go_loopw [3,14] (λv i wr=>∃(j:Int) (m:Nat) (xs:List Value) (S:Nat),i=.int .i64 j/\((j=0/\m=1)\/(j=1/\m=2)\/(j=2/\m=3)\/(j=3/\m=4))/\wr.ownsRow (w.heap.size+1) 9 1 v m xs/\Total xs S/\
  ((j=0->S<=22*N 0+1)/\(j=1->S<=22*(N 0+N 1)+2)/\(j=2->S<=22*(N 0+N 1+N 2)+3)/\(j=3->S<=22*(N 0+N 1+N 2+N 3)+4))/\
  wr.heap[w.heap.size]? =some (.cells #[.string nm,.slice (A 0) (N 0) (C 0),.slice (A 1) (N 1) (C 1),.slice (A 2) (N 2) (C 2),.slice (A 3) (N 3) (C 3)] 98 (0,0))/\Below w.heap.size w wr) (λ_ i _=>(3-intOf i).toNat)
 case atStart=>
  refine⟨0,1,[.string t0],t0.size,rfl,by omega,?_,Total.one t0,by have:=J.out.2.2.2;omega,(Below.heap_alloc _ _ _ (by have:=J.out.2.2.1;omega)).trans J.out.1,J.out.2.1.alloc (by have:=J.out.2.2.1;omega) _⟩;exact⟨rfl,.inr ⟨w1.heap.size,1,#[.string t0],rfl,by have:=J.out.2.2.1;omega,heap_alloc_new w1 _,ZL _,by unfold maxLen;omega,rfl,rfl⟩⟩
 case round=>
  obtain⟨j,m,xs,S,rfl,U,a,X,Y,D,M⟩:=hrel;have c:Hid (wr.ownsRow (w.heap.size+1) 9 1 u3 m xs/\Total xs S/\wr.heap[w.heap.size]? =some (.cells #[.string nm,.slice (A 0) (N 0) (C 0),.slice (A 1) (N 1) (C 1),.slice (A 2) (N 2) (C 2),.slice (A 3) (N 3) (C 3)] 98 (0,0))/\Below w.heap.size w wr):=⟨a,X,D,M⟩;have z:Hid ((j=0->S<=22*N 0+1)/\(j=1->S<=22*(N 0+N 1)+2)/\(j=2->S<=22*(N 0+N 1+N 2)+3)/\(j=3->S<=22*(N 0+N 1+N 2+N 3)+4)):=Y;have K:w.heap.size+1<=wr.heap.size:=(ZK.1 D).1;clear a X D M Y l;have l:Hid (w.heap.size+1<=wr.heap.size):=K;clear K;rcases U with⟨rfl,rfl⟩|⟨rfl,rfl⟩|⟨rfl,rfl⟩|⟨rfl,rfl⟩
  .have f:Hid (S<=22*N 0+1):=z.out.1 rfl
   clear z;have hw:=c.out.2.2.1;obtain⟨Q,B⟩:=blk hw;clear hw
   go_wp2_with(first
        |(go_at_call 174;refine(rq _ (N 1) (R 1) wr (g.out.2.2.1 1 (by omega)) ((g.out.1 1 (by omega)).ext c.out.2.2.2) (g.out.2.1 1 (by omega)) (g.out.2.2.2.ext c.out.2.2.2)).mono ?_;rintro e w3 ⟨⟨t,rfl,o⟩,d⟩;have H1:Hid (Below wr.heap.size wr w3/\t.size<=22*N 1+1/\wr.heap.size<=w3.heap.size):=⟨d,o,d.size⟩;clear d o)
        |(at_builtin;refine wpList_append_own _ rfl _ _ _ rfl (w.heap.size+1) 9 i0 _ 1 16 hu P s r p rfl (by omega) _ 1 xs rfl ((au c.out.1 H1.out.1).alloc _) ⟨w3.heap.size,0,none⟩ 1 1 [.string t] rfl rfl (cell_one_new _ _ _) (by intro u hu;simp at hu;subst hu;rfl) (by unfold maxLen;omega) (by omega) (by have:=H1.out.2.2;have:=c.out.2.2.2.size;have:=l.out;simp;omega) ?_;intro v' w4 a b _;have h:Hid (_/\_):=⟨a,b⟩;obtain⟨H,G,rfl⟩:=aj a;clear a b))
   exact⟨⟨1,2,_,_,rfl,by omega,h.out.1,c.out.2.1.app t,by have:=H1.out.2.1;have:=f.out;omega,(tL (au c.out.1 H1.out.1) h.out.2 ((H1.out.1.block _ (by have:=c.out.2.2.2.size;have:=l.out;omega)).trans c.out.2.2.1) (by omega)),(c.out.2.2.2.trans ((H1.out.1.mono (by have:=c.out.2.2.2.size;omega)).trans (lM (au c.out.1 H1.out.1) h.out.2 (by omega) (by have:=c.out.2.2.2.size;have:=H1.out.2.2;omega))))⟩,by simp[intOf]⟩
  .have f:Hid (S<=22*(N 0+N 1)+2):=z.out.2.1 rfl
   clear z;have hw:=c.out.2.2.1;obtain⟨Q,B⟩:=blk hw;clear hw
   go_wp2_with(first
        |(go_at_call 174;refine(rq _ (N 2) (R 2) wr (g.out.2.2.1 2 (by omega)) ((g.out.1 2 (by omega)).ext c.out.2.2.2) (g.out.2.1 2 (by omega)) (g.out.2.2.2.ext c.out.2.2.2)).mono ?_;rintro e w3 ⟨⟨t,rfl,o⟩,d⟩;have H1:Hid (Below wr.heap.size wr w3/\t.size<=22*N 2+1/\wr.heap.size<=w3.heap.size):=⟨d,o,d.size⟩;clear d o)
        |(at_builtin;refine wpList_append_own _ rfl _ _ _ rfl (w.heap.size+1) 9 i0 _ 1 16 hu P s r p rfl (by omega) _ 2 xs rfl ((au c.out.1 H1.out.1).alloc _) ⟨w3.heap.size,0,none⟩ 1 1 [.string t] rfl rfl (cell_one_new _ _ _) (by intro u hu;simp at hu;subst hu;rfl) (by unfold maxLen;omega) (by omega) (by have:=H1.out.2.2;have:=c.out.2.2.2.size;have:=l.out;simp;omega) ?_;intro v' w4 a b _;have h:Hid (_/\_):=⟨a,b⟩;obtain⟨H,G,rfl⟩:=aj a;clear a b))
   exact⟨⟨2,3,_,_,rfl,by omega,h.out.1,c.out.2.1.app t,by have:=H1.out.2.1;have:=f.out;omega,(tL (au c.out.1 H1.out.1) h.out.2 ((H1.out.1.block _ (by have:=c.out.2.2.2.size;have:=l.out;omega)).trans c.out.2.2.1) (by omega)),(c.out.2.2.2.trans ((H1.out.1.mono (by have:=c.out.2.2.2.size;omega)).trans (lM (au c.out.1 H1.out.1) h.out.2 (by omega) (by have:=c.out.2.2.2.size;have:=H1.out.2.2;omega))))⟩,by simp[intOf]⟩
  .have f:Hid (S<=22*(N 0+N 1+N 2)+3):=z.out.2.2.1 rfl
   clear z;have hw:=c.out.2.2.1;obtain⟨Q,B⟩:=blk hw;clear hw
   go_wp2_with(first
        |(go_at_call 174;refine(rq _ (N 3) (R 3) wr (g.out.2.2.1 3 (by omega)) ((g.out.1 3 (by omega)).ext c.out.2.2.2) (g.out.2.1 3 (by omega)) (g.out.2.2.2.ext c.out.2.2.2)).mono ?_;rintro e w3 ⟨⟨t,rfl,o⟩,d⟩;have H1:Hid (Below wr.heap.size wr w3/\t.size<=22*N 3+1/\wr.heap.size<=w3.heap.size):=⟨d,o,d.size⟩;clear d o)
        |(at_builtin;refine wpList_append_own _ rfl _ _ _ rfl (w.heap.size+1) 9 i0 _ 1 16 hu P s r p rfl (by omega) _ 3 xs rfl ((au c.out.1 H1.out.1).alloc _) ⟨w3.heap.size,0,none⟩ 1 1 [.string t] rfl rfl (cell_one_new _ _ _) (by intro u hu;simp at hu;subst hu;rfl) (by unfold maxLen;omega) (by omega) (by have:=H1.out.2.2;have:=c.out.2.2.2.size;have:=l.out;simp;omega) ?_;intro v' w4 a b _;have h:Hid (_/\_):=⟨a,b⟩;obtain⟨H,G,rfl⟩:=aj a;clear a b))
   exact⟨⟨3,4,_,_,rfl,by omega,h.out.1,c.out.2.1.app t,by have:=H1.out.2.1;have:=f.out;omega,(tL (au c.out.1 H1.out.1) h.out.2 ((H1.out.1.block _ (by have:=c.out.2.2.2.size;have:=l.out;omega)).trans c.out.2.2.1) (by omega)),(c.out.2.2.2.trans ((H1.out.1.mono (by have:=c.out.2.2.2.size;omega)).trans (lM (au c.out.1 H1.out.1) h.out.2 (by omega) (by have:=c.out.2.2.2.size;have:=H1.out.2.2;omega))))⟩,by simp[intOf]⟩
  .have f:Hid (S<=22*(N 0+N 1+N 2+N 3)+4):=z.out.2.2.2 rfl
   clear z;have hw:=c.out.2.2.1;obtain⟨Q,B⟩:=blk hw;clear hw
   go_wp2_with(first
        |(go_at_call 175;refine(xE nm wr hn (g.out.2.2.2.ext c.out.2.2.2)).mono ?_;rintro e w3 ⟨⟨t,rfl,o⟩,d⟩;have H1:Hid (Below wr.heap.size wr w3/\t.size<=10*nm.size+2/\wr.heap.size<=w3.heap.size):=⟨d,o,d.size⟩;clear d o)
        |(at_builtin;refine wpList_append_own _ rfl _ _ _ rfl (w.heap.size+1) 9 i0 _ 1 16 hu P s r p rfl (by omega) _ 4 xs rfl ((au c.out.1 H1.out.1).alloc _) ⟨w3.heap.size,0,none⟩ 1 1 [.string t] rfl rfl (cell_one_new _ _ _) (by intro u hu;simp at hu;subst hu;rfl) (by unfold maxLen;omega) (by omega) (by have:=H1.out.2.2;have:=c.out.2.2.2.size;have:=l.out;simp;omega) ?_;intro v' w4 a b _;have h:Hid (_/\_):=⟨a,b⟩;obtain⟨H,G,rfl⟩:=aj a;clear a b)
        |(go_at_call 176;refine(Nh 32 _ 5 (S+t.size) (w.heap.size+1) _ w4 h.out.1 (c.out.2.1.app t) (by have:=H1.out.2.1;have:=f.out;omega)).mono ?_;rintro e w5 ⟨⟨t5,rfl,F⟩,O⟩;have H5:Hid (Below w4.heap.size w4 w5/\t5.size<=S+t.size+5):=⟨O,F⟩;have δ:t5.size+1<=9223372036854775807:=ZP (Nat.succ_le_succ F) (by have:=H1.out.2.1;have:=f.out;omega);clear O F))
   go_ret;refine⟨⟨_,rfl,?_⟩,?_⟩
   .simp only[ByteArray.size_append]
    have e1:(⟨#[10]⟩:ByteArray).size=1:=rfl;have a1:=H1.out.2.1;have a2:=f.out;have a3:=H5.out.2;omega
   .exact c.out.2.2.2.trans ((H1.out.1.mono (by have:=l.out;omega)).trans ((lM (au c.out.1 H1.out.1) h.out.2 (by omega) (by have:=H1.out.2.2;have:=l.out;omega)).trans (H5.out.1.mono (by have:=(LU (au c.out.1 H1.out.1) h.out.2).size;have:=H1.out.2.2;have:=l.out;omega))))
def Mj (w)(a:gY w):
 Calls prog 262 #[.int .u64 16] w λe w'=>e=.returned (.int .i64 4)/\w'=w:=by
 have k:(IntKind.u64.wrap (bits BinOp.and IntKind.u64 16 (IntKind.u64.wrap (-16))*285870213051353865)/288230376151711744)=15:=by decide
 have hc:=a.Ls 15 (by decide);have b:Lib.deBruijn64tab.getD 15 0=4:=by decide
 rw[b]at hc
 go_enter func262,ntmps262
 go_wp2;go_ret;exact⟨rfl,rfl⟩
def uX (W:World)(a:Nat):Prop:=a<W.heap.size/\∀j,j<65->(∃z,W.cell? ⟨a,j,none⟩=some (.int .u8 z))/\W.frozen? ⟨a,j,none⟩=false
def uX.set {W}{a}(h:uX W a)(i)(c:i<65)(z):uX (W.setCell ⟨a,i,none⟩ (.int .u8 z)) a:=by
 refine⟨by have:=h.1;simpa using this,λj b=>⟨?_,by rw[World.frozen?_setCell];exact(h.2 j b).2⟩⟩
 by_cases e:j=i
 .subst e
  obtain⟨y,hy⟩:=(h.2 j b).1;exact⟨z,World.cell?_setCell_same' _ _ _ (by rw[hy];rfl)⟩
 .obtain⟨y,hy⟩:=(h.2 j b).1
  exact⟨y,(World.cell?_setCell_other _ _ _ _ (by intro he;cases he;exact e rfl)).trans hy⟩
def UG (x)(a:0<=x)(d:x<18446744073709551616):0<=bits BinOp.and IntKind.u64 x 15/\bits BinOp.and IntKind.u64 x 15<16:=by
 obtain⟨n,rfl⟩:=Int.eq_ofNat_of_zero_le a;have e:=bits_and_u64_nat n 15 (by omega) (by decide);have c:n&&&15=n%16:=Nat.and_two_pow_sub_one_eq_mod n 4;have b:bits BinOp.and IntKind.u64 (n:Int) 15=((n&&&15:Nat):Int):=e;rw[b,c];omega
def KM:Nat->Int
 |0=>16
 |k+1=>16*KM k
def OQ (W)(b k:Nat)(e:k<=15):(Instr.sliceAt 311 (.pointer (some ⟨b,0,none⟩)) (some (.int .i64 (49+(k:Int)))) none none).run prog W=.ok (.slice (some ⟨b,49+k,none⟩) (16-k) (16-k)) W:=by
 have a:Program.arrayLen prog 311=65:=by kernel_rfl
 have c:Program.elem prog 311=5:=by kernel_rfl
 have hu:prog.underlying 311=some (.array (Program.arrayLen prog 311) (Program.elem prog 311)):=by rw[a,c];exact underlying311
 rw[run_sliceAt_array_l W _ _ hu .i64 (49+(k:Int)) (by omega) (by rw[a];omega),a,c,Tryz.sizeOf5];simp only[Result.andThen,slicedAt];have d:((49+(k:Int))).toNat=49+k:=by omega
 rw[d,if_neg (by omega)];simp[Addr.add];omega
def Sb {W}{b}(h:uX W b)(k)(f:k<=15):∃str:ByteArray,str.size=16-k/\(convert 165 9 (.slice (some ⟨b,49+k,none⟩) (16-k) (16-k))).run prog W=.ok (.string str) W:=by
 have a:∀m,m<=16-k->∃zs:List Int,zs.length=m/\∀i,i<m->W.cell? ⟨b,49+k+i,none⟩=some (.int .u8 (zs.getD i 0)):=by
  intro m
  induction m with
  |zero=>exact λ_=>⟨[],rfl,λi c=>absurd c (ZV _)⟩
  |succ m d=>
   intro hm;obtain⟨zs,hl,hc⟩:=d (by omega);obtain⟨z,a⟩:=(h.2 (49+k+m) (by omega)).1;refine⟨zs++[z],by simp[hl],λi c=>?_⟩
   by_cases e:i<m
   .rw[hc i e];simp[List.getD,List.getElem?_append_left (show i<zs.length by omega)]
   .obtain rfl:i=m:=by omega
    rw[a];simp[List.getD,<-hl]
 obtain⟨zs,hl,hc⟩:=a (16-k) (ZL _);exact⟨strOfNums zs,by rw[strOfNums_size];exact hl,run_convert_bytes_arg (P:=prog) (w:=W) 165 5 underlying165 underlying5 b (49+k) (16-k) (16-k) zs hl hc _ underlying9⟩
def Oz (e:Ending):Prop:=∃t:ByteArray,e=.returned (.tuple #[.slice none 0 0,.string t])/\t.size<=65
def yA (x)(w)(u:0<=x)(t:x<18446744073709551616)(c:gY w):
 Calls prog 233 #[.slice none 0 0,.int .u64 x,.int .i64 16,.bool false,.bool false] w λe w'=>Oz e/\Below w.heap.size w w':=by
 have n:Hid (0<=x/\x<18446744073709551616/\gY w):=⟨u,t,c⟩;clear u t c
 go_enter func233,ntmps233
 go_wp2_with(first
  |(go_at_call 262;refine(Mj _ (n.out.2.2.ext ((Below.refl _ _).alloc (ZL _) _))).mono ?_;rintro e w1 ⟨rfl,hw⟩;obtain rfl:=hw.symm)
  |(go_at_call 261;go_in))
 obtain⟨f,a⟩:∃f,f=w.alloc (.cells Tryz.zeroCells311 311):=⟨_,rfl⟩;rw[<-a]
 have l:uX f w.heap.size:=by
  have hb:f.heap[w.heap.size]? =some (.cells Tryz.zeroCells311 311 (0,0)):=by rw[a];exact heap_alloc_new _ _
  obtain⟨q,B⟩:=blk hb;refine⟨by rw[a];simp,λj F=>⟨⟨0,?_⟩,B j⟩⟩;rw[q j];have C:Tryz.zeroCells311=Array.replicate 65 (Value.int .u8 0):=by kernel_rfl
  rw[C];simp[F]
 have g:Below w.heap.size w f:=by rw[a];exact(Below.refl _ _).alloc (ZL _) _
 clear a;have A:Hid (uX f w.heap.size/\Below w.heap.size w f):=⟨l,g⟩;clear l g
 go_loopw [1,13] (λv i wr=>∃(y:Int) (k:Nat),v=.int .u64 y/\(0<=y/\y<KM k/\y<18446744073709551616)/\i=.int .i64 (50+(k:Int))/\k<=15/\uX wr w.heap.size/\Below w.heap.size w wr) (λv _ _=>(intOf v).toNat)
 case atStart=>exact⟨x,15,rfl,⟨n.out.1,by have:KM 15=18446744073709551616:=by decide
                                          rw[this];exact n.out.2.1,n.out.2.1⟩,rfl,by omega,A.out.1,A.out.2⟩
 case round=>
  obtain⟨y,k,rfl,hy,rfl,s,m,hb⟩:=hrel;have p:=UG y hy.1 hy.2.2;obtain⟨d,hd⟩:∃d,bits BinOp.and IntKind.u64 y 15=d:=⟨_,rfl⟩;rw[hd]at p;have d0:(d<36):=by omega
  have b:Hid (uX wr w.heap.size/\Below w.heap.size w wr/\0<=y/\y<KM k/\y<18446744073709551616):=⟨m,hb,hy⟩;have f1:=(m.2 (49+k) (by omega)).2;obtain⟨z1,g1⟩:=(m.2 (49+k) (by omega)).1;have H:(50+(k:Int)-1)=((49+k:Nat):Int):=by omega
  clear m hb hy
  by_cases G:16<=y
  .go_wp2
   cases k with
   |zero=>
    exfalso;have h:=b.out.2.2.2.1;simp only[KM]at h;omega
   |succ k=>
    have hp:=b.out.2.2.2.1;have J:=b.out.2.2.1;have I:=b.out.2.2.2.2;simp only[KM]at hp;exact⟨⟨y/16,k,rfl,⟨by omega,by omega,by omega⟩,by congr 1;omega,by omega,b.out.1.set _ (by omega) _,b.out.2.1.setCell (ZL _) _⟩,by simp[intOf];omega⟩
  .have D:=b.out.2.2.1
   have r:y<36:=(by omega);have E:=λW=>OQ W w.heap.size k s
   have hcs:∀z:Int,∃str:ByteArray,str.size=16-k/\(convert 165 9 (.slice (some ⟨w.heap.size,49+k,none⟩) (16-k) (16-k))).run prog (wr.setCell ⟨w.heap.size,49+k,none⟩ (.int .u8 z))=.ok (.string str) (wr.setCell ⟨w.heap.size,49+k,none⟩ (.int .u8 z)):=
        λz=>Sb (b.out.1.set (49+k) (by omega) z) k s
   go_wp2;obtain⟨str,hs,o⟩:=hcs _;rw[o];go_wp2;go_ret2;exact⟨⟨str,rfl,by omega⟩,b.out.2.1.setCell (ZL _) _⟩
def yz (x)(w)(d:0<=x)(c:x<18446744073709551616)(a:gY w):
 Calls prog 178 #[.int .u64 x,.int .i64 16] w λe w'=>iF 65 e/\Below w.heap.size w w':=by
 go_enter func178,ntmps178
 go_wp2_with(first
  |(go_at_call 233;refine(yA x w d c a).mono ?_;rintro e w1 ⟨⟨t,rfl,b⟩,hb⟩)
  |go_in)
 go_ret;exact⟨⟨t,rfl,b⟩,hb⟩
def NC (n:Nat)(s)(w)(i:n<=9223372036854775807)(hs:s.size<=140737488355328)(a:gY w):
 Calls prog 143 #[.int .i64 n,.string s] w λe w'=>iF 100 e/\Below w.heap.size w w':=by
 have d:Hid (gY w):=a;clear a
 go_enter func143,ntmps143
 go_wp2_with(first
  |(go_at_call 177;refine(E5 (n:Int) w ⟨by omega,by omega⟩ d.out).mono ?_;rintro e w1 ⟨b,t1,rfl,g⟩;have h:t1.size<=1000:=by omega)
  |(go_at_call 179;refine(Dy s _ hs).mono ?_;rintro e w2 ⟨⟨x,rfl,x0,x1⟩,hw⟩;obtain rfl:=hw.symm)
  |(go_at_call 178;refine(yz x _ x0 x1 (d.out.ext b)).mono ?_;rintro e w3 ⟨⟨t3,rfl,f⟩,c⟩))
 go_ret;refine⟨⟨_,rfl,?_⟩,b.trans (c.mono b.size)⟩;simp only[ByteArray.size_append];have l:(⟨#[98,111,120,101,115,32]⟩:ByteArray).size=6:=rfl;have k:(⟨#[32]⟩:ByteArray).size=1:=rfl;have j:(⟨#[10]⟩:ByteArray).size=1:=rfl;omega
def Kg (w:World)(b o D:Nat):Prop:=∃(nm:ByteArray) (A:Nat->Option Addr) (N C:Nat->Nat) (R:Nat->Nat->Int),
 w.cell? ⟨b,o,none⟩=some (.string nm)/\w.cell? ⟨b,o+1,none⟩=some (.slice (A 0) (N 0) (C 0))/\w.cell? ⟨b,o+2,none⟩=some (.slice (A 1) (N 1) (C 1))/\w.cell? ⟨b,o+3,none⟩=some (.slice (A 2) (N 2) (C 2))/\w.cell? ⟨b,o+4,none⟩=some (.slice (A 3) (N 3) (C 3))/\
 zA w A N C R/\(∀q,q<4->∀i,i<N q->SB (R q i))/\22*(N 0+N 1+N 2+N 3)+10*nm.size<=D
def BO (w:World)(v:Value)(n D:Nat):Prop:=∃ao cap,v=.slice ao n cap/\n<=cap/\n<=9223372036854775807/\(0<n->∃b o,ao=some ⟨b,o,none⟩/\b<w.heap.size/\∀i,i<n->Kg w b (o+i*5) D)
def Kg.ext {w w'}{b o D}(h:Kg w b o D)(hl:b<w.heap.size)(hb:Below w.heap.size w w'):Kg w' b o D:=by
 obtain⟨nm,A,N,C,R,l,k,i,g,f,d,a,e⟩:=h;have c:∀j,w'.cell? ⟨b,j,none⟩=w.cell? ⟨b,j,none⟩:=λj=>hb.cell (p:=⟨b,j,none⟩) hl
 exact⟨nm,A,N,C,R,(c _).trans l,(c _).trans k,(c _).trans i,(c _).trans g,(c _).trans f,d.ext hb,a,e⟩
def BO.ext {w w'}{v}{n D}(h:BO w v n D)(hb:Below w.heap.size w w'):BO w' v n D:=by
 obtain⟨ao,cap,rfl,f,e,d⟩:=h;refine⟨ao,cap,rfl,f,e,λg=>?_⟩;obtain⟨b,o,rfl,hl,c⟩:=d g;exact⟨b,o,rfl,ZO hl hb.size,λi a=>(c i a).ext hl hb⟩
def BA {B b}{bs}{w w1}(h:Lib.IsBuilderF 200 5 B b bs w)(hb:Below w.heap.size w w1):Lib.IsBuilderF 200 5 B b bs w1:=by
 have e:w.grownBy w1 none:=⟨hb.os,hb.tape,hb.output,hb.size,λk d _=>hb.block k d⟩
 have one:∀p,Lib.BuilderAtF 200 5 B b p bs w->Lib.BuilderAtF 200 5 B b p bs w1:=by
  rintro p ⟨f,v,hw,a,c⟩;refine⟨f,v,(hb.block _ (ZK.1 hw).1).trans hw,a.kept e ?_,c⟩;cases i:v.ownBlock with
  |none=>exact .inl rfl
  |some g=>exact .inr (by simp)
 exact h.elim (λx=>.inl (one _ x)) (λx=>.inr (one _ x))
def WA:Lays.n166 prog Tryz.lays156_ren:={Tryz.lays156 with}
def Mm (v)(n D)(w)(h:BO w v n D)(hn:n*(D+12)<=140737488355000)(X:n<=1099511627776)(hD:D<=1099511627776)(p:gY w):
 Calls prog 88 #[v] w λe w'=>iF (n*(D+12)+100) e/\Below w.heap.size w w':=by
 have hF:=h;obtain⟨ao,cap,rfl,_,hm,_⟩:=h;have K:Hid (BO w (.slice ao n cap) n D/\gY w):=⟨hF,p⟩;clear hF p
 go_enter func88,ntmps88
 go_wp2_with fail;obtain⟨x,m⟩:∃x,x=w.alloc (.cells #[.pointer none,.slice none 0 0] 200):=⟨_,rfl⟩;rw[<-m];have a:Lib.IsBuilderF 200 5 w.heap.size w.heap.size (Lib.byteCells []) x:=.inl ⟨ZL _,.slice none 0 0,by rw[m];exact heap_alloc_new _ _,World.ownsRowF_nil _ _ _ _,by simp[Value.ownBlock]⟩;have G:Below w.heap.size w x:=by rw[m];exact(Below.refl _ _).alloc (ZL _) _
 have S:Hid (Lib.IsBuilderF 200 5 w.heap.size w.heap.size (Lib.byteCells []) x/\Below w.heap.size w x):=⟨a,G⟩;clear a G m
 go_loopw [8] (λi wr=>∃(k:Nat) (l:List UInt8),k<=n/\i=.int .i64 k/\Lib.IsBuilderF 200 5 w.heap.size w.heap.size (Lib.byteCells l) wr/\l.length<=k*(D+12)/\Below w.heap.size w wr) (λi _=>n-(intOf i).toNat)
 case atStart=>exact⟨0,[],by omega,rfl,S.out.1,by simp,S.out.2⟩
 case round=>
  obtain⟨k,l,hk,rfl,a,hl,hb⟩:=hrel;have j:Hid (Lib.IsBuilderF 200 5 w.heap.size w.heap.size (Lib.byteCells l) wr/\Below w.heap.size w wr/\l.length<=k*(D+12)/\w.heap.size<=wr.heap.size):=⟨a,hb,hl,hb.size⟩;have α:k*(D+12)<=n*(D+12):=Nat.mul_le_mul_right _ hk
  by_cases y:k<n
  .have kn:(k:Int)<n:=by omega
   have L:(k+1)*(D+12)<=n*(D+12):=Nat.mul_le_mul_right _ y;have Z:(k+1)*(D+12)=k*(D+12)+(D+12):=Nat.succ_mul _ _;obtain⟨γ,Q,he,_,_,hF⟩:=K.out.1.ext hb;cases he;obtain⟨b,o,I,M,F⟩:=hF (by omega);subst I;obtain⟨nm,A,N,C,R,e0,e1,e2,e3,e4,P,O,β⟩:=F k y;have J:Hid (zA wr A N C R/\(∀q,q<4->∀i,i<N q->SB (R q i))/\gY wr):=⟨P,O,K.out.2.ext hb⟩
   have E:∀q,q<4->N q<=1099511627776:=λq hq=>by
        have:q=0\/q=1\/q=2\/q=3:=(by omega);rcases this with rfl|rfl|rfl|rfl<;>omega
   have HN:Hid (∀q,q<4->N q<=1099511627776):=E;clear hF F hb P O E a hl;go_wp2_with fail;have d:Below wr.heap.size wr (wr.alloc (.cells #[.string nm,.slice (A 0) (N 0) (C 0),.slice (A 1) (N 1) (C 1),.slice (A 2) (N 2) (C 2),.slice (A 3) (N 3) (C 3)] 98)):=(Below.refl _ _).alloc (ZL _) _;refine(Nc nm A N C R _ (J.out.1.ext d) J.out.2.1 (by omega) HN.out (J.out.2.2.ext d)).mono ?_;rintro e w3 ⟨⟨t,rfl,V⟩,g⟩;have f:Below wr.heap.size wr w3:=d.trans (g.mono d.size);have H:Hid (Below wr.heap.size wr w3/\t.size<=D+12/\wr.heap.size<=w3.heap.size):=⟨f,by omega,f.size⟩;clear d g f V;go_wp2_with(go_at_call 141;refine(Any.Builder_WriteString_f WA Tryz.Builder_Extra_156 w.heap.size w.heap.size (Lib.byteCells l) t w3 (BA j.out.1 H.out.1) (by have:=H.out.2.1;have:=j.out.2.2.1;simp only[Lib.byteCells,adH];omega) (by have:=H.out.2.2;have:=j.out.2.2.2;omega)).mono ?_;rintro e w4 ⟨rfl,r,c⟩;have u:Hid (_/\Below w.heap.size w3 w4):=⟨r,c⟩;clear r c);go_roundw
   case rel=>exact⟨k+1,l++t.data.toList,by omega,by go_num,by rw[Lib.byteCells_append,<-Lib.strCells_eq];exact .inr u.out.1,by have:=H.out.2.1;have:=j.out.2.2.1;have e:=Lib.size_eq t;simp only[Z7];omega,j.out.2.1.trans ((H.out.1.mono j.out.2.2.2).trans u.out.2)⟩
   case measure=>simp[intOf];omega
  .obtain rfl:k=n:=by omega
   clear hb a hl;go_wp2_with fail;refine(Tryz.Builder_String_any_f w.heap.size w.heap.size l wr j.out.1 j.out.2.2.2).mono ?_;rintro e w3 ⟨rfl,s,g⟩;have H3:Hid (Lib.IsBuilderF 200 5 w.heap.size w.heap.size (Lib.byteCells l) w3/\Below w.heap.size w w3):=⟨s,j.out.2.1.trans g⟩;clear s g;go_wp2_with fail;have W:(⟨l.toArray⟩:ByteArray).size<=k*(D+12):=by have:=j.out.2.2.1;simpa[ByteArray.size] using this
   refine(NC k ⟨l.toArray⟩ w3 hm (by omega) (K.out.2.ext H3.out.2)).mono ?_;rintro e w4 ⟨⟨t4,rfl,U⟩,c⟩;have u:Hid (Below w3.heap.size w3 w4/\w.heap.size<=w3.heap.size/\w3.heap.size<=w4.heap.size):=⟨c,H3.out.2.size,c.size⟩;clear c;go_wp2_with fail;refine(Tryz.Builder_String_any_f w.heap.size w.heap.size l w4 (BA H3.out.1 u.out.1) (by have:=u.out.2.1;have:=u.out.2.2;omega)).mono ?_;rintro e T ⟨rfl,z,B⟩;have H5:Hid (Below w.heap.size w4 T):=B;clear z B;have Y:t4.size+(⟨l.toArray⟩:ByteArray).size<=9223372036854775807:=(by omega);go_wp2;go_ret;refine⟨⟨_,rfl,?_⟩,H3.out.2.trans ((u.out.1.mono u.out.2.1).trans H5.out)⟩;simp only[ByteArray.size_append];omega
end
section
open Go Go.Conc Go.ConcN Go.RowKit
open Go.ConcR (KK wgBlock WgAt stA smA rd wr mk Payload DC0)
def SG:List Nat:=[4,5,12,13]
abbrev T8 (c:Nat):Prop:=c∈SG
def WX:List Nat:=[0]
structure Az (w:World)(Z:Nat->Prop):Prop where
 env:gY w
 err:∀g,g∈WX->∃t a,w.cell? ⟨g,0,none⟩=some (.iface t (.pointer (some a)))/\sO t=true/\Z a.block
 tabs:∀g,T8 g->∃xs e f,w.heap[g]? =some (.cells xs e f)/\∀v∈xs.toList,∃k n,v=.int k n
 JV:∀g,g∈QD->Z g
def QZ {g}(h:T8 g):g∈QD:=by
 have key:(SG.all λg=>QD.contains g)=true:=by decide
 exact adv (ZU.1 key g h)
def LF {w:World}{g}{cs}{e}{f}(h:w.heap[g]? =some (.cells cs e f))(n)(a:prog.globalNamed n=some g):w.var? prog n=some cs:=by
 unfold World.var?;rw[a];simp[h]
def Az.copy {st}{w k}{Z}{lv}(h:Az w Z)(hl:DT st Z lv)(hs:k.heap.size=w.heap.size)
 (hF:∀b xs e g,¬T8 b->w.heap[b]? =some (.cells xs e g)->k.heap[b]? =some (.cells (xs.map lv) e (0,max xs.size g.2)))(hc:∀a v,w.cell? a=some v->(T8 a.block->k.cell? a=some v)/\(¬T8 a.block->k.cell? a=some (lv v))):gY k:=by
 have same:∀a v,w.cell? a=some v->jH Z v->k.cell? a=some v:=λa v d hp=>by
  obtain⟨p,n⟩:=hc a v d
  by_cases q:T8 a.block
  .exact p q
  .rw[n q,hl.same v hp]
 refine⟨by rw[hs];exact h.env.size,?_,⟨λc m=>?_,λi r=>?_⟩,λj s=>?_⟩
 .have d:=h.env.pow
  unfold Lib.TabIs World.var? at d;rw[Tryz.oL]at d;simp only[Option.bind_some]at d;cases l:w.heap[(3:Nat)]? with
  |none=>rw[l]at d;cases d
  |some o=>
   rw[l]at d;cases o with
   |cells cs e f=>
    simp only[ac2]at d;have p:=hF _ cs e f (by decide) l
    have n:cs.map lv=cs:=by
     rw[d];refine Array.ext (by simp) λi t i2=>?_
     simp only[List.map_toArray,List.map_map,List.getElem_toArray,List.getElem_map,Function.comp];exact hl.same _ trivial
    unfold Lib.TabIs;rw[LF p _ Tryz.oL,n,d]
   |_=>cases d
 .exact(hc _ _ (h.env.Mf.1 c m)).1 (show(4:Nat)∈SG by decide)
 .exact⟨(hc _ _ (h.env.Mf.2 i r).1).1 (show(5:Nat)∈SG by decide),(hc _ _ (h.env.Mf.2 i r).2).1 (show(5:Nat)∈SG by decide)⟩
 .exact(hc _ _ (h.env.Ls j s)).1 (show(13:Nat)∈SG by decide)
def C4 {w}{Z}{v}{n}{R}(h:vF w Z v n R):Ints w v n R:=by
 obtain⟨ao,cap,e,c,b,a,_⟩:=h;exact⟨ao,cap,e,c,b,a⟩
def y9 {w}{Z}{v}{n D}(h:je w Z v n D):BO w v n D/\n<=1000000/\D<=1000000:=by
 obtain⟨ao,cap,e,k,j,f,g,_⟩:=h;refine⟨⟨ao,cap,e,k,by omega,λd=>?_⟩,j,f⟩;obtain⟨b,o,x,y⟩:=g d;refine⟨b,o,x,?_,λi c=>?_⟩
 .obtain⟨nm,A,N,C,R,f1,_⟩:=y 0 d
  exact block_lt_of_cell f1
 .obtain⟨nm,A,N,C,R,f1,f2,f3,f4,f5⟩:=y i c
  exact⟨nm,A,N,C,R,f1,f2 0 (by omega),f2 1 (by omega),f2 2 (by omega),f2 3 (by omega),λq a=>C4 (f3 q a),λq a i c=>⟨(f4 q a i c).1,by have:=(f4 q a i c).2;omega⟩,f5⟩
def Ko {n D}(a:n<=1000000)(b:D<=1000000):n*(D+12)<=140737488355000:=by
 have:n*(D+12)<=1000000*(1000000+12):=Nat.mul_le_mul a (by omega);omega
def V9 (u0:World)(Z:Nat->Prop)(p:Rel False)(u:World):Prop:=
 (u.tape=u0.tape/\u.os=u0.os/\u.output=u0.output/\u0.heap.size<=u.heap.size)/\(∀b c,p b c->c<u0.heap.size->b=c/\Z c)/\∀c,c<u0.heap.size->¬T8 c->u.heap[c]? =u0.heap[c]?
def Nr {u0}{Z}:∀p q u u',V9 u0 Z p u->dE (λc=>Z c/\¬T8 c) p q u u'->V9 u0 Z q u':=by
 intro p q u u' ⟨⟨k,j,i,h⟩,d,f⟩ g;refine⟨⟨g.tape.trans k,g.os.trans j,g.output.trans i,ZP h g.size⟩,λb c e hc=>?_,λc hc a=>?_⟩
 .by_cases hp:p b c
  .exact d b c hp hc
  .have:=g.fresh b c e hp;omega
 .exact(g.keep c (by omega) λb hb=>⟨(d b c hb hc).2,a⟩).trans (f c hc a)
def vM:prog.funcs[88]? =some f88:=func88
def RX (a:World)(v:Value)(w':World):Prop:=(∃s,v=.string s)/\∀c,c<a.heap.size->w'.heap[c]? =a.heap[c]?
def Cf {Z S}{gs}{u}{sl}{t}{q}{b}{bs}{y}{n D}
 (ρ:∀c,Z c->CB u c)(σ:∀c,Z c->¬S c)(d:Az u Z)(hT:je u Z y n D)(hF:ni prog S gs u.heap.size t q)(h0:gs[0]? =some (df (Frame.enter prog 88 #[y] .normal) (b::bs))):
 ∃(N:Nat) (E:Array Goroutine) (u':World) (W:Option (Nat×Nat)) (t':Trace) (q':Nat->Nat) (s:ByteArray),runNT prog N (crowd gs u sl) t=(.next (crowd E u' W),t')/\E[0]? =some (df (b.finish (.string s)) bs)/\ni prog S E u'.heap.size t' q'/\
  u'.tape=u.tape/\u'.os=u.os/\u'.output=u.output/\u.heap.size<=u'.heap.size/\∀c,c<u.heap.size->u'.heap[c]? =u.heap[c]?:=by
 have η:prog.globals.size=14:=by kernel_rfl
 obtain⟨H,lv,hl,τ,r,hs,rT,rF,hc⟩:=wU False prog.globals.size T8 Z u (by rw[η];exact d.env.size) ρ (c0:=4) (d.JV _ (by decide)) d.tabs
 have same:=λa v p hp=>by
  obtain⟨R,Q⟩:=hc a v p
  by_cases ht:T8 a.block
  .exact R ht
  .rw[Q ht,hl.same v hp]
 have j:=d.copy hl hs rF hc;have β:=hT.same (λ_ h=>h) same;obtain⟨κ,hn,hD⟩:=y9 β
 have I:aF (VR (NA Z)) #[y] #[y]:=aF.same λv p=>by
  simp at p;rw[p];exact sH (λb hb=>⟨rfl,hb⟩) hT.pure
 have L:∀g,g∈QD->NA Z g g:=λg hg=>⟨rfl,d.JV g hg⟩
 have tree:Tree prog (RX H) (Frame.enter prog 88 #[y] .normal) [] H:=by
  refine pz (C:=LD) (K:=λ_=>False) (st:=False) trivial MK Qs (.inr ⟨λ_ h=>h,λh=>h⟩) rfl (λ_=>rfl)
   ⟨NA Z,Frame.enter prog 88 #[y] .normal,[],H,⟨FR.enter MK (by exact adv (show lX.contains 88=true by kernel_rfl)) (by simp[LD]) I L,.inl rfl,trivial,⟨λh=>absurd rfl h,λ_=>⟨rfl,rfl,λh=>by cases h⟩⟩⟩,r⟩ λT=>?_
  refine(Mm y n D (ay H T) κ (Ko hn hD) (by omega) (by omega) ⟨j.size,j.pow,j.Mf,j.Ls⟩).mono ?_;rintro e w' ⟨⟨s,rfl,_⟩,hb⟩;exact⟨⟨s,rfl⟩,λc hc=>hb.block c hc⟩
 obtain⟨c,hb,ε,γ,k,m⟩:=Kq;have M:Frame.enter prog 88 #[y] .normal=(base 88).at ⟨#[y]++Array.replicate (Func.ntmps f88-(#[y]:Array Value).size) undef,[]⟩ [.code c]:=enter_at _ vM hb
 have A:Live uP prog (NA Z) (Frame.enter prog 88 #[y] .normal) [] (Frame.enter prog 88 #[y] .normal) []:=by
  rw[M];refine⟨⟨⟨_,vM⟩,J'.of ?_,aU.of ε (λ_ hy=>by cases hy),rfl,rfl,rfl,?_,λ_=>?_,λ_=>trivial,(λe=>by cases e),L⟩,.inl rfl,trivial,⟨λh=>absurd rfl h,λ_=>⟨rfl,rfl,λ_=>rfl⟩⟩⟩
  .refine aF.append I (aF.same λv p=>?_)
   rw[(Array.mem_replicate.1 p).2];exact VR.undef
  .simp only[Frame.at,adr,List.map_nil,qE,γ]
  .show(#[y]++Array.replicate _ undef).getD 1000000 undef=undef
   rw[ZY,Array.getElem?_eq_none (by rw[Array.size_append,Array.size_replicate];simp)];simp
 have υ:V9 u Z (NA Z) u:=⟨⟨rfl,rfl,rfl,ZL _⟩,λb c h _=>⟨h.1,h.1▸h.2⟩,λ_ _ _=>rfl⟩;obtain⟨N,ψ,u1,V,t1,q1,p1,a1,b1,w1,r1,r2,l,Y,φ,Γ,⟨⟨X,i2,i3,i4⟩,i6,i7⟩,B,Lc⟩:=I6 (C:=uP) (Iv:=V9 u Z) (λ_ _ _ h=>h) Nr trivial Pb Qs (.inr λh=>h) (λ_=>rfl) rfl (cs:=b::bs) tree (NA Z) _ [] gs u sl t q S A τ h0 hF (λb c h=>h.1▸σ _ h.2) υ;obtain⟨m1,_,_,fn,T,v,f1,f2,⟨s,rfl⟩,f3⟩:=B;obtain⟨ο,ν,μ⟩:=l.deep.2 rfl;have O:a1.fn=88:=μ rfl;rw[O,vM]at f1;cases f1;have ζ:=l.fr.mode.trans m1;have ξ:=l.fr.fn.trans O
 have hval:∀(x:Array Value) (w:World),(results f88 x).runT prog w #[]=(.ok (x.getD k undef) w,#[]):=λx w=>by
  rw[Sem.runT_eq,results_tmp m,events_results_tmp m]
 have p:Value.string s=a1.tmps.getD k undef:=by
  rw[<-Sem.runT_fst _ _ _ #[],hval]at f2;simp only[Result.ok.injEq,and_true]at f2;exact f2.symm
 have α:b1.tmps.getD k undef=.string s:=by
  have:=(l.fr.tmps.get k).resolve_left λh=>by cases h.2
  rw[<-p]at this;exact this.bO
 have kb:=ν;have rb:b1.roundOf=none:=by rw[l.fr.same];exact l.fr.ra
 have ι:=ο
 have J:aC prog true (λ_=>False) (λg _ _=>g=df (b.finish (.string s)) bs) (df b1 (b::bs)) u1 (λ_=>False):=by
  refine aC.ctl (g':=df (b.finish (.string s)) bs) rfl (λaz=>?_) (aC.stop λ_ _=>rfl);have θ:prog.funcs[b1.fn]? =some f88:=by rw[ξ];exact vM
  have δ:(results f88 b1.tmps).run prog az=.ok (.string s) az:=by
   have:=hval b1.tmps az;rw[Sem.runT_eq,Prod.mk.injEq]at this;rw[this.1,α]
  have e:df b1 (b::bs)=G {b1.at ⟨b1.tmps,[]⟩ b1.todo with mode:=.returning} (b::bs):=by
   obtain⟨fn,tmps,todo,defers,mode,kind,ro⟩:=b1;subst ζ ι rb;rfl
  rw[e];exact stepG_leave (b:=b1) (a:=⟨b1.tmps,[]⟩) kb rfl θ δ (events_results_tmp m _ _)
 obtain⟨N2,χ,g2,u2,U,t2,q2,M2,x1,x2,rfl,x4,F⟩:=I7 J ψ V t1 q1 φ r2 (λc h=>h.elim (λh=>h.elim) λh=>h.elim)
 have z:∀c,c<u.heap.size->u1.heap[c]? =u.heap[c]?:=λc o=>by
  by_cases P:T8 c
  .obtain⟨xs,e,g,g1,g2⟩:=d.tabs c P
   have R:=rT c xs e g P g1;have Q:w1.heap[c]? =H.heap[c]?:=f3 c (by rw[hs];exact o);obtain⟨ω,ys,e',f,g',k1,k2,k3,_,k5⟩|⟨_,_,_,k1,_⟩|⟨_,_,_,k1,_⟩:=Y.rows c c (Lc _ _ ⟨rfl,d.JV _ (QZ P)⟩)
   .rw[Q,R]at k1
    simp at k1;obtain⟨rfl,rfl,rfl⟩:=k1;obtain rfl:=k5 λhk=>hk.2 P
    have:ys=xs:=by
     refine Array.ext k3.1.symm λi X i2=>?_
     have:=k3.2 i xs[i] ys[i] (ZM i2) (ZM X);obtain⟨kd,n,hx⟩:=g2 xs[i] (by simp);rw[hx]at this⊢;exact this.bT
    rw[k2,g1,this]
   .rw[Q,R]at k1;cases k1
   .rw[Q,R]at k1;cases k1
  .exact i7 c o P
 refine⟨N+N2,χ,u2,U,t2,q2,s,?_,x2,x4,F.tape.trans X,F.os.trans i2,F.output.trans i3,ZP i4 F.size,λc o=>(F.keep c (ZO o i4) (λh=>h)).trans (z c o)⟩;rw[runNT_add,r1];exact x1
end
section
open Go Go.Conc Go.ConcN Go.RowKit Go.Conc.Lib
attribute [local go_sem ↓] Go.wp_at_zero Go.wp_at_succ
attribute [local go_sem] After.cell After.frozen After.const
def vY {P}{id}{ops}{Q}{a}{w}(c:∀j q,w.tape j q=0)
 (h:wpOps P ops Q (Region.schedule (P.follows .mixedOrders) ops 0) a w.drew):(Code.region id ops true).wp P Q a w:=λb k cs=>by
 obtain⟨e,a',w',q,r⟩:=wp_ops _ a _ h b k cs;refine⟨e,a',w',q,.of_steps (.one ?_) r⟩;have hs:=step_region_draw (P:=P) (b:=b) (a:=a) (k:=k) (cs:=cs) (id:=id) (ops:=ops) (w:=w);rw[c]at hs;exact hs
def BQ {P}{t}{id}(b:t=22\/t=23\/t=1){Q}{a}{w}(c:∀j q,w.tape j q=0)
 (h:Q .normal ((a.put (some t) (.bool true)).put (some t) (.bool false)) w.drew):(Code.region id (CO t) true).wp P Q a w:=by
 refine vY c ?_;have hs:Region.schedule (P.follows .mixedOrders) (CO t) 0=[0,1]:=(Ms (P.follows .mixedOrders) t b).1;rw[hs];have e:(CO t)[0]? =some (bg (some t) (.move (.const (.bool true)))):=rfl;have d:(CO t)[1]? =some (bg (some t) (.move (.const (.bool false)))):=rfl;have hw:∀(v:Value) y,Region.wanted (bg (some t) (.move (.const v))) y=true:=λ_ _=>rfl
 simp only[wpOps,e,d,hw,if_true];exact .inl (.inl h)
def Kr (x0)(w)(a:∀j q,w.tape j q=0):Calls (patch ae prog) 88 #[x0] w fun|.returned v,w'=>v=.nilFunc/\w'.heap=w.heap|_,_=>False:=by
 refine calls_of_wp AX lh ?_;have hp:(#[x0]:Array Value)++Array.replicate ((AQ 342 f88).ntmps-(#[x0]:Array Value).size) undef= #[x0,undef,undef]:=rfl;rw[hp];unfold J6;refine wp_seq (BQ (.inr (.inr rfl)) a ?_);simp only[Exit.then,Act.put,ZN,ZS,ZR];refine wp_seq (wp_cond_false rfl (wp_skip ?_));simp only[Exit.then];refine wp_seq (wp_region ?_);have c:(#[bg (some 2) (.move (.const .nilFunc))]:Array Oper)[0]? =some (bg (some 2) (.move (.const .nilFunc))):=rfl;have b:List.range (#[bg (some 2) (.move (.const .nilFunc))]:Array Oper).size=[0]:=rfl;have hw:∀(v:Value) y,Region.wanted (bg (some 2) (.move (.const v))) y=true:=λ_ _=>rfl
 rw[b];simp only[wpOps,c,hw,if_true];refine .inl ?_;refine wp_ret ?_;refine⟨rfl,.nilFunc,?_,rfl,rfl⟩;rw[results_tmp (t:=2) rfl];rfl
def WR.lone {G}{K}{st}{p:Rel st}{w a u}(h:WR G K p w u)(e:a.heap=w.heap):WR G K p a u:=
 ⟨h.fit,λb c d=>by have:=h.rows b c d;unfold Qn at this⊢;rw[e];exact this,h.qp,h.low,by rw[e];exact h.BB⟩
def Qp (u0:World)(p:Rel True)(u:World):Prop:=
 (u.tape=u0.tape/\u.os=u0.os/\u.output=u0.output/\u0.heap.size<=u.heap.size)/\(∀b c,p b c->c<u0.heap.size->b=c/\CB u0 c)/\(∀c,CB u0 c->p c c)/\∀c,c<u0.heap.size->u.heap[c]? =u0.heap[c]?
def RN {u0}:∀p u d,Qp u0 p u->Qp u0 p (u.at d):=λ_ _ _ h=>h
def EZ {u0}:∀p q u u',Qp u0 p u->dE (CB u0) p q u u'->Qp u0 q u':=by
 intro p q u u' ⟨⟨k,j,i,h⟩,a,f,e⟩ g;refine⟨⟨g.tape.trans k,g.os.trans j,g.output.trans i,ZP h g.size⟩,λb c d hc=>?_,λc hc=>g.ext _ _ (f c hc),λc hc=>?_⟩
 .by_cases hp:p b c
  .exact a b c hp hc
  .have:=g.fresh b c d hp;omega
 .exact(g.keep c (by omega) λb hb=>(a b c hb hc).2).trans (e c hc)
def NU {u0 u:World}(h:∀c,c<u0.heap.size->u.heap[c]? =u0.heap[c]?){a}{v}(b:u0.cell? a=some v):u.cell? a=some v:=by
 have hl:a.block<u0.heap.size:=block_lt_of_cell b;unfold World.cell? at b⊢;rw[h _ hl];exact b
def QH {w}{c}(h:CB w c):c<w.heap.size:=let ⟨_,_,_,h⟩:=h;(ZK.1 h).1
def P4 {K}{st}{p:Rel st}{w u}{G b c}(hw:WR G K p w u)(hp:p b c)(h:CB u c):CB w b:=by
 obtain⟨xs,e,g,hb⟩:=h;obtain⟨d,ys,j,f,g',i,a,_⟩|⟨_,_,_,_,a,_⟩|⟨_,_,_,_,a,_⟩:=hw.rows b c hp
 .exact⟨d,j,f,i⟩
 .rw[hb]at a;cases a
 .rw[hb]at a;cases a
def PL {u0 u w}{p}{K}{G}(h:Az u0 (CB u0))(q:Qp u0 p u)(hw:WR G K p w u):Az u (QP p u (CB w)):=by
 obtain⟨⟨o,i2,i3,i4⟩,i5,k,i⟩:=q;have hb:Below u0.heap.size u0 u:=⟨i2,o,i3,i4,i⟩
 have l:∀c,CB u0 c->QP p u (CB w) c:=λc hc=>by
  have d:CB u c:=by
   obtain⟨xs,e,g,m⟩:=hc;exact⟨xs,e,g,(i c (QH ⟨xs,e,g,m⟩)).trans m⟩
  exact⟨d,c,k c hc,P4 hw (k c hc) d⟩
 refine⟨h.env.ext hb,λg b=>?_,λg b=>?_,λg b=>l g (h.JV g b)⟩
 .obtain⟨t,a,k1,j,n⟩:=h.err g b
  exact⟨t,a,NU i k1,j,l _ n⟩
 .obtain⟨xs,e,f,k1,j⟩:=h.tabs g b
  exact⟨xs,e,f,(i g (QH ⟨xs,e,f,k1⟩)).trans k1,j⟩
def UA {u0}(O:Az u0 (CB u0)){C C0}{R}(hC:j6 C)(P:88∉C0.sp)(k:∀f,f∈C0.sp->f=340\/f=341\/f=342)(K:∀f,f∈C0.sp->f∉C.fns/\f≠C.root)(J:C.jh=true)
 {x y}{a}{fs}{b}{bs}{w u}{gs}{sl}{t}{q}{S}{p}
 (Y:bI (patch ae prog) C0 R JJ (Frame.enter (patch ae prog) 88 x .normal) (a::fs) w)(j:aF (VR p) x y)(hx:x.size=1)(r:CR C (patch ae prog) p (a::fs) (b::bs))(hw:WR (patch ae prog).globals.size (CB u0) p w u)(hF:ni prog S gs u.heap.size t q)
 (h0:gs[0]? =some (df (Frame.enter prog 88 y .normal) (b::bs)))(Z:∀b c,p b c->¬S c)(B:Qp u0 p u):
 ∃N m' F n s',runNT prog N (crowd gs u sl) t=(.next m',F)/\Down (patch ae prog) C0 n ⟨Frame.enter (patch ae prog) 88 x .normal,a::fs,w⟩ s'/\Om C (patch ae prog) prog (CB u0) (Qp u0) s' m' F:=by
 obtain⟨x0,rfl⟩:=ji hx;obtain⟨n,D,hT⟩:=(Rz P Y).2.2 rfl;have M:je w (CB w) x0 n D:=hT;obtain⟨V,rfl⟩:=ji (j.1.symm.trans hx);have L:je u (QP p u (CB w)) V n D:=M.carry hw (λ_ h=>h) (j.2 0 x0 V rfl rfl);obtain⟨N,Q,u',G,F,q',s,r1,r2,r3,r4,r5,r6,X,W⟩:=Cf (sl:=sl) (λc hc=>hc.1) (λc ⟨_,b,hb,_⟩=>Z b c hb) (PL O B hw) L hF h0
 have A:∀f x fs w,f∈C0.sp->¬bI (patch ae prog) C0 R JJ (Frame.enter (patch ae prog) f x .normal) fs w:=λf x fs w hf=>by
  rcases k f hf with rfl|rfl|rfl
  .exact(ig x w).lZ fs
  .exact(gH x w).lZ fs
  .exact(gG x w).lZ fs
 have z:∀f x fs cs w n fr w',f∈C0.sp->(∀y∈fs,y.mode=.run/\y.defers=[]/\∃fn,(patch ae prog).funcs[y.fn]? =some fn)->runN (patch ae prog) n (lone (Frame.enter (patch ae prog) f x .normal) (fs++[stop (patch ae prog)]) w)=.next (lone fr cs w')->fr.mode≠.returning:=λf x fs cs w n fr w' hf g H=>by
  rcases k f hf with rfl|rfl|rfl
  .exact(ig x w).lost fs g H
  .exact(gH x w).lost fs g H
  .exact(gG x w).lost fs g H
 have o:∀v f x,f∈C0.sp->a.finish v≠Frame.enter (patch ae prog) f x .normal:=λv f x hf e=>by
  have h1:=congrArg Frame.fn e;rw[(oU a v).1]at h1;have E:a.fn=f:=h1;obtain⟨n1,n2⟩:=K f hf;obtain⟨_,_,_,d⟩:=r.1
  by_cases m:fs=[]
  .exact n2 (E.symm.trans ((d.2 m).2.2 J))
  .exact n1 (E▸(d.1 m).2.2.1)
 obtain⟨n,v,w',⟨rfl,g1⟩,hd⟩:=yO (C0:=C0) A z (T:=λ_ _=>0) Y rfl o (Kr x0 (ay w λ_ _=>0) (λ_ _=>rfl));obtain⟨⟨I,l,i,d⟩,hcs⟩:=r;have U:w'.heap=w.heap:=g1;obtain⟨⟨i1,i2,i3,i4⟩,i5,i6,i7⟩:=B;refine⟨N,_,F,n,_,r1,hd,p,b.finish (.string s),bs,Q,u',G,q',S,rfl,r2,⟨?_,.inl ((jd _ _).trans l),hcs,d.finish _ _⟩,?_,r3,Z,⟨r4.trans i1,r5.trans i2,r6.trans i3,ZP i4 X⟩,i5,i6,λc hc=>(W c (ZO hc i4)).trans (i7 c hc)⟩
 .exact I.finish hC (VR.gU rfl) i
 .exact(hw.lone U).keep (λb c h=>W c (hw.lt h).2) X
end
namespace Z
open Go.RowKit
attribute [local go_sem ↓] Go.wp_at_zero Go.wp_at_succ
attribute [local go_sem] After.cell After.frozen After.const
def Io (D)(B)(c)(w)(hb:aW w B D)(a:D.ok)(b:∀j q,w.tape j q=0):
 adO 42 #[ptr B,.agg (aQ c)] w fun|.returned v,w'=>dm (λi=>zF D i (c i)) c w v w'|_,_=>False:=by
 refine calls_of_wp sK jK ?_
 have hp:(#[ptr B,.agg (aQ c)]:Array Value)++Array.replicate ((eD 340 f42).ntmps-(#[ptr B,.agg (aQ c)]:Array Value).size) undef= #[ptr B,.agg (aQ c),undef,undef,undef,undef,undef,undef,undef,undef,undef,undef,undef,undef,undef,undef,undef,undef,undef,undef,undef,undef,undef,undef,undef,undef,undef,undef]:=by
  rw[CJ];simp only[List.size_toArray,adt,List.length_nil,Nat.reduceAdd,Nat.reduceSub,Array.replicate_succ,Array.replicate_zero,List.push_toArray,List.append_toArray,List.cons_append,List.nil_append]
 rw[hp];have d:=Im D B c (.bool false) (.bool false) w.drew.drew (hb.same (λ_ h=>h) λ_ _ h=>h) a;have e:∀v w',dm (λi=>zF D i (c i)) c w.drew.drew v w'->dm (λi=>zF D i (c i)) c w v w':=λv w' h=>h
 generalize xB ((eD 340 f42).body.getD .skip)=c4 at d⊢;refine wp_seq (BQ (.inl rfl) b ?_);simp only[Exit.then,Act.put,ZN,ZS,ZR];refine wp_seq (wp_cond_false rfl (wp_skip ?_));simp only[Exit.then];refine wp_seq (BQ (.inr (.inl rfl)) (λj q=>b j q) ?_);simp only[Exit.then,Act.put,ZN,ZS,ZR];refine wp_seq (wp_cond_false rfl (wp_skip ?_));simp only[Exit.then];exact d
end Z
section
open Go Go.Conc Go.ConcN Go.RowKit
open Go.ConcR (Payload)
def rU {p:Nat->Prop}{l m:List Nat}(h:∀g∈l,p g)(k:∀g∈m,p g):∀g∈l++m,p g:=λg a=>(abz.1 a).elim (h g) (k g)
def Lg {Q}(a)(B):ni Q (λ_=>False) #[a] B #[] (λ_=>0):=by
 refine⟨?_,by simp,λi g d=>?_,rfl,λop b=>by simp at b,λc hc=>hc.elim,λi g e d=>?_⟩
 .exact CT.lone (λop b=>by simp at b) (λop b=>by simp at b)
 .simp[Trace.g?]at d
 .have:=(ZK.1 d).1
  simp at this;omega
def AA (ch:List PanicEntry)(w:World):Prop:=
 (∃B D a,ch=raised 31 (ptr B)/\bM w a B D/\D.ok/\tX w a/\a B)\/(∃b c,ch=raised 37 (ptr b)/\w.heap[b]? =some (.cells (aQ c) 37))\/∃v n D,ch=raised 47 v/\je w (CB w) v n D
def SF:∀ch w,AA ch w->∃e∈ch,¬EJ e.v:=by
 rintro ch w (⟨B,D,Z,rfl,_⟩|⟨b,c,rfl,_⟩|⟨v,n,D,rfl,ao,cap,rfl,_⟩)
 .exact⟨_,ZX,λh=>absurd (show iT.contains 31=false from h) (by decide)⟩
 .exact⟨_,ZX,λh=>absurd (show iT.contains 37=false from h) (by decide)⟩
 .exact⟨_,ZX,λh=>absurd (show iT.contains 47=false from h) (by decide)⟩
def Sd {v:Value}{c}(h:v.cells=aQ c):v=.agg (aQ c):=by
 cases v with
 |agg xs=>
  have:xs=aQ c:=h;rw[this]
 |_=>exact absurd (congrArg Array.size h) (by simp[Value.cells,aQ])
def OD:List Nat:=[340,341,342]
def Ga:∀f x w,f∈OD->Calls (patch ae prog) f x w λe w'=>∃ch,e=.panicked ch/\(AA ch w'->JJ f x w):=by
 intro f x w hf
 have g:f=340\/f=341\/f=342:=by
  have:f∈[340,341,342]:=hf;simpa using this
 rcases g with rfl|rfl|rfl
 .refine(BI ae x w).mono ?_
  rintro e w' ⟨rfl,rfl⟩;refine⟨_,rfl,?_⟩;rintro(⟨B,D,Z,a,d⟩|⟨b,c,a,_⟩|⟨v,n,D,a,_⟩)
  .refine⟨λ_=>⟨B,D,Z,?_,d⟩,λh=>absurd h (by decide),λh=>absurd h (by decide)⟩
   simpa[raised] using a
  .simp[raised]at a
  .simp[raised]at a
 .refine(rV ae x w).mono ?_
  rintro e w' ⟨rfl,rfl⟩;refine⟨_,rfl,?_⟩;rintro(⟨B,D,Z,a,d⟩|⟨b,c,a,d⟩|⟨v,n,D,a,_⟩)
  .simp[raised]at a
  .refine⟨λh=>absurd h (by decide),λ_=>⟨c,Sd ?_⟩,λh=>absurd h (by decide)⟩
   have hb:b=w.heap.size:=by
        simp only[raised,ptr,ac0,PanicEntry.mk.injEq,Value.iface.injEq,Value.pointer.injEq,ac2,Addr.mk.injEq,and_true,true_and]at a;exact a.symm
   rw[hb,tN]at d;simp only[ac2,Obj.cells.injEq]at d;exact d.1
  .simp[raised]at a
 .refine(zm ae x w).mono ?_
  rintro e w' ⟨rfl,rfl⟩;refine⟨_,rfl,?_⟩;rintro(⟨B,D,Z,a,d⟩|⟨b,c,a,_⟩|⟨v,n,D,a,d⟩)
  .simp[raised]at a
  .simp[raised]at a
  .refine⟨λh=>absurd h (by decide),λh=>absurd h (by decide),λ_=>⟨n,D,?_⟩⟩
   have:zk x=v:=by simpa[raised] using a
   rw[this];exact d
def GZ {C0}{R}{J}{g}{f}{x}{fs}{w}(h:(patch ae prog).funcs[g]? =some (shut f)):¬bI (patch ae prog) C0 R J (Frame.enter (patch ae prog) g x .normal) fs w:=by
 intro i;rw[enter_at x h (c:=.exit 0) rfl]at i;have hs:∃o w' es,stepG (patch ae prog) true (df ((base g).at ⟨x++Array.replicate ((shut f).ntmps-x.size) undef,[]⟩ [.code (.exit 0)]) (fs++[stop (patch ae prog)])) (ay w w.tape)=.ended o w' es:=⟨_,_,_,by simp only[stepG,stepG.exec,Frame.at,exitTo];rfl⟩;obtain⟨o,w',es,hs⟩:=hs;rcases i.step with b|⟨_,b⟩
 .exact absurd b.1 (by simp[Frame.at])
 .rcases b w.tape with⟨a2,e,w2,d,a,_⟩|⟨f2,x2,e,w2,d,_,a,_⟩
  .rw[hs]at a;cases a
  .rw[hs]at a;cases a
def pS {g}{f}(h:prog.funcs[g]? =some f)(a:(g==42||g==69||g==88)=false/\ae.contains g=true):(patch ae prog).funcs[g]? =some (shut f):=by
 rw[iO ae prog h];unfold swap;simp only[Bool.or_eq_false_iff,acZ]at a;rw[if_neg a.1.1.1,if_neg a.1.1.2,if_neg a.1.2,if_pos a.2]
def RD:List Nat:=42::88::ae
def RE:List Nat:=42::69::88::ae
def Uw:List Nat:=[0]
def Q8:PS (patch ae prog) prog 88:=⟨_,_,_,AX,by kernel_rfl,lh,func88,by kernel_rfl,by kernel_rfl⟩
def O':PS (patch ae prog) prog 42:=⟨_,_,_,sK,by kernel_rfl,jK,rE,Uj,by rw[xV];rfl⟩
def Wo:∀g∈OD,PS (patch ae prog) (patch ae prog) g:=
 all_cons ⟨_,_,_,OB ae,by kernel_rfl,rfl,OB ae,by kernel_rfl,rfl⟩<|
 all_cons ⟨_,_,_,xK ae,by kernel_rfl,rfl,xK ae,by kernel_rfl,rfl⟩<|
 all_cons ⟨_,_,_,z8 ae,by kernel_rfl,rfl,z8 ae,by kernel_rfl,rfl⟩<|
 all_nil
def Zj:Code:=.region 0 #[bg (some 1) (.makeInterface 31 (.tmp 0)),bg none (.panic (.tmp 1))] false
def Zi:Code:=.region 0 #[bg (some 1) (.box 37 (.tmp 0)),bg (some 2) (.makeInterface 37 (.tmp 1)),bg none (.panic (.tmp 2))] false
def Zh:Code:=.region 0 #[bg (some 1) (.makeInterface 47 (.tmp 0)),bg none (.panic (.tmp 1))] false
def xM {C}{g}{f}{c}(hf:(patch ae prog).funcs[g]? =some f)(hb:f.body=some c)(h:fB C (patch ae prog) g (.code c)=false)(x):¬aU C (patch ae prog) (Frame.enter (patch ae prog) g x .normal).fn (Frame.enter (patch ae prog) g x .normal).todo:=by
 rw[enter_at x hf hb];intro b;have a:fB C (patch ae prog) g (.code c)=true:=b.cons.1;rw[a]at h;cases h
structure QM (C C0:iG)(r:Nat)(fr:Func):Prop where
 sJ:aH C (patch ae prog) prog
 xG:aH C0 (patch ae prog) (patch ae prog)
 sp:C.sp=RD
 Qt:C0.sp=OD
 sd:C.sd=false
 root:C.root=r
 rt:C.rt=1000000
 mark:∀o,C.mark o=false
 QB:∀o,C0.mark o=false
 gl:C.gl=Uw
 XX:C0.gl=Uw
 okF:∀x y,C.okF x y
 V6:C.jh=true
 dd:C.dd=[]
 kd:C.kd=.normal
 pv:∀i,C.pv i=false
 X0:C0.jh=false
 XZ:C0.dd=[]
 XA:C0.kd=.normal
 init:prog.inits.idxOf? r=none
 Sk:(OD.all λg=> !C.fns.contains g&&g !=r)=true
 Uk:C0.fns.contains r=true
 Xv:fB C (patch ae prog) 340 (.code Zj)=false
 Xu:fB C (patch ae prog) 341 (.code Zi)=false
 Xt:fB C (patch ae prog) 342 (.code Zh)=false
 pr:(patch ae prog).funcs[r]? =some fr
 ar:prog.funcs[r]? =some fr
 body:∃c,fr.body=some c/\bA C (patch ae prog) r c=true/\uq C c=c/\(∃k,fr.results= #[.tmp k])
 ntmps:fr.ntmps<1000
def vX:dM (patch ae prog):=trivial
def Fp {C C0}{r}{fr}(L:QM C C0 r fr)(A:∀g∈ae,∃f',(patch ae prog).funcs[g]? =some (shut f')){vd:BD->Nat->Int->Array Value}(X:∀D i n,i<4->0<n->(vd D i n).size=17/\∀v∈(vd D i n).toList,jP v)
 (η:∀(D:BD) (B bb rB nB r:Nat) (n:Int) (w:World),aW w B D->D.ok->r<4->0<n->w.cell? ⟨bb,0,none⟩=some (ptr B)->w.cell? ⟨rB,0,none⟩=some (.int .i64 r)->w.cell? ⟨nB,0,none⟩=some (.int .i64 n)->
  Calls (patch ae prog) 69 #[undef,ptr bb,ptr rB,ptr nB,undef] w fun|.returned v,w'=>o9 (vd D r n) r v w'|_,_=>False)
 (θ:∀(D:BD) (B:Nat) (c:Nat->Int) (w:World),aW w B D->D.ok->(∀j q,w.tape j q=0)->Calls (patch ae prog) 42 #[ptr B,.agg (aQ c)] w fun|.returned v,w'=>dm (λi=>vd D i (c i)) c w v w'|_,_=>False)
 {args la}{w H}(ι:args.size<1000)(hE:Az w (CB w))(E:WR ((patch ae prog)).globals.size (λ_=>False) (NA (CB w)) H H)(ε:WR ((patch ae prog)).globals.size (CB w) (DV True (CB w)) H w)(δ:aF (VR (NA (CB w))) la la)(hA:aF (VR (DV True (CB w))) la args)
 (HD:∀T,Calls (patch ae prog) r la (ay H T) (RJ (λv _=>v=.bool true) AA)):
 ∃N last o w' t',runNT prog (N+1) (solo (G (Frame.enter prog r args .normal) []) w) #[]=(.ended o w',t')/\runN prog N (solo (G (Frame.enter prog r args .normal) []) w)=.next last/\
  step prog last=.ended o w'/\Conc.Good prog (λv u=>v=.bool true/\Below w.heap.size w u) last o w' t':=by
 have tw:Twin (patch ae prog) prog:=xJ ae prog lH FV;have W:=uz ae prog lH FV
 have d:∀g∈Uw,CB w g:=λg O=>by
  have:g=0:=adi.1 O;subst this;obtain⟨_,_,V,_⟩:=hE.err 0 (by decide);exact jY V
 have β:r∉OD:=λh=>by
  have:=ZU.1 L.Sk r h;simp at this
 have tree:bI (patch ae prog) C0 (λv _=>v=.bool true) JJ (Frame.enter (patch ae prog) r la .normal) [] H:=
  wV (K:=λ_=>False) (st:=False) vX L.xG W (.inr ⟨λ_ h=>h,λh=>h⟩) L.QB Qo SF (λf x w hf=>Ga f x w (L.Qt▸hf))
   ⟨NA (CB w),_,[],H,⟨FR.enter L.xG (adv L.Uk) (by rw[L.Qt];exact β) δ (λg O=>⟨rfl,d g (L.XX▸O)⟩),.inl rfl,trivial,⟨λh=>absurd rfl h,λ_=>⟨L.XZ.symm▸rfl,L.XA.symm▸rfl,λh=>by rw[L.X0]at h;cases h⟩⟩⟩,E⟩ HD
 obtain⟨c,hb,γ,α,k,M⟩:=L.body;have z:∀{P:Program} (a:Array Value),P.funcs[r]? =some fr->Frame.enter P r a .normal=(base r).at ⟨a++Array.replicate (fr.ntmps-a.size) undef,[]⟩ [.code c]:=λa h=>enter_at a h hb
 have F:Live C (patch ae prog) (DV True (CB w)) (Frame.enter (patch ae prog) r la .normal) [] (Frame.enter prog r args .normal) []:=by
  rw[z _ L.pr,z _ L.ar];refine⟨⟨⟨_,L.pr⟩,J'.of ?_,aU.of γ (λ_ hy=>by cases hy),rfl,rfl,rfl,?_,λ_=>?_,λ_=>L.okF _ _,(λe=>by cases e),λg O=>⟨rfl,d g (L.gl▸O)⟩⟩,.inl rfl,trivial,⟨λh=>absurd rfl h,λ_=>⟨L.dd.symm▸rfl,L.kd.symm▸rfl,λ_=>L.root.symm⟩⟩⟩
  .rw[hA.1]
   refine aF.append hA (aF.same λv Y=>?_);rw[(Array.mem_replicate.1 Y).2];exact VR.undef
  .simp only[Frame.at,adr,List.map_nil,qE,α]
  .rw[L.rt]
   show(la++Array.replicate _ undef).getD 1000000 undef=undef
   have:=L.ntmps;have:=hA.1;rw[ZY,Array.getElem?_eq_none (by rw[Array.size_append,Array.size_replicate];omega)];rfl
 have ζ:Qp w (DV True (CB w)) w:=⟨⟨rfl,rfl,rfl,ZL _⟩,λb c h _=>⟨h.1,h.1▸h.2⟩,λ_ h=>⟨rfl,h⟩,λ_ _=>rfl⟩
 letI:Payload:=⟨91⟩
 have m:∀f,f∈C0.sp->f=340\/f=341\/f=342:=λf hf=>by
  rw[L.Qt]at hf;have:f∈[340,341,342]:=hf;simpa using this
 have l:∀f,f∈C0.sp->f∉C.fns/\f≠C.root:=λf hf=>by
  rw[L.Qt]at hf;have:=ZU.1 L.Sk f hf;simp at this;exact⟨λh=>by simp[h]at this,L.root▸this.2⟩
 have:=R5 (C:=C) (C0:=C0) (Q:=prog) (K:=CB w) (Iv:=Qp w) (Post:=λv u=>v=.bool true/\Below w.heap.size w u) RN EZ vX L.sJ tw (.inl L.sd) L.mark (λf V h2=>?_) (λ_ _=>rfl) (λ_ _=>rfl) (λf x hf=>?_) L.V6 L.dd L.kd L.pv (by rw[L.root];exact L.init) (λfn h=>?_) (λp v v' w' T u hR Y hw U=>?_) (λfn h=>?_)
  (λf x y a fs b bs w' u gs sl t q S p J Z s R hw hF h0 hS U=>?_) tree (crowd #[df (Frame.enter prog r args .normal) []] w none) #[] ⟨_,_,[],_,w,none,λ_=>0,λ_=>False,rfl,rfl,F,ε,Lg _ _,λ_ _ _ h=>h,ζ⟩
 .exact this
 .rw[L.sp]at V
  rw[L.Qt]at h2;have h:(RD.all λg=> !OD.contains g)=true:=by kernel_rfl
  have:=ZU.1 h f V;simp[h2]at this
 .rcases m f hf with rfl|rfl|rfl
  .exact xM (OB ae) rfl L.Xv x
  .exact xM (xK ae) rfl L.Xu x
  .exact xM (z8 ae) rfl L.Xt x
 .rw[L.root,L.pr]at h
  cases h;exact⟨_,by rw[L.root];exact L.ar,rfl⟩
 .obtain rfl:=hR
  obtain⟨⟨i1,i2,i3,i4⟩,i5,i6,i7⟩:=U;exact⟨Y.j3,i2,i1,i3,i4,i7⟩
 .rw[L.root,L.pr]at h
  cases h;exact⟨k,M⟩
 .rw[L.sp]at J
  have I:f=42\/f=88\/f∈ae:=by
   have:f∈42::88::ae:=J;simpa only[ZW] using this
  rcases I with rfl|rfl|hf
  .exact PN (C:=C) (C0:=C0) EZ rfl vX L.sJ.cfg (by rw[L.Qt];exact adj (show decide (¬42∈[340,341,342])=true by kernel_rfl)) m l L.V6 X η θ Z s.1 (s.2.1 rfl) R hw hF h0 hS U
  .exact UA (C:=C) (C0:=C0) hE L.sJ.cfg (by rw[L.Qt];exact adj (show decide (¬88∈[340,341,342])=true by kernel_rfl)) m l L.V6 Z s.1 (s.2.2 rfl) R hw hF h0 hS U
  .exfalso
   obtain⟨f',h'⟩:=A f hf;exact GZ h' Z
end
