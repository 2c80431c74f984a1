/- Part 16 of the proof. -/
import Derived.Test.YtfpaamhppamcoaaGreatDoorSp14
import Derived.Conc.Machine
import Derived.Conc.CrowdRun
import Derived.Conc.Beside
set_option linter.all false
set_option maxRecDepth 100000
set_option maxHeartbeats 60000000
namespace Go.Proofs.YtfpaamhppamcoaaGreatDoor
open Go.Proofs.Tryz
namespace Z
open Go.RowKit
attribute [local go_sem ↓] Go.wp_at_zero Go.wp_at_succ
attribute [local go_sem] After.cell After.frozen After.const
theorem inN_le (D)(r)(l)(k):0<=dz D r l k/\dz D r l k<=l.length:=by
 unfold dz;have:=List.countP_le_length (p:=λi=>bG D r i==(k:Int)) (l:=l);omega
theorem inN_take {D}{r}{l:List Nat}{j i m:Nat}(h:l[j]? =some i)(hm:bG D r i=(m:Int))(k):dz D r (l.take (j+1)) k=if k=m then dz D r (l.take j) m+1 else dz D r (l.take j) k:=by
 obtain⟨b,rfl⟩:=ZZ.1 h;unfold dz;rw[List.take_succ_eq_append_getElem b,List.countP_append]
 by_cases a:k=m
 .subst a
  rw[if_pos rfl];simp[hm]
 .rw[if_neg a]
  have:¬((m:Int)=(k:Int)):=by omega
  simp[hm,this]
def cntK (D:BD)(r:Nat)(l:List Nat)(k:Nat):Value:=.int .i64 (dz D r l k)
def cntV (D:BD)(r:Nat)(l:List Nat):Array Value:= #[cntK D r l 0,cntK D r l 1,cntK D r l 2,cntK D r l 3]
theorem infoCnt:((patch ae prog).info? 131).map (·.size)=some 4:=by kernel_rfl
theorem row_cnt {w:World}{b}{D}{r}{l}(h:w.rowIs b 131 4 (cntK D r l)):w.heap[b]? =some (.cells (cntV D r l) 131 (0,0)):=by
 obtain⟨cur,e,d,c⟩:=h
 have:cur=cntV D r l:=by
  refine Array.ext (by rw[d];rfl) λj a f=>?_
  have:=c j (by omega);rw[ZM a]at this;obtain rfl|rfl|rfl|rfl:j=0\/j=1\/j=2\/j=3:=by omega
  all_goals(simpa[cntV] using this)
 rw[<-this];exact e
theorem byNode_any (bb r)(D)(l)(v)(w)(O:r<4)(hb:aW w bb D)(g:D.ok)(N:Ints w v l.length (λj=>((l[j]?.getD 0:Nat):Int)))(hl:l.length<=24)
 (a:∀i∈l,if r=0 then i<D.n else i<D.dn (r-1)):
 Calls (patch ae prog) 71 #[.pointer (some ⟨bb,0,none⟩),.int .i64 r,v] w λe w'=>e=.returned (.agg (cntV D r l))/\Below w.heap.size w w':=by
 obtain⟨ao,cap,rfl,I,J,K⟩:=N;have x:Hid (aW w bb D/\D.ok/\(0<l.length->∃b o,ao=some ⟨b,o,none⟩/\gM w b o l.length (λj=>((l[j]?.getD 0:Nat):Int)))/\∀i∈l,if r=0 then i<D.n else i<D.dn (r-1)):=⟨hb,g,K,a⟩;clear hb g K a
 go_enter (pf func71 (by rfl)),ntmps71
 go_wp2_with fail;obtain⟨W,hW⟩:∃W,W=(w.alloc (.cells #[.int .i64 0,.int .i64 0,.int .i64 0,.int .i64 0] 131)).alloc (.cells #[.int .i64 0,.int .i64 0,.int .i64 0,.int .i64 0] 131):=⟨_,rfl⟩
 have A:Hid (W.rowIs (w.heap.size+1) 131 4 (cntK D r (l.take 0))/\W.heap[w.heap.size]? =some (.cells #[.int .i64 0,.int .i64 0,.int .i64 0,.int .i64 0] 131 (0,0))/\Below w.heap.size w W/\w.heap.size+2=W.heap.size):=by
  rw[hW];refine⟨?_,aap _ _ _,((aab _ _).alloc (ZL _) _).alloc (by simp) _,by simp⟩
  have:=World.rowIs_alloc (w.alloc (.cells #[.int .i64 0,.int .i64 0,.int .i64 0,.int .i64 0] 131)) #[.int .i64 0,.int .i64 0,.int .i64 0,.int .i64 0] 131 (cntK D r (l.take 0)) λi s=>by
   have P:i<4:=s;obtain rfl|rfl|rfl|rfl:i=0\/i=1\/i=2\/i=3:=by omega
   all_goals rfl
  simpa using this
 rw[<-hW];clear hW
 go_loopw [12] (λi wr=>∃j:Nat,j<=l.length/\i=.int .i64 j/\wr.rowIs (w.heap.size+1) 131 4 (cntK D r (l.take j))/\(∀b,b≠w.heap.size+1->wr.heap[b]? =W.heap[b]?)/\Below w.heap.size w wr) (λi _=>l.length-(intOf i).toNat)
 case atStart=>exact⟨0,by omega,rfl,A.out.1,λ_ _=>rfl,A.out.2.2.1⟩
 case round=>
  obtain⟨j,S,rfl,t,z,hb⟩:=hrel;have h:Hid (wr.rowIs (w.heap.size+1) 131 4 (cntK D r (l.take j))/\(∀b,b≠w.heap.size+1->wr.heap[b]? =W.heap[b]?)/\Below w.heap.size w wr):=⟨t,z,hb⟩;clear t z hb
  by_cases u:j<l.length
  .obtain⟨b,o,rfl,hc⟩:=x.out.2.2.1 (by omega)
   have d:l[j]? =some l[j]:=ZT u;have G:=keeps h.out.2.2 (hc j u);simp only[d,Option.getD_some]at G;obtain⟨i,s⟩:∃i,i=l[j]:=⟨_,rfl⟩;rw[<-s]at G d;have a:=x.out.2.2.2 i (by rw[s];exact List.getElem_mem u)
   obtain⟨m,hm,C⟩:∃m:Nat,bG D r i=(m:Int)/\m<4:=by
        have g:=x.out.2.1
        have:0<=bG D r i/\bG D r i<4:=by
         unfold bG
         by_cases L:r=0
         .rw[if_pos L]at a⊢;exact g.nodes i a
         .rw[if_neg L]at a⊢;exact(g.dC (r-1) (by omega)).2 i a
        exact⟨(bG D r i).toNat,by omega,by omega⟩
   have M:=h.out.1.cell C;have R:=h.out.1.frozen m;have hle:=inN_le D r (l.take j) m;rw[List.length_take]at hle;unfold cntK at M;have B:Hid (l[j]? =some i/\(if r=0 then i<D.n else i<D.dn (r-1))/\bG D r i=(m:Int)):=⟨d,a,hm⟩;clear d a hm s hc;go_wp2_with(go_at_call 116;refine(nodeOf_any bb i r D _ O (aW.below x.out.1 h.out.2.2) x.out.2.1 B.out.2.1).mono ?_;rintro e w1 ⟨he,hw⟩;obtain rfl:=hw.symm;rw[B.out.2.2]at he;obtain rfl:=he);go_roundw
   case rel=>
        refine⟨j+1,by omega,by go_num,?_,?_,?_⟩
        .refine(h.out.1.set m _).congr λk H=>?_
         unfold cntK;rw[inN_take B.out.1 B.out.2.2]
         by_cases q:k=m
         .rw[if_pos q,if_pos q]
         .rw[if_neg q,if_neg q]
        .intro c hc
         exact(aad _ _ _ _ hc).trans (h.out.2.1 c hc)
        .exact h.out.2.2.setCell (by show w.heap.size<=w.heap.size+1;omega) _
   case measure=>simp[intOf];omega
  .have:j=l.length:=by omega
   subst this;obtain⟨vs,f⟩:∃vs,vs=cntV D r l:=⟨_,rfl⟩;have y:vs.size=4:=(by rw[f];rfl);have Q:vs.all (·.oneCell')=true:=(by rw[f];simp[cntV,cntK,Value.oneCell'])
   have E:wr.heap[w.heap.size+1]? =some (.cells vs 131 (0,0)):=by
        have:=h.out.1;rw[List.take_length]at this;rw[f];exact row_cnt this
   have hR:=(h.out.2.1 w.heap.size (by omega)).trans A.out.2.1;have s:((patch ae prog).info? 131).map (·.size)=some vs.size:=(by rw[y];exact infoCnt);have F:Hid (vs=cntV D r l):=f;have p:Hid (Below w.heap.size w wr):=h.out.2.2;clear f h x A
   go_wp2_with(first
        |refine wpList_load_row rfl 131 _ rfl (w.heap.size+1) rfl 131 vs (0,0) _ E ((ax ae prog 131).trans underlying131) rfl s ?_
        |refine wpList_store_row rfl 131 _ _ rfl w.heap.size vs rfl rfl 131 _ hR s (by rw[y];rfl) Q ?_)
   (try simp only[Exit.inBlock,Exit.then])
   refine bodyPost_ret_by (results_cell_row rfl _ _ w.heap.size 131 vs (0,0) _ rfl (setRow_heap _ _ _ _ _ _ hR) ((ax ae prog 131).trans underlying131) rfl s) rfl ?_;refine⟨by rw[F.out],?_⟩;exact⟨p.out.os,p.out.tape,p.out.output,by simpa using p.out.size,λk H=>(setRow_other _ _ _ _ (by omega)).trans (p.out.block k H)⟩
end Z
section
open Go
section
variable {C:iG}{P Q:Program}
theorem iK (hc:j6 C){f}(hf:f≠C.root):∀c,bA C P f c=true->sgC C c=c
 |.seq a b,h=>by
  simp only[bA,ZQ]at h;simp only[sgC,iK hc hf a h.1,iK hc hf b h.2]
 |.cond c a b,h=>by
  simp only[bA,ZQ]at h;simp only[sgC,iK hc hf a h.1.2,iK hc hf b h.2]
 |.block _ a,h=>by simp only[sgC,iK hc hf a h]
 |.loop a,h=>by simp only[sgC,iK hc hf a h]
 |.region id ops d,h=>by
  simp only[sgC,Code.region.injEq,and_true,true_and];refine Array.ext (by simp) λi g e=>?_
  rw[Array.getElem_map];refine hc.idle _ ?_;have:=kM.parts (Array.all_eq_true'.1 h ops[i] (Array.getElem_mem e));cases hm:C.mark ops[i]with
  |false=>rfl
  |true=>exact absurd (this.2.1 hm) hf
 |.skip,_=>rfl
 |.ret,_=>rfl
 |.exit _,_=>rfl
 |.label _,_=>rfl
 |.goto _,h=>by cases h
 |.scope _,h=>by cases h
 |.rangeFunc ..,h=>by cases h
 |.refuse _,_=>rfl
def PB (C:iG)(P Q:Program)(g:Nat):Prop:=∃fn c,P.funcs[g]? =some fn/\(fn.name== "runtime.NumGoroutine")=false/\fn.body=some c/\Q.funcs[g]? =some fn/\bA C P g c=true
def PS (P Q:Program)(g:Nat):Prop:=∃fn c a,P.funcs[g]? =some fn/\(fn.name== "runtime.NumGoroutine")=false/\fn.body=some c/\Q.funcs[g]? =some a/\(a.name== "runtime.NumGoroutine")=false/\a.body.isNone=false
def okB (C:iG)(P:Program)(g:Nat)(fn:Func):Bool:= !(fn.name== "runtime.NumGoroutine")&&match fn.body with
 |some c=>bA C P g c
 |none=>false
theorem pbOf {C}{P Q}{g}{fn}(h:P.funcs[g]? =some fn)(b:Q.funcs[g]? =some fn)(k:okB C P g fn=true):PB C P Q g:=by
 unfold okB at k;rw[ZQ,Bool.not_eq_true']at k;obtain⟨k1,a⟩:=k;cases hb:fn.body with
 |none=>rw[hb]at a;cases a
 |some c=>rw[hb]at a;exact⟨fn,c,h,k1,hb,b,a⟩
def Two (C D:iG)(P:Program)(g:Nat):Prop:=∃fn,P.funcs[g]? =some fn/\okB C P g fn=true/\okB D P g fn=true
theorem bu {C D}{P}{g}{fn}(h:P.funcs[g]? =some fn)(k:(okB C P g fn&&okB D P g fn)=true):Two C D P g:=⟨fn,h,(ZQ _ _▸k).1,(ZQ _ _▸k).2⟩
theorem all_cons {p:Nat->Prop}{a}{l}(h:p a)(t:∀g∈l,p g):∀g∈a::l,p g:=λg b=>by
 rcases ZW.1 b with rfl|b
 .exact h
 .exact t g b
theorem all_nil {p:Nat->Prop}:∀g∈([]:List Nat),p g:=λg a=>by cases a
theorem aH.of (hc:j6 C)(hx:ExtOk C.ext P Q)(f:fU C.rx P Q)(hy:dw C.hx P Q)(o:∀g∈dS,g∈C.fns)(l:List Nat)(hl:∀g,g∈C.fns↔g∈l\/g∈C.sp)(hd:∀g∈C.sp,g∉l)(n:∀g∈l,g≠C.root)(h:∀g∈l,PB C P Q g)(hs:∀g∈C.sp,PS P Q g):aH C P Q:=by
 refine⟨hc,hx,f,hy,o,λg a=>?_,λg a i=>n g (((hl g).1 a).resolve_right i)⟩;rcases(hl g).1 a with a|a
 .obtain⟨fn,c,k,e,b,j,d⟩:=h g a
  exact⟨fn,c,fn,k,e,b,j,e,by rw[b];rfl,λ_=>⟨d,by rw[iK hc (n g a) c d];exact b,rfl,rfl⟩⟩
 .obtain⟨fn,c,m,k,e,b,j,d,q⟩:=hs g a
  exact⟨fn,c,m,k,e,b,j,d,q,λp=>absurd a p⟩
end
theorem fU.nil {P Q}:fU [] P Q:=λg a=>by cases a
theorem dw.nil {P Q}:dw [] P Q:=λg a=>by cases a
def kN (n:Int):Op->Bool
 |.move (.const (.int .i64 m))=>m==160160160160000+n
 |_=>false
def gI (o:Oper):Bool:=o.guard.isNone&&(kN 0 o.op||kN 6 o.op||kN 7 o.op)
def opW (o:Op):Op:=
 if kN 0 o then .load 87 (.tmp 4)else if kN 6 o then .indexAddr 87 (.tmp 19) (.tmp 20)else .store 91 (.tmp 25) (.tmp 24)
def sgW (o:Oper):Oper:=if gI o then{o with op:=opW o.op}else o
def fnsW:List Nat:=[80,134,83,135,136,169,170,81,131,132,72,117,129,166,71,116,48,77,78,128,130,
 127,157,76,126,73,118,119,163,192,214,215,120,164]
end
section
open Go Go.Conc
section
variable {C β:Type}(R E:C->C->Prop)(ρ:β->β->Prop)
def VRel (n:Nat)(y x:(Nat->C)×β):Prop:=
 (∀i,i<n->E (y.1 i) (x.1 i)\/R (y.1 i) (x.1 i))/\((∃k,k<n/\R (y.1 k) (x.1 k))\/ρ y.2 x.2)
variable {R E ρ}
theorem acc_moved (b:∀x y z,E y x->R z y->R z x){x y}(h:Acc R x)(e:E y x):Acc R y:=⟨y,λz a=>h.inv (b x y z e a)⟩
theorem acc_vec (a:WellFounded ρ)(g:∀x y z,E y x->R z y->R z x):∀(n:Nat) (p:(Nat->C)×β),(∀i,i<n->Acc R (p.1 i))->Acc (VRel R E ρ n) p
 |0,p,_=>by
  obtain⟨x,s⟩:=p
  induction s using a.induction generalizing x with
  |_ s v=>
   refine⟨_,λy hy=>?_⟩;rcases hy.2 with⟨k,q,_⟩|h
   .exact absurd q (ZV _)
   .exact v y.2 h y.1 (λi b=>absurd b (ZV _))
 |n+1,p,hp=>by
  have d:∀c,Acc R c->∀p,Acc (VRel R E ρ n) p->(∀i,i<n->Acc R (p.1 i))->(∀z,R z (p.1 n)->R z c)->Acc (VRel R E ρ (n+1)) p:=by
   intro c hc
   induction hc with
   |intro c _ m=>
    intro p hp
    induction hp with
    |intro p _ l=>
     intro u hs;refine⟨_,λy hy=>?_⟩;have j:∀i,i<n->Acc R (y.1 i):=λi b=>(hy.1 i (by omega)).elim (λe=>acc_moved g (u i b) e) λr=>(u i b).inv r
     by_cases o:R (y.1 n) (p.1 n)
     .exact m _ (hs _ o) y (acc_vec a g n y j) j λz f=>f
     .have he:E (y.1 n) (p.1 n):=(hy.1 n (Z4 _)).resolve_right o
      refine l y ⟨λi b=>hy.1 i (by omega),hy.2.imp (fun⟨k,q,t⟩=>⟨k,?_,t⟩) id⟩ j λz f=>hs z (g _ _ z he f)
      rcases Nat.lt_succ_iff_lt_or_eq.1 q with h|rfl
      .exact h
      .exact absurd t o
  exact d (p.1 n) (hp n (Z4 _)) p (acc_vec a g n p λi b=>hp i (by omega)) (λi b=>hp i (by omega)) λz f=>f
end
end
section
open Go Go.Conc Go.ConcN
def ShB (S:Nat->Prop):Loc->Prop:=λl=>∃a,l=.cell a/\S a.block
def NoFam:Nat->Loc->Prop:=λ_ _=>False
theorem apart_none (S):Apart (ShB S) NoFam NoFam:=⟨λ_ _ _ h=>h.elim,λ_ _ _ h=>h.elim,λ_ _ h=>h.elim,λ_ _ h=>h.elim⟩
structure ni (Q:Program)(S:Nat->Prop)(gs:Array Goroutine)(B:Nat)(t:Trace)(q:Nat->Nat):Prop where
 ct:CT (ShB S) NoFam NoFam t (gs.size-1)
 pos:0<gs.size
 over:t.HandedOver
 hears:Deaf t 0=0
 low:∀op∈t,op.act.low B
 sh:∀c,S c->c<B
 old:∀i g,0<i->gs[i]? =some g->QuitsD Q (q i) (Deaf t i) g
def EvP (S:Nat->Prop)(B:Nat)(e:Event):Prop:=(∀x,(MemAct.ofEvent e).touch? =some x->¬ShB S x.loc)/\e.loc≠.mark .disable/\e.loc≠.mark .enable/\(MemAct.ofEvent e).low B
section
variable {Q:Program}{S:Nat->Prop}{gs:Array Goroutine}{u u':World}{t:Trace}{q:Nat->Nat}{B B':Nat}
theorem iy {g}{fn}{pos}{es}(h:∀e∈es,(MemAct.ofEvent e).low B):∀op∈MemOp.ofEvents g fn pos es,op.act.low B:=λop a=>by
 obtain⟨e,he,rfl⟩:=Go.Conc.mem_ofEvents a;exact h e he
theorem low_more (h:∀op∈t,op.act.low B)(b:B<=B'):∀op∈t,op.act.low B':=λop a=>MemAct.low_mono b (h op a)
theorem jv (f)(i)(x:Goroutine):((gs.map f).setIfInBounds i x).size=gs.size:=by simp
theorem ni.step0 (h:ni Q S gs B t q){g a'}{fn}{pos}{es}(hu:B<=B')(b:∀e∈es,EvP S B' e):
 ni Q S ((gs.map (woken Q g a' u')).setIfInBounds 0 a') B' (t++MemOp.ofEvents 0 fn pos es) q:=by
 have j:∀op∈MemOp.ofEvents 0 fn pos es,op.g=0:=λop a=>by obtain⟨e,_,rfl⟩:=Go.Conc.mem_ofEvents a;rfl
 refine⟨?_,by rw[jv];exact h.pos,handedOver_app h.over λop a=>.inl (j op a),?_,seen_app (low_more h.low hu) (iy λe he=>(b e he).2.2.2),λc hc=>ZO (h.sh c hc) hu,λi x l hx=>?_⟩
 .rw[jv]
  refine h.ct.app0 (apart_none S) λop a=>⟨j op a,λx hx=>.inr ⟨?_,λ_ _ _ f=>f,λ_ _ _ _ f=>f⟩⟩
  obtain⟨e,he,rfl⟩:=Go.Conc.mem_ofEvents a;exact(b e he).1 x hx
 .rw[Deaf_own,h.hears]
  exact deafBehind_still (λe he=>⟨(b e he).2.1,(b e he).2.2.1⟩) _
 .have d:0≠i:=by omega
  rw[Array.getElem?_setIfInBounds_ne d,Array.getElem?_map]at hx;obtain⟨y,hy,rfl⟩:=Option.map_eq_some_iff.1 hx;have k:=h.old i y l hy;rw[woken_quitsD k,Deaf_other t (by omega) _ j];exact k
theorem ni.slip (h:ni Q S gs B t q){i k}{g g'}{fn}{pos}{es}(p:gs[i]? =some g)(d:0<i)(hm:∀e∈es,e.mute=true)(f:QuitsD Q k (deafBehind (Deaf t i) es) g'):
 ni Q S ((gs.map (woken Q g g' u)).setIfInBounds i g') B (t++MemOp.ofEvents i fn pos es) (upd q i k):=by
 have l:i<gs.size:=(ZK.1 p).1;have m:∀op∈MemOp.ofEvents i fn pos es,op.g=i:=λop a=>by obtain⟨e,_,rfl⟩:=Go.Conc.mem_ofEvents a;rfl
 have n:∀op∈MemOp.ofEvents i fn pos es,op.act.touch? =none:=λop a=>by obtain⟨e,he,rfl⟩:=Go.Conc.mem_ofEvents a;exact touch_mute (hm e he)
 refine⟨?_,by rw[jv];exact h.pos,handedOver_app h.over λop a=>.inr (n op a),?_,seen_app h.low (iy λe he=>low_mute (hm e he) _),h.sh,λj x o hx=>?_⟩
 .rw[jv]
  exact h.ct.appW (apart_none S) (k:=i) d (by omega) λop a=>⟨m op a,λx hx=>by rw[n op a]at hx;cases hx⟩
 .rw[Deaf_other t (g':=i) (by omega) _ m]
  exact h.hears
 .by_cases b:i=j
  .subst b
   rw[Array.getElem?_setIfInBounds_self_of_lt (by simpa using l)]at hx;obtain rfl:=Option.some.inj hx;rw[upd_same,Deaf_own];exact f
  .rw[Array.getElem?_setIfInBounds_ne b,Array.getElem?_map]at hx
   obtain⟨y,hy,rfl⟩:=Option.map_eq_some_iff.1 hx;have c:=h.old j y o hy;rw[woken_quitsD c,upd_ne q k (Ne.symm b),Deaf_other t b _ m];exact c
theorem pick0:∀(M:Nat) (gs:Array Goroutine) (u:World) (sl:Option (Nat×Nat)) (t:Trace) (q:Nat->Nat) (a:Goroutine),sumTo gs.size q<=M->gs[0]? =some a->a.status=.running->ni Q S gs B t q->
 ∃(N:Nat) (h:Array Goroutine) (d d':Nat) (e y:Option (Nat×Nat)) (A:Trace) (E:Nat->Nat),runNT Q N (crowd gs u sl) t=(.next (crowd h (u.at d) e),A)/\h[0]? =some a/\h.size=gs.size/\ni Q S h B A E/\
  stepT Q (crowd h (u.at d) e)=runT Q (crowd h (u.at d') y) 0:=by
 intro M
 induction M with
 |zero=>
  intro gs u sl t q a U o c hF
  have v:∀g∈gs,awake g:=by
   intro g m;obtain⟨i,j,rfl⟩:=Array.mem_iff_getElem.1 m;rcases Nat.eq_zero_or_pos i with rfl|b
   .have:gs[0]=a:=by simpa[ZM j] using o
    rw[this];exact awake_of (.inl c)
   .exact awake_of ((hF.old i _ b (ZM j)).status.elim .inl λx=>.inr (.inr x))
  obtain⟨i,g,d,e,j,m,n⟩:=crowd_pick (P:=Q) (w:=u) (sl:=sl) v ⟨0,a,o,c⟩;rcases Nat.eq_zero_or_pos i with rfl|b
  .exact⟨0,gs,u.drawn,d,sl,e,t,q,rfl,o,rfl,hF,n⟩
  .have r:=hF.old i g b j
   have s:i<gs.size:=(ZK.1 j).1;have V:=le_sumTo (f:=q) s;have l:q i=0:=(by omega);rw[l]at r;rw[r.1]at m;cases m
 |succ M T=>
  intro gs u sl t q a U o c hF
  have v:∀g∈gs,awake g:=by
   intro g m;obtain⟨i,j,rfl⟩:=Array.mem_iff_getElem.1 m;rcases Nat.eq_zero_or_pos i with rfl|b
   .have:gs[0]=a:=by simpa[ZM j] using o
    rw[this];exact awake_of (.inl c)
   .exact awake_of ((hF.old i _ b (ZM j)).status.elim .inl λx=>.inr (.inr x))
  obtain⟨i,g,d,e,j,m,n⟩:=crowd_pick (P:=Q) (w:=u) (sl:=sl) v ⟨0,a,o,c⟩;rcases Nat.eq_zero_or_pos i with rfl|b
  .exact⟨0,gs,u.drawn,d,sl,e,t,q,rfl,o,rfl,hF,n⟩
  .have r:=hF.old i g b j
   have H:(i==0)=false:=(by simp;omega);have s:i<gs.size:=(ZK.1 j).1;cases l:q i with
   |zero=>rw[l]at r;rw[r.1]at m;cases m
   |succ k=>
    rw[l]at r;rcases r with⟨hf,_⟩|⟨_,g',es,hm,z,F⟩
    .rw[hf]at m;cases m
    have p:=runT_crowd_go (P:=Q) (sl:=e) (i:=i) j (by rw[H];exact z (u.at d))
    have I:sumTo gs.size (upd q i k)+(k+1)=sumTo gs.size q+k:=by
     have:=sumTo_upd q k id s;simpa[l] using this
    obtain⟨N,h,d1,d2,D,C,A,E,R,O,L,K,J⟩:=T ((gs.map (woken Q g g' (u.at d))).setIfInBounds i g') (u.at d) e (t++MemOp.ofEvents i g.frame.fn g.frame.place es) (upd q i k) a (by rw[jv];omega)
     (by
      have G:i≠0:=(by omega);rw[Array.getElem?_setIfInBounds_ne G,Array.getElem?_map,o];simp[woken_run c]) c (hF.slip j b hm F)
    exact⟨N+1,h,d1,d2,D,C,A,E,by simp only[runNT,n,p];exact R,O,L.trans (jv _ _ _),K,J⟩
theorem own0 {sl}{a}(hF:ni Q S gs B t q)(x:gs[0]? =some a)(j:a.status=.running){Stop:Goroutine->World->Nat->Prop}
 (h:∀d,∃a' u' es B',stepG Q true a (u.at d)=.go a' u' es/\B<=B'/\(∀e∈es,EvP S B' e)/\Stop a' u' B'):
 ∃(N:Nat) (b:Array Goroutine) (a':Goroutine) (u':World) (l:Option (Nat×Nat)) (m:Trace) (w:Nat->Nat) (B':Nat),runNT Q N (crowd gs u sl) t=(.next (crowd b u' l),m)/\b.size=gs.size/\b[0]? =some a'/\Stop a' u' B'/\ni Q S b B' m w:=by
 obtain⟨N,g,d,d',k,c,t1,v,s,r,p,n,o⟩:=pick0 _ gs u sl t q a (ZL _) x j hF;obtain⟨a',u',es,B',C,A,z,y⟩:=h d';have f:=runT_crowd_go (P:=Q) (sl:=c) (i:=0) r (show stepG Q (0==0) a (u.at d')=_ from C);refine⟨N+1,(g.map (woken Q a a' u')).setIfInBounds 0 a',a',u',c,t1++MemOp.ofEvents 0 a.frame.fn a.frame.place es,v,B',?_,(jv _ _ _).trans p,by rw[get_map_set_same _ _ _ n.pos],y,n.step0 (fn:=a.frame.fn) (pos:=a.frame.place) A z⟩
 have:runNT Q 1 (crowd g (u.at d) k) t1=(.next (crowd ((g.map (woken Q a a' u')).setIfInBounds 0 a') u' c),t1++MemOp.ofEvents 0 a.frame.fn a.frame.place es):=by
  simp only[runNT,o,f]
 rw[runNT_add,s];exact this
theorem end0 {sl}{a}(hF:ni Q S gs B t q)(D:gs[0]? =some a)(k:a.status=.running){Post}
 (h:∀d,∃v u' es,stepG Q true a (u.at d)=.ended (.done v) u' es/\(∀e∈es,EvP S B' e)/\B<=B'/\Post v u'):
 ∃N last o w' s,runNT Q (N+1) (crowd gs u sl) t=(.ended o w',s)/\runN Q N (crowd gs u sl)=.next last/\step Q last=.ended o w'/\Conc.Good Q Post last o w' s:=by
 obtain⟨N,l,d,d',c,m,t1,A,y,z,I,n,w⟩:=pick0 _ gs u sl t q a (ZL _) D k hF;obtain⟨v,u',es,H,G,F,E⟩:=h d';have b:=runT_many_ended (P:=Q) (sl:=m) (i:=0) z (show stepG Q (0==0) a (u.at d')=_ from H);have f:=n.step0 (u':=u') (g:=a) (a':=a) (fn:=a.frame.fn) (pos:=a.frame.place) F G;refine⟨N,crowd l (u.at d) c,.done v,u',t1++MemOp.ofEvents 0 a.frame.fn a.frame.place es,?_,?_,?_,v,rfl,E,f.ct.nr,f.over,⟨λx hx=>?_,rfl⟩,λj x hx r=>?_⟩
 .have:runNT Q 1 (crowd l (u.at d) c) t1=(.ended (.done v) u',t1++MemOp.ofEvents 0 a.frame.fn a.frame.place es):=by simp only[runNT,w,b]
  rw[runNT_add,y];exact this
 .rw[<-runNT_fst Q _ _ t,y]
 .simp only[step,w,b]
 .obtain⟨j,r⟩:=List.mem_iff_getElem?.1 hx
  rw[List.getElem?_drop]at r;exact⟨_,(n.old (1+j) x (by omega) (by simpa[crowd] using r)).leaves⟩
 .have C:=n.old j x (by omega) hx
  refine⟨A j,?_⟩
  have e:(t1++MemOp.ofEvents 0 a.frame.fn a.frame.place es).deaf j (t1++MemOp.ofEvents 0 a.frame.fn a.frame.place es).size=Deaf t1 j:=
   Deaf_other t1 (g:=j) (g':=0) (by omega) _ (λop p=>by obtain⟨e,_,rfl⟩:=Go.Conc.mem_ofEvents p;rfl)
  rw[e];exact C.hears _
end
end
section
open Go Go.Conc Go.ConcN
open Go.ConcR (stA smA rd wr mk)
section
variable {Sh Sh':Loc->Prop}{Own Rd Own' Rd':Nat->Loc->Prop}{t u:Trace}{j base B:Nat}
theorem CT.fam (h:CT Sh Own Rd t j)(m:∀k,1<=k->k<=j->∀l,Own' k l->Own k l\/∀i a,touchAt t i=some a->a.loc≠l)(c:∀k,1<=k->k<=j->∀l,Own k l->Own' k l)
 (hR:∀k,1<=k->k<=j->∀l,Rd' k l↔Rd k l):CT Sh Own' Rd' t j:=by
 refine⟨h.quiet,λk k1 b l hl=>?_,λk k1 b l hl=>h.rd k k1 b l ((hR k k1 b l).1 hl),λl hs hl=>h.free l hs λk k1 b=>⟨λx=>(hl k k1 b).1 (c k k1 b l x),λx=>(hl k k1 b).2 ((hR k k1 b l).2 x)⟩,
  λl hs hl=>h.mine l hs λk k1 b x=>hl k k1 b (c k k1 b l x),h.nr,h.gs⟩
 rcases m k k1 b l hl with d|f
 .exact h.own k k1 b l d
 .exact λi a g e=>absurd e (f i a g)
theorem CT.shun (h:CT Sh Own Rd t j)(d:∀l,Sh l->Sh' l)(e:∀l,Sh' l->Sh l\/∀i a,touchAt t i=some a->a.loc≠l):CT Sh' Own Rd t j:=by
 refine⟨λi op x c hx hs=>?_,h.own,h.rd,λl hs hl=>h.free l (λx=>hs (d l x)) hl,λl hs hl=>h.mine l (λx=>hs (d l x)) hl,h.nr,h.gs⟩;rcases e _ hs with b|b
 .exact h.quiet i op x c hx b
 .exact absurd rfl (b i x (by rw[touchAt_of c];exact hx))
structure TK (Sh:Loc->Prop)(a:Addr)(base B:Nat)(t:Trace):Prop where
 known:∀i x,touchAt t i=some x->¬Sh x.loc->Knows t 0 i\/∃g,t.g? i=some g/\base<g/\x.kind≠.atomic/\x.loc.isMemory=true
 over:∀i g,t.g? i=some g->g≠0->t.counts i->(∃p,t.g? p=some 0/\HappensBefore t i p)\/base<g
 nrel:NoRelease a t
 low:∀op∈t,op.act.low B
structure TI (Sh:Loc->Prop)(Own Rd:Nat->Loc->Prop)(a:Addr)(base j B:Nat)(t:Trace):Prop where
 ct:CT Sh Own Rd t (base+j)
 tk:TK Sh a base B t
theorem g?_of {i}{op}(h:t[i]? =some op):t.g? i=some op.g:=by simp[Trace.g?,h]
theorem g?_lt {p g}(h:t.g? p=some g):p<t.size:=by
 obtain⟨z,a,_⟩:=Option.map_eq_some_iff.1 (show(t[p]?).map (·.g)=some g from h);exact lt_size_of_getElem? a
theorem TK.grow {a}(h:TK Sh a base B t){B'}(r:B<=B')
 (q:∀op∈u,∀x,op.act.touch? =some x->¬Sh x.loc->op.g=0\/(base<op.g/\x.kind≠.atomic/\x.loc.isMemory=true))
 (o:∀op∈u,op.g≠0->¬base<op.g->op.act.touch? =none)(n:∀op∈u,op.act≠.mark (.release a))(hl:∀op∈u,op.act.low B'):TK Sh a base B' (t++u):=by
 refine⟨λi x hx hs=>?_,λi g l k hc=>?_,h.nrel.app n,λop f=>(Array.mem_append.1 f).elim (λf=>MemAct.low_mono r (h.low op f)) (hl op)⟩
 .obtain⟨y,hy,c⟩:=touch_of hx
  rcases getElem?_append_cases hy with⟨d,j⟩|⟨_,e⟩
  .rcases h.known i x (by rw[touchAt_of j];exact c) hs with b|⟨g,b,m⟩
   .exact .inl (b.app u)
   .exact .inr ⟨g,by rw[g?_old d];exact b,m⟩
  .rcases q y e x c hs with b|b
   .have:=knows_own hy
    rw[b]at this;exact .inl this
   .exact .inr ⟨y.g,g?_of hy,b⟩
 .obtain⟨x,hx,hm⟩:=hc
  obtain⟨y,hy,c⟩:=touch_of hx;rcases getElem?_append_cases hy with⟨d,j⟩|⟨_,e⟩
  .rw[g?_old d]at l
   rcases h.over i g l k ((counts_old d).1 ⟨x,hx,hm⟩)with⟨p,b,m⟩|b
   .exact .inl ⟨p,by rw[g?_old (g?_lt b)];exact b,hb_app u m⟩
   .exact .inr b
  .rw[g?_of hy]at l
   obtain rfl:=Option.some.inj l
   by_cases hb:base<y.g
   .exact .inr hb
   .rw[o y e k hb]at c;cases c
theorem TI.app0 {a}(A:Apart Sh Own Rd)(h:TI Sh Own Rd a base j B t){B'}(e:B<=B')(hu:∀op∈u,Ok0 Sh Own Rd (base+j) op)(d:∀op∈u,op.act≠.mark (.release a))(hl:∀op∈u,op.act.low B'):
 TI Sh Own Rd a base j B' (t++u):=
 ⟨h.ct.app0 A hu,h.tk.grow e (λop b _ _ _=>.inl (hu op b).1) (λop b c _=>absurd (hu op b).1 c) d hl⟩
theorem TI.appW {a}(A:Apart Sh Own Rd)(h:TI Sh Own Rd a base j B t){B' k}(f:B<=B')(k1:base<k)(c:k<=base+j)(hu:∀op∈u,OkW Sh Own Rd k op)
 (hp:∀op∈u,∀x,op.act.touch? =some x->¬Sh x.loc->x.kind≠.atomic/\x.loc.isMemory=true)(d:∀op∈u,op.act≠.mark (.release a))(hl:∀op∈u,op.act.low B'):TI Sh Own Rd a base j B' (t++u):=
 ⟨h.ct.appW A (by omega) c hu,h.tk.grow f (λop b x hx hs=>.inr ⟨by rw[(hu op b).1];exact k1,hp op b x hx hs⟩) (λop b _ e=>absurd (by rw[(hu op b).1];exact k1) e) d hl⟩
theorem TI.slip {a}(A:Apart Sh Own Rd)(h:TI Sh Own Rd a base j B t){k}(k1:1<=k)(kb:k<=base)(e:∀op∈u,op.g=k)(c:∀op∈u,op.act.touch? =none)(d:∀op∈u,op.act≠.mark (.release a))(hl:∀op∈u,op.act.low B):
 TI Sh Own Rd a base j B (t++u):=
 ⟨h.ct.appW A k1 (by omega) λop b=>⟨e op b,λx hx=>by rw[c op b]at hx;cases hx⟩,h.tk.grow (ZL _) (λop b x hx=>by rw[c op b]at hx;cases hx) (λop b _ _=>c op b) d hl⟩
theorem TI.fork {a}(A:Apart Sh Own Rd)(h:TI Sh Own Rd a base j B t){x y}(hx:x.g=0/\x.act=.go (base+j+1))(hy:y.g=base+j+1/\y.act=.start)(f:Deaf t 0=0):TI Sh Own Rd a base (j+1) B (t++ #[x,y]):=by
 have hm:∀op∈ #[x,y],op=x\/op=y:=λop b=>by simpa using b
 have d:∀op∈ #[x,y],op.act.touch? =none:=λop b=>by
  rcases hm op b with rfl|rfl
  .rw[hx.2];rfl
  .rw[hy.2];rfl
 refine⟨h.ct.fork A hx hy f,h.tk.grow (ZL _) (λop b z c=>by rw[d op b]at c;cases c) (λop b _ _=>d op b) (λop b e=>?_) (λop b=>?_)⟩
 .rcases hm op b with rfl|rfl
  .rw[hx.2]at e;cases e
  .rw[hy.2]at e;cases e
 .rcases hm op b with rfl|rfl
  .rw[hx.2];trivial
  .rw[hy.2];trivial
theorem TI.join {a}(h:TI Sh Own Rd a base j B t){q}(y:t.act? q=some (.mark (.acquire a)))(v:t.g? q=some 0)(z:t.heard q)(hw:∀g,base<g->g<=base+j->∃r,RelBy a t g r/\r<q):
 CT Sh NoFam NoFam t (base+j)/\t.HandedOver:=by
 have key:∀i g,t.g? i=some g->base<g->t.counts i->HappensBefore t i q:=by
  intro i g b hb hc;obtain⟨op,o,p⟩:=Option.map_eq_some_iff.1 (show(t[i]?).map (·.g)=some g from b);have hle:=h.ct.gs i op o;rw[p]at hle;obtain⟨r,e,n⟩:=hw g hb hle;have edge:HappensBefore t r q:=.single (.inr ⟨.marked n (.inr e.act) y (λk _ _=>h.tk.nrel k),e.heard,z⟩);have hle:i<=r:=Nat.le_of_not_lt λc=>e.after i c b hc
  rcases Nat.lt_or_ge i r with c|A
  .exact .trans (.single (.inl ⟨c,g,b,e.g⟩)) edge
  .obtain rfl:i=r:=by omega
   exact edge
 obtain⟨w,f,m⟩:=Option.map_eq_some_iff.1 (show(t[q]?).map (·.g)=some 0 from v)
 have u:∀l,¬Sh l->Perm t 0 l:=λl hs i x hx hl=>by
  rcases h.tk.known i x hx (hl▸hs)with d|⟨g,d,E,D,C⟩
  .exact d
  .exact⟨q,w,f,m,.inr (key i g d E ⟨x,hx,C,.inl D⟩)⟩
 refine⟨⟨h.ct.quiet,λk _ _ l hl=>hl.elim,λk _ _ l hl=>hl.elim,λl hs _=>u l hs,λl hs _=>PermW.of (u l hs),h.ct.nr,h.ct.gs⟩,λi g b s hc=>?_⟩;rcases h.tk.over i g b s hc with d|d
 .exact d
 .exact⟨q,v,key i g b d hc⟩
end
end
