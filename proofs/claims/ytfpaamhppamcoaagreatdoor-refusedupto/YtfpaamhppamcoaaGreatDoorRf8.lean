/- Part 8 of the proof. -/
import Derived.Test.YtfpaamhppamcoaaGreatDoorRf7
import Derived.Test.YtfpaamhppamcoaaGreatDoorProg
import Derived.Lib.Bytealg
import Derived.Great.LaidInts
import Derived.SevenTiedAt
import Derived.LaidOnce
set_option linter.all false
set_option maxRecDepth 100000
set_option maxHeartbeats 60000000
namespace Go.Proofs.YtfpaamhppamcoaaGreatDoor
open Go.Proofs.Tryz
section
open Go Go.Conc Go.ConcN Go.RowKit Go.Conc.Lib
open Go.ConcR (KK wgBlock WgAt stA smA rd wr mk Payload DC0)
def iR (c:Nat->Int)(i:Nat):Nat:=((List.range 4).filter λj=>decide (i<=j)&&decide (0<c j)).length
def qR (c:Nat->Int):List Nat:=(List.range 4).filter λj=>decide (0<c j)
def Ad (c:Nat->Int)(k:Nat):Nat:=17*(qR c)[k]?.getD 0
def pq (c:Nat->Int)(vd:Nat->Array Value)(k:Nat):List Value:=(vd ((qR c)[k]?.getD 0)).toList
def mK (x:Nat):Value:=dQ.getD x undef
def four {P:Nat->Prop}(d:P 0)(c:P 1)(b:P 2)(a:P 3):∀i,i<4->P i:=λi e=>by
 obtain rfl|rfl|rfl|rfl:i=0\/i=1\/i=2\/i=3:=by omega
 .exact d
 .exact c
 .exact b
 .exact a
def Ho:List.range 4=[0,1,2,3]:=rfl
def Sc (c):iR c 4=0:=by simp[iR,Ho]
def yV (c):∀i,i<4->iR c i=iR c (i+1)+if 0<c i then 1 else 0:=by
 refine four ?_ ?_ ?_ ?_<;>(simp only[iR,Ho];by_cases e:0<c 0<;>by_cases d:0<c 1<;>by_cases b:0<c 2<;>by_cases a:0<c 3<;>simp[e,d,b,a])
def JM (c)(vd):∀i,i<4->0<c i->Ad c (iR c 0-(iR c (i+1)+1))=17*i/\pq c vd (iR c 0-(iR c (i+1)+1))=(vd i).toList:=by
 refine four ?_ ?_ ?_ ?_<;>(intro a;simp only[Ad,pq,qR,iR,Ho];by_cases f:0<c 0<;>by_cases e:0<c 1<;>by_cases d:0<c 2<;>by_cases b:0<c 3<;>simp_all)
def Ex (c):∀k,k<iR c 0->∃i,i<4/\0<c i/\(qR c)[k]? =some i:=by
 intro k b;have e:iR c 0=(qR c).length:=by unfold iR qR;congr 1
 have a:k< (qR c).length:=by omega
 refine⟨(qR c)[k],?_,?_,by simp[a]⟩
 .have:=acY a
  simpa using (adp.1 this).1
 .have:=acY a
  simpa using (adp.1 this).2
def MI (c){k k'}(d:k<iR c 0)(b:k'<iR c 0)(h:(qR c)[k]? =(qR c)[k']?):k=k':=by
 have e:iR c 0=(qR c).length:=by unfold iR qR;congr 1
 have a:(qR c).Nodup:=adx _ List.nodup_range;exact(List.getElem?_inj (by omega) a).1 h
def PR (c):iR c 0<=4:=ZP (List.length_filter_le _ _) (by simp)
def WU (c)(vd)(e:∀i,i<4->0<c i->(vd i).size=17):pg 68 (iR c 0) (Ad c) (pq c vd):=by
 have key:∀k,k<iR c 0->∃i,i<4/\(qR c)[k]? =some i/\Ad c k=17*i/\(pq c vd k).length=17:=λk a=>by
  obtain⟨i,g,f,d⟩:=Ex c k a;refine⟨i,g,d,?_,?_⟩
  .simp[Ad,d]
  .simp[pq,d,e i g f]
 refine⟨PR c,λk a=>?_,λk a=>?_,λk k' x a b m a2 a3 a4=>?_⟩
 .obtain⟨i,_,_,_,h⟩:=key k a;omega
 .obtain⟨i,g,_,d,h⟩:=key k a;omega
 .obtain⟨i,_,f,d,l⟩:=key k a
  obtain⟨j,_,g2,g3,g4⟩:=key k' b;have:i=j:=by omega
  subst this;exact MI c a b (f.trans g2.symm)
def Bh {Q}{ty}{Wg}{St}:∀(n:Nat) (g:Goroutine) (w:World),WgLive ty Wg w->Goes Q true (RL ty Wg) DC0 St n g w->Goes Q true (λw a=>∃d,a=w.at d) DC0 St n g w
 |0,g,w,hl,h=>λa ⟨d,e⟩=>h a (by subst e;exact hl)
 |n+1,g,w,hl,h=>by
  rcases h with h|⟨c,h⟩
  .exact .inl λa ⟨d,e⟩=>h a (by subst e;exact hl)
  .refine .inr ⟨c,λa ⟨d,e⟩=>?_⟩
   have b:WgLive ty Wg a:=(by subst e;exact hl);have:=h a b
   revert this
   cases stepG Q true g a<;>simp only[GStep.goes,imp_self]
   rintro⟨⟨rfl,rfl⟩,x⟩;exact⟨⟨rfl,rfl⟩,Bh n _ _ b x⟩
def WG (vb:Value)(c:Nat->Int)(j:Nat):Value:=if j=0 then vb else if j=1 then .agg (aQ c)else undef
def Te (vb)(c): #[vb,.agg (aQ c)]++Array.replicate 20 undef=JT (WG vb c):=by kernel_rfl
def R4 (vb)(c):Frame.enter prog 42 #[vb,.agg (aQ c)] .normal=(base 42).at ⟨JT (WG vb c),[]⟩ [.code (.seq (mI f42 0) (.seq (mI f42 1) (.seq (mI f42 2) (.seq (.seq (mI f42 3) (.block 0 (.loop (xP f42)))) (.seq (mI f42 10) (.seq (mI f42 11) .ret))))))]:=by
 rw[enter_at _ rE xV,Ro,show 22-(#[vb,Value.agg (aQ c)]:Array Value).size=20 from rfl,Te]
def Kv {V VV}{b}{bs}{t}(l:t 5=ptr VV){u}(a:u.heap[VV]? =some (.cells #[ko V] 87)):
 aC prog true (λx=>x=VV) (λg _ _=>g=df (b.finish (ko V)) bs) (G (BX f42 t []) (b::bs)) u (λ_=>False):=by
 have i:(base 42).kind≠.early:=by decide
 have k:Holds (λx=>x=VV) [(VV,.cells #[ko V] 87)] u (λ_=>False):=λx hx=>by
  simp only[ZW,adm,or_false]at hx;subst hx;exact⟨.inr rfl,(ZK.1 a).1,a⟩
 refine mW (jo (fu (iN 11 2 rfl) ?_));refine nR Yo i k (v:=ko V) (λo az j hl=>?_) ?_
 .rw[tC j,bQ _ _ (by decide),l]
  obtain⟨d,h,f⟩:=qL;obtain⟨es,c,m⟩:=xy h f (hl _ ZX).2.2;refine⟨es,gm c,λe he=>?_⟩;obtain⟨x,rfl⟩:=m e he;exact .inl ⟨VV,.inr ⟨_,rfl,rfl⟩,rfl,.inr ⟨rfl,rfl⟩⟩
 refine xZ (.inr Yn) i ((bQ _ _ (by decide)).trans (cK _ _ _)) ?_;refine mW (aC.ctl rfl (λ_=>stepG_ret') ?_);have c:Func.results f42= #[.tmp 4]:=by kernel_rfl
 refine aC.ctl (g':=G (b.finish (ko V)) bs) rfl (λaz=>?_) (aC.stop λ_ _=>rfl);refine stepG_leave (fn:=f42) rfl rfl rE ?_ ?_
 .rw[results_tmp c]
  show Result.ok ((JT _).getD 4 undef) az=_
  rw[Ov _ (by decide),cK]
 .exact events_results_tmp c _ _
section
variable [Payload]
def Al (D:Payload.ety=91){S}{gs}{u}{sl}{t}{q}{b}{bs}{B'}{c}{vd:Nat->Array Value}
 (hF:ni prog S gs u.heap.size t q)(h0:gs[0]? =some (df (Frame.enter prog 42 #[ptr B',.agg (aQ c)] .normal) (b::bs)))(F:∀i,i<4->0<c i->(vd i).size=17)
 (HW:∀(bb V VV Wg:Nat) (aL:World),(∀d,d<u.heap.size->aL.heap[d]? =u.heap[d]?)->u.heap.size<=bb->bb<V->V<VV->VV<Wg->Wg<aL.heap.size->aL.heap[bb]? =some (.cells #[ptr B'] 31)->aL.heap[VV]? =some (.cells #[ko V] 87)->aL.tape=u.tape->
  ∀(r X Y:Nat) (az:World) (M₀:Nat->Prop),r<4->0<c r->M₀ X->M₀ Y->X<Y->Holds (λx=>x<aL.heap.size/\x≠V/\x≠Wg/\¬S x) [(X,.cells #[.int .i64 r] 3),(Y,.cells #[.int .i64 (c r)] 3)] az M₀->
   bF (λx=>x<aL.heap.size/\x≠V/\x≠Wg/\¬S x) (λ_=>False) aL az->(∀d,M₀ d->aL.heap.size<=d)->
   aC prog false (λx=>x<aL.heap.size/\x≠V/\x≠Wg/\¬S x) (kg prog link.tWg Wg V 68 (17*r) (vd r).toList) (born prog (rP Wg bb X Y VV)) az M₀):
 ∃(N:Nat) (L:Array Goroutine) (u':World) (δ:Option (Nat×Nat)) (t':Trace) (q':Nat->Nat) (V Wg:Nat) (cs:Array Value),runNT prog N (crowd gs u sl) t=(.next (crowd L u' δ),t')/\L[0]? =some (df (b.finish (ko V)) bs)/\ni prog (λx=>S x\/x=Wg) L u'.heap.size t' q'/\
  u'.tape=u.tape/\u'.os=u.os/\u'.output=u.output/\u.heap.size<=u'.heap.size/\(∀d,d<u.heap.size->u'.heap[d]? =u.heap[d]?)/\u.heap.size<=V/\V≠Wg/\u.heap.size<=Wg/\u'.heap[V]? =some (.cells cs 91)/\cs.size=68/\
  (∀i,i<4->0<c i->∀o,o<17->cs[17*i+o]? =(vd i)[o]?)/\∀i,i<4->¬0<c i->∀o,o<17->cs[17*i+o]? =some (mK (17*i+o)):=by
 have I:(base 42).kind≠.early:=by decide
 have R:=K6 (K:=λ_=>False) (M:=λ_=>False) (u:=u) (cs:=b::bs) (f:=WG (ptr B') c) (vb:=ptr B') (c:=c) (λ_ h=>h) rfl rfl rfl;rw[R4]at h0;obtain⟨N1,Θ,g1,u1,γ,t1,q1,M1,r1,r2,⟨f,bb,wb,V,VV,hP⟩,r4,Q⟩:=I7 R gs sl t q hF h0 (λ_ h=>h.elim (λh=>h.elim) λh=>h.elim);obtain⟨rfl,f2,f3,f5,hH,hm,ν,Γ,ω,μ,U⟩:=hP;have y:=λd hd=>Q.keep d hd (λh=>h)
 obtain⟨o,o1,o2,o3,o4⟩:=YE;have κ:=λw=>gm (Cr w)
 obtain⟨N2,Δ,g2,u2,χ,t2,q2,B2,s1,s2,s3,⟨rfl,d2,rfl,rfl⟩,s5⟩:=MQ (sl:=γ) (Stop:=λg' u' B'=>B'=u1.heap.size/\∃d,g'=G ((base 42).at ⟨JT (up f 6 (ptr u1.heap.size)),[]⟩ (.inRegion (AJ f42 2) []::MG f42)) (b::bs)/\u'=(u1.at d).alloc (wgBlock 130 0 0)) r4 r2 rfl λd=>by
  have e':(execOp (Act.mk (JT f) []).eval o).runT prog (u1.at d) #[]=(.ok (.value (ptr u1.heap.size)) ((u1.at d).alloc (wgBlock 130 0 0)),#[]):=by rw[mr o2];exact κ (u1.at d)
  rw[Sem.runT_eq,Prod.mk.injEq]at e';refine⟨_,_,_,u1.heap.size,stepG_value o1 (bq o4 _) I e'.1,ZL _,λev he=>?_,rfl,d,?_,rfl⟩
  .rw[nQ e'.2]at he
   simp at he
  .rw[o3,qi]
 obtain⟨Wg,C⟩:∃Wg,Wg=u1.heap.size:=⟨_,rfl⟩;obtain⟨u2,a⟩:∃u2,u2=(u1.at d2).alloc (wgBlock 130 0 0):=⟨_,rfl⟩;rw[<-C]at s3 s5 U;rw[<-a]at s1;have φ:u2.heap.size=Wg+1:=by rw[a,fo,C];rfl
 have j:∀d,d<Wg->u2.heap[d]? =u1.heap[d]?:=λd hd=>by rw[a,alloc_old _ _ (by rw[C]at hd;exact hd)];rfl
 have z:u2.heap[Wg]? =some (wgBlock 130 0 0):=by rw[a,C];exact tN _ _
 have hS:=hF.sh;have A:=λx hx=>(j _ (by have:=(hH x hx).2.1;omega)).trans (hH x hx).2.2
 have b1:=A (bb,_) ZX;have b2:=A (wb,_) (ac1 _ ZX);have b3:=A (V,_) (ac1 _ (ac1 _ ZX));have b4:=A (VV,_) (ac1 _ (ac1 _ (ac1 _ ZX)));have p:u2.tape=u.tape:=by rw[a];exact Q.tape
 obtain⟨K,hK⟩:∃K:Nat->Prop,K=λx=>x<u2.heap.size/\x≠V/\x≠Wg/\¬S x:=⟨_,rfl⟩
 have ο:∀d,K d->d<u2.heap.size:=λd hd=>by rw[hK]at hd;exact hd.1
 have H:WgLive link.tWg Wg u2:=⟨0,0,z⟩;have n:=HW bb V VV Wg u2 (λd hd=>(j d (by omega)).trans (y d hd)) ν (by omega) μ U (by omega) b1 b4 p;rw[<-hK]at n
 have ξ:Sr prog link.tWg Wg V 68 K (S8 f42 link Wg VV (b::bs)) (iR c 0) (Ad c) (pq c vd) (iR c 0) (G ((base 42).at ⟨JT (up f 6 (ptr Wg)),[]⟩ (.inRegion (AJ f42 2) []::MG f42)) (b::bs)) u2 (λ_=>False):=by
  rw[xg];refine mW (jo (jo (fu (iN 3 2 rfl) ?_)))
  have hL:Holds K [(wb,.cells (aQ c) 37)] u2 (λ_=>False):=λx hx=>by
   simp at hx;subst hx;refine⟨.inr ?_,by simp only;omega,b2⟩;rw[hK];exact⟨by omega,by omega,by omega,λh=>by have:=hS _ h;omega⟩
  refine nR YD I hL (v:=.agg (aQ c)) (λo az Z hl=>?_) ?_
  .rw[tC Z,bQ _ _ (by decide),bH _ _ (by decide),f3]
   obtain⟨es,e1,e2⟩:=G6 (hl _ ZX).2.2;refine⟨es,gm e1,λe he=>?_⟩;obtain⟨x,rfl⟩:=e2 e he;exact .inl ⟨wb,.inr ⟨_,rfl,rfl⟩,rfl,.inr ⟨(hL _ ZX).1.resolve_left (λh=>h),rfl⟩⟩
  refine xZ (.inl YC) I (jS _ _ _) ?_;refine mW (JP (RI ?_))
  have:=rounds (vd:=vd) (bb:=bb) (V:=V) (VV:=VV) (cs:=b::bs) (cnt:=iR c) (nW:=iR c 0) (off:=Ad c) (vals:=pq c vd) H (Sc c) (yV c) (JM c vd) ο n 4 0 rfl (up (up (up f 6 (ptr Wg)) 10 (.agg (aQ c))) 11 (.int .i64 0)) u2 (λ_=>False)
   ⟨by rw[bH _ _ (by decide),bH _ _ (by decide),bH _ _ (by decide)];exact f2,by rw[bH _ _ (by decide),bH _ _ (by decide),bH _ _ (by decide)];exact f5,by rw[bH _ _ (by decide),bH _ _ (by decide),cK],by rw[bH _ _ (by decide),cK],by rw[cK];rfl⟩ (bF.refl _ _ _) (λ_ h=>h.elim)
  rw[xg]at this;exact this
 obtain⟨N3,m3,t3,p1,τ,u3,β,q3,υ,rfl,⟨E,p2,tt,h5,J⟩,l,p4,p5,p6,p7,p8,p9,θ,η,ζ,ε⟩:=Ri (B:=Wg) (K:=K) (zero:=mK) (gE:=UM f42 prog link.tWg Wg VV (b::bs)) (WU c vd F) (λg w h=>F9 g w h) (λg w hl h=>LV g w hl h) s5 s3 ξ (ZL _) (by omega) (by omega) (by omega) (λh=>by have:=hS _ h;omega)
  (λx hx=>by rw[hK]at hx;exact hx) z (by rw[D];exact b3) (by kernel_rfl) (λx hx=>by unfold mK;rw[ZY];simp[show x<dQ.size from hx])
 obtain⟨m,hgo⟩:=J u3 l;obtain⟨N4,σ,g4,d4,P,t4,q4,w1,w2,rfl,w4⟩:=Uv (λw d=>⟨d,rfl⟩) m E u3 τ β t3 q3 (Bh m E u3 l hgo) p4 p2;have W:=(p9 VV (by omega) (by omega) (by omega)).trans b4
 obtain⟨N5,ρ,g5,u5,α,t5,q5,M5,x1,x2,rfl,x4,O⟩:=I7 (Kv (b:=b) (bs:=bs) h5 (u:=u3.at d4) W) σ P t4 q4 w4 w2 (λx hx=>hx.elim (λh=>h.elim) λh=>by
  have ψ:=h;exact⟨by show x<u3.heap.size;omega,λhs=>hs.elim (λh=>by have:=hS _ h;omega) λh=>by omega⟩)
 have s:∀d,d<u3.heap.size->u5.heap[d]? =u3.heap[d]?:=λd hd=>O.keep d hd (λh=>h)
 have z5:u3.heap.size<=u5.heap.size:=O.size;refine⟨N1+(N2+(N3+(N4+N5))),ρ,u5,α,t5,q5,V,Wg,υ,?_,x2,x4,?_,?_,?_,by have:=Q.size;omega,λd hd=>?_,by omega,by omega,by omega,?_,η,?_,?_⟩
 .rw[runNT_add,r1]
  simp only;rw[runNT_add,s1];simp only;rw[runNT_add,p1];simp only;rw[runNT_add,w1];exact x1
 .rw[O.tape];exact(rfl).trans (p5.trans p)
 .rw[O.os];exact(rfl).trans (p6.trans (by rw[a];exact Q.os))
 .rw[O.output];exact(rfl).trans (p7.trans (by rw[a];exact Q.output))
 .rw[s d (by omega),p9 d (by omega) (by omega) (by omega),j d (by omega),y d hd]
 .rw[s V (by omega),θ,D]
 .intro i hi hc o Z
  obtain⟨k,I,ι,T⟩:∃k,k<iR c 0/\Ad c k=17*i/\pq c vd k=(vd i).toList:=by
   have:=yV c i hi;rw[if_pos hc]at this
   have hle:iR c (i+1)+1<=iR c 0:=by
        have h0:=yV c 0 (by omega);have h1:=yV c 1 (by omega);have h2:=yV c 2 (by omega);obtain rfl|rfl|rfl|rfl:i=0\/i=1\/i=2\/i=3:=by omega
        all_goals(simp at*;omega)
   exact⟨_,by omega,JM c vd i hi hc⟩
  have:=ζ k I o (by rw[T,adG,F i hi hc];exact Z);rw[ι,T]at this;rw[this];simp
 .intro i hi hc o Z
  refine ε (17*i+o) (by omega) λk I hh=>?_
  obtain⟨i',g1,g2,g3⟩:=Ex c k I;have e1:Ad c k=17*i':=by simp[Ad,g3]
  have e2:(pq c vd k).length=17:=by simp[pq,g3,F i' g1 g2]
  have:i=i':=by omega
  exact hc (this▸g2)
end
end
section
open Go Go.Conc Go.ConcN Go.RowKit
def vF (w:World)(Z:Nat->Prop)(v:Value)(n:Nat)(R:Nat->Int):Prop:=∃ao cap,v=.slice ao n cap/\n<=cap/\n<=9223372036854775807/\(0<n->∃b o,ao=some ⟨b,o,none⟩/\∀i,i<n->w.cell? ⟨b,o+i,none⟩=some (.int .i64 (R i)))/\∀x,ao=some x->Z x.block/\cap≠0
def Xj (w:World)(Z:Nat->Prop)(b o D:Nat):Prop:=∃(nm:ByteArray) (A:Nat->Option Addr) (N C:Nat->Nat) (R:Nat->Nat->Int),
 w.cell? ⟨b,o,none⟩=some (.string nm)/\(∀q,q<4->w.cell? ⟨b,o+1+q,none⟩=some (.slice (A q) (N q) (C q)))/\(∀q,q<4->vF w Z (.slice (A q) (N q) (C q)) (N q) (R q))/\(∀q,q<4->∀i,i<N q->-9223372036854775808<=R q i/\R q i<9223372036854775808)/\22*(N 0+N 1+N 2+N 3)+10*nm.size<=D
def je (w:World)(Z:Nat->Prop)(v:Value)(n D:Nat):Prop:=∃ao cap,v=.slice ao n cap/\n<=cap/\n<=1000000/\D<=1000000/\(0<n->∃b o,ao=some ⟨b,o,none⟩/\∀i,i<n->Xj w Z b (o+i*5) D)/\∀x,ao=some x->Z x.block/\cap≠0
def NV {K}{st}{p:Rel st}{w u}{G b c}(hw:WR G K p w u)(hp:p b c)(h:CB w b):CB u c:=by
 obtain⟨xs,e,g,hb⟩:=h;obtain⟨d,ys,j,f,g',a,i,_⟩|⟨_,_,_,a,_⟩|⟨_,_,_,a,_⟩:=hw.rows b c hp
 .exact⟨ys,j,g',i⟩
 .rw[hb]at a;cases a
 .rw[hb]at a;cases a
def QP {st:Prop}(p:Rel st)(u:World)(Z:Nat->Prop)(c:Nat):Prop:=CB u c/\∃b,p b c/\Z b
def um {K}{st}{p:Rel st}{w u}{Z}{G n cap}{ao}{x}(hw:WR G K p w u)(s:∀b,Z b->CB w b)(r:VR p (.slice ao n cap) x)(hx:∀x,ao=some x->Z x.block/\cap≠0):
 ∃c,x=.slice c n cap/\(∀x,c=some x->QP p u Z x.block/\cap≠0)/\∀b o,ao=some ⟨b,o,none⟩->∃j,c=some ⟨j,o,none⟩/\p b j:=by
 obtain⟨c,rfl,l⟩:=r.bD;refine⟨c,rfl,λx k=>?_,λb o hb=>?_⟩
 .subst k
  cases ao with
  |none=>exact l.elim
  |some a=>
   obtain⟨q,m⟩:=hx a rfl;obtain⟨a',e,i⟩:=l.aO;cases e;have hp:=(i.resolve_right λh=>m h.1.2).1;exact⟨⟨NV hw hp (s _ q),_,hp,q⟩,m⟩
 .subst hb
  obtain⟨a',rfl,i⟩:=l.aO;replace i:=i.resolve_right λh=>(hx _ rfl).2 h.1.2
  obtain⟨j,t,s'⟩:=a';obtain⟨g,f,d⟩:=i;simp only at g f d;subst f d;exact⟨j,rfl,g⟩
def vF.carry {K}{st}{p:Rel st}{w u}{Z}{G}{v x}{n}{R}(h:vF w Z v n R)(hw:WR G K p w u)(l:∀b,Z b->CB w b)(g:VR p v x):vF u (QP p u Z) x n R:=by
 obtain⟨ao,cap,rfl,s,r,q,m⟩:=h;obtain⟨c,rfl,k1,f⟩:=um hw l g m;refine⟨c,cap,rfl,s,r,λj=>?_,k1⟩;obtain⟨b,o,e,hb⟩:=q j;obtain⟨d,t,hp⟩:=f b o e;refine⟨d,o,t,λi k=>?_⟩;obtain⟨y,g1,g2⟩:=hw.cell (a:=⟨b,o+i,none⟩) (b:=⟨d,o+i,none⟩) ⟨hp,rfl,rfl⟩ (hb i k);rw[g2.bT]at g1;exact g1
def je.carry {K}{st}{p:Rel st}{w u}{Z}{G}{v x}{n D}(h:je w Z v n D)(hw:WR G K p w u)(l:∀b,Z b->CB w b)(m:VR p v x):je u (QP p u Z) x n D:=by
 obtain⟨ao,cap,rfl,H,F,t,E,B⟩:=h;obtain⟨k,rfl,k1,j⟩:=um hw l m B;refine⟨k,cap,rfl,H,F,t,λr=>?_,k1⟩;obtain⟨b,o,e,hb⟩:=E r;obtain⟨g,I,hp⟩:=j b o e;refine⟨g,o,I,λi s=>?_⟩;obtain⟨nm,A,N,C,R,f1,f2,f3,f4,f5⟩:=hb i s;obtain⟨y,g1,g2⟩:=hw.cell (a:=⟨b,o+i*5,none⟩) (b:=⟨g,o+i*5,none⟩) ⟨hp,rfl,rfl⟩ f1;rw[g2.bO]at g1
 have key:∀q,∃c,q<4->u.cell? ⟨g,o+i*5+1+q,none⟩=some (.slice c (N q) (C q))/\vF u (QP p u Z) (.slice c (N q) (C q)) (N q) (R q):=λq=>by
  by_cases d:q<4
  .obtain⟨z,k1,j⟩:=hw.cell (a:=⟨b,o+i*5+1+q,none⟩) (b:=⟨g,o+i*5+1+q,none⟩) ⟨hp,rfl,rfl⟩ (f2 q d)
   obtain⟨c,e,_⟩:=j.bD;subst e;exact⟨c,λ_=>⟨k1,(f3 q d).carry hw l j⟩⟩
  .exact⟨none,λh=>absurd h d⟩
 obtain⟨c,f⟩:∃c:Nat->Option Addr,∀q,q<4->u.cell? ⟨g,o+i*5+1+q,none⟩=some (.slice (c q) (N q) (C q))/\vF u (QP p u Z) (.slice (c q) (N q) (C q)) (N q) (R q):=⟨λq=>(key q).choose,λq=>(key q).choose_spec⟩;exact⟨nm,c,N,C,R,g1,λq d=>(f q d).1,λq d=>(f q d).2,f4,f5⟩
def vF.same {w u}{Z Z'}{v}{n}{R}(h:vF w Z v n R)(c:∀b,Z b->Z' b)(hc:∀a v,w.cell? a=some v->jH Z v->u.cell? a=some v):vF u Z' v n R:=by
 obtain⟨ao,cap,e,l,k,j,d⟩:=h;exact⟨ao,cap,e,l,k,λf=>let ⟨b,o,x,y⟩:=j f;⟨b,o,x,λi g=>hc _ _ (y i g) trivial⟩,λx hx=>⟨c _ (d x hx).1,(d x hx).2⟩⟩
def vF.pure {w}{Z}{v}{n}{R}(h:vF w Z v n R):jH Z v:=by
 obtain⟨ao,cap,rfl,e,d,c,b⟩:=h;cases ao with
 |none=>trivial
 |some a=>exact(b a rfl).1
def je.pure {w}{Z}{v}{n D}(h:je w Z v n D):jH Z v:=by
 obtain⟨ao,cap,rfl,f,e,c,d,b⟩:=h;cases ao with
 |none=>trivial
 |some a=>exact(b a rfl).1
def je.same {w u}{Z Z'}{v}{n D}(h:je w Z v n D)(c:∀b,Z b->Z' b)(hc:∀a v,w.cell? a=some v->jH Z v->u.cell? a=some v):je u Z' v n D:=by
 obtain⟨ao,cap,e,p,m,k,l,f⟩:=h;refine⟨ao,cap,e,p,m,k,λg=>?_,λx hx=>⟨c _ (f x hx).1,(f x hx).2⟩⟩;obtain⟨b,o,x,y⟩:=l g;refine⟨b,o,x,λi j=>?_⟩;obtain⟨nm,A,N,C,R,f1,f2,f3,f4,f5⟩:=y i j;exact⟨nm,A,N,C,R,hc _ _ f1 trivial,λq d=>hc _ _ (f2 q d) (f3 q d).pure,λq d=>(f3 q d).same c hc,f4,f5⟩
def JJ (f:FuncId)(x:Array Value)(w:World):Prop:=
 (f=340->∃B D a,zk x=ptr B/\bM w a B D/\D.ok/\tX w a/\a B)/\(f=341->∃c:Nat->Int,zk x=.agg (aQ c))/\(f=342->∃n D,je w (CB w) (zk x) n D)
def mE {w u:World}(h:u.heap=w.heap):∀a v,w.cell? a=some v->u.cell? a=some v:=λa v b=>by
 unfold World.cell? at b⊢;rw[h];exact b
def uS {w u}(h:u.heap=w.heap){Z}{B}{D}(hb:bM w Z B D):bM u Z B D:=hb.same (λ_ h=>h) (mE h)
def uT {w u}(h:u.heap=w.heap){B}{D}(hb:aW w B D):aW u B D:=hb.same (λ_ h=>h) (mE h)
def A9 {w u}(h:u.heap=w.heap){Z}(hc:tX w Z):tX u Z:=λb hb=>by rw[h];exact hc b hb
def rY {f}{x}{w u}(h:u.heap=w.heap)(i:JJ f x w):JJ f x u:=
 ⟨λe=>let ⟨B,D,Z,a,b,c,d,z⟩:=i.1 e;⟨B,D,Z,a,uS h b,c,A9 h d,z⟩,i.2.1,λe=>let ⟨n,D,b⟩:=i.2.2 e;⟨n,D,b.same (λ_ ⟨xs,e,g,hb⟩=>⟨xs,e,g,by rw[h];exact hb⟩) λa v j _=>mE h a v j⟩⟩
def Qo:∀f x w T,JJ f x (ay w T)->JJ f x w:=λ_ _ w T h=>rY (w:=ay w T) (u:=w) rfl h
def F4 (x)(n):(x++Array.replicate n undef).getD 0 undef=zk x:=by
 unfold zk;rw[ZY,ZY]
 by_cases h:0<x.size
 .rw[Array.getElem?_append_left h]
 .have:x= #[]:=Array.eq_empty_of_size_eq_zero (by omega)
  subst this;cases n<;>simp
def I5 {P}{f f'}{x a}(h:Frame.enter P f' a .normal=Frame.enter P f x .normal):f'=f/\zk a=zk x:=by
 have e:=congrArg Frame.fn h;have d:=congrArg Frame.tmps h;have b:f'=f:=e;subst b;refine⟨rfl,?_⟩;have c:a++Array.replicate (((P.funcs[f']?).map (·.ntmps)).getD 0-a.size) undef=x++Array.replicate (((P.funcs[f']?).map (·.ntmps)).getD 0-x.size) undef:=d;rw[<-F4 a,<-F4 x,c]
def CO (t:Nat):Array Oper:= #[bg (some t) (.move (.const (.bool true))),bg (some t) (.move (.const (.bool false)))]
def xB:Code->Code
 |.seq _ (.seq _ (.seq _ (.seq _ r)))=>r
 |c=>c
def jK:(eD 340 f42).body=some (.seq (.region 90 (CO 22) true) (.seq (.cond (.tmp 22) (.region 91 #[bg none (bX 340 #[.tmp 0])] false) .skip) (.seq (.region 92 (CO 23) true) (.seq (.cond (.tmp 23) (.region 93 #[bg none (bX 341 #[.tmp 1])] false) .skip) (xB ((eD 340 f42).body.getD .skip)))))):=by kernel_rfl
def sK:(patch ae prog).funcs[42]? =some (eD 340 f42):=by
 have h:=iO ae prog rE;rw[jN]at h;rw[h];rfl
def OY (m:Bool)(t:Nat):Prop:=Region.schedule m (CO t) 0=[0,1]/\Region.schedule m (CO t) 1=[1,0]
def Ms (m)(t)(a:t=22\/t=23\/t=1):OY m t:=by
 rcases a with rfl|rfl|rfl<;>cases m
 .exact⟨by kernel_rfl,by kernel_rfl⟩
 .exact⟨by kernel_rfl,by kernel_rfl⟩
 .exact⟨by kernel_rfl,by kernel_rfl⟩
 .exact⟨by kernel_rfl,by kernel_rfl⟩
 .exact⟨by kernel_rfl,by kernel_rfl⟩
 .exact⟨by kernel_rfl,by kernel_rfl⟩
def base_kind (n):(base n).kind≠.early:=by show CallKind.normal≠_;decide
def GV {P}{main}{b:Frame}{a}{k}{cs}{id}{ops}(w):
 stepG P main (G (b.at a (.code (.region id ops true)::k)) cs) w=.go (G (b.at a (.inRegion ops (Region.schedule (P.follows .mixedOrders) ops (w.tape w.drawn (.order b.fn id)))::k)) cs) w.drew #[]:=by
 have d:(Question.order b.fn id).forced=false:=rfl;have c:∀n,(Question.order b.fn id).cut n=n:=λ_=>rfl
 simp[G,stepG,stepG.exec,Frame.at,d,c]
section
variable {C0:iG}{R:Value->World->Prop}{fs:List Frame}
def tj {fb}{a a'}{k k'}{w w'}(T)(h:bI (patch ae prog) C0 R JJ ((base fb).at a k) fs w)(b:fb∉C0.sp)
 (hs:∃es,stepG (patch ae prog) true (G ((base fb).at a k) (fs++[stop (patch ae prog)])) (ay w T)=.go (G ((base fb).at a' k') (fs++[stop (patch ae prog)])) w' es):bI (patch ae prog) C0 R JJ ((base fb).at a' k') fs w':=
 let ⟨_,hs⟩:=hs
 Ml T h rfl (λf x hf e=>b (by have:=congrArg Frame.fn e;rw[show(Frame.enter (patch ae prog) f x .normal).fn=f from rfl]at this;rw[show fb=f from this];exact hf)) hs
def OM {fb N}(c:fb∉C0.sp){X}{id t n}{k}{w}(B:t=22\/t=23\/t=1)(d:t<N)(y:n=0\/n=1)(p:X.size=N)
 (h:bI (patch ae prog) C0 R JJ ((base fb).at ⟨X,[]⟩ (.code (.region id (CO t) true)::k)) fs w):
 ∃(w':World) (r:Array Value),w'.heap=w.heap/\r.size=N/\r.getD t undef=.bool (n==1)/\(∀j,j≠t->r.getD j undef=X.getD j undef)/\bI (patch ae prog) C0 R JJ ((base fb).at ⟨r,[]⟩ k) fs w':=by
 have e:∀m,Region.schedule m (CO t) n=if n=0 then [0,1]else [1,0]:=λm=>by
  obtain⟨a,b⟩:=Ms m t B;rcases y with rfl|rfl
  .simpa using a
  .simpa using b
 have q:=tj (λ_ _=>n) h c (k':=.inRegion (CO t) (if n=0 then [0,1]else [1,0])::k) (w':=(ay w λ_ _=>n).drew) (a':=⟨X,[]⟩) ⟨#[],by rw[GV,<-e];rfl⟩
 have g:∀(i:Nat) (v:Value) (l:List Nat) (X:Array Value) (w:World),(i=0/\v=.bool true\/i=1/\v=.bool false)->bI (patch ae prog) C0 R JJ ((base fb).at ⟨X,[]⟩ (.inRegion (CO t) (i::l)::k)) fs w->
  bI (patch ae prog) C0 R JJ ((base fb).at ⟨X.setIfInBounds t v,[]⟩ (.inRegion (CO t) l::k)) fs (ay w w.tape):=λi v l X w C s=>by
  refine tj w.tape s c ?_
  obtain⟨o,A,z,x⟩:∃o,(CO t)[i]? =some o/\o.op=.move (.const v)/\o.dst=some t/\o.guard=none:=by
   rcases C with⟨rfl,rfl⟩|⟨rfl,rfl⟩<;>exact⟨_,rfl,rfl,rfl,rfl⟩
  rw[stepG_value A (bq x.2 _) (base_kind _) (v:=v) (w':=ay w w.tape) (by rw[tu (.inl z)];rfl),x.1];exact⟨_,rfl⟩
 have fin:∀(X:Array Value) (w:World),bI (patch ae prog) C0 R JJ ((base fb).at ⟨X,[]⟩ (.inRegion (CO t) []::k)) fs w->bI (patch ae prog) C0 R JJ ((base fb).at ⟨X,[]⟩ k) fs (ay w w.tape):=λX w s=>
  tj w.tape s c ⟨_,stepG_region_end⟩
 rcases y with rfl|rfl
 .simp only[if_true]at q
  have u:=fin _ _ (g 1 _ _ _ _ (.inr ⟨rfl,rfl⟩) (g 0 _ _ _ _ (.inl ⟨rfl,rfl⟩) q));refine⟨_,_,?_,by simpa using p,bU (by simp only[Array.size_setIfInBounds,p];exact d),λj f=>?_,u⟩
  .rfl
  .rw[getD_set_ne (Ne.symm f),getD_set_ne (Ne.symm f)]
 .simp only[Nat.one_ne_zero,if_false]at q
  have u:=fin _ _ (g 0 _ _ _ _ (.inl ⟨rfl,rfl⟩) (g 1 _ _ _ _ (.inr ⟨rfl,rfl⟩) q));refine⟨_,_,?_,by simpa using p,bU (by simp only[Array.size_setIfInBounds,p];exact d),λj f=>?_,u⟩
  .rfl
  .rw[getD_set_ne (Ne.symm f),getD_set_ne (Ne.symm f)]
def ring {fb}(g:fb∉C0.sp){X}{id al t s}{c}{fn}{w}(hc:X.getD t undef=.bool true)(hf:(patch ae prog).funcs[al]? =some fn)(d:(fn.name== "runtime.NumGoroutine")=false)(hb:fn.body.isNone=false)(k:∀x w,oG (patch ae prog) al x w)
 (h:bI (patch ae prog) C0 R JJ ((base fb).at ⟨X,[]⟩ [.code (.cond (.tmp t) (.region id #[bg none (bX al #[.tmp s])] false) .skip),.code c]) fs w):JJ al #[X.getD s undef] w:=by
 have p:=tj w.tape h g (k':=[.code (.region id #[bg none (bX al #[.tmp s])] false),.code c]) (w':=ay w w.tape) (a':=⟨X,[]⟩) ⟨_,stepG_cond (show(Act.mk X []).eval (.tmp t)=.bool true from hc)⟩;have m:=tj w.tape p g (k':=[.inRegion #[bg none (bX al #[.tmp s])] [0],.code c]) (w':=ay w w.tape) (a':=⟨X,[]⟩) ⟨_,stepG_region⟩
 have e:(execOp (Act.mk X []).eval (bg none (bX al #[.tmp s]))).runT (patch ae prog) (ay w w.tape) #[]=(.ok (.enter al #[X.getD s undef]) (ay w w.tape),#[]):=by
  have q:execOp (Act.mk X []).eval (bg none (bX al #[.tmp s]))=callFunc al (#[]++(#[.tmp s]:Array Operand).map (Act.mk X []).eval++ #[]):=rfl;rw[q,Array.empty_append,ac4,show(#[.tmp s]:Array Operand).map (Act.mk X []).eval= #[X.getD s undef]from by simp[Act.eval]];exact AU hf d hb _ _
 rw[Sem.runT_eq,Prod.mk.injEq]at e;have l:=Eg (f:=al) (x:= #[X.getD s undef]) (as':=(base fb).at ⟨X,[]⟩ [.inRegion #[bg none (bX al #[.tmp s])] [0],.code c]::fs) (w':=ay w w.tape) w.tape m rfl (λfs w=>(k _ w).lZ fs) (λf' r he i=>?_) (stepG_enter (o:=bg none (bX al #[.tmp s])) rfl (bq rfl _) (base_kind _) e.1)
 .exact rY (w:=ay w w.tape) rfl l
 .obtain⟨rfl,j⟩:=I5 he
  refine⟨λe=>?_,λe=>?_,λe=>?_⟩
  .obtain⟨B,D,Z,a,b⟩:=i.1 e
   exact⟨B,D,Z,j▸a,b⟩
  .obtain⟨c,a⟩:=i.2.1 e
   exact⟨c,j▸a⟩
  .obtain⟨n,D,a⟩:=i.2.2 e
   exact⟨n,D,j▸a⟩
def OT {fb}(a:fb∉C0.sp){X}{t}{p x y}{w}(hc:X.getD t undef=.bool false)(h:bI (patch ae prog) C0 R JJ ((base fb).at ⟨X,[]⟩ [.code (.cond (.tmp t) p .skip),.code (.seq x y)]) fs w):
 ∃w',w'.heap=w.heap/\bI (patch ae prog) C0 R JJ ((base fb).at ⟨X,[]⟩ [.code x,.code y]) fs w':=by
 have d:=tj w.tape h a (k':=[.code .skip,.code (.seq x y)]) (w':=ay w w.tape) (a':=⟨X,[]⟩) ⟨_,stepG_cond (show(Act.mk X []).eval (.tmp t)=.bool false from hc)⟩;have c:=tj w.tape d a (k':=[.code (.seq x y)]) (w':=ay w w.tape) (a':=⟨X,[]⟩) ⟨_,stepG_skip⟩;have b:=tj w.tape c a (k':=[.code x,.code y]) (w':=ay w w.tape) (a':=⟨X,[]⟩) ⟨_,stepG_seq⟩;exact⟨_,rfl,b⟩
def CJ:(eD 340 f42).ntmps=28:=rfl
def EX:∃r,(eD 340 f42).body=some (.seq (.region 90 (CO 22) true) (.seq (.cond (.tmp 22) (.region 91 #[bg none (bX 340 #[.tmp 0])] false) .skip) (.seq (.region 92 (CO 23) true) (.seq (.cond (.tmp 23) (.region 93 #[bg none (bX 341 #[.tmp 1])] false) .skip) r)))):=⟨_,jK⟩
def Ww (x0 x1):(#[x0,x1]++Array.replicate 26 undef).size=28/\(#[x0,x1]++Array.replicate 26 undef).getD 0 undef=x0/\(#[x0,x1]++Array.replicate 26 undef).getD 1 undef=x1:=by
 refine⟨by simp,?_,?_⟩
 .rw[ZY,Array.getElem?_append_left (by simp)];rfl
 .rw[ZY,Array.getElem?_append_left (by simp)];rfl
def Um (a:42∉C0.sp){x0 x1}{w}(h:bI (patch ae prog) C0 R JJ (Frame.enter (patch ae prog) 42 #[x0,x1] .normal) fs w):JJ 340 #[x0] w/\JJ 341 #[x1] w:=by
 obtain⟨r,hb⟩:=EX;rw[enter_at _ sK hb,CJ,show 28-(#[x0,x1]:Array Value).size=26 from rfl]at h;obtain⟨hs,g0,g1⟩:=Ww x0 x1;generalize #[x0,x1]++Array.replicate 26 undef=X at h hs g0 g1;have j:=tj w.tape h a (k':=[.code (.region 90 (CO 22) true),.code (.seq (.cond (.tmp 22) (.region 91 #[bg none (bX 340 #[.tmp 0])] false) .skip) (.seq (.region 92 (CO 23) true) (.seq (.cond (.tmp 23) (.region 93 #[bg none (bX 341 #[.tmp 1])] false) .skip) r)))]) (w':=ay w w.tape) (a':=⟨X,[]⟩) ⟨_,stepG_seq⟩;refine⟨?_,?_⟩
 .obtain⟨w2,i,g,k,f,e,d⟩:=OM a (.inl rfl) (by decide) (.inr rfl) hs j
  have c:=tj w2.tape d a (k':=[.code (.cond (.tmp 22) (.region 91 #[bg none (bX 340 #[.tmp 0])] false) .skip),.code (.seq (.region 92 (CO 23) true) (.seq (.cond (.tmp 23) (.region 93 #[bg none (bX 341 #[.tmp 1])] false) .skip) r))]) (w':=ay w2 w2.tape) (a':=⟨i,[]⟩) ⟨_,stepG_seq⟩;have:=ring a f (OB ae) (by kernel_rfl) rfl ig c;rw[e 0 (by decide),g0]at this;exact rY (w:=w2) g.symm this
 .obtain⟨w2,i,g,k,f,e,d⟩:=OM a (.inl rfl) (by decide) (.inl rfl) hs j
  have c:=tj w2.tape d a (k':=[.code (.cond (.tmp 22) (.region 91 #[bg none (bX 340 #[.tmp 0])] false) .skip),.code (.seq (.region 92 (CO 23) true) (.seq (.cond (.tmp 23) (.region 93 #[bg none (bX 341 #[.tmp 1])] false) .skip) r))]) (w':=ay w2 w2.tape) (a':=⟨i,[]⟩) ⟨_,stepG_seq⟩;obtain⟨w3,f1,o⟩:=OT a f c;obtain⟨b,p,l,i2,i3,i4,n⟩:=OM a (.inr (.inl rfl)) (by decide) (.inr rfl) k o;have m:=tj b.tape n a (k':=[.code (.cond (.tmp 23) (.region 93 #[bg none (bX 341 #[.tmp 1])] false) .skip),.code r]) (w':=ay b b.tape) (a':=⟨p,[]⟩) ⟨_,stepG_seq⟩;have:=ring a i3 (xK ae) (by kernel_rfl) rfl gH m;rw[i4 1 (by decide),e 1 (by decide),g1]at this;exact rY (w:=b) (l.trans (f1.trans g)).symm this
def J6:Code:=.seq (.region 90 (CO 1) true) (.seq (.cond (.tmp 1) (.region 91 #[bg none (bX 342 #[.tmp 0])] false) .skip) (.seq (.region 92 #[bg (some 2) (.move (.const .nilFunc))] false) .ret))
def AX:(patch ae prog).funcs[88]? =some (AQ 342 f88):=by
 have h:=iO ae prog func88;rw[jN]at h;rw[h];rfl
def lh:(AQ 342 f88).body=some J6:=rfl
def Wv (x0):(#[x0]++Array.replicate 2 undef).size=3/\(#[x0]++Array.replicate 2 undef).getD 0 undef=x0:=by
 refine⟨by simp,?_⟩;rw[ZY,Array.getElem?_append_left (by simp)];rfl
def Rz (a:88∉C0.sp){x0}{w}(h:bI (patch ae prog) C0 R JJ (Frame.enter (patch ae prog) 88 #[x0] .normal) fs w):JJ 342 #[x0] w:=by
 rw[enter_at _ AX lh,show(AQ 342 f88).ntmps=3 from rfl,show 3-(#[x0]:Array Value).size=2 from rfl]at h;obtain⟨hs,g0⟩:=Wv x0;generalize #[x0]++Array.replicate 2 undef=X at h hs g0;unfold J6 at h;have d:=tj w.tape h a (k':=[.code (.region 90 (CO 1) true),.code (.seq (.cond (.tmp 1) (.region 91 #[bg none (bX 342 #[.tmp 0])] false) .skip) (.seq (.region 92 #[bg (some 2) (.move (.const .nilFunc))] false) .ret))]) (w':=ay w w.tape) (a':=⟨X,[]⟩) ⟨_,stepG_seq⟩;obtain⟨w2,i,g,j,f,e,c⟩:=OM a (.inr (.inr rfl)) (by decide) (.inr rfl) hs d;have b:=tj w2.tape c a (k':=[.code (.cond (.tmp 1) (.region 91 #[bg none (bX 342 #[.tmp 0])] false) .skip),.code (.seq (.region 92 #[bg (some 2) (.move (.const .nilFunc))] false) .ret)]) (w':=ay w2 w2.tape) (a':=⟨i,[]⟩) ⟨_,stepG_seq⟩;have:=ring a f (z8 ae) (by kernel_rfl) rfl gG b;rw[e 0 (by decide),g0]at this;exact rY (w:=w2) g.symm this
end
end
section
open Go Go.Conc Go.ConcN Go.RowKit Go.Conc.Lib
open Go.ConcR (KK wgBlock WgAt stA smA rd wr mk Payload DC0)
def Gx:∀x,x<68->jP (mK x):=by
 have key:∀v∈dQ.toList,jP v:=by
  intro v a;simp only[dQ,zeroV,adu,abz,ZW,List.mem_replicate]at a;have f0:jP (.int .i64 0):=.inl ⟨_,_,rfl⟩;have f1:jP (.bool false):=.inr ⟨_,rfl⟩;rcases a with(rfl|⟨_,rfl⟩)|(rfl|⟨_,rfl⟩)|(rfl|⟨_,rfl⟩)|(rfl|⟨_,rfl⟩)<;>assumption
 intro x hx;have hs:dQ.size=68:=by kernel_rfl
 refine key _ ?_;unfold mK;rw[ZY];have:x<dQ.size:=by omega
 simp[this]
def JY {st}{p:Rel st}{v}(h:jP v):VR p v v:=by
 rcases h with⟨k,n,rfl⟩|⟨b,rfl⟩
 .exact VR.int _ _
 .exact VR.bool _
def dm (vd:Nat->Array Value)(c:Nat->Int)(w:World)(v:Value)(w':World):Prop:=
 ∃a row,v=ko a/\w.heap.size<=a/\(∀d,d<w.heap.size->w'.heap[d]? =w.heap[d]?)/\w.heap.size<=w'.heap.size/\w'.heap[a]? =some (.cells row 91)/\row.size=68/\
  (∀i,i<4->0<c i->∀o,o<17->row[17*i+o]? =(vd i)[o]?)/\∀i,i<4->¬0<c i->∀o,o<17->row[17*i+o]? =some (mK (17*i+o))
def KF {vd:Nat->Array Value}{c:Nat->Int}(e:∀i,i<4->0<c i->(vd i).size=17/\∀v∈(vd i).toList,jP v){row cs}(g:row.size=68)(f:cs.size=68)
 (h:∀i,i<4->0<c i->∀o,o<17->row[17*i+o]? =(vd i)[o]?)(a2:∀i,i<4->¬0<c i->∀o,o<17->row[17*i+o]? =some (mK (17*i+o)))
 (b1:∀i,i<4->0<c i->∀o,o<17->cs[17*i+o]? =(vd i)[o]?)(b2:∀i,i<4->¬0<c i->∀o,o<17->cs[17*i+o]? =some (mK (17*i+o))){st}(p:Rel st):aF (VR p) row cs:=by
 refine⟨g.trans f.symm,λx v u a hu=>?_⟩;have hx:x<68:=by have:=(ZK.1 a).1;omega
 obtain⟨i,o,b,d,rfl⟩:∃i o,i<4/\o<17/\x=17*i+o:=⟨x/17,x%17,by omega,by omega,by omega⟩
 by_cases hc:0<c i
 .rw[h i b hc o d]at a
  rw[b1 i b hc o d]at hu;rw[a]at hu;cases hu;obtain⟨s1,s2⟩:=e i b hc;exact JY (s2 v (by rw[<-Array.mem_def];exact ac5 a))
 .rw[a2 i b hc o d]at a
  rw[b2 i b hc o d]at hu;cases a;cases hu;exact JY (Gx _ (by omega))
def UH {st:Prop}(p:Rel st)(B D:Nat):Rel st:=λb c=>p b c\/(b=B/\c=D)
def WR.keep {G}{K}{st}{p:Rel st}{w u az}(h:WR G K p w u)(m:∀b c,p b c->az.heap[c]? =u.heap[c]?)(hs:u.heap.size<=az.heap.size):WR G K p w az:=by
 refine⟨h.fit,λb c d=>?_,h.qp,h.low,⟨h.BB.1,ZP h.BB.2 hs⟩⟩;obtain⟨xs,ys,e,f,g,k,j,i⟩|⟨a,a',l,k,j,i⟩|⟨a,a',l,k,j,i⟩:=h.rows b c d
 .exact .inl ⟨xs,ys,e,f,g,k,(m b c d).trans j,i⟩
 .exact .inr (.inl ⟨a,a',l,k,(m b c d).trans j,i⟩)
 .exact .inr (.inr ⟨a,a',l,k,(m b c d).trans j,i⟩)
section
variable [Payload]
def PN {K0}{st}{Iv}(ω:∀p q u u',Iv p u->dE K0 p q u u'->Iv q u')(F:Payload.ety=91)(hz:dM (patch ae prog)){C C0}{R}{vd:BD->Nat->Int->Array Value}(hC:j6 C)(Γ:42∉C0.sp)(O:∀f,f∈C0.sp->f=340\/f=341\/f=342)(φ:∀f,f∈C0.sp->f∉C.fns/\f≠C.root)(υ:C.jh=true)
 (H:∀D i n,i<4->0<n->(vd D i n).size=17/\∀v∈(vd D i n).toList,jP v)
 (Ω:∀(D:BD) (B bb M nB r:Nat) (n:Int) (w:World),aW w B D->D.ok->r<4->0<n->w.cell? ⟨bb,0,none⟩=some (ptr B)->w.cell? ⟨M,0,none⟩=some (.int .i64 r)->w.cell? ⟨nB,0,none⟩=some (.int .i64 n)->
  Calls (patch ae prog) 69 #[undef,ptr bb,ptr M,ptr nB,undef] w fun|.returned v,w'=>o9 (vd D r n) r v w'|_,_=>False)
 (Zs:∀(D:BD) (B:Nat) (c:Nat->Int) (w:World),aW w B D->D.ok->(∀j q,w.tape j q=0)->Calls (patch ae prog) 42 #[ptr B,.agg (aQ c)] w fun|.returned v,w'=>dm (λi=>vd D i (c i)) c w v w'|_,_=>False)
 {x y}{a}{fs}{b}{bs}{w u}{gs}{sl}{t}{q}{S}{p:Rel st}
 (ht:bI (patch ae prog) C0 R JJ (Frame.enter (patch ae prog) 42 x .normal) (a::fs) w)(G:aF (VR p) x y)(hx:x.size=2)(W:CR C (patch ae prog) p (a::fs) (b::bs))(hw:WR (patch ae prog).globals.size K0 p w u)(hF:ni prog S gs u.heap.size t q)
 (h0:gs[0]? =some (df (Frame.enter prog 42 y .normal) (b::bs)))(hS:∀b c,p b c->¬S c)(ψ:Iv p u):
 ∃N m' t' n s',runNT prog N (crowd gs u sl) t=(.next m',t')/\Down (patch ae prog) C0 n ⟨Frame.enter (patch ae prog) 42 x .normal,a::fs,w⟩ s'/\Om C (patch ae prog) prog K0 Iv s' m' t':=by
 obtain⟨x0,x1,rfl⟩:=array2 hx;obtain⟨j1,j2⟩:=Um Γ ht;obtain⟨B,D,Zl,e0,hb,z,σ,χ⟩:=j1.1 rfl;obtain⟨c,e1⟩:=j2.2.1 rfl;have Ψ:=e0;have Φ:=e1;subst Ψ Φ;obtain⟨y0,y1,rfl⟩:=array2 (G.1.symm.trans hx)
 obtain⟨B',rfl,hB⟩:∃B',y0=ptr B'/\p B B':=by
  obtain⟨o,m,L⟩:=(G.2 0 (ptr B) y0 rfl rfl).bV;obtain⟨a',rfl,h3⟩:=L.aO;obtain⟨b',o',s'⟩:=a';obtain⟨k1,k2,k3⟩:=h3;subst k2 k3;exact⟨b',m,k1⟩
 obtain rfl:y1=.agg (aQ c):=by
  obtain⟨ys,m,L⟩:=(G.2 1 (.agg (aQ c)) y1 rfl rfl).vQ;rw[m,Fx L λv hv=>?_];simp only[aQ,ZW,adm,or_false]at hv;rcases hv with rfl|rfl|rfl|rfl<;>exact .inl ⟨_,_,rfl⟩
 obtain⟨N,Δ,u',α,t',q',V,Wg,cs,r1,r2,r3,r4,r5,r6,r7,r8,r9,ζ,Zv,ε,δ,γ,β⟩:=Al (sl:=sl) (vd:=λi=>vd D i (c i)) F hF h0 (λi hi hc=>(H D i (c i) hi hc).1) (by
  intro bb V VV Wg aL k1 k2 k3 k4 k5 k6 k7 k8 k9 r M nB az M₀ hr hc m1 m2 YT hH hR hM;have k:∀b c,p b c->c<u.heap.size:=λb c h=>(hw.lt h).2
  have s:∀b c,p b c->c<aL.heap.size/\c≠V/\c≠Wg/\¬S c:=λb c h=>by have:=k b c h;exact⟨by omega,by omega,by omega,hS b c h⟩
  have Zx:=hR.size;have κ:=hw.keep (λb d K=>(hR.keep d (.inr (s b d K)) (s b d K).1).trans (k1 d (k b d K))) (by omega);have η:az.heap[bb]? =some (.cells #[ptr B'] 31):=(hR.keep bb (.inr ⟨by omega,by omega,by omega,λh=>by have:=hF.sh _ h;omega⟩) (by omega)).trans k7;have θ:az.heap[VV]? =some (.cells #[ko V] 87):=(hR.keep VV (.inr ⟨by omega,by omega,by omega,λh=>by have:=hF.sh _ h;omega⟩) (by omega)).trans k8;have ν:=(hH _ ZX).2.2;have ο:=(hH _ (ac1 _ ZX)).2.2;have μ:=hM M m1;obtain⟨wL,ι,τ,E,c2,c3⟩:=DY κ σ hB χ hb η ν ο (λb h=>by have:=k b _ h;omega) (λb h=>by have:=k b _ h;omega) (λb h=>by have:=k b _ h;omega) (by omega) (by omega);obtain⟨s1,s2⟩:=H D r (c r) hr hc;refine BR hz F (by omega) hr s1 s2 ?_ ⟨by omega,by omega,by omega,λh=>by have:=hF.sh _ h;omega⟩ ⟨?_,λh=>?_,?_⟩ ι ?_ ⟨rfl,.inl (.inr rfl)⟩ ⟨rfl,.inr (.inl rfl)⟩ ⟨rfl,.inr (.inr rfl)⟩ λT=>?_
  .rintro d (⟨b,hb,_⟩|rfl)
   .exact s b d hb
   .exact⟨by omega,by omega,by omega,λh=>by have:=hF.sh _ h;omega⟩
  .omega
  .have:=hM VV h;omega
  .simp[World.cell?,θ]
  .rintro b d ⟨rfl,hd⟩ I
   rcases hd with hd|rfl|rfl
   .exact absurd hd I
   .exact m1
   .exact m2
  .exact Ω D B' bb M nB r (c r) (ay wL T) (uT (w:=wL) (u:=ay wL T) rfl τ) z hr hc E c2 c3)
 have Y:∀f x fs w,f∈C0.sp->¬bI (patch ae prog) C0 R JJ (Frame.enter (patch ae prog) f x .normal) fs w:=λf x fs w hf=>by
  rcases O f hf with rfl|rfl|rfl
  .exact(ig x w).lZ fs
  .exact(gH x w).lZ fs
  .exact(gG x w).lZ fs
 have X:∀f x fs cs w n fr w',f∈C0.sp->(∀y∈fs,y.mode=.run/\y.defers=[]/\∃fn,(patch ae prog).funcs[y.fn]? =some fn)->runN (patch ae prog) n (lone (Frame.enter (patch ae prog) f x .normal) (fs++[stop (patch ae prog)]) w)=.next (lone fr cs w')->fr.mode≠.returning:=λf x fs cs w n fr w' hf z I=>by
  rcases O f hf with rfl|rfl|rfl
  .exact(ig x w).lost fs z I
  .exact(gH x w).lost fs z I
  .exact(gG x w).lost fs z I
 have U:∀v f x,f∈C0.sp->a.finish v≠Frame.enter (patch ae prog) f x .normal:=λv f x hf e=>by
  have m:=congrArg Frame.fn e;rw[(oU a v).1]at m;have Z:a.fn=f:=m;obtain⟨n1,n2⟩:=φ f hf;obtain⟨_,_,_,A⟩:=W.1
  by_cases Q:fs=[]
  .exact n2 (Z.symm.trans ((A.2 Q).2.2 υ))
  .exact n1 (Z▸(A.1 Q).2.2.1)
 obtain⟨n,v,w',⟨Vl,row,rfl,g1,g2,g3,g4,g5,g6,g7⟩,hd⟩:=yO (C0:=C0) Y X (T:=λ_ _=>0) ht rfl U (Zs D B c (ay w λ_ _=>0) (uT (w:=w) (u:=ay w λ_ _=>0) rfl hb.any) z (λ_ _=>rfl));obtain⟨⟨ρ,P,J,A⟩,hcs⟩:=W;have hp:Ext p (UH p Vl V):=λb c h=>.inl h
 have pl:∀b c,p b c->b<w.heap.size/\c<u.heap.size:=λb c h=>hw.lt h
 refine⟨N,_,t',n,_,r1,hd,UH p Vl V,b.finish (ko V),bs,Δ,u',α,q',λx=>S x\/x=Wg,rfl,r2,⟨?_,.inl ((jd _ _).trans P),hcs.ext hp,A.finish _ _⟩,?_,r3,?_,ω p _ u u' ψ ⟨r4,r5,r6,r7,λc hc _=>r8 c hc,λb c h I=>?_,hp⟩⟩
 .exact(ρ.ext hp).finish hC (VR.slice ⟨.inr ⟨rfl,rfl⟩,rfl,rfl⟩) J
 .have Ξ:w.heap.size<=Vl:=g1
  have Θ:=g3;have ZA:=(ZK.1 g4).1;refine⟨?_,?_,λc h=>.inl (hw.qp c h),?_,⟨ZP hw.BB.1 Θ,ZP hw.BB.2 r7⟩⟩
  .rintro b1 E b2 c2 (m|⟨rfl,rfl⟩) (L|⟨rfl,rfl⟩)
   .exact hw.fit _ _ _ _ m L
   .have:=pl _ _ m;omega
   .have:=pl _ _ L;omega
   .simp
  .rintro b1 E (m|⟨rfl,rfl⟩)
   .obtain⟨l1,l2⟩:=pl _ _ m
    obtain⟨xs,ys,e,f,g,m1,m2,m3,m4,m5⟩|⟨a1,a2,l,m1,m2,m3,m4⟩|⟨a1,a2,l,m1,m2,m3,m4⟩:=hw.rows b1 E m
    .exact .inl ⟨xs,ys,e,f,g,(g2 b1 l1).trans m1,(r8 E l2).trans m2,m3.mono λ_ _=>VR.ext hp,m4,m5⟩
    .exact .inr (.inl ⟨a1,a2,l,(g2 b1 l1).trans m1,(r8 E l2).trans m2,m3.mono hp,m4⟩)
    .exact .inr (.inr ⟨a1,a2,l,(g2 b1 l1).trans m1,(r8 E l2).trans m2,m3.mono hp,m4⟩)
   .exact .inl ⟨row,cs,91,(0,0),(0,0),g4,ε,KF (λi hi hc=>H D i (c i) hi hc) g5 δ g6 g7 γ β _,λh=>by have:=(pl _ _ (hw.qp _ h)).2;omega,λ_=>rfl⟩
  .rintro b1 E (m|⟨rfl,rfl⟩) ξ
   .exact hw.low _ _ m ξ
   .exact⟨ZP hw.BB.1 Ξ,ZP hw.BB.2 r9⟩
 .rintro b1 E (m|⟨rfl,rfl⟩) hs
  .rcases hs with hs|rfl
   .exact hS _ _ m hs
   .have:=(pl _ _ m).2;omega
  .rcases hs with hs|hs
   .have:=hF.sh _ hs;omega
   .exact ζ hs
 .rcases h with h|⟨_,rfl⟩
  .exact absurd h I
  .exact r9
end
end
namespace Z
open Go.RowKit
attribute [local go_sem ↓] Go.wp_at_zero Go.wp_at_succ
attribute [local go_sem] After.cell After.frozen After.const
def zF (D:BD)(i:Nat)(n:Int):Array Value:=eF (dz D i (dL D i)) (dz D i (gq D i)) n
def Ee:∀D i n,i<4->0<n->(zF D i n).size=17/\∀v∈(zF D i n).toList,jP v:=λD i n _ _=>by
 refine⟨jB _ _ _,λv a=>?_⟩;simp only[zF,eF,adz]at a;obtain⟨j,_,rfl⟩:=a;unfold jC;split
 .exact .inl ⟨_,_,rfl⟩
 .exact .inr ⟨_,rfl⟩
def KY (W):(Instr.makeSlice 87 (.int .i64 4) (.int .i64 4)).run (patch ae prog) W=.ok (.slice (some ⟨W.heap.size,0,none⟩) 4 4) (W.alloc (.cells dQ 91)):=by kernel_rfl
def ym (c:Nat->Int)(k:Nat)(a:k<4)(W):Sem.run (patch ae prog) (Instr.index 37 (.agg #[.int .i64 (c 0),.int .i64 (c 1),.int .i64 (c 2),.int .i64 (c 3)]) (.int .i64 k)) W=.ok (.int .i64 (c k)) W:=by
 obtain rfl|rfl|rfl|rfl:k=0\/k=1\/k=2\/k=3:=by omega
 all_goals kernel_rfl
def pW (D:BD)(c:Nat->Int)(k j:Nat):Value:=if j/17<k/\0<c (j/17)then jC (dz D (j/17) (dL D (j/17))) (dz D (j/17) (gq D (j/17))) (c (j/17)) 15 (j%17)else mK j
def Me {D}{c}{k}(h:0<c k)(j):pW D c (k+1) j=if k*17<=j/\j<k*17+17 then jC (dz D k (dL D k)) (dz D k (gq D k)) (c k) 15 (j-k*17)else pW D c k j:=by
 unfold pW
 by_cases b:k*17<=j/\j<k*17+17
 .have f:j/17=k:=by omega
  have e:j%17=j-k*17:=by omega
  rw[f,if_pos ⟨by omega,h⟩,if_pos b,e]
 .rw[if_neg b]
  by_cases a:j/17<k/\0<c (j/17)
  .rw[if_pos a,if_pos ⟨by omega,a.2⟩]
  .rw[if_neg a,if_neg (λd=>a ⟨by omega,d.2⟩)]
def Kk {D}{c}{k}(h:¬0<c k)(j):pW D c (k+1) j=pW D c k j:=by
 unfold pW
 by_cases a:j/17<k/\0<c (j/17)
 .rw[if_pos a,if_pos ⟨by omega,a.2⟩]
 .rw[if_neg a,if_neg (λb=>a ⟨by
   have:j/17≠k:=λe=>h (e▸b.2)
   omega,b.2⟩)]
def EY {b n}{t}:∀(vs:List Value) (o:Nat) (w:World) (f:Nat->Value),w.rowIs b t n f->(w.setCells b o vs).rowIs b t n (λj=>if o<=j/\j<o+vs.length then vs.getD (j-o) undef else f j)
 |[],o,w,f,h=>h.congr λj _=>by
  have:¬(o<=j/\j<o+([]:List Value).length):=λh=>by have a:=h.2;simp only[List.length_nil]at a;omega
  rw[if_neg this]
 |v::vs,o,w,f,h=>by
  refine(EY vs (o+1) (w.setCell ⟨b,o,none⟩ v) _ (h.set o v)).congr λj _=>?_
  by_cases c:j=o
  .subst c
   rw[if_neg (by omega),if_pos rfl,if_pos (by simp),Nat.sub_self];rfl
  .by_cases a:o+1<=j/\j<o+1+vs.length
   .have e:j-o=(j-(o+1))+1:=by omega
    rw[if_pos a,if_pos (by simp only[adt];omega),e];rfl
   .rw[if_neg a,if_neg c,if_neg (by simp only[adt];omega)]
def xX {b c}(a:c≠b):∀(vs:List Value) (o:Nat) (w:World),(w.setCells b o vs).heap[c]? =w.heap[c]?
 |[],_,_=>rfl
 |v::vs,o,w=>(xX a vs (o+1) (w.setCell ⟨b,o,none⟩ v)).trans (aad _ _ _ _ a)
def xY {B b}{a}(hb:B<=b):∀(vs:List Value) (o:Nat) (w:World),Below B a w->Below B a (w.setCells b o vs)
 |[],_,_,h=>h
 |v::vs,o,w,h=>xY hb vs (o+1) _ (h.setCell hb v)
def Bb {b}:∀(vs:List Value) (o:Nat) (w:World),(w.setCells b o vs).heap.size=w.heap.size
 |[],_,_=>rfl
 |v::vs,o,w=>(Bb vs (o+1) (w.setCell ⟨b,o,none⟩ v)).trans (by simp)
def zH {w:World}{b}(h:w.heap[b]? =some (.cells dQ 91 (0,0)))(D)(c):w.rowIs b 91 68 (pW D c 0):=by
 have hs:dQ.size=68:=by kernel_rfl
 refine⟨dQ,h,hs,λj a=>?_⟩;unfold pW;rw[if_neg (by omega)];unfold mK;rw[ZY,ZM (by omega)];rfl
def Md {w:World}{b k}{t}{D}{c}{vs}(h:w.rowIs b t 68 (pW D c k))(hc:0<c k)(a:vs=eF (dz D k (dL D k)) (dz D k (gq D k)) (c k)):(w.setCells b (k*17) vs.toList).rowIs b t 68 (pW D c (k+1)):=by
 refine(EY _ _ _ _ h).congr λj _=>?_
 rw[Me hc];have e:vs.toList.length=17:=by rw[a];simp[jB]
 rw[e]
 by_cases d:k*17<=j/\j<k*17+17
 .rw[if_pos d,if_pos d,a]
  have:j-k*17<17:=by omega
  simp[eF,this]
 .rw[if_neg d,if_neg d]
def Il {wr w2:World}{o a}{b n}{t}{f}(h:wr.rowIs b t n f)(hb:Below ((wr.alloc o).alloc a).heap.size ((wr.alloc o).alloc a) w2):w2.rowIs b t n f:=
 have c:adN wr ((wr.alloc o).alloc a):=((aab _ _).alloc (ZL _) _).alloc (by simp) _
 h.of_block ((ai c hb).block b h.lt)
def EW {w:World}{b k}{t}{f}{vs:Array Value}(h:w.rowIs b t 68 f)(d:k<4)(a:vs.size=17):w.there b (k*17) vs.size:=λj c=>by
 rw[a]at c;refine⟨?_,h.frozen _⟩;rw[h.cell (by omega)];rfl
def K8 (us fr)(n):(eF us fr n).all (·.oneCell')=true:=by
 rw[adb];intro v a;exact AL us fr n v (by simpa using a)
def uD (D)(B)(c)(t22 t23)(w)(hb:aW w B D)(C:D.ok):
 (xB ((eD 340 f42).body.getD .skip)).wp (patch ae prog) (bodyPost (patch ae prog) (eD 340 f42) (fun|.returned v,w'=>dm (λi=>zF D i (c i)) c w v w'/\adN w w'|_,_=>False))
  ⟨#[ptr B,.agg (aQ c),undef,undef,undef,undef,undef,undef,undef,undef,undef,undef,undef,undef,undef,undef,undef,undef,undef,undef,undef,undef,t22,t23,undef,undef,undef,undef],[]⟩ w:=by
 have t:(eD 340 f42).results= #[.tmp 4]:=by kernel_rfl
 generalize V:bodyPost (patch ae prog) (eD 340 f42) _=Q;simp only[eD,Ba,xB,f42,ac9,ads,aQ,bg,bX];unfold ptr;have H:Hid (aW w B D/\D.ok/\bodyPost (patch ae prog) (eD 340 f42) (fun|.returned v,w'=>dm (λi=>zF D i (c i)) c w v w'/\adN w w'|_,_=>False)=Q):=⟨hb,C,V⟩;have S:=λW:World=>KY W
 go_wp2_with fail;obtain⟨W,hW⟩:∃W,W=(((((w.alloc (.cells #[.pointer (some ⟨B,0,none⟩)] 31)).alloc (.cells #[.int .i64 (c 0),.int .i64 (c 1),.int .i64 (c 2),.int .i64 (c 3)] 37)).alloc (.cells dQ 91)).alloc (.cells #[.slice (some ⟨w.heap.size+1+1,0,none⟩) 4 4] 87)).alloc (.cells #[.int .u64 0,.int .u32 0] 130)):=⟨_,rfl⟩
 have p:Hid (W.heap[w.heap.size]? =some (.cells #[.pointer (some ⟨B,0,none⟩)] 31 (0,0))/\W.heap[w.heap.size+1+1]? =some (.cells dQ 91 (0,0))/\W.heap[w.heap.size+1+1+1]? =some (.cells #[.slice (some ⟨w.heap.size+1+1,0,none⟩) 4 4] 87 (0,0))/\adN w W/\W.heap.size=w.heap.size+5):=by
  rw[hW];refine⟨?_,?_,?_,?_,by simp⟩
  .rw[aac _ _ _ (by simp;omega),aac _ _ _ (by simp;omega),aac _ _ _ (by simp;omega),aac _ _ _ (by simp)]
   exact aae _ _
  .rw[aac _ _ _ (by simp),aac _ _ _ (by simp)]
   have:=aae ((w.alloc (.cells #[.pointer (some ⟨B,0,none⟩)] 31)).alloc (.cells #[.int .i64 (c 0),.int .i64 (c 1),.int .i64 (c 2),.int .i64 (c 3)] 37)) (.cells dQ 91);simpa using this
  .rw[aac _ _ _ (by simp)]
   have:=aae (((w.alloc (.cells #[.pointer (some ⟨B,0,none⟩)] 31)).alloc (.cells #[.int .i64 (c 0),.int .i64 (c 1),.int .i64 (c 2),.int .i64 (c 3)] 37)).alloc (.cells dQ 91)) (.cells #[.slice (some ⟨w.heap.size+1+1,0,none⟩) 4 4] 87);simpa using this
  .exact((((((aab _ _).alloc (ZL _) _).alloc (by simp) _).alloc (by simp;omega) _).alloc (by simp;omega) _).alloc (by simp;omega) _)
 rw[<-hW]
 go_loopw [11] (λi wr=>∃k:Nat,k<=4/\i=.int .i64 k/\wr.rowIs (w.heap.size+1+1) 91 68 (pW D c k)/\(∀b,b<W.heap.size->b≠w.heap.size+1+1->wr.heap[b]? =W.heap[b]?)/\adN w wr/\W.heap.size<=wr.heap.size) (λi _=>4-(intOf i).toNat)
 case atStart=>exact⟨0,by omega,rfl,zH p.out.2.1 D c,λ_ _ _=>rfl,p.out.2.2.2.1,ZL _⟩
 case round=>
  obtain⟨k,hk,rfl,s,E,hb,A⟩:=hrel;have d:Hid (wr.rowIs (w.heap.size+1+1) 91 68 (pW D c k)/\(∀b,b<W.heap.size->b≠w.heap.size+1+1->wr.heap[b]? =W.heap[b]?)/\adN w wr/\W.heap.size<=wr.heap.size):=⟨s,E,hb,A⟩
  by_cases m:k<4
  .have T:=ym c k m
   by_cases hc:0<c k
   .have x:Hid (aW ((wr.alloc (.cells #[.int .i64 (k:Int)] 3)).alloc (.cells #[.int .i64 (c k)] 3)) B D/\((wr.alloc (.cells #[.int .i64 (k:Int)] 3)).alloc (.cells #[.int .i64 (c k)] 3)).cell? ⟨w.heap.size,0,none⟩=some (ptr B)/\
     ((wr.alloc (.cells #[.int .i64 (k:Int)] 3)).alloc (.cells #[.int .i64 (c k)] 3)).cell? ⟨wr.heap.size,0,none⟩=some (.int .i64 k)/\((wr.alloc (.cells #[.int .i64 (k:Int)] 3)).alloc (.cells #[.int .i64 (c k)] 3)).cell? ⟨wr.heap.size+1,0,none⟩=some (.int .i64 (c k))):=by
     have a:adN wr ((wr.alloc (.cells #[.int .i64 (k:Int)] 3)).alloc (.cells #[.int .i64 (c k)] 3)):=((aab _ _).alloc (ZL _) _).alloc (by simp) _;have z5:=p.out.2.2.2.2;refine⟨aW.below (aW.below H.out.1 d.out.2.2.1) a,?_,?_,?_⟩
     .exact keeps a ((blk ((d.out.2.1 w.heap.size (by omega) (by omega)).trans p.out.1)).1 0)
     .exact(blk (aap wr _ _)).1 0
     .exact(blk (aam wr _ _)).1 0
    obtain⟨vs,f⟩:∃vs,vs=eF (dz D k (dL D k)) (dz D k (gq D k)) (c k):=⟨_,rfl⟩;have r:vs.size=17:=(by rw[f,jB]);have z:vs.all (·.oneCell')=true:=(by rw[f];exact K8 _ _ _);have y:((patch ae prog).info? 91).map (·.size)=some vs.size:=(by rw[r];exact iA);have g:=λx0 I=>ug D B w.heap.size wr.heap.size (wr.heap.size+1) k (c k) x0 I _ x.out.1 H.out.2.1 m hc x.out.2.1 x.out.2.2.1 x.out.2.2.2
    rw[<-f]at g;have G:Hid (vs=eF (dz D k (dL D k)) (dz D k (gq D k)) (c k)):=f;clear f x;have N:Hid (∀x0 I,_):=g
    go_wp2_with(first
     |(go_at_call 69;refine(N.out _ _).mono ?_;intro e w2 he;cases e with|panicked _=>exact he.elim|outgrown=>exact he.elim|returned v=>?_;obtain⟨K,u⟩:=he;unfold o9 at K;subst K;have R2:=Il d.out.1 u;have Y:=EW R2 m r;clear N)
     |refine wpList_store_mid rfl 91 _ _ rfl (w.heap.size+1+1) (k*17) vs rfl rfl Y y z ?_)
    have O:Hid (w2.rowIs (w.heap.size+1+1) 91 68 (pW D c k)/\Below ((wr.alloc (.cells #[.int .i64 (k:Int)] 3)).alloc (.cells #[.int .i64 (c k)] 3)).heap.size ((wr.alloc (.cells #[.int .i64 (k:Int)] 3)).alloc (.cells #[.int .i64 (c k)] 3)) w2):=⟨R2,u⟩;go_roundw
    case rel=>
     have a:adN wr ((wr.alloc (.cells #[.int .i64 (k:Int)] 3)).alloc (.cells #[.int .i64 (c k)] 3)):=((aab _ _).alloc (ZL _) _).alloc (by simp) _;have n:=ai a O.out.2;refine⟨k+1,by omega,by go_num,?_,λb hb l=>?_,?_,?_⟩
     .exact Md O.out.1 hc G.out
     .exact(xX l _ _ _).trans ((n.block b (by omega)).trans (d.out.2.1 b hb l))
     .exact xY (by omega) _ _ _ (ai d.out.2.2.1 n)
     .rw[Bb]
      have:=n.size;omega
    case measure=>simp[intOf];omega
   .have U:c k<=0:=by omega
    go_wp2_with fail;go_roundw
    case rel=>
     have a:adN wr ((wr.alloc (.cells #[.int .i64 (k:Int)] 3)).alloc (.cells #[.int .i64 (c k)] 3)):=((aab _ _).alloc (ZL _) _).alloc (by simp) _;refine⟨k+1,by omega,by go_num,?_,λb hb l=>?_,ai d.out.2.2.1 a,?_⟩
     .exact(d.out.1.of_block (a.block _ d.out.1.lt)).congr λj _=>(Kk hc j).symm
     .exact(a.block b (by omega)).trans (d.out.2.1 b hb l)
     .have:=a.size
      omega
    case measure=>simp[intOf];omega
  .have:k=4:=by omega
   subst this;obtain⟨q,Z⟩:=blk ((d.out.2.1 (w.heap.size+1+1+1) (by have:=p.out.2.2.2.2;omega) (by omega)).trans p.out.2.2.1);go_wp2_with fail;rw[<-H.out.2.2];refine bodyPost_ret (results_tmp t _ _ _) rfl ?_;obtain⟨cur,R,P,J⟩:=d.out.1;refine⟨⟨w.heap.size+1+1,cur,rfl,by omega,d.out.2.2.1.block,d.out.2.2.1.size,R,P,λi M hc o L=>?_,λi M hc o L=>?_⟩,d.out.2.2.1⟩
   .have F:(17*i+o)/17=i:=by omega
    have X:(17*i+o)%17=o:=(by omega);rw[J _ (by omega)];unfold pW;rw[F,X,if_pos ⟨M,hc⟩];simp[zF,eF,L]
   .have F:(17*i+o)/17=i:=by omega
    rw[J _ (by omega)];unfold pW;rw[F,if_neg (λh=>hc h.2)]
def Im (D)(B)(c)(t22 t23)(w)(hb:aW w B D)(b:D.ok):
 (xB ((eD 340 f42).body.getD .skip)).wp (patch ae prog) (bodyPost (patch ae prog) (eD 340 f42) (fun|.returned v,w'=>dm (λi=>zF D i (c i)) c w v w'|_,_=>False))
  ⟨#[ptr B,.agg (aQ c),undef,undef,undef,undef,undef,undef,undef,undef,undef,undef,undef,undef,undef,undef,undef,undef,undef,undef,undef,undef,t22,t23,undef,undef,undef,undef],[]⟩ w:=by
 refine Code.wp_mono ?_ (uD D B c t22 t23 w hb b);rintro e a u h;cases e with
 |normal=>exact⟨h.1,h.2.choose,h.2.choose_spec.1,h.2.choose_spec.2.1⟩
 |ret=>exact⟨h.1,h.2.choose,h.2.choose_spec.1,h.2.choose_spec.2.1⟩
 |panic ch=>exact h.2.elim
 |_=>exact h
end Z
section
open Go Go.Conc Go.ConcN
def I6 {st}{P Q}{K}{C}{R}{Iv:Rel st->World->Prop}(α:∀p u d,Iv p u->Iv p (u.at d))(Z:∀p q u u',Iv p u->dE K p q u u'->Iv q u')(hz:dM P)(hp:aH C P Q)(tw:Twin P Q)(M:C.sd=false\/¬st)(U:∀o,C.mark o=false)(O:C.sp=[]){cs}
 {a}{ZJ}{w}(ht:Tree P R a ZJ w):∀(p:Rel st) (b:Frame) (bs:List Frame) (gs:Array Goroutine) (u:World) (sl:Option (Nat×Nat)) (t:Trace) (q:Nat->Nat) (S:Nat->Prop),Live C P p a ZJ b bs->WR P.globals.size K p w u->gs[0]? =some (df b (bs++cs))->ni Q S gs u.heap.size t q->(∀b c,p b c->¬S c)->Iv p u->
  ∃(N:Nat) (i:Array Goroutine) (u':World) (j:Option (Nat×Nat)) (s:Trace) (z:Nat->Nat) (g:Rel st) (a' l:Frame) (w':World),runNT Q N (crowd gs u sl) t=(.next (crowd i u' j),s)/\i[0]? =some (df l cs)/\Live C P g a' [] l []/\WR P.globals.size K g w' u'/\ni Q S i u'.heap.size s z/\(∀b c,g b c->¬S c)/\Iv g u'/\L6 P R a' [] w'/\Ext p g:=by
 classical
 refine ht (λa ZJ w=>∀(p:Rel st) (b:Frame) (bs:List Frame) (gs:Array Goroutine) (u:World) (sl:Option (Nat×Nat)) (t:Trace) (q:Nat->Nat) (S:Nat->Prop),Live C P p a ZJ b bs->WR P.globals.size K p w u->gs[0]? =some (df b (bs++cs))->ni Q S gs u.heap.size t q->(∀b c,p b c->¬S c)->Iv p u->
  ∃(N:Nat) (i:Array Goroutine) (u':World) (j:Option (Nat×Nat)) (s:Trace) (z:Nat->Nat) (g:Rel st) (a' l:Frame) (w':World),runNT Q N (crowd gs u sl) t=(.next (crowd i u' j),s)/\i[0]? =some (df l cs)/\Live C P g a' [] l []/\WR P.globals.size K g w' u'/\ni Q S i u'.heap.size s z/\(∀b c,g b c->¬S c)/\Iv g u'/\L6 P R a' [] w'/\Ext p g) ?_
 intro a ZJ w I p b bs gs u sl t q S hl hw h0 hF hS H;rcases I with F|⟨T,I⟩
 .obtain rfl:=F.2.1
  cases bs with
  |cons x xs=>exact hl.cs.elim
  |nil=>exact⟨0,gs,u,sl,t,q,p,a,b,w,rfl,h0,hl,hw,hF,hS,H,F,Ext.refl _⟩
 have hr:a.mode=.returning->ZJ≠[]:=λh1 h2=>T ⟨h1,h2⟩
 obtain⟨N,i,a',u',j,s,z,B',r1,r2,r3,⟨hB,s1,X,g,l,r,rfl,A,v,Y,G,Lc⟩,r5⟩:=MQ (sl:=sl) (Stop:=λa' u' B'=>B'=u'.heap.size/\
  ∃s1:qC,(∀(p:Rel st) (b:Frame) (bs:List Frame) (gs:Array Goroutine) (u:World) (sl:Option (Nat×Nat)) (t:Trace) (q:Nat->Nat) (S:Nat->Prop),Live C P p s1.a s1.ZJ b bs->WR P.globals.size K p s1.w u->gs[0]? =some (df b (bs++cs))->ni Q S gs u.heap.size t q->(∀b c,p b c->¬S c)->Iv p u->
  ∃(N:Nat) (i:Array Goroutine) (u':World) (j:Option (Nat×Nat)) (s:Trace) (z:Nat->Nat) (g:Rel st) (a' l:Frame) (w':World),runNT Q N (crowd gs u sl) t=(.next (crowd i u' j),s)/\i[0]? =some (df l cs)/\Live C P g a' [] l []/\WR P.globals.size K g w' u'/\ni Q S i u'.heap.size s z/\(∀b c,g b c->¬S c)/\Iv g u'/\L6 P R a' [] w'/\Ext p g)/\
   ∃g l r,a'=df l (r++cs)/\Live C P g s1.a s1.ZJ l r/\WR P.globals.size K g s1.w u'/\(∀b c,g b c->¬S c)/\Iv g u'/\Ext p g) hF h0 rfl λd=>by
  have n:∀{g:Rel st} {u':World},dE K p g (u.at d) u'->∀b c,g b c->¬S c:=fun{g u'} B b c hb hs=>by
   by_cases E:p b c
   .exact hS b c E hs
   .have:=B.fresh b c hb E
    have:=hF.sh c hs;have e:(u.at d).heap.size=u.heap.size:=rfl;omega
  obtain⟨T',hA⟩:=uj (m:=true) (m':=true) (cs:=[stop P]) (ds:=cs) hz hp tw M hl (λ_ ⟨_,_,_,_,o,_,_,_,h⟩=>by rw[U o]at h;cases h) hr (hw.at d);rcases hA with hA|⟨g,a2,δ,l,r,w2,u',ζ,new,e2,e3,A,v,ε,B,he⟩|⟨_,f,_,_,_,_,_,_,_,_,_,_,_,D,_⟩
  .exfalso
   obtain⟨a',as',w',es,J,k,_⟩:=I T';rcases hA with⟨o,w3,γ,y⟩|⟨fr,η,w3,γ,y,ch,_,W,_⟩
   .rw[J]at y;cases y
   .rw[J]at y
    simp only[GStep.go.injEq,Goroutine.mk.injEq]at y;rw[y.1.1,W]at k;rcases k with h|h<;>cases h
  .refine⟨_,u',new,u'.heap.size,e3,B.size,λe V=>IX v (n B) (he e V),rfl,?_⟩
   obtain⟨a',as',w',es,J,k,X⟩:=I T';rw[J]at e2;simp only[GStep.go.injEq,Goroutine.mk.injEq]at e2;obtain⟨⟨y,e5,_⟩,e6,_⟩:=e2;have e7:as'=δ:=adw e5;subst y e6 e7;exact⟨⟨_,_,_⟩,X,g,l,r,rfl,A,v,n B,Z _ _ _ _ (α _ _ d H) B,B.ext⟩
  .rw[O]at D;cases D
 subst hB;obtain⟨N2,β,u2,L,t2,q2,p2,a2,b2,w2,f1,f2,f3,f4,f5,f6,f7,f8,f9⟩:=X g l r i u' j s z S A v r3 r5 Y G;refine⟨N+N2,β,u2,L,t2,q2,p2,a2,b2,w2,?_,f2,f3,f4,f5,f6,f7,f8,Lc.trans f9⟩;rw[runNT_add,r1];exact f1
end
section
open Go
def iQ:j5 prog 199 Extern.AbiNoEscape.same:=⟨_,func199,by kernel_rfl,by kernel_rfl,by kernel_rfl,by kernel_rfl⟩
def fQ:j5 prog 258 (Extern.BytealgMakeNoZero.makeNoZero (Func.params f258) (Func.resultTypes f258)):=⟨_,func258,by kernel_rfl,by kernel_rfl,by kernel_rfl,by kernel_rfl⟩
def lJ:j5 prog 145 Extern.ReflectliteType.typeOf:=⟨_,func145,by kernel_rfl,by kernel_rfl,by kernel_rfl,by kernel_rfl⟩
def mf:j5 prog 147 (Extern.SlicesOverlaps.overlaps (Func.params f147) (Func.resultTypes f147)):=⟨_,func147,by kernel_rfl,by kernel_rfl,by kernel_rfl,by kernel_rfl⟩
def Mx:qN prog:=⟨ "internal/reflectlite.rtype",by kernel_rfl⟩
def G8:qN (patch ae prog):=by
 unfold qN;rw[show(patch ae prog).cutTypes=(prog).cutTypes from congrArg Tables.cutTypes (Cw ae prog)];exact Mx
def Pt (t):typeHandle prog t=typeHandle (patch ae prog) t:=by
 unfold typeHandle;rw[zZ]
def Lp:List Nat:=[167,199,258,145]
def PE:pU Lp (patch ae prog) prog:=λg a=>by
 simp only[Lp,ZW,adm,or_false]at a;rcases a with rfl|rfl|rfl|rfl
 .exact⟨_,bL pM (by rfl),pM,λ_ _ _ _ _ h=>af.jR h⟩
 .exact⟨_,bL iQ (by rfl),iQ,λ_ _ _ _ _ h=>af.Dj h⟩
 .exact⟨_,bL fQ (by rfl),fQ,λ_ _ _ _ _ h=>af.kT _ _ h⟩
 .exact⟨_,bL lJ (by rfl),lJ,λ_ _ _ _ _ h=>af.Bn G8 Mx Pt h⟩
def NM:pU Lp (patch ae prog) (patch ae prog):=λg a=>by
 simp only[Lp,ZW,adm,or_false]at a;rcases a with rfl|rfl|rfl|rfl
 .exact⟨_,bL pM (by rfl),bL pM (by rfl),λ_ _ _ _ _ h=>af.jR h⟩
 .exact⟨_,bL iQ (by rfl),bL iQ (by rfl),λ_ _ _ _ _ h=>af.Dj h⟩
 .exact⟨_,bL fQ (by rfl),bL fQ (by rfl),λ_ _ _ _ _ h=>af.kT _ _ h⟩
 .exact⟨_,bL lJ (by rfl),bL lJ (by rfl),λ_ _ _ _ _ h=>af.Bn G8 G8 (λ_=>rfl) h⟩
def NF:dw [147] (patch ae prog) prog:=λg a=>by
 obtain rfl:=adi.1 a;exact⟨_,bL mf (by rfl),mf,λ_ _ _ _ _ b h=>af.overlaps b _ _ h,λ_ _ _ _ _ h=>bC.overlaps _ _ h⟩
def Le:dw [147] (patch ae prog) (patch ae prog):=λg a=>by
 obtain rfl:=adi.1 a;exact⟨_,bL mf (by rfl),bL mf (by rfl),λ_ _ _ _ _ b h=>af.overlaps b _ _ h,λ_ _ _ _ _ h=>bC.overlaps _ _ h⟩
def RB:List Nat:=[77,78,80,81,83,127,128,129,130,131,132,134,135,136,141,142,143,144,157,163,166,169,170,173,174,175,176,177,178,179,192,200,201,202,203,214,215,226,227,228,229,230,231,232,233,245,247,257,259,260,261,262,267,269,270,278,279,280,281,284,285]
def lX:List Nat:=88::RB
def PD:List Nat:=[167,199,258]
def QD:List Nat:=[4,5,12,13,3,7,8,9,10,11]
def LD:iG:={fns:=lX,sp:=[],mark:=λ_=>false,sg:=id,root:=1000000,rt:=0,jh:=false,dd:=[],kd:=.normal,pv:=λ_=>false,okF:=λ_ _=>True,gl:=QD,ext:=PD,hx:=[],rx:=[],ID:=true,sd:=true}
def uP:iG:={fns:=RB,sp:=[],mark:=λ_=>false,sg:=id,root:=88,rt:=1000000,jh:=true,dd:=[],kd:=.normal,pv:=λ_=>false,okF:=λ_ _=>True,gl:=QD,ext:=PD,hx:=[],rx:=[],ID:=true,sd:=true}
def NT:j6 uP:=⟨λ_ _=>rfl,λ_=>rfl,λ_=>rfl,λ_=>rfl,λ_ h=>Bool.noConfusion h,λ_ _ _ _ _=>trivial,λ_ _ _ _ _ _ _ _ _=>trivial⟩
def PU:j6 LD:=⟨λ_ _=>rfl,λ_=>rfl,λ_=>rfl,λ_=>rfl,λ_ h=>Bool.noConfusion h,λ_ _ _ _ _=>trivial,λ_ _ _ _ _ _ _ _ _=>trivial⟩
def JZ:pU PD prog prog:=λg a=>by
 simp only[PD,ZW,adm,or_false]at a;rcases a with rfl|rfl|rfl
 .exact⟨_,pM,pM,λ_ _ _ _ _ h=>af.jR h⟩
 .exact⟨_,iQ,iQ,λ_ _ _ _ _ h=>af.Dj h⟩
 .exact⟨_,fQ,fQ,λ_ _ _ _ _ h=>af.kT _ _ h⟩
def Tc:∀g∈RB,X3 LD uP prog g:=
 all_cons (bu func77 (by kernel_rfl))<|
 all_cons (bu func78 (by kernel_rfl))<|
 all_cons (bu func80 (by kernel_rfl))<|
 all_cons (bu func81 (by kernel_rfl))<|
 all_cons (bu func83 (by kernel_rfl))<|
 all_cons (bu func127 (by kernel_rfl))<|
 all_cons (bu func128 (by kernel_rfl))<|
 all_cons (bu func129 (by kernel_rfl))<|
 all_cons (bu func130 (by kernel_rfl))<|
 all_cons (bu func131 (by kernel_rfl))<|
 all_cons (bu func132 (by kernel_rfl))<|
 all_cons (bu func134 (by kernel_rfl))<|
 all_cons (bu func135 (by kernel_rfl))<|
 all_cons (bu func136 (by kernel_rfl))<|
 all_cons (bu func141 (by kernel_rfl))<|
 all_cons (bu func142 (by kernel_rfl))<|
 all_cons (bu func143 (by kernel_rfl))<|
 all_cons (bu func144 (by kernel_rfl))<|
 all_cons (bu func157 (by kernel_rfl))<|
 all_cons (bu func163 (by kernel_rfl))<|
 all_cons (bu func166 (by kernel_rfl))<|
 all_cons (bu func169 (by kernel_rfl))<|
 all_cons (bu func170 (by kernel_rfl))<|
 all_cons (bu func173 (by kernel_rfl))<|
 all_cons (bu func174 (by kernel_rfl))<|
 all_cons (bu func175 (by kernel_rfl))<|
 all_cons (bu func176 (by kernel_rfl))<|
 all_cons (bu func177 (by kernel_rfl))<|
 all_cons (bu func178 (by kernel_rfl))<|
 all_cons (bu func179 (by kernel_rfl))<|
 all_cons (bu func192 (by kernel_rfl))<|
 all_cons (bu func200 (by kernel_rfl))<|
 all_cons (bu func201 (by kernel_rfl))<|
 all_cons (bu func202 (by kernel_rfl))<|
 all_cons (bu func203 (by kernel_rfl))<|
 all_cons (bu func214 (by kernel_rfl))<|
 all_cons (bu func215 (by kernel_rfl))<|
 all_cons (bu func226 (by kernel_rfl))<|
 all_cons (bu func227 (by kernel_rfl))<|
 all_cons (bu func228 (by kernel_rfl))<|
 all_cons (bu func229 (by kernel_rfl))<|
 all_cons (bu func230 (by kernel_rfl))<|
 all_cons (bu func231 (by kernel_rfl))<|
 all_cons (bu func232 (by kernel_rfl))<|
 all_cons (bu func233 (by kernel_rfl))<|
 all_cons (bu func245 (by kernel_rfl))<|
 all_cons (bu func247 (by kernel_rfl))<|
 all_cons (bu func257 (by kernel_rfl))<|
 all_cons (bu func259 (by kernel_rfl))<|
 all_cons (bu func260 (by kernel_rfl))<|
 all_cons (bu func261 (by kernel_rfl))<|
 all_cons (bu func262 (by kernel_rfl))<|
 all_cons (bu func267 (by kernel_rfl))<|
 all_cons (bu func269 (by kernel_rfl))<|
 all_cons (bu func270 (by kernel_rfl))<|
 all_cons (bu func278 (by kernel_rfl))<|
 all_cons (bu func279 (by kernel_rfl))<|
 all_cons (bu func280 (by kernel_rfl))<|
 all_cons (bu func281 (by kernel_rfl))<|
 all_cons (bu func284 (by kernel_rfl))<|
 all_cons (bu func285 (by kernel_rfl))<|
 all_nil
def Ws:∀g∈RB,PB uP prog prog g:=λg a=>let ⟨_,h,_,k⟩:=Tc g a;KR h h k
def Ye:∀g∈lX,PB LD prog prog g:=all_cons (KR func88 func88 (by kernel_rfl)) λg a=>let ⟨_,h,k,_⟩:=Tc g a;KR h h k
def MK:aH LD prog prog:=
 aH.of PU JZ fU.nil dw.nil (λg a=>by
  have h:(dS.all λg=>lX.contains g)=true:=by kernel_rfl
  have:=ZU.1 h g a;exact adv this) lX (λg=>⟨.inl,λh=>h.elim id λh=>by cases h⟩) (λg a=>by cases a) (λg a e=>by
  subst e;exact absurd a (adj (show decide (¬1000000∈lX)=true by kernel_rfl))) Ye (λg a=>by cases a)
def Pb:aH uP prog prog:=
 aH.of NT JZ fU.nil dw.nil (λg a=>by
  have h:(dS.all λg=>RB.contains g)=true:=by kernel_rfl
  have:=ZU.1 h g a;exact adv this) RB (λg=>⟨.inl,λh=>h.elim id λh=>by cases h⟩) (λg a=>by cases a) (λg a e=>by
  have b:g=88:=e;subst b;exact absurd a (adj (show decide (¬88∈RB)=true by kernel_rfl))) Ws (λg a=>by cases a)
def Kq:∃c,Func.body f88=some c/\bA uP prog 88 c=true/\uq uP c=c/\(∃k,Func.results f88= #[.tmp k]):=⟨_,rfl,by kernel_rfl,by kernel_rfl,_,rfl⟩
def QY:Func.ntmps f88<1000:=adj (by kernel_rfl)
def Qs:Twin prog prog:=jD prog.toTables _ prog.funcs lH FV
end
section
open Go.RowKit
structure After (W:World) where
 val:World
 later:Below W.heap.size W val
def After.cell {W}(x:After W){b o}(h:b<W.heap.size):x.val.cell? ⟨b,o,none⟩=W.cell? ⟨b,o,none⟩:=x.later.cell (p:=⟨b,o,none⟩) h
def After.frozen {W}(x:After W){b o}(h:b<W.heap.size):x.val.frozen? ⟨b,o,none⟩=W.frozen? ⟨b,o,none⟩:=x.later.frozen (p:=⟨b,o,none⟩) h
def After.const {W}{p}:(After W->p)↔p:=⟨λh=>h ⟨W,Below.refl _ _⟩,λh _=>h⟩
def place (s n c:Int):Prop:=0<=s/\s<4/\0<=n/\n<4/\0<=c/\c<24
def gM (w:World)(b o n:Nat)(R:Nat->Int):Prop:=∀i,i<n->w.cell? ⟨b,o+i,none⟩=some (.int .i64 (R i))
def gM.ext {w w'}{b o n}{R}(h:gM w b o n R)(hb:Below w.heap.size w w'):gM w' b o n R:=λi d=>by
 have c:=h i d;have a:b<w.heap.size:=block_lt_of_cell c;exact(hb.cell (p:=⟨b,_,none⟩) a).trans c
attribute [local go_sem ↓] Go.wp_at_zero Go.wp_at_succ
attribute [local go_sem] After.cell After.frozen After.const
structure cz where
 ao:Option Addr
 b:Nat
 o:Nat
 n:Nat
 cap:Nat
 S:Nat->Int
 N:Nat->Int
 C:Nat->Int
 ro:Option Addr
 rb:Nat
 rp:Nat
 r:Nat
 gD:Nat
 R:Nat->Int
 p:Int
end
section
open Go.RowKit
def blk {w:World}{k}{cs}{t}(h:w.heap[k]? =some (.cells cs t (0,0))):(∀j,w.cell? ⟨k,j,none⟩=cs[j]?)/\(∀j,w.frozen? ⟨k,j,none⟩=false):=
 ⟨λj=>cell_of_row w k j cs t (0,0) h,λj=>frozen_of_row w k j cs t h⟩
attribute [local go_sem ↓] Go.wp_at_zero Go.wp_at_succ
attribute [local go_sem] After.cell After.frozen After.const
def bW (S N C:Nat->Int)(j:Nat):Value:=.int .i64 (if j%3=0 then S (j/3)else if j%3=1 then N (j/3)else C (j/3))
def hC (m:cz)(j:Nat):Value:=if j<m.n*3 then bW m.S m.N m.C j else .int .i64 (-5)
def hR (m:cz)(j:Nat):Value:=if j<m.r then .int .i64 (m.R j)else .int .i64 (-5)
def aj {w:World}{base}{e}{size}{v}{n}{xs}(h:w.ownsRow base e size v n xs):∃ao cap,v=.slice ao n cap:=by
 rcases h.2 with⟨b,rfl⟩|⟨g,cap,cur,a,_⟩
 .exact⟨_,_,b⟩
 .exact⟨_,_,a⟩
def au {w w'}{base}{e}{size}{v}{n}{xs}(h:w.ownsRow base e size v n xs)(hb:Below w.heap.size w w'):w'.ownsRow base e size v n xs:=by
 refine⟨h.1,?_⟩;rcases h.2 with d|⟨g,cap,cur,b,c,a,r⟩
 .exact .inl d
 .exact .inr ⟨g,cap,cur,b,c,by rw[hb.block g (ZK.1 a).1];exact a,r⟩
def Ints (w:World)(v:Value)(n:Nat)(R:Nat->Int):Prop:=∃ao cap,v=.slice ao n cap/\n<=cap/\n<=9223372036854775807/\(0<n->∃b o,ao=some ⟨b,o,none⟩/\gM w b o n R)
def Ints.ext {w w'}{v}{n}{R}(h:Ints w v n R)(hb:Below w.heap.size w w'):Ints w' v n R:=by
 obtain⟨ao,cap,rfl,e,d,c⟩:=h;refine⟨ao,cap,rfl,e,d,λf=>?_⟩;obtain⟨b,o,rfl,a⟩:=c f;exact⟨b,o,rfl,a.ext hb⟩
def Tryz.JS:(prog.info? 9).map (λi=>(i.zero,i.size,i.bytes))=some (some (.string ByteArray.empty),1,16):=by kernel_rfl
def BK (L:Nat)(u:Value):Prop:=∃s:ByteArray,u=.string s/\s.size<=L
def zA (w:World)(A:Nat->Option Addr)(N C:Nat->Nat)(R:Nat->Nat->Int):Prop:=∀q,q<4->Ints w (.slice (A q) (N q) (C q)) (N q) (R q)
def zA.ext {w w'}{A}{N C}{R}(h:zA w A N C R)(hb:Below w.heap.size w w'):zA w' A N C R:=λq a=>(h q a).ext hb
end
section
open Go
section
variable (T:Tables)(f g:Array Func)
def uw (t):(Program.mk T g).packed t=(Program.mk T f).packed t:=by
 unfold Program.packed Program.packedAs;rw[lU T f g];simp only[qd T f g];rfl
def ll:∀(d:Nat) (t:TypeId),(Program.mk T g).holdsPacked d t=(Program.mk T f).holdsPacked d t
 |0,_=>rfl
 |d+1,t=>by
  unfold Program.holdsPacked;rw[bz T f g,uw T f g];simp only[ll d]
end
section
variable {st:Prop}{P Q:Program}{K:Nat->Prop}{p:Rel st}
structure rX (P Q:Program):Prop where
 packed:∀t,Q.packed t=P.packed t
 holds:∀t,Q.holdsPacked Q.depth t=P.holdsPacked P.depth t
 handle:∀v,handleType Q v=handleType P v
def af.noPack (h:rX P Q)(s)(t):af P Q K p (Extern.Rtype.noPack s t) (Extern.Rtype.noPack s t) (λ_ _ _=>True):=by
 unfold Extern.Rtype.noPack;refine af.bind af.program λq a b _ e=>?_
 rw[e.1,e.2,h.packed];split
 .exact af.halt
 .exact af.pure trivial
def af.noPackHeld (h:rX P Q)(s)(t):af P Q K p (Extern.Rtype.noPackHeld s t) (Extern.Rtype.noPackHeld s t) (λ_ _ _=>True):=by
 unfold Extern.Rtype.noPackHeld;refine af.bind af.program λq a b _ e=>?_
 rw[e.1,e.2];refine af.bind af.program λq a b _ e=>?_
 rw[e.1,e.2,h.holds];split
 .exact af.halt
 .exact af.pure trivial
def af.ofRtype (h:rX P Q)(c):af P Q K p (Extern.ReflectliteType.ofRtype c) (Extern.ReflectliteType.ofRtype c) (λ_ a b=>a=b):=by
 cases c with
 |agg xs=>
  obtain⟨l⟩:=xs
  match l with
  |[]=>exact ag.bR (ag.halt _)
  |x::y::r=>exact ag.bR (ag.halt _)
  |[x]=>
   refine af.bind (s:=Extern.Rtype.ofHandle x) (t:=Extern.Rtype.ofHandle x) (A:=λ_ a b=>a=b) ?_ λq a b _ e=>?_
   .unfold Extern.Rtype.ofHandle
    refine af.bind af.program λq a b _ e=>?_
    rw[e.1,e.2,h.handle];cases handleType P x with
    |none=>exact af.halt
    |some t=>exact af.pure rfl
   .subst e
    exact af.bind (af.noPack h _ _) λq _ _ _ _=>af.pure rfl
 |_=>exact ag.bR (ag.halt _)
def af.Eu (h:rX P Q){f}(hf:∀(q:Rel st) (t:TypeId),af P Q K q (f t) (f t) (λq a b=>VR q a b))(c):af P Q K p (Extern.ReflectliteType.method f #[c]) (Extern.ReflectliteType.method f #[c]) (λq a b=>VR q a b):=by
 refine af.bind (s:=Extern.ReflectliteType.ofRtype c) (t:=Extern.ReflectliteType.ofRtype c) (A:=λ_ a b=>a=b) (af.ofRtype h c) λq a b _ e=>?_
 subst e;exact hf q a
end
def Aa (L)(P)(t):P.packed t=(patch L P).packed t:=uw P.toTables _ P.funcs t
def Cz (L)(P)(d)(t):P.holdsPacked d t=(patch L P).holdsPacked d t:=ll P.toTables _ P.funcs d t
def EB (L)(P):rX (patch L P) P:=⟨Aa L P,λt=>by rw[Ez];exact Cz L P _ t,λv=>rfl⟩
def MM:rX (patch ae prog) prog:=EB _ _
def JG:rX (patch ae prog) (patch ae prog):=⟨λ_=>rfl,λ_=>rfl,λ_=>rfl⟩
def yT:∃f,Extern.ReflectliteType.rows.lookup "(internal/reflectlite.rtype).Comparable" =some (Extern.ReflectliteType.method f)/\
 ∀(st:Prop) (P Q:Program) (K:Nat->Prop) (p:Rel st) (t:TypeId),rX P Q->af P Q K p (f t) (f t) (λq a b=>VR q a b):=by
 refine⟨_,rfl,λst P Q K p t h=>?_⟩;refine af.bind (af.noPackHeld h _ _) λq _ _ _ _=>?_
 refine af.bind (af.typeInfo t) λc i j _ e=>?_
 obtain⟨rfl,_⟩:=e;exact af.pure (VR.bool _)
def jr:∃f,j5 prog 309 (Extern.ReflectliteType.method f)/\
 ∀(st:Prop) (P Q:Program) (K:Nat->Prop) (p:Rel st) (t:TypeId),rX P Q->af P Q K p (f t) (f t) (λq a b=>VR q a b):=by
 obtain⟨f,d,c⟩:=yT;exact⟨f,⟨_,func309,by kernel_rfl,by kernel_rfl,by kernel_rfl,(show Extern.find f309=Extern.ReflectliteType.rows.lookup "(internal/reflectlite.rtype).Comparable" by kernel_rfl).trans d⟩,c⟩
def Q6:fU [309] (patch ae prog) prog:=λg b=>by
 obtain rfl:=adi.1 b;obtain⟨f,a,d⟩:=jr;exact⟨_,bL a (by rfl),a,λ_ _ _ c=>af.Eu MM (λq t=>d _ _ _ _ q t MM) c⟩
def O4:fU [309] (patch ae prog) (patch ae prog):=λg b=>by
 obtain rfl:=adi.1 b;obtain⟨f,a,d⟩:=jr;exact⟨_,bL a (by rfl),bL a (by rfl),λ_ _ _ c=>af.Eu JG (λq t=>d _ _ _ _ q t JG) c⟩
end
namespace Z
open Go.RowKit
def Nz (D)(r i)(l)(k):dz D r (i::l) k=dz D r l k+if bG D r i=(k:Int)then 1 else 0:=by
 unfold dz;rw[List.countP_cons]
 by_cases h:bG D r i=(k:Int)<;>simp[h]
def qx (D:BD)(r m:Nat)(l:List Nat):Int:=(l.countP (λi=>has m (bG D r i).toNat):Nat)
def Fg (D)(r m i)(l):qx D r m (i::l)=qx D r m l+if has m (bG D r i).toNat=true then 1 else 0:=by
 unfold qx;rw[List.countP_cons]
 by_cases h:has m (bG D r i).toNat=true<;>simp[h]
def tZ (D)(r m):∀(l:List Nat),(∀i∈l,0<=bG D r i/\bG D r i<4)->fM (dz D r l) m 4=qx D r m l
 |[],_=>by
  have a:∀k,dz D r [] k=0:=λk=>rfl
  simp[fM,a,qx]
 |i::l,h=>by
  have b:=tZ D r m l λj e=>h j (ac1 _ e)
  have f:=h i ZX;rw[Fg,<-b];obtain⟨n,d,c⟩:∃n:Nat,bG D r i=(n:Int)/\n<4:=⟨(bG D r i).toNat,by omega,by omega⟩;simp only[fM,Nz,d,acX];obtain rfl|rfl|rfl|rfl:n=0\/n=1\/n=2\/n=3:=by omega
  all_goals
   cases a:has m 0<;>cases p:has m 1<;>cases o:has m 2<;>cases g:has m 3<;>simp<;>omega
end Z
section
open Go Go.RowKit
def kL {P}(w)(p q ty elem)(g o c h)(a)(b d)(cur)(t)(cs)(k m)
 (hu:P.underlying p=some (.slice elem))(hs:(P.info? elem).map (·.size)=some k)
 (u:w.heap[g]? =some (.cells cur t (0,0)))(hm:Nat.min b c=m)(r:cs.length=m*k)
 (e:∀j v,cs[j]? =some v->w.cell? (a.add j)=some v)(f:o+cs.length<=cur.size)(x:∀v∈cs,v.oneCell'=true):
 (Builtin.copy_ #[p,q] ty #[.slice (some ⟨g,o,none⟩) c h,.slice (some a) b d]).run P w=
  .ok (goInt m) (w.setRow g (cur.toList.take o++cs++cur.toList.drop (o+cs.length)).toArray):=by
 have hl:=run_loadCells_list (P:=P) w a cs e;have l:=run_storeCells_at P g o t cs 0 cur w u (by simpa using f) x;cases n:P.info? elem with
 |none=>simp[n]at hs
 |some i=>
  have s:i.size=k:=by simpa[n] using hs
  simp[Builtin.copy_,run_underlying hu,Builtin.lenOf,Builtin.firstCells,sizeOf,typeInfo,n,s,hm,<-r,hl,l]
def su {P}{w}{ops}{rest}{o}{a}{Q}(q:o.guard=none)(d s)(r u)
 (x:o.op=.call {callee:=.builtin .copy,args:= #[d,s],argTypes:= #[r,u]})(elem)(k m)(hu:P.underlying r=some (.slice elem))(p:(P.info? elem).map (·.size)=some k)
 (g off c f)(ad)(b e)(hd:a.eval d=.slice (some ⟨g,off,none⟩) c f)(hs:a.eval s=.slice (some ad) b e)
 (cur)(t)(z:w.heap[g]? =some (.cells cur t (0,0)))(cs)(hm:Nat.min b c=m)(y:cs.length=m*k)
 (i:∀j v,cs[j]? =some v->w.cell? (ad.add j)=some v)(n:off+cs.length<=cur.size)(B:∀v∈cs,v.oneCell'=true)
 (h:wpList P ops Q rest (a.put o.dst (goInt m)) (w.setRow g (cur.toList.take off++(cs++cur.toList.drop (off+cs.length))).toArray)):wpList P ops Q (o::rest) a w:=by
 refine wpList_plain q λK A=>?_
 have l:=kL (P:=P) w r u o.type elem g off c f ad b e cur t cs k m hu p z hm y i n B;unfold Oper.wp;simp[execOp,x,resolve,invoke,builtin,hd,hs,l,Result.andThen];exact A _ _ h
def jG {P}(w)(n o ty elem)(d a)(c f b e k)(hu:P.underlying n=some (.slice elem))(hs:(P.info? elem).map (·.size)=some k)(l:Nat.min b c=0):
 (Builtin.copy_ #[n,o] ty #[.slice d c f,.slice a b e]).run P w=.ok (goInt 0) w:=by
 cases g:P.info? elem with
 |none=>simp[g]at hs
 |some i=>
  have m:i.size=k:=by simpa[g] using hs
  cases a with
  |none=>cases d<;>simp[Builtin.copy_,run_underlying hu,Builtin.lenOf,Builtin.firstCells,sizeOf,typeInfo,g,m,l,storeCells]
  |some a=>
   have hl:=run_loadCells_list (P:=P) w a [] (λj v h=>by simp at h);simp only[List.length_nil]at hl;cases d<;>simp[Builtin.copy_,run_underlying hu,Builtin.lenOf,Builtin.firstCells,sizeOf,typeInfo,g,m,l,hl,storeCells]
def Gv {P}{w}{ops}{rest}{o}{a}{Q}(q:o.guard=none)(d s)(u x)
 (D:o.op=.call {callee:=.builtin .copy,args:= #[d,s],argTypes:= #[u,x]})(elem)(k m)(hu:P.underlying u=some (.slice elem))(i:(P.info? elem).map (·.size)=some k)(F:0<k)
 (A sp)(c f b e)(hd:a.eval d=.slice A c f)(hs:a.eval s=.slice sp b e)
 (g off)(cur)(t)(y:w.heap[g]? =some (.cells cur.toArray t (0,0)))(cs)(hm:Nat.min b c=m)(E:cs.length=m*k)
 (p:0<cs.length->A=some ⟨g,off,none⟩/\∃ad,sp=some ad/\∀j v,cs[j]? =some v->w.cell? (ad.add j)=some v)
 (r:off+cs.length<=cur.length)(H:∀v∈cs,v.oneCell'=true)(B)(C)(hb:Below B C w)(z:B<=g)
 (h:∀w',Hid (w'.heap[g]? =some (.cells (splice cur off cs).toArray t (0,0)))->Below B C w'->(∀k,k≠g->w'.heap[k]? =w.heap[k]?)->wpList P ops Q rest (a.put o.dst (goInt m)) w'):
 wpList P ops Q (o::rest) a w:=by
 by_cases I:cs.length=0
 .obtain rfl:cs=[]:=List.eq_nil_of_length_eq_zero I
  have m0:m=0:=by
   rcases Nat.mul_eq_zero.1 E.symm with h|h<;>omega
  subst m0;refine wpList_plain q λK G=>?_
  have n:=jG (P:=P) w u x o.type elem A sp c f b e k hu i hm;unfold Oper.wp;simp[execOp,D,resolve,invoke,builtin,hd,hs,n,Result.andThen];exact G _ _ (h w (show _=_ by simpa[splice] using y) hb λ_ _=>rfl)
 .obtain⟨rfl,ad,rfl,l⟩:=p (by omega)
  refine su q d s u x D elem k m hu i g off c f ad b e hd hs cur.toArray t y cs hm E l (by simpa using r) H ?_;exact h _ (show _=_ by simpa[splice] using setRow_heap w g _ _ t _ y) (below_setRow hb z _) λk F=>setRow_other w g k _ F
def ky {P}{ops}{o}{a}{w}{K}{Q}{E}(x:o.guard=none)(d s)(r u)
 (D:o.op=.call {callee:=.builtin .copy,args:= #[d,s],argTypes:= #[r,u]})(elem)(k m)(hu:P.underlying r=some (.slice elem))(l:(P.info? elem).map (·.size)=some k)(G:0<k)
 (A sp)(c i b e)(hd:a.eval d=.slice A c i)(hs:a.eval s=.slice sp b e)
 (g off)(cur)(t)(y:w.heap[g]? =some (.cells cur.toArray t (0,0)))(cs)(hm:Nat.min b c=m)(F:cs.length=m*k)
 (p:0<cs.length->A=some ⟨g,off,none⟩/\∃ad,sp=some ad/\∀j v,cs[j]? =some v->w.cell? (ad.add j)=some v)
 (q:off+cs.length<=cur.length)(H:∀v∈cs,v.oneCell'=true)(B)(C)(hb:Below B C w)(z:B<=g)
 (h:∀w',Hid (w'.heap[g]? =some (.cells (splice cur off cs).toArray t (0,0)))->Below B C w'->(∀k,k≠g->w'.heap[k]? =w.heap[k]?)->K (a.put o.dst (goInt m)) w'):
 if Region.wanted o (yielded ops a.tmps)=true then Oper.wp P o a w K Q else E:=by
 have hw:Region.wanted o (yielded ops a.tmps)=true:=by simp[Region.wanted,x]
 rw[if_pos hw]
 by_cases I:cs.length=0
 .obtain rfl:cs=[]:=List.eq_nil_of_length_eq_zero I
  have m0:m=0:=by
   rcases Nat.mul_eq_zero.1 F.symm with h|h<;>omega
  subst m0;have f:=jG (P:=P) w r u o.type elem A sp c i b e k hu l hm;unfold Oper.wp;simp[execOp,D,resolve,invoke,builtin,hd,hs,f,Result.andThen];exact h w (show _=_ by simpa[splice] using y) hb λ_ _=>rfl
 .obtain⟨rfl,ad,rfl,n⟩:=p (by omega)
  have f:=kL (P:=P) w r u o.type elem g off c i ad b e cur.toArray t cs k m hu l y hm F n (by simpa using q) H;unfold Oper.wp;simp[execOp,D,resolve,invoke,builtin,hd,hs,f,Result.andThen];exact h _ (show _=_ by simpa[splice] using setRow_heap w g _ _ t _ y) (below_setRow hb z _) λk G=>setRow_other w g k _ G
end
section
open Go
def acf (a:List UInt8):Lib.compareBytes a a=0:=by
 induction a with
 |nil=>rfl
 |cons x a b=>simp[Lib.compareBytes,b]
def abP:∀(a b:List UInt8),Lib.compareBytes b a= -Lib.compareBytes a b
 |[],[]=>rfl
 |[],_::_=>rfl
 |_::_,[]=>rfl
 |x::a,y::b=>by
  have e:=abP a b;have h:¬(x<y/\y<x):=fun⟨d,c⟩=>by simp only[UInt8.lt_iff_toNat_lt]at d c;omega
  unfold Lib.compareBytes
  by_cases d:x<y
  .have c:¬y<x:=λc=>h ⟨d,c⟩
   simp[d,c]
  .by_cases c:y<x
   .simp[d,c]
   .simp[d,c,e]
def abQ:∀{a b:List UInt8},Lib.compareBytes a b=0->a=b
 |[],[],_=>rfl
 |[],_::_,h=>by simp[Lib.compareBytes]at h
 |_::_,[],h=>by simp[Lib.compareBytes]at h
 |x::a,y::b,h=>by
  unfold Lib.compareBytes at h
  by_cases c:x<y
  .simp[c]at h
  .by_cases e:y<x
   .simp[c,e]at h
   .simp[c,e]at h
    have d:x=y:=UInt8.toNat_inj.1 (by simp only[UInt8.lt_iff_toNat_lt]at c e;omega);rw[d,abQ h]
def aa2:∀{a b c:List UInt8},Lib.compareBytes a b<0->Lib.compareBytes b c<0->Lib.compareBytes a c<0
 |[],_,[],h,k=>by
  rename_i b;cases b with
  |nil=>simp[Lib.compareBytes]at h
  |cons y b=>simp[Lib.compareBytes]at k
 |[],_,_::_,_,_=>by simp[Lib.compareBytes]
 |_::_,[],_,h,_=>by simp[Lib.compareBytes]at h
 |_::_,_::_,[],_,k=>by simp[Lib.compareBytes]at k
 |x::a,y::b,z::c,h,k=>by
  unfold Lib.compareBytes at h k⊢
  by_cases e:x<y
  .by_cases k1:y<z
   .have:x<z:=by simp only[UInt8.lt_iff_toNat_lt]at e k1⊢;omega
    simp[this]
   .by_cases d:z<y
    .simp[k1,d]at k
    .have:y=z:=UInt8.toNat_inj.1 (by simp only[UInt8.lt_iff_toNat_lt]at k1 d;omega)
     subst this;simp[e]
  .by_cases g:y<x
   .simp[e,g]at h
   .have f:x=y:=UInt8.toNat_inj.1 (by simp only[UInt8.lt_iff_toNat_lt]at e g;omega)
    subst f;simp only[e,if_false]at h
    by_cases k1:x<z
    .simp[k1]
    .by_cases d:z<x
     .simp[k1,d]at k
     .simp only[k1,d,if_false]at k⊢
      exact aa2 h k
end
namespace Z
open Go.RowKit
attribute [local go_sem ↓] Go.wp_at_zero Go.wp_at_succ
attribute [local go_sem] After.cell After.frozen After.const
def A7 (i:Nat):Int:=if i=0 then 24 else 16
def qm (i:Nat)(w):adO 82 #[.int .i64 i] w λe w'=>e=.returned (.int .i64 (A7 i))/\w'=w:=by
 by_cases h:i=0
 .subst h
  go_enter (pf func82 (by rfl)),ntmps82
  go_wp2_with fail;go_ret;exact⟨rfl,rfl⟩
 .have hb:((i:Int)==0)=false:=acZ.2 (by omega)
  go_enter (pf func82 (by rfl)),ntmps82
  go_wp2_with fail;go_ret;exact⟨by simp[A7,h],rfl⟩
def QC (c:Nat->Int)(k:Nat):Prop:=∀i,i<k->0<=c i/\c i<=A7 i
def BC (c:Nat->Int)(k:Nat):Bool:=(List.range k).any λi=>decide (0<c i)
def zi (c)(k):BC c (k+1)=(BC c k||decide (0<c k)):=by
 unfold BC;rw[Z6,List.any_append];simp
def Ut (c:Nat->Int)(k:Nat):Decidable (QC c k):=by unfold QC;infer_instance
def qo (c:Nat->Int):Bool:= @decide (QC c 4) (Ut c 4)&&BC c 4
def vz (c)(w):adO 53 #[.agg (aQ c)] w λe w'=>e=.returned (.bool (qo c))/\adN w w':=by
 unfold aQ;have b0:adN w (w.alloc (.cells #[.int .i64 (c 0),.int .i64 (c 1),.int .i64 (c 2),.int .i64 (c 3)] 37)):=(aab _ _).alloc (ZL _) _;have m:=av b0;clear b0
 go_enter (pf func53 (by rfl)),ntmps53
 go_wp2_with fail
 go_loopw [3,7] (λa i wr=>∃k:Nat,k<=4/\i=.int .i64 k/\a=.bool (BC c k)/\QC c k/\wr=w.alloc (.cells #[.int .i64 (c 0),.int .i64 (c 1),.int .i64 (c 2),.int .i64 (c 3)] 37)) (λ_ i _=>4-(intOf i).toNat)
 case atStart=>exact⟨0,by omega,rfl,rfl,λi n=>absurd n (ZV _),rfl⟩
 case round=>
  obtain⟨k,y,rfl,rfl,j,hw⟩:=hrel;have s:=av j;have r:=av hw;rw[<-hw]at m;clear j hw
  by_cases g:k<4
  .have x:(k:Int)<4:=by omega
   have t:=λW=>ym c k g W
   by_cases v:c k<0
   .have l:=av v
    go_wp2_with fail;go_ret
    have f:qo c=false:=by
     unfold qo;have:¬QC c 4:=λh=>by have:=(h k g).1;have:=l.out;omega
     simp[this]
    exact⟨by rw[f];rfl,m.out⟩
   .by_cases q:A7 k<c k
    .have l:=av q
     have u:(c k>A7 k):=q;go_wp2_with(go_at_call 82;refine(qm k _).mono ?_;rintro e w1 ⟨rfl,b⟩;obtain rfl:=b.symm);go_ret
     have f:qo c=false:=by
      unfold qo;have:¬QC c 4:=λh=>by have:=(h k g).2;have:=l.out;omega
      simp[this]
     exact⟨by rw[f];rfl,m.out⟩
    .have l:Hid (0<=c k/\c k<=A7 k):=⟨by omega,by omega⟩
     have d:Hid (QC c (k+1)):=λi n=>by
      rcases ac7.1 n with h|rfl
      .exact s.out i h
      .exact l.out
     cases p:BC c k
     .have o:=av p
      go_wp2_with(go_at_call 82;refine(qm k _).mono ?_;rintro e w1 ⟨rfl,b⟩;obtain rfl:=b.symm);go_roundw
      case rel=>exact⟨k+1,by omega,by go_num,by rw[zi,o.out];simp,d.out,r.out⟩
      case measure=>simp[intOf];omega
     .have o:=av p
      go_wp2_with(go_at_call 82;refine(qm k _).mono ?_;rintro e w1 ⟨rfl,b⟩;obtain rfl:=b.symm);go_roundw
      case rel=>exact⟨k+1,by omega,by go_num,by rw[zi,o.out];simp,d.out,r.out⟩
      case measure=>simp[intOf];omega
  .have:k=4:=by omega
   subst this;go_wp2_with fail;go_ret;exact⟨by unfold qo;simp[s.out],m.out⟩
def acx (A:Nat->Option Addr)(N C:Nat->Nat):Value:=.agg #[.slice (A 0) (N 0) (C 0),.slice (A 1) (N 1) (C 1),.slice (A 2) (N 2) (C 2),.slice (A 3) (N 3) (C 3)]
def zA (w:World)(A:Nat->Option Addr)(N C:Nat->Nat)(R:Nat->Nat->Int):Prop:=∀q,q<4->Ints w (.slice (A q) (N q) (C q)) (N q) (R q)
def zA.ext {w w':World}{A:Nat->Option Addr}{N C:Nat->Nat}{R:Nat->Nat->Int}(h:zA w A N C R)(hb:adN w w'):zA w' A N C R:=λq a=>(h q a).ext hb
def aav (N:Nat->Nat)(R:Nat->Nat->Int)(b:Nat->Nat)(a:Nat->Nat->Int)(k:Nat):Prop:=∀q,q<k->aaJ (N q) (R q) (b q) (a q)
def aav.one {N b:Nat->Nat}{R a:Nat->Nat->Int}:aav N R b a 1↔aaJ (N 0) (R 0) (b 0) (a 0):=by
 refine⟨λh=>h 0 (by omega),λh q c=>?_⟩;obtain rfl:q=0:=by omega
 exact h
def aav.succ {N c:Nat->Nat}{R b:Nat->Nat->Int}{k:Nat}(h:aav N R c b k)(hs:aaJ (N k) (R k) (c k) (b k)):aav N R c b (k+1):=λq d=>by
 rcases ac7.1 d with a|a
 .exact h q a
 .subst a;exact hs
def aav.aci {r:Bool}{N b:Nat->Nat}{R a:Nat->Nat->Int}{k:Nat}(h:r=true↔aav N R b a (k+1))(hs:aaJ (N (k+1)) (R (k+1)) (b (k+1)) (a (k+1))):r=true↔aav N R b a (k+1+1):=
 h.trans ⟨λh=>h.succ hs,λh q c=>h q (by omega)⟩
def aav.acp {r:Bool}{N b:Nat->Nat}{R a:Nat->Nat->Int}{k:Nat}(_:r=true↔aav N R b a (k+1))(hs:¬aaJ (N (k+1)) (R (k+1)) (b (k+1)) (a (k+1))):false=true↔aav N R b a (k+1+1):=
 ⟨λh=>(by cases h),λh=>absurd (h (k+1) (by omega)) hs⟩
def aaw (v v':Value)(n p:Nat)(R c:Nat->Int)(w:World)(h:Ints w v n R)(z:Ints w v' p c):
 adO 50 #[v,v'] w λe w'=>lg (aaJ n R p c) e/\adN w w':=by
 obtain⟨ao,cap,rfl,hc,hm,r⟩:=h;obtain⟨B,u,rfl,y,x,f⟩:=z
 by_cases g:n=p
 case neg=>
  go_enter (pf func50 (by rfl)),ntmps50
  go_wp2_with(first|(go_at_call 102;go_enter (pf func102 (by rfl)),ntmps102)|(go_at_call 65;go_enter (pf func65 (by rfl)),ntmps65));go_ret;exact⟨.no λh=>g h.1,aab _ _⟩
 subst g
 go_enter (pf func50 (by rfl)),ntmps50
 go_wp2_with(first|(go_at_call 102;go_enter (pf func102 (by rfl)),ntmps102)|(go_at_call 65;go_enter (pf func65 (by rfl)),ntmps65))
 go_loopw [5] (λi wr=>∃k:Nat,k<=n/\i=.int .i64 k/\adN w wr/\∀j,j<k->R j=c j) (λi _=>n-(intOf i).toNat)
 case atStart=>exact⟨0,by omega,rfl,aab _ _,λj q=>absurd q (ZV _)⟩
 case round=>
  obtain⟨k,E,rfl,hb,a⟩:=hrel;have m:Hid ((∀j,j<k->R j=c j)/\adN w wr):=⟨a,hb⟩
  by_cases d:k<n
  .obtain⟨b,o,rfl,t⟩:=r (by omega)
   obtain⟨F,C,rfl,l⟩:=f (by omega);have u0:=(t.ext hb) k d;have u1:=(l.ext hb) k d;have D:(k:Int)<n:=(by omega);clear a hb t l r f
   by_cases he:R k=c k
   .have s:Hid (R k=c k):=he
    have A:(R k==c k)=true:=(by simp[he]);clear he;go_wp2_with(first|(go_at_call 102;go_enter (pf func102 (by rfl)),ntmps102)|(go_at_call 65;go_enter (pf func65 (by rfl)),ntmps65));go_quiet(fail);go_wp2_with(first|(go_at_call 102;go_enter (pf func102 (by rfl)),ntmps102)|(go_at_call 65;go_enter (pf func65 (by rfl)),ntmps65));go_roundw
    case rel=>exact⟨k+1,by omega,by go_num,m.out.2.drewN _,λj q=>by
     rcases ac7.1 q with h|h
     .exact m.out.1 j h
     .subst h;exact s.out⟩
    case measure=>simp[intOf];omega
   .have s:Hid (R k≠c k):=he
    have A:(R k==c k)=false:=(by simp[he]);clear he;go_wp2_with(first|(go_at_call 102;go_enter (pf func102 (by rfl)),ntmps102)|(go_at_call 65;go_enter (pf func65 (by rfl)),ntmps65));go_quiet(fail);go_wp2_with(first|(go_at_call 102;go_enter (pf func102 (by rfl)),ntmps102)|(go_at_call 65;go_enter (pf func65 (by rfl)),ntmps65));go_ret;exact⟨.no λh=>s.out (h.2 k d),m.out.2.drewN _⟩
  .have:k=n:=by omega
   subst this;clear a hb r f;go_wp2_with(first|(go_at_call 102;go_enter (pf func102 (by rfl)),ntmps102)|(go_at_call 65;go_enter (pf func65 (by rfl)),ntmps65));go_ret;exact⟨.yes ⟨rfl,m.out.1⟩,m.out.2⟩
def aa1 (A d:Nat->Option Addr)(N C a c:Nat->Nat)(R g:Nat->Nat->Int)(w:World)(h:zA w A N C R)(B:zA w d a c g):
 adO 26 #[acx A N C,acx d a c] w λe w'=>lg (aav N R a g 4) e/\adN w w':=by
 unfold acx;obtain⟨b,f⟩:∃b,b=(w.alloc (.cells #[.slice (A 0) (N 0) (C 0),.slice (A 1) (N 1) (C 1),.slice (A 2) (N 2) (C 2),.slice (A 3) (N 3) (C 3)] 41)).alloc (.cells #[.slice (d 0) (a 0) (c 0),.slice (d 1) (a 1) (c 1),.slice (d 2) (a 2) (c 2),.slice (d 3) (a 3) (c 3)] 41):=⟨_,rfl⟩;have k:adN w b:=by rw[f];exact((aab _ _).alloc (ZL _) _).alloc (by simp) _
 have x:b.heap[w.heap.size]? =some (.cells #[.slice (A 0) (N 0) (C 0),.slice (A 1) (N 1) (C 1),.slice (A 2) (N 2) (C 2),.slice (A 3) (N 3) (C 3)] 41 (0,0)):=by rw[f];exact aap _ _ _
 have k1:b.heap[w.heap.size+1]? =some (.cells #[.slice (d 0) (a 0) (c 0),.slice (d 1) (a 1) (c 1),.slice (d 2) (a 2) (c 2),.slice (d 3) (a 3) (c 3)] 41 (0,0)):=by rw[f];exact aam _ _ _
 have y:w.heap.size+1<b.heap.size:=by rw[f];simp
 have m:Hid (adN w b/\zA b A N C R/\zA b d a c g):=⟨k,h.ext k,B.ext k⟩;obtain⟨H,v⟩:=blk x;obtain⟨G,u⟩:=blk k1;have D:Hid (b.heap[w.heap.size]? =some (.cells #[.slice (A 0) (N 0) (C 0),.slice (A 1) (N 1) (C 1),.slice (A 2) (N 2) (C 2),.slice (A 3) (N 3) (C 3)] 41 (0,0))/\b.heap[w.heap.size+1]? =some (.cells #[.slice (d 0) (a 0) (c 0),.slice (d 1) (a 1) (c 1),.slice (d 2) (a 2) (c 2),.slice (d 3) (a 3) (c 3)] 41 (0,0))):=⟨x,k1⟩;clear k h B x k1
 go_enter (pf func26 (by rfl)),ntmps26
 go_wp2_with(go_at_call 50;rw[<-f];clear f;refine(aaw _ _ (N 0) (a 0) (R 0) (g 0) b (m.out.2.1 0 (by omega)) (m.out.2.2 0 (by omega))).mono ?_;rintro e w1 ⟨he,o⟩;obtain⟨r0,rfl,n⟩:=he;have H1:Hid (adN b w1/\(r0=true↔aav N R a g 1)):=⟨o,n.trans aav.one.symm⟩;clear o n);go_wp2_with fail
 go_loopw [5,6] (λs i wr=>∃q:Nat,q<=3/\i=.int .i64 q/\∃r:Bool,s=.bool r/\adN b wr/\(r=true↔aav N R a g (q+1))) (λ_ i _=>3-(intOf i).toNat)
 case atStart=>exact⟨0,by omega,rfl,r0,rfl,H1.out.1,H1.out.2⟩
 case round=>
  obtain⟨q,O,rfl,r,rfl,hb,z⟩:=hrel;have j:Hid (adN b wr/\(r=true↔aav N R a g (q+1))):=⟨hb,z⟩;obtain⟨M,F⟩:=blk ((hb.block w.heap.size (by omega)).trans D.out.1);obtain⟨L,E⟩:=blk ((hb.block (w.heap.size+1) y).trans D.out.2);have J:w.heap.size<wr.heap.size:=by have:=hb.size;omega
  have I:w.heap.size+1<wr.heap.size:=by have:=hb.size;omega
  clear H v G u hb z
  by_cases K:q<3
  .by_cases t:aaJ (N (q+1)) (R (q+1)) (a (q+1)) (g (q+1))
   .have p:Hid (aaJ (N (q+1)) (R (q+1)) (a (q+1)) (g (q+1))):=t
    clear t
    rcases(show q=0\/q=1\/q=2 by omega)with rfl|rfl|rfl<;>(
     go_wp2_with(first|(go_at_call 102;go_enter (pf func102 (by rfl)),ntmps102)|(go_at_call 65;go_enter (pf func65 (by rfl)),ntmps65));refine dx (by kernel_rfl) (by kernel_rfl) ?_
     repeat(go_big_quiet_step (first|(go_at_call 50;exact Calls.iU p.out (aaw _ _ _ _ _ _ _ (((m.out.2.1.ext j.out.1).ext (After.later _)) _ (by omega)) (((m.out.2.2.ext j.out.1).ext (After.later _)) _ (by omega))))))
     refine wpQuiet_nil ?_;rintro _ ⟨⟨w1,l⟩,rfl⟩
     cases r<;>(
      go_wp2_with(first|(go_at_call 102;go_enter (pf func102 (by rfl)),ntmps102)|(go_at_call 65;go_enter (pf func65 (by rfl)),ntmps65));go_roundw
      case rel=>exact⟨_+1,by omega,by go_num,_,rfl,ai j.out.1 l,aav.aci j.out.2 p.out⟩
      case measure=>simp[intOf]))
   .have p:Hid (¬aaJ (N (q+1)) (R (q+1)) (a (q+1)) (g (q+1))):=t
    clear t
    rcases(show q=0\/q=1\/q=2 by omega)with rfl|rfl|rfl<;>(
     go_wp2_with(first|(go_at_call 102;go_enter (pf func102 (by rfl)),ntmps102)|(go_at_call 65;go_enter (pf func65 (by rfl)),ntmps65));refine dx (by kernel_rfl) (by kernel_rfl) ?_
     repeat(go_big_quiet_step (first|(go_at_call 50;exact Calls.oC p.out (aaw _ _ _ _ _ _ _ (((m.out.2.1.ext j.out.1).ext (After.later _)) _ (by omega)) (((m.out.2.2.ext j.out.1).ext (After.later _)) _ (by omega))))))
     refine wpQuiet_nil ?_;rintro _ ⟨⟨w1,l⟩,rfl⟩
     cases r<;>(
      go_wp2_with(first|(go_at_call 102;go_enter (pf func102 (by rfl)),ntmps102)|(go_at_call 65;go_enter (pf func65 (by rfl)),ntmps65));go_roundw
      case rel=>exact⟨_+1,by omega,by go_num,_,rfl,ai j.out.1 l,aav.acp j.out.2 p.out⟩
      case measure=>simp[intOf]))
  .have:q=3:=by omega
   subst this;go_wp2_with fail;go_ret;exact⟨⟨r,rfl,j.out.2⟩,ai m.out.1 j.out.1⟩
def aas (w:World)(v:Value)(l:List Nat):Prop:=Ints w v l.length (λj=>((l[j]?.getD 0:Nat):Int))
def aas.ext {w w':World}{v:Value}{l:List Nat}(h:aas w v l)(hb:adN w w'):aas w' v l:=Ints.ext h hb
def aas.own {w:World}{base:Nat}{v:Value}{l:List Nat}(h:w.ownsRow base 3 1 v l.length (aT l)):aas w v l:=dh h
def getD_at {l:List Nat}{j:Nat}(h:j<l.length):l[j]?.getD 0=l[j]:=by rw[ZT h];rfl
def aaN {l l':List Nat}:aaJ l.length (λj=>((l[j]?.getD 0:Nat):Int)) l'.length (λj=>((l'[j]?.getD 0:Nat):Int))↔l=l':=by
 refine⟨λh=>List.ext_getElem h.1 λi a b=>?_,λh=>by subst h;exact⟨rfl,λ_ _=>rfl⟩⟩;have:=h.2 i a;simp only at this;rw[getD_at a,getD_at b]at this;exact Int.ofNat.inj this
def aaB (w:World)(A:Nat->Option Addr)(C:Nat->Nat)(L:Nat->List Nat):Prop:=∀q,q<4->aas w (.slice (A q) (L q).length (C q)) (L q)
def aaB.ext {w w':World}{A:Nat->Option Addr}{C:Nat->Nat}{L:Nat->List Nat}(h:aaB w A C L)(hb:adN w w'):aaB w' A C L:=λq a=>(h q a).ext hb
def aaI (A:Nat->Option Addr)(C:Nat->Nat)(L:Nat->List Nat):Value:=.agg #[.slice (A 0) (L 0).length (C 0),.slice (A 1) (L 1).length (C 1),.slice (A 2) (L 2).length (C 2),.slice (A 3) (L 3).length (C 3)]
def aaA (A d:Nat->Option Addr)(C c:Nat->Nat)(L a:Nat->List Nat)(w:World)(h:aaB w A C L)(g:aaB w d c a):
 adO 26 #[aaI A C L,aaI d c a] w λe w'=>lg (∀q,q<4->L q=a q) e/\adN w w':=by
 refine(aa1 A d (λq=>(L q).length) C (λq=>(a q).length) c _ _ w h g).mono ?_;rintro e w' ⟨⟨r,rfl,f⟩,hb⟩;exact⟨⟨r,rfl,f.trans ⟨λh q b=>aaN.1 (h q b),λh q b=>aaN.2 (h q b)⟩⟩,hb⟩
def ace (A:Nat->Option Addr)(C:Nat->Nat)(L:Nat->List Nat)(w:World)(h:aaB w A C L):
 adO 22 #[aaI A C L] w λe w'=>lg (∀q,q<4->L q=[]) e/\adN w w':=by
 have a:adN w (w.alloc (.cells #[.slice (A 0) (L 0).length (C 0),.slice (A 1) (L 1).length (C 1),.slice (A 2) (L 2).length (C 2),.slice (A 3) (L 3).length (C 3)] 41)):=(aab _ _).alloc (ZL _) _;have c:=av (aaA A (λ_=>none) C (λ_=>0) L (λ_=>[]) _ (h.ext a) (λ_ _=>⟨none,0,rfl,ZL _,by simp,λh=>absurd h (aby _)⟩));have d:=av a;clear h a;unfold aaI at*
 go_enter (pf func22 (by rfl)),ntmps22
 go_wp2_with fail;refine c.out.mono ?_;rintro e w1 ⟨⟨r,rfl,b⟩,hb⟩;have H1:=av (aaa b (ai d.out hb));clear b hb;go_wp2_with fail;go_ret;exact⟨⟨r,rfl,H1.out.1⟩,H1.out.2⟩
end Z
section
open Go.ChangeShapes Go.WideShapes Go.ChangeAt Go.RowKit Go.Deep Go.Joins
end
section
open Go.ChangeShapes Go.WideShapes Go.ChangeAt Go.RowKit Go.Great
def putCells (cs:Array Value):Obj->Obj
 |.cells _ t f=>.cells cs t f
 |o=>o
def Nb:DataW Unit->List Value
 |.lit (.int k n)=>[.int k n]
 |_=>[]
def Na:DataW Unit->List Value
 |.agg ps=>ps.flatMap Nb
 |d=>Nb d
def Ry:DataW Unit->List Value
 |.agg ps=>ps.flatMap Na
 |d=>Na d
def oo (d:DataW Unit):Array Value:=(Ry d).toArray
def gT (l:List Nat):List Int:=l.map fun(n:Nat)=>(n:Int)
def over (k:IntKind)(l:List Nat):Array Value:=((gT l).map (Value.int k)).toArray
def MB (b:Nat)(l:List Nat):Array Value:= #[.slice (some ⟨b,0,none⟩) (gT l).length (gT l).length]
def iJ (h:Array Obj):Array Obj:=
 (((((((((((((h.modify 0 (putCells #[.iface 345 (.pointer (some ⟨24,0,none⟩))])).modify 3 (putCells (oo Rows.laid_internal_strconv_uint64pow10))).modify 12 (putCells (oo Rows.laid_math_bits_deBruijn32tab))).modify 13 (putCells (oo Rows.laid_math_bits_deBruijn64tab))).modify 5 (putCells (oo Rows.laid_unicode_utf8_acceptRanges))).modify 4
   (putCells (oo Rows.laid_unicode_utf8_first))).modify 7 (putCells (MB 19 Pinned.isPrint16Z))).modify 8 (putCells (MB 20 Pinned.isNotPrint16Z))).modify 9 (putCells (MB 21 Pinned.isPrint32Z))).modify 10 (putCells (MB 22 Pinned.isNotPrint32Z))).modify 11 (putCells (MB 23 Pinned.isGraphicZ))).modify 2
   (putCells #[.iface 345 (.pointer (some ⟨25,0,none⟩))])).modify 6 (putCells #[.iface 345 (.pointer (some ⟨26,0,none⟩))]))++
 #[.cells (over .u16 Pinned.isPrint16Z) 337,.cells (over .u16 Pinned.isNotPrint16Z) 337,.cells (over .u32 Pinned.isPrint32Z) 128,.cells (over .u16 Pinned.isNotPrint32Z) 337,.cells (over .u16 Pinned.isGraphicZ) 337,
    .cells #[.string ⟨#[116,104,101,32,100,105,115,107,32,111,112,101,114,97,116,105,111,110,32,102,97,105,108,101,100]⟩] 347,.cells #[.string ⟨#[105,110,118,97,108,105,100,32,115,121,110,116,97,120]⟩] 347,.cells #[.string ⟨#[118,97,108,117,101,32,111,117,116,32,111,102,32,114,97,110,103,101]⟩] 347]
def qX (k)(l)(h:((gT l).all λn=>(Lit.int k n).wf)=true):∀n∈gT l,(Lit.int k n).wf=true:=λn a=>ZU.1 h n a
def Rb (os)(args):LaidIn prog (({World.settled prog os with heap:=iJ (World.settled prog os).heap}:World).forCall (λ_ _=>0) ⟨#[],args,[]⟩).memory [("unicode/utf8.first",Rows.laid_unicode_utf8_first)] [4]:=
 LaidIn.of_run [4] 10 (by kernel_rfl) (by kernel_rfl) (by kernel_rfl) (by kernel_rfl)
def Pd (os)(args):LaidIn prog (({World.settled prog os with heap:=iJ (World.settled prog os).heap}:World).forCall (λ_ _=>0) ⟨#[],args,[]⟩).memory [("strconv.isGraphic",Rows.laid_strconv_isGraphic)] [11,23]:=by
 have e:Rows.laid_strconv_isGraphic=.slice ((gT Pinned.isGraphicZ).map λn=>.lit (.int .u16 n)) []:=by kernel_rfl
 rw[e];exact laidIn_ints (name:= "strconv.isGraphic") (g:=11) (R:=23) (t:=338) (e:=337) (tg:=338) (k:=.u16) (zs:=gT Pinned.isGraphicZ) (by kernel_rfl) (by kernel_rfl) (by kernel_rfl) (by kernel_rfl) (by kernel_rfl) (Nat.le_of_ble_eq_true (by kernel_rfl)) (qX _ _ (by kernel_rfl)) (by kernel_rfl) (by kernel_rfl) (Nat.ne_of_beq_eq_false (by kernel_rfl))
def Rf (os)(args):LaidIn prog (({World.settled prog os with heap:=iJ (World.settled prog os).heap}:World).forCall (λ_ _=>0) ⟨#[],args,[]⟩).memory [("strconv.isNotPrint16",Rows.laid_strconv_isNotPrint16)] [8,20]:=by
 have e:Rows.laid_strconv_isNotPrint16=.slice ((gT Pinned.isNotPrint16Z).map λn=>.lit (.int .u16 n)) []:=by kernel_rfl
 rw[e];exact laidIn_ints (name:= "strconv.isNotPrint16") (g:=8) (R:=20) (t:=338) (e:=337) (tg:=338) (k:=.u16) (zs:=gT Pinned.isNotPrint16Z) (by kernel_rfl) (by kernel_rfl) (by kernel_rfl) (by kernel_rfl) (by kernel_rfl) (Nat.le_of_ble_eq_true (by kernel_rfl)) (qX _ _ (by kernel_rfl)) (by kernel_rfl) (by kernel_rfl) (Nat.ne_of_beq_eq_false (by kernel_rfl))
def Pe (os)(args):LaidIn prog (({World.settled prog os with heap:=iJ (World.settled prog os).heap}:World).forCall (λ_ _=>0) ⟨#[],args,[]⟩).memory [("strconv.isNotPrint32",Rows.laid_strconv_isNotPrint32)] [10,22]:=by
 have e:Rows.laid_strconv_isNotPrint32=.slice ((gT Pinned.isNotPrint32Z).map λn=>.lit (.int .u16 n)) []:=by kernel_rfl
 rw[e];exact laidIn_ints (name:= "strconv.isNotPrint32") (g:=10) (R:=22) (t:=338) (e:=337) (tg:=338) (k:=.u16) (zs:=gT Pinned.isNotPrint32Z) (by kernel_rfl) (by kernel_rfl) (by kernel_rfl) (by kernel_rfl) (by kernel_rfl) (Nat.le_of_ble_eq_true (by kernel_rfl)) (qX _ _ (by kernel_rfl)) (by kernel_rfl) (by kernel_rfl) (Nat.ne_of_beq_eq_false (by kernel_rfl))
def Rh (os)(args):LaidIn prog (({World.settled prog os with heap:=iJ (World.settled prog os).heap}:World).forCall (λ_ _=>0) ⟨#[],args,[]⟩).memory [("strconv.isPrint16",Rows.laid_strconv_isPrint16)] [7,19]:=by
 have e:Rows.laid_strconv_isPrint16=.slice ((gT Pinned.isPrint16Z).map λn=>.lit (.int .u16 n)) []:=by kernel_rfl
 rw[e];exact laidIn_ints (name:= "strconv.isPrint16") (g:=7) (R:=19) (t:=338) (e:=337) (tg:=338) (k:=.u16) (zs:=gT Pinned.isPrint16Z) (by kernel_rfl) (by kernel_rfl) (by kernel_rfl) (by kernel_rfl) (by kernel_rfl) (Nat.le_of_ble_eq_true (by kernel_rfl)) (qX _ _ (by kernel_rfl)) (by kernel_rfl) (by kernel_rfl) (Nat.ne_of_beq_eq_false (by kernel_rfl))
def Re (os)(args):LaidIn prog (({World.settled prog os with heap:=iJ (World.settled prog os).heap}:World).forCall (λ_ _=>0) ⟨#[],args,[]⟩).memory [("strconv.isPrint32",Rows.laid_strconv_isPrint32)] [9,21]:=by
 have e:Rows.laid_strconv_isPrint32=.slice ((gT Pinned.isPrint32Z).map λn=>.lit (.int .u32 n)) []:=by kernel_rfl
 rw[e];exact laidIn_ints (name:= "strconv.isPrint32") (g:=9) (R:=21) (t:=340) (e:=128) (tg:=340) (k:=.u32) (zs:=gT Pinned.isPrint32Z) (by kernel_rfl) (by kernel_rfl) (by kernel_rfl) (by kernel_rfl) (by kernel_rfl) (Nat.le_of_ble_eq_true (by kernel_rfl)) (qX _ _ (by kernel_rfl)) (by kernel_rfl) (by kernel_rfl) (Nat.ne_of_beq_eq_false (by kernel_rfl))
def zT (os)(args):(({World.settled prog os with heap:=iJ (World.settled prog os).heap}:World).forCall (λ_ _=>0) ⟨#[],args,[]⟩).Shaped prog:=
 World.shaped_of_RefB (by kernel_rfl) (by kernel_rfl)
end
section
open Go
def Mc:prog.laidByTextLater [("math/bits.deBruijn32tab",Rows.laid_math_bits_deBruijn32tab),("math/bits.deBruijn64tab",Rows.laid_math_bits_deBruijn64tab),("internal/strconv.uint64pow10",Rows.laid_internal_strconv_uint64pow10),("unicode/utf8.acceptRanges",Rows.laid_unicode_utf8_acceptRanges),("berth/disk.ErrFailed",Rows.laid_berth_disk_ErrFailed)] [.data,.data,.data,.data,.sentinel] true:=
 Program.laidByTextLater_by_one 91 8 65 (by kernel_rfl) (by kernel_rfl) (by kernel_rfl) (by kernel_rfl) (by kernel_rfl) (by kernel_rfl) (λ_ _=>by kernel_rfl)
def Rp:Tryz.pinned.checked.prog.headLifts.contains "ownunsafe" =false:=by kernel_rfl
def OG:Rows.widthsUptoRow.laidByTextAt .later Tryz.pinned [.data,.data,.data,.data,.sentinel,.pinned,.pinned,.pinned,.pinned,.pinned,.pinned] true:=
 OpenClaim.laidByTextAt_pinned rfl rfl Mc rfl rfl rfl rfl (λy hy e=>by
  simp only[Rows.widthsUptoRow,List.zip_cons_cons,List.zip_nil_right,ZW,List.mem_nil_iff,or_false]at hy;rcases hy with rfl|rfl|rfl|rfl|rfl|rfl|rfl|rfl|rfl|rfl|rfl<;>first|(cases e;done)|exact⟨by kernel_rfl,by kernel_rfl⟩) (by
  unfold Program.listedFits;rw[Rp]
  kernel_rfl)
end
section
def aeA:(Rows.refusedUptoRow.wf (OpenSpec.ofChange Rows.refusedSpec))=true:=by kernel_rfl
def aez:(laidOutB prog)=true:=by kernel_rfl
def aey:(mapsRowed prog)=true:=by kernel_rfl
def aex:(Tryz.f7.params.all (prog.readableRec ·))=true:=by kernel_rfl
def aew:(namedTie prog Rows.refusedUptoRow.named Rows.refusedSpec.vars)=true:=by kernel_rfl
def aev:((Rows.refusedUptoRow.stops== []))=true:=by kernel_rfl
def aeu:((prog.stops== []))=true:=by kernel_rfl
def aet:((Rows.refusedUptoRow.knobs== []))=true:=by kernel_rfl
def aes:((prog.stopKnobs== []))=true:=by kernel_rfl
def aer:((Rows.refusedUptoRow.inPlace==prog.inPlace 7))=true:=by kernel_rfl
def aeo:((Rows.refusedUptoRow.unfollowed==prog.unfollowed 7))=true:=by kernel_rfl
def aen:((Rows.refusedUptoRow.recurses==prog.recurses 7))=true:=by kernel_rfl
def aem:((Rows.refusedUptoRow.named==prog.varsNamed 7))=true:=by kernel_rfl
def ael:((Rows.refusedUptoRow.maps==(Tryz.f7.params.toList++Rows.refusedSpec.plain.varTypes prog).any (prog.mapsRec ·)))=true:=by kernel_rfl
def aek:((Rows.refusedUptoRow.ifaces==(Tryz.f7.params.toList++Rows.refusedSpec.plain.varTypes prog).any (prog.ifacesRec ·)))=true:=by kernel_rfl
def aej:((Rows.refusedUptoRow.mapsOut==prog.mapsAmong Tryz.f7.resultTypes.toList))=true:=by kernel_rfl
def aei:((Rows.refusedUptoRow.loops==(Tryz.f7.params.toList++Rows.refusedSpec.plain.varTypes prog).any (prog.loopsFrom ·)))=true:=by kernel_rfl
def aeh:((Rows.refusedUptoRow.wideKeys==(Tryz.f7.params.toList++Rows.refusedSpec.plain.varTypes prog++Tryz.f7.resultTypes.toList).any (prog.wideKeysFrom ·)))=true:=by kernel_rfl
def aeg:(Rows.refusedSpec.vars.all (prog.varReadable ·))=true:=by kernel_rfl
def aef:(Tryz.f7.resultTypes.all (λt=>prog.readableRec t&&decide (t<prog.types.size)))=true:=by kernel_rfl
def aee:((Rows.refusedUptoRow.ifacesOut==Tryz.f7.resultTypes.toList.any (prog.ifacesRec ·)))=true:=by kernel_rfl
def aed:((Rows.refusedUptoRow.loopsOut==Tryz.f7.resultTypes.toList.any (prog.loopsFrom ·)))=true:=by kernel_rfl
def aec:((Rows.refusedUptoRow.plainKeys==prog.plainKeys))=true:=by kernel_rfl
def aeb:(Rows.refusedUptoRow.shortTexts.isNone)=true:=by kernel_rfl
def aea:(prog.stopsHeard)=true:=by kernel_rfl
def ad9:(prog.mayEnter)=true:=by kernel_rfl
def ad8:((Rows.refusedUptoRow.lifted==prog.liftsFinal))=true:=by kernel_rfl
def ad7:((prog.make==some Rows.refusedUptoRow.make))=true:=by kernel_rfl
def ad6:((Rows.refusedUptoRow.kinds==(if Rows.refusedUptoRow.domain.isEmpty then []else Tryz.f7.params.toList.map λt=>match prog.underlying t with|some (.int k)=>some k|_=>none)))=true:=by kernel_rfl
def ad5:((Rows.refusedUptoRow.pinned==Rows.refusedUptoRow.pinnedBy))=true:=by kernel_rfl
def ad4:((Rows.refusedUptoRow.veiled==(Tryz.f7.params.toList++Rows.refusedSpec.plain.varTypes prog++Tryz.f7.resultTypes.toList).any (prog.veiledRec ·)))=true:=by kernel_rfl
def ad3:(Rows.refusedUptoRow.veiledFits prog Tryz.f7.params.toList (Tryz.f7.params.toList++Rows.refusedSpec.plain.varTypes prog++Tryz.f7.resultTypes.toList))=true:=by kernel_rfl
def ek {a b:Bool}(c:a=true)(hb:b=true):(a&&b)=true:=by rw[c,hb];rfl
def adS:joinedFacts prog 7 Tryz.f7 Rows.refusedSpec Rows.refusedUptoRow=true:=
 ek (ek (ek (ek (ek (ek (ek (ek (ek (ek (ek (ek (ek (ek (ek (ek (ek (ek (ek (ek (ek (ek (ek (ek (ek (ek (ek (ek (ek (ek (ek (aeA) aez) aey) aex) aew) aev) aeu) aet) aes) aer) aeo) aen) aem) ael) aek) aej) aei) aeh) aeg) aef) aee) aed) aec) aeb) aea) ad9) ad8) ad7) ad6) ad5) ad4) ad3
end
