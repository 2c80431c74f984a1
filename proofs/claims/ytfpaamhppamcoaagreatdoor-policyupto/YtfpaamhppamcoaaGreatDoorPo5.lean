/- Part 5 of the proof. -/
import Derived.Test.YtfpaamhppamcoaaGreatDoorPo4
import Derived.Conc.WalkWords
set_option linter.all false
set_option maxHeartbeats 60000000
namespace Go.Proofs.YtfpaamhppamcoaaGreatDoor
open Go.Proofs.Tryz
section
open Go Go.Conc Go.ConcN
open Go.ConcR (KK wgBlock WgAt stA smA rd wr mk Payload DC0 Bk g_of_ofEvents)
section
variable [Payload]
variable {Q:Program}{ty:TypeId}{S:Nat->Prop}{Wg V nV base nW:Nat}{K:Nat->Prop}{off:Nat->Nat}{vals:Nat->List Value}{zero:Nat->Value}{aL u u':World}{j:Nat}{M:Nat->Nat->Prop}{M₀:Nat->Prop}{t:Trace}
 {gs:Array Goroutine}{D:Nat->WD}{lv:Nat->Bool}{q:Nat->Nat}{d0:Nat}
def Eh {B}{op:MemOp}{x}(b:op.act.low B)(hx:op.act.touch? =some x){N}(hb:di N x.loc):∃c,c<B/\N c:=by
 obtain⟨c,hc,hm⟩:=hb;refine⟨c,?_,hm⟩;cases a:op.act with
 |access e=>
  rw[a]at hx b;simp only[MemAct.touch?,ac2]at hx;subst hx;have d:e.loc.low B:=b;simp only at hc;rcases hc with hc|⟨ad,hc,rfl⟩<;>rw[hc]at d<;>exact d
 |mark m=>
  rw[a]at hx b;cases m<;>simp only[MemAct.touch?,ac2,reduceCtorEq]at hx
  all_goals
   subst hx;rcases hc with hc|⟨ad,hc,rfl⟩
   .cases hc
   .cases hc;exact b
 |_=>rw[a]at hx;cases hx
def PI.JB (G:pg nV nW off vals)(h:PI Q ty S Wg V nV base nW K off vals zero aL j gs u t D lv M M₀ q d0){g g'}{es}{fn}{pos}{W}(he:QS W u u')
 (N:∀c,K c->¬W c)(L:∀m,m<j->∀c,M m c->¬W c)(J:∀c,c<aL.heap.size->c≠V->c≠Wg->¬W c){M'}
 (z:∀c,M' c->M₀ c\/(u.heap.size<=c/\c<u'.heap.size))
 (E:∀e∈es,∀x,(MemAct.ofEvent e).touch? =some x->(Gw (λc=>S c\/c=Wg) x.loc/\x.kind≠.plain)\/(di M' x.loc\/(di K x.loc/\x.write=false)))
 (F:∀e∈es,e.loc≠.mark (.release (stA Wg)))(s:∀e∈es,(MemAct.ofEvent e).low u'.heap.size)(X:¬W V)
 (H:WgLive ty Wg u)(hl:WgLive ty Wg u'):
 PI Q ty S Wg V nV base nW K off vals zero aL j ((gs.map (woken Q g g' u')).setIfInBounds 0 g') u' (t++MemOp.ofEvents 0 fn pos es) D lv M M' q (deafBehind d0 es):=by
 have B:=h.size;have d:=h.lie;have p:u'.heap[V]? =u.heap[V]?:=he.keep V (ZO d.v d.size) X
 have l:SV S Wg V K aL j u' M M':=by
  refine⟨he.tape.trans d.tape,he.os.trans d.os,he.output.trans d.output,ZP d.size he.size,λc hc f n=>(he.keep c (ZO hc d.size) (J c hc f n)).trans (d.keep c hc f n),d.v,d.wg,d.vw,d.qp,d.sh,
   λm i c hc=>⟨ZO (d.low m i c hc).1 he.size,(d.low m i c hc).2⟩,λc hc=>?_,d.Sa,λm i c hc Y=>?_,d.emp⟩
  .rcases z c hc with f|⟨f,n⟩
   .exact⟨ZO (d.mY c f).1 he.size,(d.mY c f).2⟩
   .exact⟨n,ZP d.size f⟩
  .rcases z c Y with f|⟨f,_⟩
   .exact d.Dn m i c hc f
   .have:=(d.low m i c hc).1;omega
 have A:=d.apart (base:=base) G;have w:∀op∈MemOp.ofEvents 0 fn pos es,op.g=0:=λop o=>by obtain⟨e,_,rfl⟩:=Go.Conc.mem_ofEvents o;rfl
 refine⟨by simpa using B,?_,l,?_,λk x k1 kb hx=>?_,?_,λm i=>?_,λm i=>?_,λm i hs=>?_⟩
 .refine TI.app0 A h.ti he.size (λop o=>⟨w op o,λx hx=>?_⟩) (jI F) (iy s)
  obtain⟨e,hm,rfl⟩:=Go.Conc.mem_ofEvents o;rcases E e hm x hx with f|f
  .exact .inl f
  .refine .inr ⟨?_,λk k1 U R=>?_,λhw k k1 U C=>?_⟩
   .rintro⟨a,T,hs⟩
    rcases f with f|⟨f,_⟩
    .rw[T]at f
     have n:=dB.1 f;have:aL.heap.size<=a.block:=(l.mY _ n).2;rcases hs with hs|hs
     .have:=(d.sh _ hs).1;omega
     .have:=d.wg;omega
    .exact A.rdSh (base+1) x.loc ⟨by omega,f⟩ ⟨a,T,hs⟩
   .rcases f with f|⟨f,_⟩
    .obtain⟨b1,b2,n|⟨y,_,_,e⟩⟩:=R
     .obtain⟨c,O,c2⟩:=f.join n
      have I:k-base-1<j:=Nat.lt_of_not_le λI=>d.emp _ I c c2
      exact l.Dn _ I c c2 O
     .rw[e]at f
      have:=(l.mY _ (dB.1 f)).2;have:=d.v;simp only at*;omega
    .exact A.ownRd k (base+1) x.loc R ⟨by omega,f⟩
   .rcases f with f|⟨_,f⟩
    .obtain⟨c,O,c2⟩:=f.join C.2
     have:=(l.mY _ O).2;have:=(d.qp _ c2).1;omega
    .rw[f]at hw;cases hw
 .obtain⟨cs,f,n⟩:=h.row
  exact⟨cs,p.trans f,n⟩
 .rw[get_map_set _ _ _ _ (by omega)]at hx
  obtain⟨y,hy,rfl⟩:=adf.1 hx;have P:=h.old k y k1 kb hy;rw[woken_quitsD P,cO (by omega)];exact P
 .rw[Deaf_own,h.deaf0]
 .rw[cO (by omega)]
  exact h.deafW m i
 .obtain⟨x,hx,hw⟩:=h.wk m i
  refine⟨x,?_,hw.WZ he N (L m i) hl (fun⟨cs,a,b⟩=>⟨cs,p.trans a,b⟩) (cell_of_block p _)⟩;rw[get_map_set _ _ _ _ (by omega),hx];simp[hw.woken H]
 .obtain⟨r,C⟩:=h.rel m i hs
  exact⟨r,C.appOther w (by omega)⟩
def PI.slip (G:pg nV nW off vals)(h:PI Q ty S Wg V nV base nW K off vals zero aL j gs u t D lv M M₀ q d0){i k}{g g'}{es}{fn}{pos}(s:0<i)(p:i<=base)
 (hm:∀e∈es,e.mute=true)(l:QuitsD Q k (deafBehind (Deaf t i) es) g')(n:WgLive ty Wg u):
 PI Q ty S Wg V nV base nW K off vals zero aL j ((gs.map (woken Q g g' u)).setIfInBounds i g') u (t++MemOp.ofEvents i fn pos es) D lv M M₀ (upd q i k) d0:=by
 have f:=h.size;have d:∀op∈MemOp.ofEvents i fn pos es,op.g=i:=λop b=>by obtain⟨e,_,rfl⟩:=Go.Conc.mem_ofEvents b;rfl
 have w:∀op∈MemOp.ofEvents i fn pos es,op.act.touch? =none:=λop b=>by obtain⟨e,he,rfl⟩:=Go.Conc.mem_ofEvents b;exact touch_mute (hm e he)
 have m:∀e∈es,e.loc≠.mark (.release (stA Wg)):=λe he hl=>by
  have:=hm e he;obtain⟨loc,wr,z⟩:=e;simp only at hl;subst hl;simp[Event.mute]at this
 refine⟨by simpa using f,TI.slip (h.lie.apart (base:=base) G) h.ti s p d w (jI m) (iy λe he=>low_mute (hm e he) _),h.lie,h.row,λk' x k1 kb hx=>?_,?_,λc a=>?_,λc a=>?_,λc a hs=>?_⟩
 .by_cases e:i=k'
  .subst e
   rw[acV (by simp;omega)]at hx;obtain rfl:=adn hx;rw[upd_same,Deaf_own];exact l
  .rw[get_map_set _ _ _ _ e]at hx
   obtain⟨y,hy,rfl⟩:=adf.1 hx;have o:=h.old k' y k1 kb hy;rw[woken_quitsD o,upd_ne q k (Ne.symm e),cO e];exact o
 .rw[cO (by omega)];exact h.deaf0
 .rw[cO (by omega)];exact h.deafW c a
 .obtain⟨x,hx,hw⟩:=h.wk c a
  refine⟨x,?_,hw⟩;rw[get_map_set _ _ _ _ (by omega),hx];simp[hw.woken n]
 .obtain⟨r,v⟩:=h.rel c a hs
  exact⟨r,v.appOther d (by omega)⟩
def PI.at (h:PI Q ty S Wg V nV base nW K off vals zero aL j gs u t D lv M M₀ q d0)(a:WgLive ty Wg u)(d):PI Q ty S Wg V nV base nW K off vals zero aL j gs (u.at d) t D lv M M₀ q d0:=by
 have e:QS (λ_=>False) u (u.at d):=⟨rfl,rfl,rfl,ZL _,λ_ _ _=>rfl⟩;have hl:=h.lie;refine⟨h.size,h.ti,⟨hl.tape,hl.os,hl.output,hl.size,hl.keep,hl.v,hl.wg,hl.vw,hl.qp,hl.sh,hl.low,hl.mY,hl.Sa,hl.Dn,hl.emp⟩,h.row,h.old,h.deaf0,h.deafW,λi b=>?_,h.rel⟩;obtain⟨g,c,hw⟩:=h.wk i b;exact⟨g,c,hw.WZ e (λ_ _ h=>h) (λ_ _ h=>h) a id rfl⟩
def PI.fork (G:pg nV nW off vals)(h:PI Q ty S Wg V nV base nW K off vals zero aL j gs u t D lv M M₀ q 0)(Z:j<nW){a' child}{x y}(hx:x.g=0/\x.act=.go (base+j+1))(hy:y.g=base+j+1/\y.act=.start)
 (hc:aC Q false K (kg Q ty Wg V nV (off j) (vals j)) child u M₀):
 PI Q ty S Wg V nV base nW K off vals zero aL (j+1) ((gs.setIfInBounds 0 a').push child) u (t++ #[x,y]) (upd D j ⟨7,0,0⟩) (upd lv j true) (upd M j M₀) (λ_=>False) q 0:=by
 have T:=h.size;have d:=h.lie
 have s:SV S Wg V K aL (j+1) u (upd M j M₀) (λ_=>False):=by
  refine⟨d.tape,d.os,d.output,d.size,d.keep,d.v,d.wg,d.vw,d.qp,d.sh,λi B c hc=>?_,λc hc=>hc.elim,λa b ha hb F c m A=>?_,λ_ _ _ _ h=>h,λi B c hc=>?_⟩
  .by_cases e:i=j
   .subst e;rw[upd_same]at hc;exact d.mY c hc
   .rw[upd_ne M _ e]at hc;exact d.low i (by omega) c hc
  .by_cases e:a=j
   .subst e
    rw[upd_same]at m;rw[upd_ne M _ (Ne.symm F)]at A;exact d.Dn b (by omega) c A m
   .rw[upd_ne M _ e]at m
    by_cases J:b=j
    .subst J
     rw[upd_same]at A;exact d.Dn a (by omega) c m A
    .rw[upd_ne M _ J]at A
     exact d.Sa a b (by omega) (by omega) F c m A
  .rw[upd_ne M _ (by omega)]at hc
   exact d.emp i (by omega) c hc
 have L:CT (Gw λc=>S c\/c=Wg) (Js base V nW off vals (upd M j M₀)) (UI base K) t (base+j):=by
  refine CT.WV h.ti.ct (λk k1 O l hl=>?_) (λk k1 O l hl=>?_) λ_ _ _ _=>Iff.rfl
  .obtain⟨b1,b2,m⟩:=hl
   rw[upd_ne M _ (by omega)]at m;exact .inl ⟨b1,b2,m⟩
  .obtain⟨b1,b2,m⟩:=hl
   refine⟨b1,b2,?_⟩;rw[upd_ne M _ (by omega)];exact m
 have hm:∀op∈ #[x,y],op=x\/op=y:=λop n=>by simpa using n
 have I:∀op∈ #[x,y],op.act≠.mark .disable/\op.act≠.mark .enable:=λop n=>by
  rcases hm op n with rfl|rfl
  .rw[hx.2];simp
  .rw[hy.2];simp
 have C:∀g,Deaf (t++ #[x,y]) g=Deaf t g:=λg=>Deaf_still t g _ I
 have w:∀i,0<i->i<gs.size->((gs.setIfInBounds 0 a').push child)[i]? =gs[i]?:=λi h0 B=>by
  rw[ac3,if_neg (by simp;omega),ade (by omega)]
 refine⟨by simp;omega,TI.fork (s.apart (base:=base) G) ⟨L,h.ti.tk⟩ hx hy h.deaf0,s,?_,λi g N P H=>?_,by rw[C];exact h.deaf0,λi B=>?_,λi B=>?_,λi B hs=>?_⟩
 .obtain⟨cs,m,A,Y,X⟩:=h.row
  refine⟨cs,m,A,λi B f o W=>?_,λz R E=>X z R λi B f=>?_⟩
  .by_cases e:i=j
   .subst e;rw[upd_same]at f;cases f
   .rw[upd_ne lv _ e]at f
    exact Y i (by omega) f o W
  .exact E i (by omega) (by rw[upd_ne lv _ (by omega)];exact f)
 .rw[w i N (by omega)]at H
  rw[C];exact h.old i g N P H
 .rw[C]
  by_cases e:i=j
  .subst e
   rw[upd_same];exact Deaf_absent λp op hp J=>by have:=h.ti.ct.gs p op hp;omega
  .rw[upd_ne D _ e];exact h.deafW i (by omega)
 .by_cases e:i=j
  .subst e
   rw[upd_same,upd_same,upd_same];refine⟨child,?_,.inl ⟨rfl,rfl,rfl,hc⟩⟩;rw[ac3,if_pos (by simp;omega)]
  .obtain⟨g,H,hw⟩:=h.wk i (by omega)
   rw[upd_ne D _ e,upd_ne lv _ e,upd_ne M _ e];exact⟨g,by rw[w _ (by omega) (by omega)];exact H,hw⟩
 .by_cases e:i=j
  .subst e;rw[upd_same]at hs;simp at hs
  .rw[upd_ne D _ e]at hs
   obtain⟨r,U⟩:=h.rel i (by omega) hs;refine⟨r,U.appNot λop n=>?_⟩;rcases hm op n with rfl|rfl
   .rw[hx.1];omega
   .rw[hy.1];omega
end
end
section
open Go Go.Conc Go.ConcN
open Go.ConcR (KK wgBlock WgAt stA smA rd wr mk Payload DC0 Bk g_of_ofEvents again_blocked)
structure QT where
 idx:Nat
 tag:Nat
 g:Goroutine
 u:World
 M:Nat->Prop
section
variable (Q:Program)(K:Nat->Prop)(dI:Nat->Bool)(cB:Nat->Goroutine->World->(Nat->Prop)->Prop)
def QL (x:QT):Prop:=aC Q (dI x.idx) K (cB x.idx) x.g x.u x.M
def Qf (x:QT):Prop:=∀az,bF K x.M x.u az->cB x.idx x.g az x.M
def UJ (y x:QT):Prop:=¬Qf K cB x/\∃az es,bF K x.M x.u az/\stepG Q (dI x.idx) x.g az=.go y.g y.u es/\y.M=Grow x.M az y.u
def Jv (y x:QT):Prop:=y.idx=x.idx/\((x.tag=2/\y.tag=1/\QL Q K dI cB y)\/(x.tag=2/\y.tag=0)\/(x.tag=1/\y.tag=0)\/(x.tag=1/\y.tag=1/\UJ Q K dI cB y x))
def si (y x:QT):Prop:=y=x\/(y.idx=x.idx/\y.tag=x.tag/\y.g=x.g/\y.M=x.M/\bF K x.M x.u y.u)
variable {Q K dI cB}
def si.down (x y z)(h:si K y x)(d:Jv Q K dI cB z y):Jv Q K dI cB z x:=by
 rcases h with rfl|⟨j,p,o,i,n⟩
 .exact d
 .obtain⟨e,d⟩:=d
  refine⟨e.trans j,?_⟩;rw[p]at d;rcases d with d|d|d|⟨a,b,c,az,es,m,l,k⟩
  .exact .inl d
  .exact .inr (.inl d)
  .exact .inr (.inr (.inl d))
  .refine .inr (.inr (.inr ⟨a,b,λhs=>c λg f=>?_,az,es,?_,?_,?_⟩))
   .rw[i]at f⊢
    rw[j,o];exact hs g (n.trans f)
   .rw[i]at m;exact n.trans m
   .rw[j,o]at l;exact l
   .rw[i]at k;exact k
def Gf (x)(h:x.tag=0):Acc (Jv Q K dI cB) x:=⟨_,λy hy=>by
 obtain⟨_,a|a|a|a⟩:=hy<;> · have:=a.1;omega⟩
def Gd (x)(h:x.tag=1)(i:QL Q K dI cB x):Acc (Jv Q K dI cB) x:=by
 obtain⟨idx,tag,g,u,M⟩:=x;simp only at h;subst h;refine i (λg u M=>Acc (Jv Q K dI cB) ⟨idx,1,g,u,M⟩) λg u M b=>⟨_,λy hy=>?_⟩
 obtain⟨o,n,p,m,q⟩:=y;obtain⟨e,a|a|a|⟨_,a,hs,az,es,f,c,d⟩⟩:=hy
 .have:=a.1;simp at this
 .have:=a.1;simp at this
 .exact Gf _ a.2
 .simp only at e a f c d
  subst e a d;rcases b with b|⟨_,b⟩
  .exact absurd b hs
  .obtain⟨g',u',j,l,_,k⟩:=b az f
   rw[l]at c;cases c;exact k
def J8 (x)(h:x.tag=2):Acc (Jv Q K dI cB) x:=⟨_,λy hy=>by
 obtain⟨_,a|a|a|a⟩:=hy
 .exact Gd _ a.2.1 a.2.2
 .exact Gf _ a.2
 .have:=a.1;omega
 .have:=a.1;omega⟩
end
section
variable [Payload]
variable {Q:Program}{ty:TypeId}{S:Nat->Prop}{Wg V nV base nW:Nat}{K:Nat->Prop}{off:Nat->Nat}{vals:Nat->List Value}{zero:Nat->Value}{aL u u':World}{j:Nat}{M:Nat->Nat->Prop}{M₀:Nat->Prop}{t:Trace}
 {gs:Array Goroutine}{D:Nat->WD}{lv:Nat->Bool}{q:Nat->Nat}{d0:Nat}{gE:Goroutine->Prop}{An:Goroutine->World->Prop}{tag:CTag}{f0:Nat}{a:Goroutine}
def RL.trans (a b c)(_:RL ty Wg a b)(h:RL ty Wg b c):RL ty Wg a c:=h
def Fk.rely {r}{X}(h:Fk Q ty Wg V nV K An nW off vals r X f0 a u M₀)(c:bF K M₀ u u')(hl:WgLive ty Wg u'):Fk Q ty Wg V nV K An nW off vals r X f0 a u' M₀:=by
 obtain⟨g',child,f,e,d⟩:=h;exact⟨g',child,f,Goes.rely RL.trans e hl,λaz b=>d az (c.trans b)⟩
def Sr.rely {r}(h:Sr Q ty Wg V nV K An nW off vals r a u M₀)(b:bF K M₀ u u'):Sr Q ty Wg V nV K An nW off vals r a u' M₀:=by
 cases r with
 |zero=>exact aC.rely h b
 |succ r=>exact aC.rely h b
def CS.rely (h:CS Q ty Wg V nV K gE An nW off vals tag j f0 d0 a u M₀)(b:bF K M₀ u u')(hl:WgLive ty Wg u'):CS Q ty Wg V nV K gE An nW off vals tag j f0 d0 a u' M₀:=by
 cases tag with
 |sp r s=>
  match r,s,h with
  |r,6,h=>cases r<;>exact⟨h.1,h.2.1,h.2.2.1,h.2.2.2.1,h.2.2.2.2.rely b⟩
  |r+1,5,h=>exact⟨h.1,h.2.1,h.2.2.1,h.2.2.2.rely b hl⟩
  |r+1,4,h=>exact⟨h.1,h.2.1,h.2.2.1,h.2.2.2.rely b hl⟩
  |r+1,3,h=>exact⟨h.1,h.2.1,h.2.2.1,h.2.2.2.rely b hl⟩
  |r+1,2,h=>exact⟨h.1,h.2.1,h.2.2.1,h.2.2.2.rely b hl⟩
  |r+1,1,h=>exact⟨h.1,h.2.1,h.2.2.1,h.2.2.2.rely b hl⟩
  |r+1,0,h=>exact h.elim
  |r+1,s+7,h=>exact h.elim
  |0,0,h=>exact h.elim
  |0,1,h=>exact h.elim
  |0,2,h=>exact h.elim
  |0,3,h=>exact h.elim
  |0,4,h=>exact h.elim
  |0,5,h=>exact h.elim
  |0,s+7,h=>exact h.elim
 |kd=>exact⟨h.1,h.2.1,Goes.rely RL.trans h.2.2 hl⟩
 |anch=>exact⟨h.1,h.2.1,Goes.rely RL.trans h.2.2 hl⟩
 |w1=>exact⟨h.1,h.2.1,Goes.rely RL.trans h.2.2 hl⟩
 |w2 vs=>exact⟨h.1,h.2.1,Goes.rely RL.trans h.2.2 hl⟩
 |w3=>
  refine⟨h.1,h.2.1,?_⟩;rcases h.2.2 with⟨m,e,h⟩|⟨m,e,h⟩
  .exact .inl ⟨m,e,Goes.rely RL.trans h hl⟩
  .exact .inr ⟨m,e,Goes.rely RL.trans h hl⟩
 |blk=>exact h
 |w4=>exact⟨h.1,h.2.1,Goes.rely RL.trans h.2.2 hl⟩
 |ke=>exact⟨h.1,h.2.1,Goes.rely RL.trans h.2.2 hl⟩
 |acq=>exact⟨h.1,h.2.1,Goes.rely RL.trans h.2.2 hl⟩
 |ret=>exact h
def Fk.running {r}{X}(b:∀x y g w,X x y g w->g.status=.running)(h:Fk Q ty Wg V nV K An nW off vals r X f0 a u M₀)(hl:WgLive ty Wg u):a.status=.running:=by
 obtain⟨g',child,_,c,_⟩:=h;exact Goes.running (b g' child) u hl c
def Sr.running {r}(h:Sr Q ty Wg V nV K An nW off vals r a u M₀)(hl:WgLive ty Wg u):a.status=.running:=by
 cases r with
 |zero=>
  rcases aC.cases h with h|h
  .obtain⟨m,hm⟩:=h u (bF.refl _ _ _)
   exact Goes.running (λ_ _ x=>x.1) u hl hm
  .exact h.1
 |succ r=>
  rcases aC.cases h with h|h
  .obtain⟨g',c,_,⟨m,hm⟩,_⟩:=h u (bF.refl _ _ _)
   exact Goes.running (λ_ _ x=>x.1) u hl hm
  .exact h.1
def CS.status (b:∀g w,An g w->g.status=.running)(h:CS Q ty Wg V nV K gE An nW off vals tag j f0 d0 a u M₀)(hl:WgLive ty Wg u):(a.status=.running/\tag≠.blk)\/(a.status=.blocked/\tag=.blk):=by
 cases tag with
 |sp r s=>
  refine .inl ⟨?_,by simp⟩
  match r,s,h with
  |r,6,h=>cases r<;>exact h.2.2.2.2.running hl
  |r+1,5,h=>exact h.2.2.2.running (λ_ _ _ _ x=>x.1) hl
  |r+1,4,h=>exact h.2.2.2.running (λ_ _ _ _ x=>x.1) hl
  |r+1,3,h=>exact h.2.2.2.running (λ_ _ _ _ x=>x.elim (λy=>y.1) λy=>y.1) hl
  |r+1,2,h=>exact h.2.2.2.running (λ_ _ _ _ x=>x.1) hl
  |r+1,1,h=>exact h.2.2.2.running (λ_ _ _ _ x=>x.1) hl
  |r+1,0,h=>exact h.elim
  |r+1,s+7,h=>exact h.elim
  |0,0,h=>exact h.elim
  |0,1,h=>exact h.elim
  |0,2,h=>exact h.elim
  |0,3,h=>exact h.elim
  |0,4,h=>exact h.elim
  |0,5,h=>exact h.elim
  |0,s+7,h=>exact h.elim
 |kd=>exact .inl ⟨Goes.running (λ_ _ x=>x.1) u hl h.2.2,by simp⟩
 |anch=>exact .inl ⟨Goes.running b u hl h.2.2,by simp⟩
 |w1=>exact .inl ⟨Goes.running (λ_ _ x=>x.1) u hl h.2.2,by simp⟩
 |w2 vs=>exact .inl ⟨Goes.running (λ_ _ x=>x.1) u hl h.2.2,by simp⟩
 |w3=>
  rcases h.2.2 with⟨m,e,h⟩|⟨m,e,h⟩
  .exact .inl ⟨Goes.running (λ_ _ x=>x.1) u hl h,by simp⟩
  .exact .inl ⟨Goes.running (λ_ _ x=>x.1) u hl h,by simp⟩
 |blk=>
  obtain⟨_,_,_,g,rfl,_⟩:=h;exact .inr ⟨rfl,rfl⟩
 |w4=>exact .inl ⟨Goes.running (λ_ _ x=>x.1) u hl h.2.2,by simp⟩
 |ke=>exact .inl ⟨Goes.running (λ_ _ x=>x.1) u hl h.2.2,by simp⟩
 |acq=>exact .inl ⟨Goes.running (λ_ _ x=>x.1) u hl h.2.2,by simp⟩
 |ret=>exact h.elim
def CS.wokenBy (f:∀g w,An g w->g.status=.running)(h:CS Q ty Wg V nV K gE An nW off vals tag j f0 d0 a u M₀)(m:bF K M₀ u u')(hl:WgLive ty Wg u')(g g'):
 ∃tag' f',CS Q ty Wg V nV K gE An nW off vals tag' j f' d0 (woken Q g g' u' a) u' M₀/\f'<=f0+1/\((tag'=tag/\woken Q g g' u' a=a)\/(tag=.blk/\tag'=.w3))/\(mayWake Q g=true->g'.status=.running->tag'≠.blk):=by
 have c:=h.rely m hl;unfold Go.Conc.woken;split
 .rcases c.status f hl with⟨hs,d⟩|⟨_,rfl⟩
  .have e:=again_running (g:=a) u' (.inl hs)
   exact⟨tag,f0,by rw[e];exact c,by omega,.inl ⟨rfl,e⟩,λ_ _=>d⟩
  .obtain⟨k,i,p,g0,rfl,o,l⟩:=c
   have n:=l u' hl;refine⟨.w3,0+1,?_,by omega,.inr ⟨rfl,rfl⟩,λ_ _=>by simp⟩;rw[again_blocked n.1 o];exact⟨k,i,.inr ⟨0,rfl,Goes.stop λb hw=>l b hw⟩⟩
 .rename_i hc
  exact⟨tag,f0,c,by omega,.inl ⟨rfl,rfl⟩,λk i=>absurd (by simp[k,i]) hc⟩
end
def zY:Goroutine:={(default:Goroutine)with status:=.finished}
def fF:CTag->Nat->Bool
 |.sp r 6,a=>a==r
 |_,_=>false
def lvl:CTag->Nat
 |.sp r _=>r
 |_=>0
def cv (nW base:Nat)(a:World)(tag:CTag)(j:Nat)(lv:Nat->Bool)(M:Nat->Nat->Prop)(M₀:Nat->Prop)(gs:Array Goroutine)(u:World)(k:Nat):QT:=
 if k<nW then(if j<=k then⟨k,2,zY,a,λ_=>False⟩else if lv k=true then⟨k,1,(gs[base+1+k]?).getD zY,u,M k⟩else⟨k,0,zY,a,λ_=>False⟩)
 else if k-nW<lvl tag then⟨k,2,zY,a,λ_=>False⟩else if fF tag (k-nW)=true then⟨k,1,(gs[0]?).getD zY,u,M₀⟩else⟨k,0,zY,a,λ_=>False⟩
def FO {nW base j}{m u u'}{tag tag'}{lv d}{M M'}{M₀ a}{gs b}{K}{k}
 (hw:k<nW->k<j->d k=lv k/\(lv k=true->(b[base+1+k]?).getD zY=(gs[base+1+k]?).getD zY/\M' k=M k/\bF K (M k) u u'))
 (hs:¬k<nW->lvl tag'=lvl tag/\fF tag' (k-nW)=fF tag (k-nW)/\(fF tag (k-nW)=true->(b[0]?).getD zY=(gs[0]?).getD zY/\a=M₀/\bF K M₀ u u')):
 si K (cv nW base m tag' j d M' a b u' k) (cv nW base m tag j lv M M₀ gs u k):=by
 unfold cv
 by_cases c:k<nW
 .rw[if_pos c,if_pos c]
  by_cases f:j<=k
  .rw[if_pos f,if_pos f];exact .inl rfl
  .rw[if_neg f,if_neg f]
   obtain⟨e,h⟩:=hw c (by omega);rw[e]
   by_cases hl:lv k=true
   .obtain⟨l,i,g⟩:=h hl
    rw[if_pos hl,if_pos hl,l,i];exact .inr ⟨rfl,rfl,rfl,rfl,g⟩
   .rw[if_neg hl,if_neg hl];exact .inl rfl
 .rw[if_neg c,if_neg c]
  obtain⟨l,i,h⟩:=hs c;rw[l,i]
  by_cases hl:k-nW<lvl tag
  .rw[if_pos hl,if_pos hl];exact .inl rfl
  .rw[if_neg hl,if_neg hl]
   by_cases hc:fF tag (k-nW)=true
   .obtain⟨g,o,n⟩:=h hc
    rw[if_pos hc,if_pos hc,g,o];exact .inr ⟨rfl,rfl,rfl,rfl,n⟩
   .rw[if_neg hc,if_neg hc];exact .inl rfl
section
variable [Payload]
variable (Q:Program)(ty:TypeId)(S:Nat->Prop)(Wg V nV base nW:Nat)(K:Nat->Prop)(off:Nat->Nat)(vals:Nat->List Value)(zero:Nat->Value)(aL:World)(gE:Goroutine->Prop)(An:Goroutine->World->Prop)
def dI (k:Nat):Bool:=decide (nW<=k)
def cB (k:Nat):Goroutine->World->(Nat->Prop)->Prop:=if k<nW then kg Q ty Wg V nV (off k) (vals k)else SS Q ty Wg V nV K An nW off vals (k-nW)
abbrev QU:=Jv Q K (dI nW) (cB Q ty Wg V nV nW K off vals An)
abbrev DW:=Qa (QU Q ty Wg V nV nW K off vals An) (si K) Lt2 (nW+nW+1)
def ng (x:(Nat->QT)×(Nat×Nat))(m:Machine)(t:Trace):Prop:=
 ∃(gs:Array Goroutine) (u:World) (sl:Option (Nat×Nat)) (j:Nat) (D:Nat->WD) (lv:Nat->Bool) (M:Nat->Nat->Prop) (M₀:Nat->Prop) (q:Nat->Nat) (tag:CTag) (f0 d0:Nat) (a:Goroutine) (st sm:Int),
  m=crowd gs u sl/\gs[0]? =some a/\CS Q ty Wg V nV K gE An nW off vals tag j f0 d0 a u M₀/\PI Q ty S Wg V nV base nW K off vals zero aL j gs u t D lv M M₀ q d0/\WgAt ty Wg u st sm/\ConcN.Mode j D tag st sm/\j<=nW/\
  x=(cv nW base aL tag j lv M M₀ gs u,(phi nW (Vc j D) tag+Ssum j D,f0+2*Fsum j D+2*sumTo (base+1) q))
end
section
variable [Payload]
variable {Q:Program}{ty:TypeId}{S:Nat->Prop}{Wg V nV base nW:Nat}{K:Nat->Prop}{off:Nat->Nat}{vals:Nat->List Value}{zero:Nat->Value}{aL u u':World}{j:Nat}{M:Nat->Nat->Prop}{M₀:Nat->Prop}{t:Trace}
 {gs:Array Goroutine}{D:Nat->WD}{lv:Nat->Bool}{q:Nat->Nat}{d0:Nat}{gE:Goroutine->Prop}{An:Goroutine->World->Prop}{tag:CTag}{f0:Nat}{a:Goroutine}{st sm zG Em:Int}{sl:Option (Nat×Nat)}
def Ed (G:pg nV nW off vals)(κ:∀g w,An g w->g.status=.running)(ha:gs[0]? =some a)(hcs:CS Q ty Wg V nV K gE An nW off vals tag j f0 d0 a u M₀)(h:PI Q ty S Wg V nV base nW K off vals zero aL j gs u t D lv M M₀ q d0)(γ:j<=nW)
 {i}(Y:i<j){g g'}{es}(hg:gs[base+1+i]? =some g)(hgo:stepG Q false g u=.go g' u' es){W}(he:QS W u u')
 (l:∀c,K c->¬W c)(X:∀m,m<j->m≠i->∀c,M m c->¬W c)(z:∀c,M₀ c->¬W c)(ζ:∀c,c<aL.heap.size->c≠V->c≠Wg->¬W c){d'}{l'}{M'}
 (ι:∀c,M' c->M i c\/(u.heap.size<=c/\c<u'.heap.size))(θ:∀c,M i c->M' c)(Z:Wk Q ty Wg V nV K (off i) (vals i) l' d' M' g' u')
 (α:∀e∈es,∀x,(MemAct.ofEvent e).touch? =some x->(Gw (λc=>S c\/c=Wg) x.loc/\x.kind≠.plain/\x.kind≠.said)\/(x.kind=.plain/\x.loc.isMemory=true/\(Js base V nW off vals (upd M i M') (base+1+i) x.loc\/(di K x.loc/\x.write=false))))
 (β:∀e∈es,e.loc≠.mark (.release (stA Wg)))(J:∀e∈es,(MemAct.ofEvent e).low u'.heap.size)(B:deafBehind (D i).deaf es=d'.deaf)
 (hrel:d'.stage<=6->∃r,RelBy (stA Wg) (t++MemOp.ofEvents (base+1+i) g.frame.fn g.frame.place es) (base+1+i) r)(F:Row V nV off vals zero j u' (upd lv i l'))
 (I:WgLive ty Wg u)(n:WgAt ty Wg u' zG Em)(hp:PayAt V nV u->PayAt V nV u')(hc:∀m,m<j->m≠i->u'.cell? ⟨V,off m,none⟩=u.cell? ⟨V,off m,none⟩)
 (A:∀tag',(tag'=tag\/(tag=.blk/\tag'=.w3))->(mayWake Q g=true->g'.status=.running->tag'≠.blk)->ConcN.Mode j (upd D i d') tag' zG Em)
 (O:(lv i=false/\l'=false/\((d'.stage< (D i).stage/\cnt d'<=cnt (D i))\/(d'.stage=(D i).stage/\d'.fuel+1=(D i).fuel)))\/
  (lv i=true/\QU Q ty Wg V nV nW K off vals An (if l'=true then⟨i,1,g',u',M'⟩else⟨i,0,zY,aL,λ_=>False⟩) ⟨i,1,g,u,M i⟩)):
 ∃m₁ ops x',runT Q (crowd gs u sl) (base+1+i)=(.next m₁,ops)/\
  DW Q ty Wg V nV nW K off vals An x' (cv nW base aL tag j lv M M₀ gs u,(phi nW (Vc j D) tag+Ssum j D,f0+2*Fsum j D+2*sumTo (base+1) q))/\
  ng Q ty S Wg V nV base nW K off vals zero aL gE An x' m₁ (t++ops):=by
 have f:WgLive ty Wg u':=⟨_,_,n⟩;obtain⟨tag',f',R,ξ,o,C⟩:=hcs.wokenBy κ (he.rely l z) f g g';have ν:=h.size
 have E:=runT_crowd_go (P:=Q) (sl:=sl) (i:=base+1+i) hg (by
  have:(base+1+i==0)=false:=by simp
  rw[this];exact hgo)
 have η:=h.worker G Y (g:=g) (g':=g') (fn:=g.frame.fn) (pos:=g.frame.place) he l X ζ ι θ Z α β J B hrel F I f hp hc;have e1:=sumTo_upd D d' cnt Y;have e2:=sumTo_upd D d' WD.stage Y;have e3:=sumTo_upd D d' WD.fuel Y;have U:((gs.map (woken Q g g' u')).setIfInBounds (base+1+i) g')[0]? =some (woken Q g g' u' a):=by rw[get_map_set _ _ _ _ (by omega),ha];rfl
 have d:tag'=tag\/(tag=.blk/\tag'=.w3):=o.imp (λx=>x.1) id
 refine⟨_,_,(cv nW base aL tag' j (upd lv i l') (upd M i M') M₀ ((gs.map (woken Q g g' u')).setIfInBounds (base+1+i) g') u',(phi nW (Vc j (upd D i d')) tag'+Ssum j (upd D i d'),f'+2*Fsum j (upd D i d')+2*sumTo (base+1) q)),E,?_,
  _,u',sl,j,upd D i d',upd lv i l',upd M i M',M₀,q,tag',f',d0,woken Q g g' u' a,zG,Em,rfl,U,R,η,n,A tag' d C,γ,rfl⟩
 have s:∀k,k<nW+nW+1->k≠i->si K (cv nW base aL tag' j (upd lv i l') (upd M i M') M₀ ((gs.map (woken Q g g' u')).setIfInBounds (base+1+i) g') u' k) (cv nW base aL tag j lv M M₀ gs u k):=by
  intro k _ b;refine FO (λN L=>⟨upd_ne lv _ b,λhl=>⟨?_,upd_ne M _ b,he.rely l (X k L b)⟩⟩) λN=>?_
  .obtain⟨gk,δ,hw⟩:=h.wk k L
   rw[get_map_set _ _ _ _ (by omega),δ];simp[hw.woken I]
  .rcases o with⟨rfl,ea⟩|⟨rfl,rfl⟩
   .refine⟨rfl,rfl,λ_=>⟨?_,rfl,he.rely l z⟩⟩
    rw[U,ha,ea]
   .exact⟨rfl,rfl,λhh=>by cases hh⟩
 have y:i<nW:=by omega
 have p:cv nW base aL tag' j (upd lv i l') (upd M i M') M₀ ((gs.map (woken Q g g' u')).setIfInBounds (base+1+i) g') u' i=(if l'=true then⟨i,1,g',u',M'⟩else⟨i,0,zY,aL,λ_=>False⟩):=by
  unfold cv;rw[if_pos y,if_neg (by omega),upd_same,upd_same,get_map_set_same _ _ _ (by omega)];rfl
 have hold:cv nW base aL tag j lv M M₀ gs u i=(if lv i=true then⟨i,1,g,u,M i⟩else⟨i,0,zY,aL,λ_=>False⟩):=by
  unfold cv;rw[if_pos y,if_neg (by omega),hg];rfl
 rcases O with⟨hl,rfl,H⟩|⟨hl,ε⟩
 .refine⟨λk N=>.inl ?_,.inr ?_⟩
  .by_cases b:k=i
   .subst b
    show si K (cv _ _ _ _ _ _ _ _ _ _ k) (cv _ _ _ _ _ _ _ _ _ _ k)
    rw[p,hold,hl];exact .inl rfl
   .exact s k N b
  .rw[phi_retag nW _ d]
   simp only[Vc,Ssum,Fsum]at*;rcases H with⟨h1,h2⟩|⟨h1,h2⟩
   .refine Prod.Lex.left _ _ ?_
    have:=phi_mono nW (v':=sumTo j λa=>cnt (upd D i d' a)) (v:=sumTo j λa=>cnt (D a)) (by omega) tag;omega
   .have ec:cnt d'=cnt (D i):=by simp only[cnt,h1]
    have ev:(sumTo j λa=>cnt (upd D i d' a))=sumTo j λa=>cnt (D a):=by omega
    have μ:(sumTo j λa=>(upd D i d' a).stage)=sumTo j λa=>(D a).stage:=by omega
    rw[ev,μ];refine Prod.Lex.right _ ?_;omega
 .have T:QU Q ty Wg V nV nW K off vals An (cv nW base aL tag' j (upd lv i l') (upd M i M') M₀ ((gs.map (woken Q g g' u')).setIfInBounds (base+1+i) g') u' i) (cv nW base aL tag j lv M M₀ gs u i):=by
   rw[p,hold,if_pos hl];exact ε
  refine⟨λk N=>?_,.inl ⟨i,by omega,T⟩⟩
  by_cases b:k=i
  .subst b;exact .inr T
  .exact .inl (s k N b)
def Qv (G:pg nV nW off vals)(ha:gs[0]? =some a)(h:PI Q ty S Wg V nV base nW K off vals zero aL j gs u t D lv M M₀ q d0)(N:j<=nW)
 {g'}{es}{tag'}{f'}(hgo:stepG Q true a u=.go g' u' es){W}(he:QS W u u')
 (C:∀c,K c->¬W c)(B:∀Z,Z<j->∀c,M Z c->¬W c)(T:∀c,c<aL.heap.size->c≠V->c≠Wg->¬W c){M'}
 (X:∀c,M' c->M₀ c\/(u.heap.size<=c/\c<u'.heap.size))
 (J:∀e∈es,∀x,(MemAct.ofEvent e).touch? =some x->(Gw (λc=>S c\/c=Wg) x.loc/\x.kind≠.plain)\/(di M' x.loc\/(di K x.loc/\x.write=false)))
 (L:∀e∈es,e.loc≠.mark (.release (stA Wg)))(l:∀e∈es,(MemAct.ofEvent e).low u'.heap.size)(hV:¬W V)
 (z:CS Q ty Wg V nV K gE An nW off vals tag' j f' (deafBehind d0 es) g' u' M')(w:WgLive ty Wg u)(p:WgAt ty Wg u' zG Em)(o:ConcN.Mode j D tag' zG Em)
 (y:(lvl tag'=lvl tag/\(∀r,fF tag r=false)/\(∀r,fF tag' r=false)/\(phi nW (Vc j D) tag'<phi nW (Vc j D) tag\/(phi nW (Vc j D) tag'=phi nW (Vc j D) tag/\f'<f0)))\/
  (∃r,r<=nW/\tag=.sp r 6/\((tag'=.sp r 6/\QU Q ty Wg V nV nW K off vals An ⟨nW+r,1,g',u',M'⟩ ⟨nW+r,1,a,u,M₀⟩)\/(lvl tag'=r/\∀r,fF tag' r=false)))):
 ∃m₁ ops Y,runT Q (crowd gs u sl) 0=(.next m₁,ops)/\
  DW Q ty Wg V nV nW K off vals An Y (cv nW base aL tag j lv M M₀ gs u,(phi nW (Vc j D) tag+Ssum j D,f0+2*Fsum j D+2*sumTo (base+1) q))/\
  ng Q ty S Wg V nV base nW K off vals zero aL gE An Y m₁ (t++ops):=by
 have α:=h.size;have v:=runT_crowd_go (P:=Q) (sl:=sl) (i:=0) ha (by simpa using hgo);have U:=h.JB G (g:=a) (g':=g') (fn:=a.frame.fn) (pos:=a.frame.place) he C B T X J L l hV w ⟨_,_,p⟩;have A:((gs.map (woken Q a g' u')).setIfInBounds 0 g')[0]? =some g':=get_map_set_same _ _ _ (by omega)
 refine⟨_,_,(cv nW base aL tag' j lv M M' ((gs.map (woken Q a g' u')).setIfInBounds 0 g') u',(phi nW (Vc j D) tag'+Ssum j D,f'+2*Fsum j D+2*sumTo (base+1) q)),v,?_,
  _,u',sl,j,D,lv,M,M',q,tag',f',deafBehind d0 es,g',zG,Em,rfl,A,z,U,p,o,N,rfl⟩
 have hw:∀k,k<nW->k<j->lv k=true->((((gs.map (woken Q a g' u')).setIfInBounds 0 g')[base+1+k]?).getD zY=(gs[base+1+k]?).getD zY/\M k=M k/\bF K (M k) u u'):=λk n m _=>by
  obtain⟨gk,O,I⟩:=h.wk k m;refine⟨?_,rfl,he.rely C (B k m)⟩;rw[get_map_set _ _ _ _ (by omega),O];simp[I.woken w]
 have l:∀k,k<nW->si K (cv nW base aL tag' j lv M M' ((gs.map (woken Q a g' u')).setIfInBounds 0 g') u' k) (cv nW base aL tag j lv M M₀ gs u k):=λk n=>
  FO (λ_ m=>⟨rfl,hw k n m⟩) λh=>absurd n h
 rcases y with⟨E,H,h3,F⟩|⟨r,hr,rfl,E⟩
 .refine⟨λk n=>.inl (FO (λd m=>⟨rfl,hw k d m⟩) λ_=>⟨E,by rw[H,h3],λhh=>by rw[H]at hh;cases hh⟩),.inr ?_⟩
  rcases F with F|⟨F,h5⟩
  .exact Prod.Lex.left _ _ (by omega)
  .rw[F];exact Prod.Lex.right _ (by omega)
 .have hold:∀k,¬k<nW->cv nW base aL (.sp r 6) j lv M M₀ gs u k=if k-nW<r then⟨k,2,zY,aL,λ_=>False⟩else if k-nW=r then⟨k,1,a,u,M₀⟩else⟨k,0,zY,aL,λ_=>False⟩:=λk n=>by
   unfold cv;rw[if_neg n,ha];simp[lvl,fF]
  rcases E with⟨rfl,R⟩|⟨E,H⟩
  .have f:∀k,¬k<nW->cv nW base aL (.sp r 6) j lv M M' ((gs.map (woken Q a g' u')).setIfInBounds 0 g') u' k=if k-nW<r then⟨k,2,zY,aL,λ_=>False⟩else if k-nW=r then⟨k,1,g',u',M'⟩else⟨k,0,zY,aL,λ_=>False⟩:=λk n=>by
        unfold cv;rw[if_neg n,A];simp[lvl,fF]
   have hc:QU Q ty Wg V nV nW K off vals An (cv nW base aL (.sp r 6) j lv M M' ((gs.map (woken Q a g' u')).setIfInBounds 0 g') u' (nW+r)) (cv nW base aL (.sp r 6) j lv M M₀ gs u (nW+r)):=by
        rw[hold (nW+r) (by omega),f (nW+r) (by omega),ada,if_neg (aby r),if_neg (aby r),if_pos rfl,if_pos rfl];exact R
   refine⟨λk n=>?_,.inl ⟨nW+r,by omega,hc⟩⟩
   by_cases d:k<nW
   .exact .inl (l k d)
   .by_cases s:k=nW+r
    .subst s;exact .inr hc
    .refine .inl (.inl ?_)
     show cv _ _ _ _ _ _ _ _ _ _ k=cv _ _ _ _ _ _ _ _ _ _ k
     rw[hold k d,f k d]
     by_cases b:k-nW<r
     .rw[if_pos b,if_pos b]
     .rw[if_neg b,if_neg b,if_neg (by omega),if_neg (by omega)]
  .have f:∀k,¬k<nW->cv nW base aL tag' j lv M M' ((gs.map (woken Q a g' u')).setIfInBounds 0 g') u' k=if k-nW<r then⟨k,2,zY,aL,λ_=>False⟩else⟨k,0,zY,aL,λ_=>False⟩:=λk n=>by
        unfold cv;rw[if_neg n,E,H];simp
   have hc:QU Q ty Wg V nV nW K off vals An (cv nW base aL tag' j lv M M' ((gs.map (woken Q a g' u')).setIfInBounds 0 g') u' (nW+r)) (cv nW base aL (.sp r 6) j lv M M₀ gs u (nW+r)):=by
        rw[hold (nW+r) (by omega),f (nW+r) (by omega),ada,if_neg (aby r),if_neg (aby r),if_pos rfl];exact⟨rfl,.inr (.inr (.inl ⟨rfl,rfl⟩))⟩
   refine⟨λk n=>?_,.inl ⟨nW+r,by omega,hc⟩⟩
   by_cases d:k<nW
   .exact .inl (l k d)
   .by_cases s:k=nW+r
    .subst s;exact .inr hc
    .refine .inl (.inl ?_)
     show cv _ _ _ _ _ _ _ _ _ _ k=cv _ _ _ _ _ _ _ _ _ _ k
     rw[hold k d,f k d]
     by_cases b:k-nW<r
     .rw[if_pos b,if_pos b]
     .rw[if_neg b,if_neg b,if_neg (by omega)]
def Up (G:pg nV nW off vals)(F:∀g w,An g w->g.status=.running)(R:gs[0]? =some a)(hcs:CS Q ty Wg V nV K gE An nW off vals tag j f0 d0 a u M₀)(h:PI Q ty S Wg V nV base nW K off vals zero aL j gs u t D lv M M₀ q d0)(B:j<=nW)
 (f:WgAt ty Wg u st sm)(m:ConcN.Mode j D tag st sm){i}(J:0<i)(I:i<=base){g}(O:gs[i]? =some g)(d:g.status=.running):
 ∃m₁ ops H,runT Q (crowd gs u sl) i=(.next m₁,ops)/\
  DW Q ty Wg V nV nW K off vals An H (cv nW base aL tag j lv M M₀ gs u,(phi nW (Vc j D) tag+Ssum j D,f0+2*Fsum j D+2*sumTo (base+1) q))/\
  ng Q ty S Wg V nV base nW K off vals zero aL gE An H m₁ (t++ops):=by
 have v:=h.old i g J I O;have T:=h.size;have p:WgLive ty Wg u:=⟨_,_,f⟩;cases l:q i with
 |zero=>rw[l]at v;rw[v.1]at d;cases d
 |succ k=>
  rw[l]at v;rcases v with⟨hf,_⟩|⟨_,g',es,hm,n,z⟩
  .rw[hf]at d;cases d
  have C:(i==0)=false:=by simp;omega
  have o:=runT_crowd_go (P:=Q) (sl:=sl) (i:=i) O (by rw[C];exact n u);obtain⟨tag',f',r,X,e,L⟩:=hcs.wokenBy F (bF.refl K M₀ u) ⟨_,_,f⟩ g g';have b:tag'=tag\/(tag=.blk/\tag'=.w3):=e.imp (λx=>x.1) id;have s:((gs.map (woken Q g g' u)).setIfInBounds i g')[0]? =some (woken Q g g' u a):=by rw[get_map_set _ _ _ _ (by omega),R];rfl
  have N:sumTo (base+1) (upd q i k)+(k+1)=sumTo (base+1) q+k:=by
   have:=sumTo_upd q k id (show i<base+1 by omega);simpa[l] using this
  refine⟨_,_,(cv nW base aL tag' j lv M M₀ ((gs.map (woken Q g g' u)).setIfInBounds i g') u,(phi nW (Vc j D) tag'+Ssum j D,f'+2*Fsum j D+2*sumTo (base+1) (upd q i k))),o,⟨λc hc=>.inl (FO (λU A=>⟨rfl,λhl=>⟨?_,rfl,bF.refl _ _ _⟩⟩) λU=>?_),.inr ?_⟩,
   _,u,sl,j,D,lv,M,M₀,upd q i k,tag',f',d0,woken Q g g' u a,st,sm,rfl,s,r,h.slip G J I hm z p,f,m.retag b,B,rfl⟩
  .obtain⟨gk,E,y⟩:=h.wk c A
   rw[get_map_set _ _ _ _ (by omega),E];simp[y.woken p]
  .rcases e with⟨rfl,Y⟩|⟨rfl,rfl⟩
   .refine⟨rfl,rfl,λ_=>⟨?_,rfl,bF.refl _ _ _⟩⟩
    rw[s,R,Y]
   .exact⟨rfl,rfl,λW=>by cases W⟩
  .rw[phi_retag nW _ b]
   exact Prod.Lex.right _ (by omega)
end
end
section
open Go Go.Conc Go.ConcN
open Go.ConcR (KK wgBlock WgAt stA smA rd wr mk Payload DC0 Bk g_of_ofEvents again_blocked bk_of_mute ofEvent_loc_mark)
def N8 {Wg B}(h:Wg<B){e}(he:Bk Wg e):(MemAct.ofEvent e).low B:=by
 rcases he with b|b|⟨a,w,rfl,c⟩
 .rw[ofEvent_loc_mark b];trivial
 .rw[ofEvent_loc_mark b];trivial
 .show a.block<B
  omega
def zb {S:Nat->Prop}{Wg}{e}(he:Bk Wg e){x}(hx:(MemAct.ofEvent e).touch? =some x):Gw (λc=>S c\/c=Wg) x.loc/\x.kind≠.plain/\x.kind≠.said:=by
 rcases he with b|b|⟨a,w,rfl,d⟩
 .rw[ofEvent_loc_mark b]at hx;cases hx
 .rw[ofEvent_loc_mark b]at hx;cases hx
 .simp only[MemAct.ofEvent,MemAct.touch?,ac2]at hx
  subst hx;exact⟨⟨a,rfl,.inr d⟩,by simp,by simp⟩
section
variable [Payload]
variable {Q:Program}{ty:TypeId}{S:Nat->Prop}{Wg V nV base nW:Nat}{K:Nat->Prop}{off:Nat->Nat}{vals:Nat->List Value}{zero:Nat->Value}{aL u u':World}{j:Nat}{M:Nat->Nat->Prop}{M₀:Nat->Prop}{t:Trace}
 {gs:Array Goroutine}{D:Nat->WD}{lv:Nat->Bool}{q:Nat->Nat}{d0:Nat}{gE:Goroutine->Prop}{An:Goroutine->World->Prop}{tag:CTag}{f0:Nat}{a:Goroutine}{st sm zG Em:Int}{sl:Option (Nat×Nat)}
def Row.pay (h:Row V nV off vals zero j u lv):PayAt V nV u:=let ⟨cs,b,a,_⟩:=h;⟨cs,b,a⟩
def Row.has (G:pg nV nW off vals)(h:Row V nV off vals zero j u lv){i}(d:i<j)(a:i<nW)(hl:lv i=false):Has V (off i) ((vals i).headD undef) u:=by
 obtain⟨cs,f,g,e,_⟩:=h;have b:=e i d hl 0 (G.len i a);simp only[Nat.add_zero]at b;unfold Has;simp only[World.cell?,f];simp only[Option.isSome_none,Z0,if_false];rw[b];cases c:vals i with
 |nil=>have:=G.len i a;rw[c]at this;simp at this
 |cons x l=>rfl
def DZ (G:pg nV nW off vals)(ο:∀g w,An g w->g.status=.running)(U:gs[0]? =some a)(hcs:CS Q ty Wg V nV K gE An nW off vals tag j f0 d0 a u M₀)(h:PI Q ty S Wg V nV base nW K off vals zero aL j gs u t D lv M M₀ q d0)(κ:j<=nW)
 (l:WgAt ty Wg u st sm)(n:ConcN.Mode j D tag st sm){i}(z:i<j){g}(hg:gs[base+1+i]? =some g)(γ:g.status=.running):
 ∃m₁ ops x',runT Q (crowd gs u sl) (base+1+i)=(.next m₁,ops)/\
  DW Q ty Wg V nV nW K off vals An x' (cv nW base aL tag j lv M M₀ gs u,(phi nW (Vc j D) tag+Ssum j D,f0+2*Fsum j D+2*sumTo (base+1) q))/\
  ng Q ty S Wg V nV base nW K off vals zero aL gE An x' m₁ (t++ops):=by
 obtain⟨g₁,ν,hw⟩:=h.wk i z;obtain rfl:g=g₁:=by rw[hg]at ν;exact adn ν
 have X:WgLive ty Wg u:=⟨_,_,l⟩;have C:=h.lie;have Y5:=Vc_le j D;have τ:i<nW:=by omega
 have XT:=ZO C.v C.size;have Ω:=ZO C.wg C.size;have Y7:=λc hc=>(C.qp c hc).2.1
 have WQ:=λc hc=>(C.qp c hc).2.2.1
 have Y6:∀p,p<j->p≠i->∀c,M p c->¬(c=V):=λp J _ c hc e=>by have:=(C.low p J c hc).2;have:=C.v;omega
 have WO:∀p,p<j->p≠i->∀c,M p c->¬(c=Wg):=λp J _ c hc e=>by have:=(C.low p J c hc).2;have:=C.wg;omega
 have Zb:∀c,M₀ c->¬(c=V):=λc hc e=>by have:=(C.mY c hc).2;have:=C.v;omega
 have WT:∀c,M₀ c->¬(c=Wg):=λc hc e=>by have:=(C.mY c hc).2;have:=C.wg;omega
 have μ:base+1+i-base-1=i:=by omega
 have N:=h.row;have XK:=h.deafW i z;rcases hw with⟨hl,δ,ζ,ho⟩|⟨hl,δ,ζ,hk⟩|⟨hl,ω,hs⟩
 .
  have d:cB Q ty Wg V nV nW K off vals An i=kg Q ty Wg V nV (off i) (vals i):=by unfold cB;rw[if_pos τ]
  have Θ:dI nW i=false:=by unfold dI;exact adg (by omega)
  by_cases B:∀az,bF K (M i) u az->kg Q ty Wg V nV (off i) (vals i) g az (M i)
  .
   obtain⟨_,hx⟩:=B u (bF.refl _ _ _);obtain⟨g',u',es,hgo,A,υ,m,hk⟩:=hx N.pay X;obtain⟨cs,c1,c2,c3,c4⟩:=N;obtain⟨cs',e1,e2,e3,e4⟩:=A.row cs c1 c2
   have hcell:∀p,p<j->p≠i->u'.cell? ⟨V,off p,none⟩=u.cell? ⟨V,off p,none⟩:=λp J Δ=>by
        simp only[World.cell?,c1,e1];rw[e3 (off p) fun⟨x1,x2⟩=>Δ (G.apart p i (off p) (by omega) τ (ZL _) (by have:=G.len p (by omega);omega) x1 x2)]
   refine Ed G ο U hcs h κ z hg hgo (W:=λc=>c=V) ⟨A.tape,A.os,A.output,Nat.le_of_eq A.size.symm,λc _ hc=>A.block c hc⟩ Y7 Y6 Zb (λc _ h1 _=>h1) (d':=⟨7,m,0⟩) (l':=false) (M':=M i)
        (λc hc=>.inl hc) (λc hc=>hc) (.inr (.inl ⟨rfl,rfl,rfl,hk⟩)) (λe he x hx=>?_) (λe he=>?_) (λe he=>?_) ?_ (λY=>by simp at Y) ?_ X (l.of_block (A.block Wg (Ne.symm C.vw))) (λ_=>⟨cs',e1,e2⟩) hcell
        (λtag' ht _=>?_) (.inr ⟨hl,rfl,.inr (.inr (.inl ⟨rfl,rfl⟩))⟩)
   .obtain⟨y,y1,y2,rfl⟩:=υ e he
    cases hx;exact .inr ⟨rfl,rfl,.inl ⟨by omega,by omega,.inr ⟨y,by rw[μ];exact y1,by rw[μ];exact y2,rfl⟩⟩⟩
   .obtain⟨y,_,_,rfl⟩:=υ e he
    simp
   .obtain⟨y,_,_,rfl⟩:=υ e he
    rw[A.size];exact XT
   .rw[ζ]
    exact deafBehind_idle (λe he=>by obtain⟨y,_,_,rfl⟩:=υ e he;simp) 0
   .refine⟨cs',e1,e2,λp J σ o XH=>?_,λx hx α=>?_⟩
    .by_cases ε:p=i
     .subst ε;exact e4 o XH
     .rw[upd_ne lv _ ε]at σ
      rw[e3 _ fun⟨x1,x2⟩=>ε (G.apart p i (off p+o) (by omega) τ (by omega) (by omega) x1 x2)];exact c3 p J σ o XH
    .have h1:=α i z (by rw[upd_same])
     rw[e3 x h1]
     exact c4 x hx λp J σ=>by
      by_cases ε:p=i
      .subst ε;exact h1
      .exact α p J (by rw[upd_ne lv _ ε];exact σ)
   .have:=n.same (i:=i) m 0
    rw[δ]at this;exact this.retag ht
  .
   rcases ho.cases with hx|⟨_,hx⟩
   .exact absurd hx B
   obtain⟨g',u',es,hgo,hd,WI⟩:=hx u (bF.refl _ _ _);have R:=λc hc=>(C.low i z c hc).2
   have Yl:¬M i V:=λhc=>by have:=R V hc;have:=C.v;omega
   have Yk:¬M i Wg:=λhc=>by have:=R Wg hc;have:=C.wg;omega
   have β:=hd.keep V XT Yl
   have Φ:∀c,Grow (M i) u u' c->c<u'.heap.size:=λc hc=>by
        rcases hc with hc|⟨_,hc⟩
        .exact ZO (C.low i z c hc).1 hd.size
        .exact hc
   refine Ed G ο U hcs h κ z hg hgo (W:=M i) ⟨hd.tape,hd.os,hd.output,hd.size,hd.keep⟩ (λc hc hm=>by have:=R c hm;have:=(C.qp c hc).1;omega) (λp J Δ c hc hm=>C.Sa p i J z Δ c hc hm)
        (λc hc hm=>C.Dn i z c hm hc) (λc hc _ _ hm=>by have:=R c hm;omega) (d':=D i) (l':=true) (M':=Grow (M i) u u') (λc hc=>hc) (λc hc=>.inl hc) (.inl ⟨rfl,δ,ζ,WI⟩) (λe he x hx=>?_)
        (λe he=>((hd.evs e he).marks).2.2 _) (λe he=>(hd.evs e he).low (λc hc=>ZO (C.qp c hc).1 (ZP C.size hd.size)) Φ) ?_ (λY=>by omega) ?_ X (l.of_block (hd.keep Wg Ω Yk))
        (fun⟨cs,p1,p2⟩=>⟨cs,β.trans p1,p2⟩) (λp _ _=>cell_of_block β _) (λtag' ht _=>by rw[qK];exact n.retag ht) (.inr ⟨hl,?_⟩)
   .obtain⟨p1,p2,p3⟩:=(hd.evs e he).touch hx
    refine .inr ⟨p1,p2,p3.imp (λhb=>⟨by omega,by omega,.inl ?_⟩) id⟩;rw[μ,upd_same];exact hb
   .exact deafBehind_idle (λe he=>⟨(hd.evs e he).marks.1,(hd.evs e he).marks.2.1⟩) _
   .obtain⟨cs,c1,c2,c3,c4⟩:=N
    have e:upd lv i true=lv:=(by rw[<-hl];exact qK lv i);rw[e];exact⟨cs,β.trans c1,c2,c3,c4⟩
   .refine⟨rfl,.inr (.inr (.inr ⟨rfl,rfl,?_,u,es,bF.refl _ _ _,?_,rfl⟩))⟩
    .intro hs
     exact B λaz ψ=>by
      have:=hs az ψ;rw[d]at this;exact this
    .rw[Θ];exact hgo
 .
  have O:∀l',l'=false->Row V nV off vals zero j u (upd lv i l'):=λl' e=>by
   rw[e,<-hl,qK];exact N
  rcases Goes.cases hk with d|⟨m',hm,k⟩
  .obtain⟨_,hx⟩:=d u X
   obtain⟨g',hgo,m₂,YV⟩:=hx (N.has G z τ hl)
   refine Ed G ο U hcs h κ z hg hgo (W:=λ_=>False) ⟨rfl,rfl,rfl,ZL _,λ_ _ _=>rfl⟩ (λ_ _ h=>h) (λ_ _ _ _ _ h=>h) (λ_ _ h=>h) (λ_ _ _ _ h=>h) (d':=⟨6,m₂,0⟩) (l':=false) (M':=M i)
        (λc hc=>.inl hc) (λc hc=>hc) (.inr (.inr ⟨rfl,ZL _,.k1 YV⟩)) (λe he x hx=>?_) (λe he=>?_) (λe he=>?_) ?_ (λ_=>?_) (O _ rfl) X l id (λ_ _ _=>rfl)
        (λtag' ht _=>(n.counted z (by omega) (.inl rfl) _ _).retag ht) (.inl ⟨hl,rfl,.inl ⟨by show 6<_;omega,by simp[cnt,δ]⟩⟩)
   .have:e=mk (.releaseMerge (stA Wg)):=by simpa using he
    subst this;cases hx
   .have:e=mk (.releaseMerge (stA Wg)):=by simpa using he
    subst this;simp[mk]
   .have:e=mk (.releaseMerge (stA Wg)):=by simpa using he
    subst this;exact Ω
   .rw[ζ];rfl
   .exact⟨t.size,RelBy.new (by rw[XK,ζ]) _ _⟩
  .obtain⟨g',w',es,hgo,⟨rfl,rfl⟩,F⟩:=k u X
   refine Ed G ο U hcs h κ z hg hgo (W:=λ_=>False) ⟨rfl,rfl,rfl,ZL _,λ_ _ _=>rfl⟩ (λ_ _ h=>h) (λ_ _ _ _ _ h=>h) (λ_ _ h=>h) (λ_ _ _ _ h=>h) (d':=⟨7,m',0⟩) (l':=false) (M':=M i)
        (λc hc=>.inl hc) (λc hc=>hc) (.inr (.inl ⟨rfl,rfl,rfl,F⟩)) (by simp) (by simp) (by simp) (by rw[ζ];rfl) (λY=>by simp at Y) (O _ rfl) X l id (λ_ _ _=>rfl)
        (λtag' ht _=>by have:=n.same (i:=i) m' 0;rw[δ]at this;exact this.retag ht) (.inl ⟨hl,rfl,.inr ⟨δ.symm,hm.symm⟩⟩)
 .
  have O:∀{u':World},u'.heap[V]? =u.heap[V]?->Row V nV off vals zero j u' (upd lv i false):=fun{u'} e=>by
   rw[<-hl,qK];obtain⟨cs,c1,c2⟩:=N;exact⟨cs,e.trans c1,c2⟩
  generalize B:(D i).stage=s at hs ω;generalize YY:(D i).fuel=m at hs;generalize XL:(D i).deaf=dd at hs;have WJ:Deaf t (base+1+i)=dd:=by rw[XK,XL]
  have ρ:∀{g':Goroutine} {w':World} {es:Array Event} {s' m' H:Nat} {zG Em:Int},stepG Q false g u=.go g' w' es->Go.Conc.Aside Wg u w'->WgAt ty Wg w' zG Em->(∀e∈es,Bk Wg e)->
        (∀I e,es[I]? =some e->(MemAct.ofEvent e).touch? =none\/0<deafBehind dd (es.extract 0 I))->s'<=6->Qb Q ty Wg V nV (off i) (vals i) s' m' H g' w'->deafBehind dd es=H->
        (∀tag',(tag'=tag\/(tag=.blk/\tag'=.w3))->(mayWake Q g=true->g'.status=.running->tag'≠.blk)->ConcN.Mode j (upd D i ⟨s',m',H⟩) tag' zG Em)->((s'<s/\cnt ⟨s',m',H⟩<=cnt (D i))\/(s'=s/\m'+1=m))->
        ∃m₁ ops x',runT Q (crowd gs u sl) (base+1+i)=(.next m₁,ops)/\
         DW Q ty Wg V nV nW K off vals An x' (cv nW base aL tag j lv M M₀ gs u,(phi nW (Vc j D) tag+Ssum j D,f0+2*Fsum j D+2*sumTo (base+1) q))/\
         ng Q ty S Wg V nV base nW K off vals zero aL gE An x' m₁ (t++ops):=by
   intro g' w' es s' m' H zG Em hgo T η Z hd WS θ Ψ P Ξ;have β:=T.block V C.vw
   refine Ed G ο U hcs h κ z hg hgo (W:=λc=>c=Wg) ⟨T.tape,T.os,T.output,Nat.le_of_eq T.size.symm,λc _ hc=>T.block c hc⟩ WQ WO WT (λc _ _ h2=>h2) (d':=⟨s',m',H⟩) (l':=false) (M':=M i)
        (λc hc=>.inl hc) (λc hc=>hc) (.inr (.inr ⟨rfl,WS,θ⟩)) (λe he x hx=>.inl (zb (Z e he) hx)) (norel_of_Bk Z) (λe he=>N8 (by rw[T.size];exact Ω) (Z e he)) (by rw[XL];exact Ψ) (λ_=>?_) (O β) X η
        (fun⟨cs,p1,p2⟩=>⟨cs,β.trans p1,p2⟩) (λp _ _=>cell_of_block β _) P (.inl ⟨hl,rfl,by rw[B,YY];exact Ξ⟩)
   obtain⟨r,hr⟩:=h.rel i z (by omega);exact⟨r,hr.book WJ _ _ Z hd⟩
  have book:∀{g':Goroutine} {w':World} {es:Array Event} {s' m' H:Nat} {zG Em:Int},stepG Q false g u=.go g' w' es->Go.Conc.Aside Wg u w'->WgAt ty Wg w' zG Em->(∀e∈es,Bk Wg e)->
        (∀I e,es[I]? =some e->(MemAct.ofEvent e).touch? =none\/0<deafBehind dd (es.extract 0 I))->s'<=6->Qb Q ty Wg V nV (off i) (vals i) s' m' H g' w'->deafBehind dd es=H->
        ConcN.Mode j (upd D i ⟨s',m',H⟩) tag zG Em->((s'<s/\cnt ⟨s',m',H⟩<=cnt (D i))\/(s'=s/\m'+1=m))->
        ∃m₁ ops x',runT Q (crowd gs u sl) (base+1+i)=(.next m₁,ops)/\
         DW Q ty Wg V nV nW K off vals An x' (cv nW base aL tag j lv M M₀ gs u,(phi nW (Vc j D) tag+Ssum j D,f0+2*Fsum j D+2*sumTo (base+1) q))/\
         ng Q ty S Wg V nV base nW K off vals zero aL gE An x' m₁ (t++ops):=
   λhgo T η Z hd WS θ Ψ P Ξ=>ρ hgo T η Z hd WS θ Ψ (λ_ ht _=>P.retag ht) Ξ
  have idle:∀{g':Goroutine} {m':Nat},stepG Q false g u=.go g' u #[]->Qb Q ty Wg V nV (off i) (vals i) s m' dd g' u->m'+1=m->
        ∃m₁ ops x',runT Q (crowd gs u sl) (base+1+i)=(.next m₁,ops)/\
         DW Q ty Wg V nV nW K off vals An x' (cv nW base aL tag j lv M M₀ gs u,(phi nW (Vc j D) tag+Ssum j D,f0+2*Fsum j D+2*sumTo (base+1) q))/\
         ng Q ty S Wg V nV base nW K off vals zero aL gE An x' m₁ (t++ops):=
   fun{g' m'} hgo θ hm=>book hgo (.refl Wg u) l (by simp) (by simp) ω θ rfl (by have:=n.same (i:=i) m' dd;rwa [B]at this) (.inr ⟨rfl,hm⟩)
  have bk1:∀{ad:Addr} {b:Bool},ad.block=Wg->∀e∈(#[⟨.cell ad,b,true⟩]:Array Event),Bk Wg e:=λhb e he=>by simp at he;subst he;exact bk_cell _ _ hb
  cases hs with
  |r0 h=>exact absurd ω (by omega)
  |k1 Y=>
   rcases Goes.cases Y with d|⟨m',rfl,k⟩
   .obtain⟨_,g',hgo,m₂,hk⟩:=d u (RW.refl u)
    exact book hgo (.refl Wg u) l (by intro e he;simp at he;subst he;exact .inl rfl) (by intro I e he;exact .inl (by have:=ac5 he;simp at this;subst this;rfl)) (by omega) (.d1 hk) rfl
     (n.counted z (by omega) (.inr rfl) _ _) (.inl ⟨by omega,by simp[cnt,B]⟩)
   .obtain⟨g',w',es,hgo,⟨rfl,rfl⟩,F⟩:=k u (RW.refl u)
    exact idle hgo (.k1 F) rfl
  |d1 Y=>
   rcases Goes.cases Y with d|⟨m',rfl,k⟩
   .obtain⟨_,α⟩:=d u (RW.refl u)
    have Y2:cnt (D i)=1:=(by simp[cnt,B]);have ZB:1<=Vc j D:=(by have:=le_sumTo (f:=λx=>cnt (D x)) z;simp only[Vc];omega);have bk2:∀e∈ #[rd (stA Wg),wr (stA Wg)],Bk Wg e:=by intro e he;simp at he;rcases he with rfl|rfl<;>exact bk_cell _ _ rfl
    have Xa:∀I e,(#[rd (stA Wg),wr (stA Wg)]:Array Event)[I]? =some e->(MemAct.ofEvent e).touch? =none\/0<deafBehind 1 ((#[rd (stA Wg),wr (stA Wg)]:Array Event).extract 0 I):=by
     intro I e he
     match I,he with
     |0,_=>exact .inr (by simp[deafBehind])
     |1,_=>exact .inr (by simp[deafBehind,rd])
     |I+2,he=>simp at he
    have XF:∀q,cnt (⟨1,q,1⟩:WD)=0:=λ_=>rfl
    have Xp:∀q,OpenSt j D->OpenSt j (upd D i ⟨1,q,1⟩):=λq h a U=>by
     by_cases e:a=i
     .subst e;rw[upd_same];simp
     .rw[upd_ne D _ e];exact h a U
    cases n with
    |opn h1 h2 h3=>
     obtain⟨v,hv⟩:∃v,Vc j D+pend tag=v+1:=⟨Vc j D+pend tag-1,by omega⟩;rw[hv]at l;have φ:WgAt ty Wg u (((v:Nat)+1)*KK+((0:Nat):Int)) 0:=by simpa using l
     have Zy:pend tag<=1:=by cases tag<;>simp[pend]<;>split<;>omega
     obtain⟨g',hgo,_,hq⟩:=α v 0 (by omega) (by have:=G.qF;omega) φ;obtain⟨q,hq⟩:=hq (by omega);have χ:Vc j (upd D i ⟨1,q,1⟩)+pend tag=v:=(by have:=Vc_upd D (⟨1,q,1⟩:WD) z;have:=XF q;omega);refine book hgo (aside_setCell u (stA Wg) _) (l.setSt _) bk2 Xa (by omega) (.quit hq) rfl ?_ (.inl ⟨by omega,by simp[cnt]⟩);have e:((v:Nat):Int)*KK+((0:Nat):Int)=((Vc j (upd D i ⟨1,q,1⟩)+pend tag:Nat):Int)*KK:=(by rw[χ];simp);rw[e];exact .opn h1 (Xp q h2) (λvs ev=>by have:=h3 vs ev;omega)
    |reg h1 h2 h3=>
     obtain⟨v,hv⟩:∃v,Vc j D=v+1:=⟨Vc j D-1,by omega⟩;rw[hv]at l;have φ:WgAt ty Wg u (((v:Nat)+1)*KK+((1:Nat):Int)) 0:=by simpa using l
     obtain⟨g',hgo,YU,hq⟩:=α v 1 (by omega) (by have:=G.qF;omega) φ
     by_cases YL:v=0
     .subst YL
      obtain⟨m₂,hk⟩:=YU ⟨rfl,rfl⟩;refine book hgo (aside_setCell u (stA Wg) _) (l.setSt _) bk2 Xa (by omega) (.d2 hk) rfl ?_ (.inl ⟨by omega,by simp[cnt]⟩)
      have E:∀a,a<j->a≠i->(D a).stage=1:=λa U e=>by
         have c0:=others_uncounted z hv Y2 a U e;have:=h2 a U;simp only[cnt]at c0;split at c0<;>omega
      have:=ConcN.Mode.last (j:=j) (D:=upd D i ⟨4,m₂,1⟩) (tag:=tag) i h1 z (by rw[upd_same];simp) (λa U e=>by rw[upd_ne D _ e];exact E a U e);rw[upd_same]at this;simpa using this
     .obtain⟨q,hq⟩:=hq (by omega)
      have χ:Vc j (upd D i ⟨1,q,1⟩)=v:=(by have:=Vc_upd D (⟨1,q,1⟩:WD) z;have:=XF q;omega);refine book hgo (aside_setCell u (stA Wg) _) (l.setSt _) bk2 Xa (by omega) (.quit hq) rfl ?_ (.inl ⟨by omega,by simp[cnt]⟩);have e:((v:Nat):Int)*KK+((1:Nat):Int)=((Vc j (upd D i ⟨1,q,1⟩):Nat):Int)*KK+1:=(by rw[χ];simp);rw[e];exact .reg h1 (Xp q h2) (by omega)
    |last L _ h2 h3 h4=>
     by_cases e:i=L
     .subst e;omega
     .have:=h4 i z e;omega
    |sema h2=>have:=h2 i z;omega
    |fin _ h2=>have:=h2 i z;omega
   .obtain⟨g',w',es,hgo,⟨rfl,rfl⟩,F⟩:=k u (RW.refl u)
    exact idle hgo (.d1 F) rfl
  |d2 Y=>
   rcases Goes.cases Y with d|⟨m',rfl,k⟩
   .obtain⟨_,hx⟩:=d u (RW.refl u)
    obtain⟨ξ,E,rfl,rfl⟩:=n.isLast z (by omega);simp only[B]at l;obtain⟨g',hgo,m₂,hk⟩:=hx (by simpa using l);refine book hgo (.refl Wg u) l (bk1 rfl) (by intro I e he;match I,he with|0,_=>exact .inr (by simp[deafBehind])|I+1,he=>simp at he) (by omega) (.d3 hk) rfl ?_ (.inl ⟨by omega,by simp[cnt]⟩);have:=ConcN.Mode.last (j:=j) (D:=upd D i ⟨3,m₂,1⟩) (tag:=tag) i ξ z (by rw[upd_same];simp) (λa U e=>by rw[upd_ne D _ e];exact E a U e);rw[upd_same]at this;simpa using this
   .obtain⟨g',w',es,hgo,⟨rfl,rfl⟩,F⟩:=k u (RW.refl u)
    exact idle hgo (.d2 F) rfl
  |d3 Y=>
   rcases Goes.cases Y with d|⟨m',rfl,k⟩
   .obtain⟨_,hx⟩:=d u (RW.refl u)
    obtain⟨ξ,E,rfl,rfl⟩:=n.isLast z (by omega);simp only[B]at l;obtain⟨g',hgo,m₂,hk⟩:=hx (by simpa using l);refine book hgo (aside_setCell u (stA Wg) _) (l.setSt 0) (bk1 rfl) (by intro I e he;match I,he with|0,_=>exact .inr (by simp[deafBehind])|I+1,he=>simp at he) (by omega) (.d4 hk) rfl ?_ (.inl ⟨by omega,by simp[cnt]⟩);have:=ConcN.Mode.last (j:=j) (D:=upd D i ⟨2,m₂,1⟩) (tag:=tag) i ξ z (by rw[upd_same];simp) (λa U e=>by rw[upd_ne D _ e];exact E a U e);rw[upd_same]at this;simpa using this
   .obtain⟨g',w',es,hgo,⟨rfl,rfl⟩,F⟩:=k u (RW.refl u)
    exact idle hgo (.d3 F) rfl
  |d4 Y=>
   rcases Goes.cases Y with d|⟨m',rfl,k⟩
   .obtain⟨_,YS,hx⟩:=d u (RW.refl u)
    obtain⟨ξ,E,rfl,rfl⟩:=n.isLast z (by omega);simp only[B]at l;obtain⟨g',hgo,q,hq⟩:=hx (by simpa using l)
    have Γ:g'.status=.running:=by
     cases q with
     |zero=>exact absurd hq.2 (by decide)
     |succ q=>exact hq.elim (λx=>absurd x.2 (by decide)) (λx=>x.1)
    refine ρ hgo (aside_setCell u (smA Wg) _) (l.setSm 1) (es:=semEvents (smA Wg)) bk_sem ?_ (by omega) (.quit hq) (by simp[deafBehind,semEvents]) ?_ (.inl ⟨by omega,by simp[cnt]⟩)
    .intro I e he
     match I,he with
     |0,he=>simp[semEvents]at he;subst he;exact .inl rfl
     |1,_=>exact .inr (by simp[deafBehind,semEvents])
     |2,_=>exact .inr (by simp[deafBehind,semEvents])
     |3,he=>simp[semEvents]at he;subst he;exact .inl rfl
     |I+4,he=>simp[semEvents]at he
    .intro tag' ht hw
     have YR:=hw YS Γ
     have e3:tag'=.w3:=by
       rcases ht with rfl|⟨_,rfl⟩
       .cases tag'<;>first|rfl|exact ξ.elim|exact absurd rfl YR
       .rfl
     subst e3;simp
     exact .sema λa U=>by
       by_cases e:a=i
       .subst e;rw[upd_same]
       .rw[upd_ne D _ e];exact E a U e
   .obtain⟨g',w',es,hgo,⟨rfl,rfl⟩,F⟩:=k u (RW.refl u)
    exact idle hgo (.d4 F) rfl
  |quit Y=>
   cases m with
   |zero=>rw[Y.1]at γ;cases γ
   |succ q=>
    rcases Y with⟨hf,_⟩|⟨_,g',es,ι,k,hq⟩
    .rw[hf]at γ;cases γ
    .have Z:∀e∈es,Bk Wg e:=λe he=>bk_of_mute (ι e he)
     exact book (k u) (.refl Wg u) l Z (λI e he=>.inl (touch_mute (ι e (ac5 he)))) (by omega) (.quit hq) rfl (by have:=n.same (i:=i) q (deafBehind dd es);rwa [B]at this) (.inr ⟨rfl,rfl⟩)
end
end
section
open Go Go.Conc Go.ConcN
open Go.ConcR (KK wgBlock WgAt stA smA rd wr mk Payload DC0 Bk g_of_ofEvents again_blocked bk_of_mute ofEvent_loc_mark ofEvent_mk)
def OE (Wg:Nat)(e:Event):Prop:=Bk Wg e\/e=mk (.read (smA Wg))\/e=mk (.write (smA Wg))
def P6 {Wg B}(h:Wg<B){e}(he:OE Wg e):(MemAct.ofEvent e).low B:=by
 rcases he with he|rfl|rfl
 .exact N8 h he
 .exact h
 .exact h
def LM {S:Nat->Prop}{Wg}{e}(he:OE Wg e){x}(hx:(MemAct.ofEvent e).touch? =some x):Gw (λc=>S c\/c=Wg) x.loc/\x.kind≠.plain:=by
 rcases he with he|rfl|rfl
 .exact⟨(zb (S:=S) he hx).1,(zb (S:=S) he hx).2.1⟩
 .simp only[mk,MemAct.ofEvent,MemAct.touch?,ac2]at hx
  subst hx;exact⟨⟨_,rfl,.inr rfl⟩,by simp⟩
 .simp only[mk,MemAct.ofEvent,MemAct.touch?,ac2]at hx
  subst hx;exact⟨⟨_,rfl,.inr rfl⟩,by simp⟩
def LP {Wg}{e}(he:OE Wg e):e.loc≠.mark (.release (stA Wg)):=by
 rcases he with he|rfl|rfl
 .exact norel_of_Bk (es:= #[e]) (λx hx=>by rw[Array.mem_singleton.1 hx];exact he) e (by simp)
 .simp[mk]
 .simp[mk]
section
variable [Payload]
variable {Q:Program}{ty:TypeId}{S:Nat->Prop}{Wg V nV base nW:Nat}{K:Nat->Prop}{off:Nat->Nat}{vals:Nat->List Value}{zero:Nat->Value}{aL u u':World}{j:Nat}{M:Nat->Nat->Prop}{M₀:Nat->Prop}{t:Trace}
 {gs:Array Goroutine}{D:Nat->WD}{lv:Nat->Bool}{q:Nat->Nat}{d0:Nat}{gE:Goroutine->Prop}{An:Goroutine->World->Prop}{tag:CTag}{f0:Nat}{a:Goroutine}{st sm zG Em:Int}{sl:Option (Nat×Nat)}
def dZ (G:pg nV nW off vals)(y:gs[0]? =some a)(h:PI Q ty S Wg V nV base nW K off vals zero aL j gs u t D lv M M₀ q d0)(n:j<=nW)(m:WgLive ty Wg u)
 {g'}{es}{tag'}{f'}(hgo:stepG Q true a u=.go g' u' es)(b:Go.Conc.Aside Wg u u')(f:∀e∈es,OE Wg e)
 (l:CS Q ty Wg V nV K gE An nW off vals tag' j f' (deafBehind d0 es) g' u' M₀)(i:WgAt ty Wg u' zG Em)(d:ConcN.Mode j D tag' zG Em)
 (k:(lvl tag'=lvl tag/\(∀r,fF tag r=false)/\(∀r,fF tag' r=false)/\(phi nW (Vc j D) tag'<phi nW (Vc j D) tag\/(phi nW (Vc j D) tag'=phi nW (Vc j D) tag/\f'<f0)))\/
  (∃r,r<=nW/\tag=.sp r 6/\lvl tag'=r/\∀r,fF tag' r=false)):
 ∃m₁ ops v,runT Q (crowd gs u sl) 0=(.next m₁,ops)/\
  DW Q ty Wg V nV nW K off vals An v (cv nW base aL tag j lv M M₀ gs u,(phi nW (Vc j D) tag+Ssum j D,f0+2*Fsum j D+2*sumTo (base+1) q))/\
  ng Q ty S Wg V nV base nW K off vals zero aL gE An v m₁ (t++ops):=by
 have g:=h.lie;have p:Wg<u.heap.size:=ZO g.wg g.size
 exact Qv G y h n hgo (W:=λc=>c=Wg) ⟨b.tape,b.os,b.output,Nat.le_of_eq b.size.symm,λc _ hc=>b.block c hc⟩ (λc hc=>(g.qp c hc).2.2.1) (λw o c hc e=>by have:=(g.low w o c hc).2;have:=g.wg;omega) (λc _ _ s=>s) (λc hc=>.inl hc)
  (λe he x hx=>.inl (LM (f e he) hx)) (λe he=>LP (f e he)) (λe he=>P6 (by rw[b.size];exact p) (f e he)) g.vw l m i d (k.imp id fun⟨r,A,s,z⟩=>⟨r,A,s,.inr z⟩)
def Ti (G:pg nV nW off vals)(W:gs[0]? =some a){r}(Y:r<nW)(h:PI Q ty S Wg V nV base nW K off vals zero aL (nW-(r+1)) gs u t D lv M M₀ q 0)(A:WgAt ty Wg u st sm)(c:ConcN.Mode (nW-(r+1)) D (.sp (r+1) 1) st sm)
 {g' child}(B:stepG Q true a u=.spawn g' child u #[])(o:aC Q false K (kg Q ty Wg V nV (off (nW-(r+1))) (vals (nW-(r+1)))) child u M₀)(m:Sr Q ty Wg V nV K An nW off vals r g' u (λ_=>False)):
 ∃m₁ ops O,runT Q (crowd gs u sl) 0=(.next m₁,ops)/\
  DW Q ty Wg V nV nW K off vals An O (cv nW base aL (.sp (r+1) 1) (nW-(r+1)) lv M M₀ gs u,(phi nW (Vc (nW-(r+1)) D) (.sp (r+1) 1)+Ssum (nW-(r+1)) D,f0+2*Fsum (nW-(r+1)) D+2*sumTo (base+1) q))/\
  ng Q ty S Wg V nV base nW K off vals zero aL gE An O m₁ (t++ops):=by
 have p:=h.size;obtain⟨j,T⟩:∃j,j=nW-(r+1):=⟨_,rfl⟩;rw[<-T]at h c o p⊢;have l:=runT_crowd_spawn (P:=Q) (sl:=sl) (i:=0) W (by simpa using B);have f:j<nW:=by omega
 have H:=h.fork (a':=g') G f (x:={g:=0,fn:=a.frame.fn,pos:=a.frame.place,act:=.go (base+j+1)}) (y:={g:=base+j+1,fn:=child.frame.fn,pos:=a.frame.place,act:=.start}) ⟨rfl,rfl⟩ ⟨rfl,rfl⟩ o
 have z:((MemOp.ofEvents 0 a.frame.fn a.frame.place #[]).push {g:=0,fn:=a.frame.fn,pos:=a.frame.place,act:=.go gs.size}|>.push {g:=gs.size,fn:=child.frame.fn,pos:=a.frame.place,act:=.start})=
  #[{g:=0,fn:=a.frame.fn,pos:=a.frame.place,act:=.go (base+j+1)},{g:=base+j+1,fn:=child.frame.fn,pos:=a.frame.place,act:=.start}]:=by
  rw[p,show base+1+j=base+j+1 by omega,ofEvents_eq];simp
 rw[z]at l;obtain⟨R,rfl,rfl,_⟩:=c.open_inv trivial
 have X:Vc (j+1) (upd D j ⟨7,0,0⟩)=Vc j D+1:=by
  simp only[Vc,sumTo,upd_same];rw[sumTo_upd_out D _ cnt (ZL _)];rfl
 have C:OpenSt (j+1) (upd D j ⟨7,0,0⟩):=λi U=>by
  by_cases e:i=j
  .subst e;rw[upd_same];simp
  .rw[upd_ne D _ e];exact R i (by omega)
 have I:((Vc j D+pend (.sp (r+1) 1):Nat):Int)*KK=((Vc (j+1) (upd D j ⟨7,0,0⟩)+pend (.sp r 6):Nat):Int)*KK:=by rw[X];simp[pend]
 have w:((gs.setIfInBounds 0 g').push child)[0]? =some g':=by
  rw[ac3,if_neg (by simp;omega),acV (by omega)]
 have s:∀i,0<i->i<gs.size->((gs.setIfInBounds 0 g').push child)[i]? =gs[i]?:=λi h0 U=>by
  rw[ac3,if_neg (by simp;omega),ade (by omega)]
 have v:((gs.setIfInBounds 0 g').push child)[base+1+j]? =some child:=by rw[ac3,if_pos (by simp;omega)]
 refine⟨_,_,(cv nW base aL (.sp r 6) (j+1) (upd lv j true) (upd M j M₀) (λ_=>False) ((gs.setIfInBounds 0 g').push child) u,(phi nW (Vc (j+1) (upd D j ⟨7,0,0⟩)) (.sp r 6)+Ssum (j+1) (upd D j ⟨7,0,0⟩),0+2*Fsum (j+1) (upd D j ⟨7,0,0⟩)+2*sumTo (base+1) q)),l,?_,
  _,u,sl,j+1,upd D j ⟨7,0,0⟩,upd lv j true,upd M j M₀,λ_=>False,q,.sp r 6,0,0,g',_,_,rfl,w,⟨by omega,by omega,rfl,rfl,m⟩,H,A,?_,by omega,rfl⟩
 .have hc:QU Q ty Wg V nV nW K off vals An (cv nW base aL (.sp r 6) (j+1) (upd lv j true) (upd M j M₀) (λ_=>False) ((gs.setIfInBounds 0 g').push child) u j) (cv nW base aL (.sp (r+1) 1) j lv M M₀ gs u j):=by
   unfold cv;rw[if_pos f,if_neg (by omega),upd_same,if_pos rfl,if_pos f,if_pos (ZL _),upd_same,v];refine⟨rfl,.inl ⟨rfl,rfl,?_⟩⟩;show aC Q (dI nW j) K (cB Q ty Wg V nV nW K off vals An j) child u M₀
   have L:dI nW j=false:=adg (by omega);have J:cB Q ty Wg V nV nW K off vals An j=kg Q ty Wg V nV (off j) (vals j):=(by unfold cB;rw[if_pos f]);rw[L,J];exact o
  have F:QU Q ty Wg V nV nW K off vals An (cv nW base aL (.sp r 6) (j+1) (upd lv j true) (upd M j M₀) (λ_=>False) ((gs.setIfInBounds 0 g').push child) u (nW+r)) (cv nW base aL (.sp (r+1) 1) j lv M M₀ gs u (nW+r)):=by
   unfold cv;have N:¬nW+r<nW:=(by omega);rw[if_neg N,if_neg N,ada,if_neg (show ¬r<lvl (.sp r 6)from aby r),if_pos (show fF (.sp r 6) r=true by simp[fF]),if_pos (show r<lvl (.sp (r+1) 1)from Z4 r),w];refine⟨rfl,.inl ⟨rfl,rfl,?_⟩⟩;show aC Q (dI nW (nW+r)) K (cB Q ty Wg V nV nW K off vals An (nW+r)) g' u (λ_=>False)
   have L:dI nW (nW+r)=true:=ady (by omega);have J:cB Q ty Wg V nV nW K off vals An (nW+r)=SS Q ty Wg V nV K An nW off vals r:=(by unfold cB;rw[if_neg N,ada]);rw[L,J];cases r with
   |zero=>exact m
   |succ r=>exact m
  refine⟨λk Z=>?_,.inl ⟨j,by omega,hc⟩⟩
  by_cases n:k=j
  .subst n;exact .inr hc
  by_cases E:k=nW+r
  .subst E;exact .inr F
  refine .inl (.inl ?_);show cv _ _ _ _ _ _ _ _ _ _ k=cv _ _ _ _ _ _ _ _ _ _ k
  unfold cv
  by_cases d:k<nW
  .rw[if_pos d,if_pos d]
   by_cases b:j<=k
   .rw[if_pos (show j+1<=k by omega),if_pos b]
   .rw[if_neg (show ¬j+1<=k by omega),if_neg b,upd_ne lv _ n,upd_ne M _ n,s _ (by omega) (by omega)]
  .rw[if_neg d,if_neg d]
   by_cases b:k-nW<r
   .rw[if_pos (show k-nW<lvl (.sp r 6)from b),if_pos (show k-nW<lvl (.sp (r+1) 1)from Nat.lt_succ_of_lt b)]
   .rw[if_neg (show ¬k-nW<lvl (.sp r 6)from b),if_neg (show ¬k-nW<lvl (.sp (r+1) 1) by show ¬k-nW<r+1;omega),if_neg (show ¬fF (.sp r 6) (k-nW)=true by simp[fF];omega),if_neg (show ¬fF (.sp (r+1) 1) (k-nW)=true by simp[fF])]
 .rw[I]
  exact .opn trivial C (by simp)
def Ke (Q:Program)(ty:TypeId)(S:Nat->Prop)(Wg V nV nW:Nat)(off:Nat->Nat)(vals:Nat->List Value)(zero:Nat->Value)(aL:World)(gE:Goroutine->Prop)(m:Machine)(t:Trace):Prop:=
 ∃gs u sl q cs,m=crowd gs u sl/\(∃a,gs[0]? =some a/\gE a)/\WgLive ty Wg u/\ni Q (λc=>S c\/c=Wg) gs u.heap.size t q/\u.tape=aL.tape/\u.os=aL.os/\u.output=aL.output/\aL.heap.size<=u.heap.size/\(∀c,c<aL.heap.size->c≠V->c≠Wg->u.heap[c]? =aL.heap[c]?)/\
  u.heap[V]? =some (.cells cs Payload.ety)/\cs.size=nV/\(∀i,i<nW->∀o,o< (vals i).length->cs[off i+o]? =(vals i)[o]?)/\∀x,x<nV->(∀i,i<nW->¬(off i<=x/\x<off i+(vals i).length))->cs[x]? =some (zero x)
def Ci (G:pg nV nW off vals)(Y9:∀g w,WgLive ty Wg w->An g w->∃m,Goes Q true (RL ty Wg) DC0 (Oc Q ty Wg gE An) m g w)(A:gs[0]? =some a)(hcs:CS Q ty Wg V nV K gE An nW off vals tag j f0 d0 a u M₀)
 (h:PI Q ty S Wg V nV base nW K off vals zero aL j gs u t D lv M M₀ q d0)(o:j<=nW)(n:WgAt ty Wg u st sm)(b:ConcN.Mode j D tag st sm)(ο:a.status=.running):
 (∃m₁ ops,runT Q (crowd gs u sl) 0=(.next m₁,ops)/\Ke Q ty S Wg V nV nW off vals zero aL gE m₁ (t++ops))\/
 ∃m₁ ops U,runT Q (crowd gs u sl) 0=(.next m₁,ops)/\
  DW Q ty Wg V nV nW K off vals An U (cv nW base aL tag j lv M M₀ gs u,(phi nW (Vc j D) tag+Ssum j D,f0+2*Fsum j D+2*sumTo (base+1) q))/\
  ng Q ty S Wg V nV base nW K off vals zero aL gE An U m₁ (t++ops):=by
 have d:WgLive ty Wg u:=⟨_,_,n⟩;have H:=h.lie;have Y5:=Vc_le j D;have YZ:=G.qF;have bk1:∀{e:Event},OE Wg e->∀x∈(#[e]:Array Event),OE Wg x:=λhe x hx=>by rw[Array.mem_singleton.1 hx];exact he
 have ω:OE Wg (mk .disable):=.inl (.inl rfl);have μ:OE Wg (mk .enable):=.inl (.inr (.inl rfl));have β:OE Wg (rd (stA Wg)):=.inl (.inr (.inr ⟨_,_,rfl,rfl⟩));have γ:∀x∈(#[rd (stA Wg),wr (stA Wg)]:Array Event),OE Wg x:=λx hx=>.inl (bk_rw x hx)
 have nl:∀tg:CTag,(∀r,tg≠.sp r 6)->∀r,fF tg r=false:=λtg Θ r=>by
  cases tg<;>try rfl
  rename_i r' s;unfold fF;split
  .exact absurd (by simp_all) (Θ r')
  .rfl
 have ξ:∀{r m:Nat} {g' child:Goroutine},r<nW->j=nW-(r+1)->d0=0->child.status=.running->Goes Q true (RL ty Wg) DC0 (Qd Q ty Wg g' child) m a u->
  (∀az,bF K M₀ u az->aC Q false K (kg Q ty Wg V nV (off (nW-(r+1))) (vals (nW-(r+1)))) child az M₀/\Sr Q ty Wg V nV K An nW off vals r g' az (λ_=>False))->
  ((tag=.sp (r+1) 5/\f0=m)\/tag=.sp (r+1) 6)->
  ∃m₁ ops U,runT Q (crowd gs u sl) 0=(.next m₁,ops)/\
   DW Q ty Wg V nV nW K off vals An U (cv nW base aL tag j lv M M₀ gs u,(phi nW (Vc j D) tag+Ssum j D,f0+2*Fsum j D+2*sumTo (base+1) q))/\
   ng Q ty S Wg V nV base nW K off vals zero aL gE An U m₁ (t++ops):=by
  intro r m g' child I z hd χ F hF y;have R:isOpen tag:=by rcases y with⟨rfl,_⟩|rfl<;>trivial
  have N:pend tag=0:=by rcases y with⟨rfl,_⟩|rfl<;>rfl
  rcases Goes.cases F with f|⟨m',rfl,l⟩
  .obtain⟨_,a',hgo,m₂,B⟩:=f u d
   refine dZ G A h o d hgo (.refl Wg u) (bk1 ω) (tag':=.sp (r+1) 4) (f':=m₂) ⟨I,z,by rw[hd];rfl,g',child,χ,B,hF⟩ n (b.reopen R trivial (by rw[N];rfl) (by simp)) ?_;rcases y with⟨rfl,_⟩|rfl
   .exact .inl ⟨rfl,nl _ (by simp),nl _ (by simp),.inl (by simp only[phi];omega)⟩
   .exact .inr ⟨r+1,by omega,rfl,rfl,nl _ (by simp)⟩
  .obtain⟨a',w',es,hgo,⟨rfl,rfl⟩,p⟩:=l u d
   refine dZ G A h o d hgo (.refl Wg _) (by simp) (tag':=.sp (r+1) 5) (f':=m') ⟨I,z,hd,g',child,χ,p,hF⟩ n (b.reopen R trivial (by rw[N];rfl) (by simp)) ?_;rcases y with⟨rfl,rfl⟩|rfl
   .exact .inl ⟨rfl,nl _ (by simp),nl _ (by simp),.inr ⟨rfl,by omega⟩⟩
   .exact .inr ⟨r+1,by omega,rfl,rfl,nl _ (by simp)⟩
 have ν:∀{m:Nat},j=nW->d0=0->Goes Q true (RL ty Wg) DC0 (Qe Q ty Wg An) m a u->((tag=.kd/\f0=m)\/tag=.sp 0 6)->
  ∃m₁ ops U,runT Q (crowd gs u sl) 0=(.next m₁,ops)/\
   DW Q ty Wg V nV nW K off vals An U (cv nW base aL tag j lv M M₀ gs u,(phi nW (Vc j D) tag+Ssum j D,f0+2*Fsum j D+2*sumTo (base+1) q))/\
   ng Q ty S Wg V nV base nW K off vals zero aL gE An U m₁ (t++ops):=by
  intro m z hd F y;have R:isOpen tag:=by rcases y with⟨rfl,_⟩|rfl<;>trivial
  have N:pend tag=0:=by rcases y with⟨rfl,_⟩|rfl<;>rfl
  rcases Goes.cases F with f|⟨m',rfl,l⟩
  .obtain⟨_,a',hgo,m₂,B⟩:=f u d
   refine dZ G A h o d hgo (.refl Wg u) (bk1 ω) (tag':=.anch) (f':=m₂) ⟨z,by rw[hd];rfl,B⟩ n (b.reopen R trivial (by rw[N];rfl) (by simp)) ?_;rcases y with⟨rfl,_⟩|rfl
   .exact .inl ⟨rfl,nl _ (by simp),nl _ (by simp),.inl (by simp only[phi];omega)⟩
   .exact .inr ⟨0,by omega,rfl,rfl,nl _ (by simp)⟩
  .obtain⟨a',w',es,hgo,⟨rfl,rfl⟩,p⟩:=l u d
   refine dZ G A h o d hgo (.refl Wg _) (by simp) (tag':=.kd) (f':=m') ⟨z,hd,p⟩ n (b.reopen R trivial (by rw[N];rfl) (by simp)) ?_;rcases y with⟨rfl,rfl⟩|rfl
   .exact .inl ⟨rfl,nl _ (by simp),nl _ (by simp),.inr ⟨rfl,by omega⟩⟩
   .exact .inr ⟨0,by omega,rfl,rfl,nl _ (by simp)⟩
 have load:∀{m:Nat},j=nW->d0=1->Goes Q true (RL ty Wg) DC0 (Oc Q ty Wg gE An) m a u->((tag=.w1/\f0=m)\/tag=.anch)->
  ∃m₁ ops U,runT Q (crowd gs u sl) 0=(.next m₁,ops)/\
   DW Q ty Wg V nV nW K off vals An U (cv nW base aL tag j lv M M₀ gs u,(phi nW (Vc j D) tag+Ssum j D,f0+2*Fsum j D+2*sumTo (base+1) q))/\
   ng Q ty S Wg V nV base nW K off vals zero aL gE An U m₁ (t++ops):=by
  intro m z hd F y;have R:isOpen tag:=by rcases y with⟨rfl,_⟩|rfl<;>trivial
  have N:pend tag=0:=by rcases y with⟨rfl,_⟩|rfl<;>rfl
  have θ:lvl tag=0:=by rcases y with⟨rfl,_⟩|rfl<;>rfl
  have ζ:∀r,fF tag r=false:=by rcases y with⟨rfl,_⟩|rfl<;>exact nl _ (by simp)
  have ρ:8*Vc j D+5<=phi nW (Vc j D) tag:=by rcases y with⟨rfl,_⟩|rfl<;>simp only[phi]<;>omega
  rcases Goes.cases F with f|⟨m',rfl,l⟩
  .obtain⟨_,J⟩:=f u d
   obtain⟨ho,rfl,rfl,_⟩:=b.open_inv R;obtain⟨a',hgo,h0,hne⟩:=J (Vc j D) (by omega) (by simpa[N] using n)
   by_cases hv:Vc j D=0
   .obtain⟨m₂,B⟩:=h0 hv
    refine dZ G A h o d hgo (.refl Wg u) (bk1 β) (tag':=.ke) (f':=m₂) ⟨z,by rw[hd];rfl,B⟩ n ?_ (.inl ⟨θ.symm,ζ,nl _ (by simp),.inl (by simp only[phi]at ρ⊢;omega)⟩);have e:((Vc j D+pend tag:Nat):Int)*KK=0:=(by rw[hv,N];simp);rw[e];exact .fin trivial (allQuit_of ho hv)
   .obtain⟨m₂,B⟩:=hne hv
    exact dZ G A h o d hgo (.refl Wg u) (bk1 β) (tag':=.w2 (Vc j D)) (f':=m₂) ⟨z,by rw[hd];rfl,B⟩ n (b.reopen R trivial (by rw[N];rfl) (λvs e=>by cases e;omega)) (.inl ⟨θ.symm,ζ,nl _ (by simp),.inl (by simp only[phi]at ρ⊢;omega)⟩)
  .obtain⟨a',w',es,hgo,⟨rfl,rfl⟩,p⟩:=l u d
   refine dZ G A h o d hgo (.refl Wg _) (by simp) (tag':=.w1) (f':=m') ⟨z,hd,p⟩ n (b.reopen R trivial (by rw[N];rfl) (by simp)) (.inl ⟨θ.symm,ζ,nl _ (by simp),?_⟩);rcases y with⟨rfl,rfl⟩|rfl
   .exact .inr ⟨rfl,by omega⟩
   .exact .inl (by simp only[phi];omega)
 cases tag with
 |sp r s=>
  match r,s,hcs with
  |r,6,hcs=>
   obtain⟨I,z,hf,hd,hs⟩:r<=nW/\j=nW-r/\f0=0/\d0=0/\Sr Q ty Wg V nV K An nW off vals r a u M₀:=by cases r<;>exact hcs
   have YN:aC Q true K (SS Q ty Wg V nV K An nW off vals r) a u M₀:=by cases r<;>exact hs
   refine .inr ?_
   by_cases ε:∀az,bF K M₀ u az->SS Q ty Wg V nV K An nW off vals r a az M₀
   .have hx:=ε u (bF.refl _ _ _)
    cases r with
    |zero=>
     obtain⟨m,hm⟩:=hx;exact ν (by omega) hd hm (.inr rfl)
    |succ r=>
     obtain⟨g',child,C,⟨m,hm⟩,O⟩:=hx;exact ξ (by omega) (by omega) hd C hm O (.inr rfl)
   .rcases YN.cases with hx|⟨_,hx⟩
    .exact absurd hx ε
    obtain⟨g',u',es,hgo,E,WI⟩:=hx u (bF.refl _ _ _)
    have κ:∀c,Grow M₀ u u' c->c<u'.heap.size:=λc hc=>by
     rcases hc with hc|⟨_,hc⟩
     .exact ZO (H.mY c hc).1 E.size
     .exact hc
    have α:=ZO H.wg H.size
    refine Qv G A h o hgo (W:=M₀) ⟨E.tape,E.os,E.output,E.size,E.keep⟩ (λc hc hm=>by have:=(H.mY c hm).2;have:=(H.qp c hc).1;omega) (λi' YW c hc hm=>H.Dn i' YW c hc hm) (λc hc _ _ hm=>by have:=(H.mY c hm).2;omega)
     (M':=Grow M₀ u u') (λc hc=>hc) (λe he x hx=>.inr ((E.evs e he).touch hx).2.2) (λe he=>((E.evs e he).marks).2.2 _) (λe he=>(E.evs e he).low (λc hc=>ZO (H.qp c hc).1 (ZP H.size E.size)) κ)
     (λhm=>by have:=(H.mY V hm).2;have:=H.v;omega) (tag':=.sp r 6) (f':=0) ?_ d (n.of_block (E.keep Wg α λhm=>by have:=(H.mY Wg hm).2;have:=H.wg;omega)) b (.inr ⟨r,I,rfl,.inl ⟨rfl,rfl,.inr (.inr (.inr ⟨rfl,rfl,?_,u,es,bF.refl _ _ _,?_,rfl⟩))⟩⟩)
    .have e:deafBehind d0 es=0:=by rw[hd];exact deafBehind_idle (λe he=>⟨(E.evs e he).marks.1,(E.evs e he).marks.2.1⟩) 0
     rw[e];have YM:Sr Q ty Wg V nV K An nW off vals r g' u' (Grow M₀ u u'):=by cases r<;>exact WI
     cases r<;>exact⟨I,z,rfl,rfl,YM⟩
    .intro Ω
     refine ε λaz T=>?_
     have:=Ω az T;have e0:¬nW+r<nW:=(by omega);simp only[cB,if_neg e0,ada]at this;exact this
    .have e1:dI nW (nW+r)=true:=ady (by omega)
     rw[e1];exact hgo
  |r+1,5,hcs=>
   obtain⟨I,z,hd,g',child,C,hm,O⟩:=hcs;exact .inr (ξ I z hd C hm O (.inl ⟨rfl,rfl⟩))
  |r+1,4,hcs=>
   obtain⟨I,z,hd,g',child,C,F,O⟩:=hcs;refine .inr ?_;rcases Goes.cases F with f|⟨m',rfl,l⟩
   .obtain⟨_,J⟩:=f u d
    obtain⟨ho,rfl,rfl,_⟩:=b.open_inv trivial;obtain⟨a',hgo,m₂,B⟩:=J (Vc j D) (by omega) (by simpa[pend] using n);have Y:Go.Conc.Aside Wg u (u.setCell (stA Wg) (.int .u64 (((Vc j D:Nat)+1)*KK))):=aside_setCell u (stA Wg) _;refine dZ G A h o d hgo Y γ (tag':=.sp (r+1) 3) (f':=m₂) ⟨I,z,by rw[hd];rfl,g',child,C,B,λaz T=>O az (bF.trans ?_ T)⟩ (n.setSt _) ?_ (.inl ⟨rfl,nl _ (by simp),nl _ (by simp),.inl (by simp only[phi];omega)⟩)
    .exact⟨Y.tape,Y.os,Y.output,Nat.le_of_eq Y.size.symm,λc hc _=>Y.block c λe=>by
      subst e;rcases hc with hc|hc
      .have:=(H.mY _ hc).2;have:=H.wg;omega
      .exact(H.qp _ hc).2.2.1 rfl⟩
    .have e:(((Vc j D:Nat):Int)+1)*KK=((Vc j D+pend (.sp (r+1) 3):Nat):Int)*KK:=by simp[pend]
     exact .opn trivial ho (by simp)
   .obtain⟨a',w',es,hgo,⟨rfl,rfl⟩,p⟩:=l u d
    exact dZ G A h o d hgo (.refl Wg _) (by simp) (tag':=.sp (r+1) 4) (f':=m') ⟨I,z,hd,g',child,C,p,O⟩ n b (.inl ⟨rfl,nl _ (by simp),nl _ (by simp),.inr ⟨rfl,by omega⟩⟩)
  |r+1,3,hcs=>
   obtain⟨I,z,hd,g',child,C,F,O⟩:=hcs;refine .inr ?_;rcases Goes.cases F with f|⟨m',rfl,l⟩
   .rcases f u d with⟨_,a',hgo,m₂,B⟩|⟨_,a',hgo,m₂,B⟩
    .exact dZ G A h o d hgo (.refl Wg u) (bk1 (.inr (.inl rfl))) (tag':=.sp (r+1) 2) (f':=m₂) ⟨I,z,by rw[hd];rfl,g',child,C,B,O⟩ n (b.reopen trivial trivial rfl (by simp)) (.inl ⟨rfl,nl _ (by simp),nl _ (by simp),.inl (by simp only[phi];omega)⟩)
    .exact dZ G A h o d hgo (.refl Wg u) (bk1 μ) (tag':=.sp (r+1) 1) (f':=m₂) ⟨I,z,by rw[hd];rfl,g',child,C,B,O⟩ n (b.reopen trivial trivial rfl (by simp)) (.inl ⟨rfl,nl _ (by simp),nl _ (by simp),.inl (by simp only[phi];omega)⟩)
   .obtain⟨a',w',es,hgo,⟨rfl,rfl⟩,p⟩:=l u d
    exact dZ G A h o d hgo (.refl Wg _) (by simp) (tag':=.sp (r+1) 3) (f':=m') ⟨I,z,hd,g',child,C,p,O⟩ n b (.inl ⟨rfl,nl _ (by simp),nl _ (by simp),.inr ⟨rfl,by omega⟩⟩)
  |r+1,2,hcs=>
   obtain⟨I,z,hd,g',child,C,F,O⟩:=hcs;refine .inr ?_;rcases Goes.cases F with f|⟨m',rfl,l⟩
   .obtain⟨_,a',hgo,m₂,B⟩:=f u d
    exact dZ G A h o d hgo (.refl Wg u) (bk1 μ) (tag':=.sp (r+1) 1) (f':=m₂) ⟨I,z,by rw[hd];rfl,g',child,C,B,O⟩ n (b.reopen trivial trivial rfl (by simp)) (.inl ⟨rfl,nl _ (by simp),nl _ (by simp),.inl (by simp only[phi];omega)⟩)
   .obtain⟨a',w',es,hgo,⟨rfl,rfl⟩,p⟩:=l u d
    exact dZ G A h o d hgo (.refl Wg _) (by simp) (tag':=.sp (r+1) 2) (f':=m') ⟨I,z,hd,g',child,C,p,O⟩ n b (.inl ⟨rfl,nl _ (by simp),nl _ (by simp),.inr ⟨rfl,by omega⟩⟩)
  |r+1,1,hcs=>
   obtain⟨I,z,hd,g',child,C,F,O⟩:=hcs;refine .inr ?_;rcases Goes.cases F with f|⟨m',rfl,l⟩
   .obtain⟨_,Φ⟩:=f u d
    obtain⟨h4,h5⟩:=O u (bF.refl _ _ _);subst z hd;exact Ti G A I h n b Φ h4 h5
   .obtain⟨a',w',es,hgo,⟨rfl,rfl⟩,p⟩:=l u d
    exact dZ G A h o d hgo (.refl Wg _) (by simp) (tag':=.sp (r+1) 1) (f':=m') ⟨I,z,hd,g',child,C,p,O⟩ n b (.inl ⟨rfl,nl _ (by simp),nl _ (by simp),.inr ⟨rfl,by omega⟩⟩)
  |r+1,0,hcs=>exact hcs.elim
  |r+1,s+7,hcs=>exact hcs.elim
  |0,0,hcs=>exact hcs.elim
  |0,1,hcs=>exact hcs.elim
  |0,2,hcs=>exact hcs.elim
  |0,3,hcs=>exact hcs.elim
  |0,4,hcs=>exact hcs.elim
  |0,5,hcs=>exact hcs.elim
  |0,s+7,hcs=>exact hcs.elim
 |kd=>exact .inr (ν hcs.1 hcs.2.1 hcs.2.2 (.inl ⟨rfl,rfl⟩))
 |anch=>
  obtain⟨z,hd,F⟩:=hcs;refine .inr ?_;rcases Goes.cases F with f|⟨m',rfl,l⟩
  .obtain⟨m₂,B⟩:=Y9 a u d (f u d)
   exact load z hd B (.inr rfl)
  .obtain⟨a',w',es,hgo,⟨rfl,rfl⟩,p⟩:=l u d
   exact dZ G A h o d hgo (.refl Wg _) (by simp) (tag':=.anch) (f':=m') ⟨z,hd,p⟩ n b (.inl ⟨rfl,nl _ (by simp),nl _ (by simp),.inr ⟨rfl,by omega⟩⟩)
 |w1=>exact .inr (load hcs.1 hcs.2.1 hcs.2.2 (.inl ⟨rfl,rfl⟩))
 |w2 vs=>
  obtain⟨z,hd,F⟩:=hcs;refine .inr ?_;rcases Goes.cases F with f|⟨m',rfl,l⟩
  .obtain⟨_,J⟩:=f u d
   obtain⟨ho,rfl,rfl,Δ⟩:=b.open_inv trivial;obtain⟨hle,C⟩:=Δ vs rfl;obtain⟨υ,η⟩:=J (Vc j D) (by omega) (by simpa[pend] using n)
   by_cases e:Vc j D=vs
   .obtain⟨a',hgo,m₂,B⟩:=υ e
    exact dZ G A h o d hgo (aside_setCell u (stA Wg) _) γ (tag':=.w3) (f':=m₂+102) ⟨z,by rw[hd];rfl,.inl ⟨m₂,rfl,B⟩⟩ (n.setSt _) (.reg trivial ho (by omega)) (.inl ⟨rfl,nl _ (by simp),nl _ (by simp),.inl (by simp only[phi];omega)⟩)
   .obtain⟨a',hgo,m₂,B⟩:=η e
    exact dZ G A h o d hgo (.refl Wg u) (bk1 β) (tag':=.anch) (f':=m₂) ⟨z,by rw[hd];rfl,B⟩ n (b.reopen trivial trivial rfl (by simp)) (.inl ⟨rfl,nl _ (by simp),nl _ (by simp),.inl (by simp only[phi];omega)⟩)
  .obtain⟨a',w',es,hgo,⟨rfl,rfl⟩,p⟩:=l u d
   exact dZ G A h o d hgo (.refl Wg _) (by simp) (tag':=.w2 vs) (f':=m') ⟨z,hd,p⟩ n b (.inl ⟨rfl,nl _ (by simp),nl _ (by simp),.inr ⟨rfl,by omega⟩⟩)
 |w3=>
  obtain⟨z,hd,hcs⟩:=hcs;refine .inr ?_;rcases hcs with⟨m,hf,F⟩|⟨m,hf,F⟩
  .rcases Goes.cases F with f|⟨m',rfl,l⟩
   .obtain⟨_,a',hgo,B⟩:=f u d
    exact dZ G A h o d hgo (.refl Wg u) (bk1 (.inr (.inr rfl))) (tag':=.w3) (f':=100+1) ⟨z,by rw[hd];rfl,.inr ⟨100,rfl,B⟩⟩ n b (.inl ⟨rfl,nl _ (by simp),nl _ (by simp),.inr ⟨rfl,by omega⟩⟩)
   .obtain⟨a',w',es,hgo,⟨rfl,rfl⟩,p⟩:=l u d
    exact dZ G A h o d hgo (.refl Wg _) (by simp) (tag':=.w3) (f':=m'+102) ⟨z,hd,.inl ⟨m',rfl,p⟩⟩ n b (.inl ⟨rfl,nl _ (by simp),nl _ (by simp),.inr ⟨rfl,by omega⟩⟩)
  .rcases Goes.cases F with f|⟨m',rfl,l⟩
   .obtain⟨_,σ,ψ,δ⟩:=f u d
    have Z:ConcN.Mode j D .blk st sm->∃m₁ ops U,runT Q (crowd gs u sl) 0=(.next m₁,ops)/\
     DW Q ty Wg V nV nW K off vals An U (cv nW base aL .w3 j lv M M₀ gs u,(phi nW (Vc j D) .w3+Ssum j D,f0+2*Fsum j D+2*sumTo (base+1) q))/\
     ng Q ty S Wg V nV base nW K off vals zero aL gE An U m₁ (t++ops):=λhm=>by
     have Ψ:sm=0:=by
      cases hm with
      |opn C _ _=>exact C.elim
      |reg _ _ _=>rfl
      |last _ _ _ _ _=>rfl
      |fin C _=>exact C.elim
     subst Ψ;exact dZ G A h o d (ψ ⟨_,n⟩) (.refl Wg _) (by simp) (tag':=.blk) (f':=0) ⟨z,hd,rfl,a,rfl,σ,λw hw=>f w hw⟩ n hm (.inl ⟨rfl,nl _ (by simp),nl _ (by simp),.inr ⟨rfl,by omega⟩⟩)
    cases b with
    |opn C _ _=>exact C.elim
    |reg C h2 O=>exact Z (.reg trivial h2 O)
    |last L C h2 O h4=>exact Z (.last L trivial h2 O h4)
    |sema h2=>
     obtain⟨a',hgo,m₂,B⟩:=δ n;exact dZ G A h o d hgo (aside_setCell u (smA Wg) _) (λx hx=>.inl (bk_sem x hx)) (tag':=.w4) (f':=m₂) ⟨z,by rw[hd];simp[deafBehind,semEvents],B⟩ (n.setSm 0) (.fin trivial h2) (.inl ⟨rfl,nl _ (by simp),nl _ (by simp),.inl (by simp only[phi];omega)⟩)
    |fin C _=>exact C.elim
   .obtain⟨a',w',es,hgo,⟨rfl,rfl⟩,p⟩:=l u d
    exact dZ G A h o d hgo (.refl Wg _) (by simp) (tag':=.w3) (f':=m'+1) ⟨z,hd,.inr ⟨m',rfl,p⟩⟩ n b (.inl ⟨rfl,nl _ (by simp),nl _ (by simp),.inr ⟨rfl,by omega⟩⟩)
 |blk=>
  obtain⟨_,_,_,g,rfl,_⟩:=hcs;simp at ο
 |w4=>
  obtain⟨z,hd,F⟩:=hcs;refine .inr ?_;rcases Goes.cases F with f|⟨m',rfl,l⟩
  .obtain⟨_,hx⟩:=f u d
   obtain⟨hq,rfl,rfl⟩:=b.fin_inv trivial;obtain⟨a',hgo,m₂,B⟩:=hx n;exact dZ G A h o d hgo (.refl Wg u) (bk1 β) (tag':=.ke) (f':=m₂) ⟨z,by rw[hd];rfl,B⟩ n (.fin trivial hq) (.inl ⟨rfl,nl _ (by simp),nl _ (by simp),.inl (by simp only[phi];omega)⟩)
  .obtain⟨a',w',es,hgo,⟨rfl,rfl⟩,p⟩:=l u d
   exact dZ G A h o d hgo (.refl Wg _) (by simp) (tag':=.w4) (f':=m') ⟨z,hd,p⟩ n b (.inl ⟨rfl,nl _ (by simp),nl _ (by simp),.inr ⟨rfl,by omega⟩⟩)
 |ke=>
  obtain⟨z,hd,F⟩:=hcs;refine .inr ?_;rcases Goes.cases F with f|⟨m',rfl,l⟩
  .obtain⟨_,a',hgo,m₂,B⟩:=f u d
   obtain⟨hq,rfl,rfl⟩:=b.fin_inv trivial;exact dZ G A h o d hgo (.refl Wg u) (bk1 μ) (tag':=.acq) (f':=m₂) ⟨z,by rw[hd];rfl,B⟩ n (.fin trivial hq) (.inl ⟨rfl,nl _ (by simp),nl _ (by simp),.inl (by simp only[phi];omega)⟩)
  .obtain⟨a',w',es,hgo,⟨rfl,rfl⟩,p⟩:=l u d
   exact dZ G A h o d hgo (.refl Wg _) (by simp) (tag':=.ke) (f':=m') ⟨z,hd,p⟩ n b (.inl ⟨rfl,nl _ (by simp),nl _ (by simp),.inr ⟨rfl,by omega⟩⟩)
 |acq=>
  obtain⟨z,hd,F⟩:=hcs;rcases Goes.cases F with f|⟨m',rfl,l⟩
  .obtain⟨_,gF,YX,hgo⟩:=f u d
   obtain⟨hq,rfl,rfl⟩:=b.fin_inv trivial;refine .inl ⟨_,_,runT_crowd_go (P:=Q) (sl:=sl) (i:=0) A (by simpa using hgo),?_⟩;have Ξ:=h.size;have α:=ZO H.wg H.size
   have X:=h.JB G (g:=a) (g':=gF) (fn:=a.frame.fn) (pos:=a.frame.place) (es:= #[mk (.acquire (stA Wg))]) (W:=λ_=>False) (u':=u) ⟨rfl,rfl,rfl,ZL _,λ_ _ _=>rfl⟩ (λ_ _ h=>h) (λ_ _ _ _ h=>h) (λ_ _ _ _ h=>h) (M':=M₀) (λc hc=>.inl hc)
     (λe he x hx=>by rw[Array.mem_singleton.1 he]at hx;cases hx) (λe he=>by rw[Array.mem_singleton.1 he];simp[mk]) (λe he=>by rw[Array.mem_singleton.1 he];exact α) (λh=>h) d d
   have e1:MemOp.ofEvents 0 a.frame.fn a.frame.place #[mk (.acquire (stA Wg))]= #[{g:=0,fn:=a.frame.fn,pos:=a.frame.place,act:=.mark (.acquire (stA Wg))}]:=(by rw[ofEvents_eq];simp[ofEvent_mk]);have hy:(t++ #[({g:=0,fn:=a.frame.fn,pos:=a.frame.place,act:=.mark (.acquire (stA Wg))}:MemOp)])[t.size]? =some {g:=0,fn:=a.frame.fn,pos:=a.frame.place,act:=.mark (.acquire (stA Wg))}:=(by simp)
   have τ:=X.ti.join (q:=t.size) (by rw[e1,act?_of hy]) (by rw[e1];simp[Trace.g?]) (by rw[e1];exact⟨0,by simp[Trace.g?],by rw[deaf_old (ZL _)];exact h.deaf0.trans hd⟩) (λg g1 g2=>by
     obtain⟨i,rfl⟩:∃i,g=base+1+i:=⟨g-base-1,by omega⟩;obtain⟨r,I⟩:=h.rel i (by omega) (by rw[hq i (by omega)];omega);exact⟨r,I.appOther g_of_ofEvents (by omega),lt_of_act? I.act⟩)
   have Γ:∀i,i<j->lv i=false:=λi hi=>by
     obtain⟨g,_,hw⟩:=h.wk i hi;have:=hq i hi;rcases hw with⟨_,h7,_⟩|⟨hl,_⟩|⟨hl,_⟩
     .omega
     .exact hl
     .exact hl
   obtain⟨cs,c1,c2,c3,c4⟩:=h.row
   refine⟨_,u,sl,λk=>if k<=base then q k else(D (k-base-1)).fuel,cs,rfl,⟨gF,get_map_set_same _ _ _ (by omega),YX⟩,d,⟨?_,by rw[jv];omega,τ.2,?_,X.ti.tk.low,?_,λk g k1 hg=>?_⟩,H.tape,H.os,H.output,H.size,H.keep,c1,c2,λi hi=>c3 i (by omega) (Γ i (by omega)),
     λx hx J=>c4 x hx λi hi _=>J i (by omega)⟩
   .rw[jv,Ξ,show base+1+j-1=base+j by omega]
    exact τ.1
   .rw[X.deaf0,hd];rfl
   .rintro c (hc|rfl)
    .exact ZO (H.sh c hc).1 H.size
    .exact α
   .have YT:k<gs.size:=by have:=(ZK.1 hg).1;simpa using this
    by_cases ι:k<=base
    .simp only[if_pos ι]
     exact X.old k g k1 ι hg
    .simp only[if_neg ι]
     obtain⟨i,rfl⟩:∃i,k=base+1+i:=⟨k-base-1,by omega⟩;have hi:i<j:=(by omega);obtain⟨g2,φ,hw⟩:=X.wk i hi;rw[hg]at φ;obtain rfl:=adn φ;rw[show base+1+i-base-1=i by omega,X.deafW i hi];have C:=hq i hi;rcases hw with⟨_,h7,_⟩|⟨_,h7,_⟩|⟨_,_,hw⟩
     .omega
     .omega
     .exact hw.quits C
  .obtain⟨a',w',es,hgo,⟨rfl,rfl⟩,p⟩:=l u d
   exact .inr (dZ G A h o d hgo (.refl Wg _) (by simp) (tag':=.acq) (f':=m') ⟨z,hd,p⟩ n b (.inl ⟨rfl,nl _ (by simp),nl _ (by simp),.inr ⟨rfl,by omega⟩⟩))
 |ret=>exact hcs.elim
end
def Mt {P}{α}{r}(Inv:α->Machine->Trace->Prop)(Goal:Machine->Trace->Prop)
 (h:∀b m t,Inv b m t->(∃m' ops,stepT P m=(.next m',ops)/\Goal m' (t++ops))\/∃m' ops a,stepT P m=(.next m',ops)/\r a b/\Inv a m' (t++ops)):
 ∀b,Acc r b->∀m t,Inv b m t->∃n m' c,runNT P n m t=(.next m',c)/\Goal m' c:=by
 intro b e
 induction e with
 |intro b _ g=>
  intro m t k;rcases h b m t k with⟨m',ops,hs,j⟩|⟨m',ops,a,hs,i,f⟩
  .exact⟨1,m',t++ops,by rw[runNT_succ_next hs];rfl,j⟩
  .obtain⟨n,d,c,o,l⟩:=g a i m' (t++ops) f
   exact⟨n+1,d,c,by rw[runNT_succ_next hs];exact o,l⟩
section
variable [Payload]
variable {Q:Program}{ty:TypeId}{S:Nat->Prop}{Wg V nV base nW:Nat}{K:Nat->Prop}{off:Nat->Nat}{vals:Nat->List Value}{zero:Nat->Value}{aL u:World}{j:Nat}{M:Nat->Nat->Prop}{M₀:Nat->Prop}{t:Trace}
 {gs:Array Goroutine}{D:Nat->WD}{lv:Nat->Bool}{q:Nat->Nat}{d0:Nat}{gE:Goroutine->Prop}{An:Goroutine->World->Prop}{tag:CTag}{f0:Nat}{a:Goroutine}{st sm:Int}{sl:Option (Nat×Nat)}
def Wk.awake {o}{vs}{l}{d}{N}{g}(a:WgLive ty Wg u)(h:Wk Q ty Wg V nV K o vs l d N g u)(hs:d.stage≠1):g.status=.running:=by
 rcases h with⟨_,_,_,h⟩|⟨_,_,_,h⟩|⟨_,_,h⟩
 .rcases h.cases with h|h
  .exact(h u (bF.refl _ _ _)).1
  .exact h.1
 .exact Goes.running (λ_ _ x=>x.1) u a h
 .exact h.running_of hs
def OO (e:∀g w,An g w->g.status=.running)(m:gs[0]? =some a)(hcs:CS Q ty Wg V nV K gE An nW off vals tag j f0 d0 a u M₀)(h:PI Q ty S Wg V nV base nW K off vals zero aL j gs u t D lv M M₀ q d0)(c:WgLive ty Wg u)(b:ConcN.Mode j D tag st sm):
 ∃(i:Nat) (g:Goroutine),gs[i]? =some g/\g.status=.running:=by
 rcases hcs.status e c with⟨hs,_⟩|⟨_,rfl⟩
 .exact⟨0,a,m,hs⟩
 .have key:∀i,i<j->(D i).stage≠1->∃(i:Nat) (g:Goroutine),gs[i]? =some g/\g.status=.running:=λi d hs=>by
   obtain⟨g,l,hw⟩:=h.wk i d;exact⟨_,g,l,hw.awake c hs⟩
  cases b with
  |opn f _ _=>exact f.elim
  |reg _ _ k=>
   obtain⟨i,d,o⟩:=exists_counted k;exact key i d (by omega)
  |last L _ n k _=>exact key L n (by omega)
  |fin f _=>exact f.elim
def Sm (f:∀g w,An g w->g.status=.running)(o:gs[0]? =some a)(hcs:CS Q ty Wg V nV K gE An nW off vals tag j f0 d0 a u M₀)(h:PI Q ty S Wg V nV base nW K off vals zero aL j gs u t D lv M M₀ q d0)(c:WgLive ty Wg u):∀g∈gs,awake g:=by
 intro g n;obtain⟨i,d⟩:=Array.mem_iff_getElem?.1 n;have m:i<gs.size:=(ZK.1 d).1;have l:=h.size;rcases Nat.eq_zero_or_pos i with rfl|b
 .rw[o]at d;cases d
  rcases hcs.status f c with⟨hs,_⟩|⟨hs,_⟩<;>(intro p;rw[hs];simp)
 .by_cases hb:i<=base
  .exact awake_of ((h.old i g b hb d).status.elim .inl λx=>.inr (.inr x))
  .obtain⟨k,rfl⟩:∃k,i=base+1+k:=⟨i-base-1,by omega⟩
   obtain⟨g',e,hw⟩:=h.wk k (by omega);rw[d]at e;cases e;exact awake_of ((hw.running c).elim .inl λx=>.inr (.inr x))
def Hw (G:pg nV nW off vals)(p:∀g w,An g w->g.status=.running)(R:∀g w,WgLive ty Wg w->An g w->∃m,Goes Q true (RL ty Wg) DC0 (Oc Q ty Wg gE An) m g w):
 ∀x m t,ng Q ty S Wg V nV base nW K off vals zero aL gE An x m t->(∃m' ops,stepT Q m=(.next m',ops)/\Ke Q ty S Wg V nV nW off vals zero aL gE m' (t++ops))\/
  ∃m' ops c,stepT Q m=(.next m',ops)/\DW Q ty Wg V nV nW K off vals An c x/\ng Q ty S Wg V nV base nW K off vals zero aL gE An c m' (t++ops):=by
 rintro x m t ⟨gs,u,sl,j,D,lv,M,M₀,q,tag,f0,d0,a,st,sm,rfl,C,hcs,h,E,b,B,rfl⟩;have o:WgLive ty Wg u:=⟨_,_,E⟩;obtain⟨i,g,d,v,H,l,A⟩:=crowd_pick (P:=Q) (w:=u) (sl:=sl) (Sm p C hcs h o) (OO p C hcs h o b);rw[A];have L:∀N,bF K N u (u.at d):=λN=>⟨rfl,rfl,rfl,ZL _,λ_ _ _=>rfl⟩
 have n:=hcs.rely (L M₀) (show WgLive ty Wg (u.at d)from o);have T:=h.at o d;have f:WgAt ty Wg (u.at d) st sm:=E
 have conv:∀c,DW Q ty Wg V nV nW K off vals An c (cv nW base aL tag j lv M M₀ gs (u.at d),(phi nW (Vc j D) tag+Ssum j D,f0+2*Fsum j D+2*sumTo (base+1) q))->
  DW Q ty Wg V nV nW K off vals An c (cv nW base aL tag j lv M M₀ gs u,(phi nW (Vc j D) tag+Ssum j D,f0+2*Fsum j D+2*sumTo (base+1) q)):=by
  intro c hx
  have hm:∀k,si K (cv nW base aL tag j lv M M₀ gs (u.at d) k) (cv nW base aL tag j lv M M₀ gs u k):=λk=>
   FO (λ_ _=>⟨rfl,λ_=>⟨rfl,rfl,L _⟩⟩) λ_=>⟨rfl,rfl,λ_=>⟨rfl,rfl,L _⟩⟩
  have tr:∀{x y z:QT},si K z y->si K y x->si K z x:=by
   rintro x y z (rfl|⟨U,a2,a3,a4,a5⟩) s
   .exact s
   .rcases s with rfl|⟨b1,b2,b3,b4,b5⟩
    .exact .inr ⟨U,a2,a3,a4,a5⟩
    .exact .inr ⟨U.trans b1,a2.trans b2,a3.trans b3,a4.trans b4,b5.trans (by rw[b4]at a5;exact a5)⟩
  exact⟨λk O=>(hx.1 k O).imp (λe=>tr e (hm k)) λr=>si.down _ _ _ (hm k) r,hx.2.imp (fun⟨k,O,r⟩=>⟨k,O,si.down _ _ _ (hm k) r⟩) id⟩
 rcases Nat.eq_zero_or_pos i with rfl|F
 .rw[C]at H;cases H
  rcases Ci (sl:=v) G R C n T B f b l with Y|⟨m₁,ops,c,J,s,I⟩
  .exact .inl Y
  .exact .inr ⟨m₁,ops,c,J,conv c s,I⟩
 .by_cases hb:i<=base
  .obtain⟨m₁,ops,c,J,s,I⟩:=Up (sl:=v) G p C n T B f b F hb H l
   exact .inr ⟨m₁,ops,c,J,conv c s,I⟩
  .obtain⟨k,rfl⟩:∃k,i=base+1+k:=⟨i-base-1,by omega⟩
   have X:base+1+k<gs.size:=(ZK.1 H).1;have W:=h.size;obtain⟨m₁,ops,c,J,s,I⟩:=DZ (sl:=v) G p C n T B f b (i:=k) (by omega) H l;exact .inr ⟨m₁,ops,c,J,conv c s,I⟩
def Ri {B}(G:pg nV nW off vals)(T:∀g w,An g w->g.status=.running)(U:∀g w,WgLive ty Wg w->An g w->∃m,Goes Q true (RL ty Wg) DC0 (Oc Q ty Wg gE An) m g w)
 (hF:ni Q S gs B t q)(Y:gs[0]? =some a)(X:Sr Q ty Wg V nV K An nW off vals nW a u (λ_=>False))(hB:B<=Wg)(M:Wg<u.heap.size)(hV:V<u.heap.size)(O:V≠Wg)(P:¬S V)
 (hK:∀c,K c->c<u.heap.size/\c≠V/\c≠Wg/\¬S c)(C:WgAt ty Wg u 0 0){cs}(L:u.heap[V]? =some (.cells cs Payload.ety))(J:cs.size=nV)(I:∀x,x<nV->cs[x]? =some (zero x)):
 ∃N m' W,runNT Q N (crowd gs u sl) t=(.next m',W)/\Ke Q ty S Wg V nV nW off vals zero u gE m' W:=by
 obtain⟨base,f⟩:∃base,gs.size=base+1:=⟨gs.size-1,by have:=hF.pos;omega⟩;have z:=hF.ct;rw[f,acW]at z
 have fresh:∀i x,touchAt t i=some x->∀ad,x.loc=.cell ad->ad.block<B:=λi x hx ad hl=>by
  obtain⟨op,d,s⟩:=touch_of hx;obtain⟨c,hc,rfl⟩:=Eh (N:=λc=>c=ad.block) (hF.low op (mem_of_getElem? d)) s ⟨_,.inr ⟨ad,hl,rfl⟩,rfl⟩;exact hc
 have p:∀l,Gw S l->Gw (λc=>S c\/c=Wg) l:=λl ⟨ad,h1,A⟩=>⟨ad,h1,.inl A⟩
 have n:CT (Gw λc=>S c\/c=Wg) (Js base V nW off vals (λ_ _=>False)) (UI base K) t (base+0):=by
  refine CT.WV (CT.We z p λl hl=>?_) (λk _ kb l hl=>absurd hl.1 (by omega)) (λk _ _ l hl=>hl.elim) (λk _ kb l=>⟨λhl=>absurd hl.1 (by omega),λhl=>hl.elim⟩);obtain⟨ad,rfl,A|A⟩:=hl
  .exact .inl ⟨ad,rfl,A⟩
  .refine .inr λi x hx hl=>?_
   have:=fresh i x hx ad hl;omega
 have R:PI Q ty S Wg V nV base nW K off vals zero u 0 gs u t (λ_=>⟨0,0,0⟩) (λ_=>false) (λ_ _=>False) (λ_=>False) q 0:=by
  refine⟨f,⟨n,⟨λi x hx hs=>.inl (n.free x.loc hs (λk _ kb=>⟨λh=>absurd h.1 (by omega),λh=>absurd h.1 (by omega)⟩) i x hx rfl),λi g H F hc=>.inl (hF.over i g H F hc),λi e=>?_,λop d=>MemAct.low_mono (by omega) (hF.low op d)⟩⟩,
   ⟨rfl,rfl,rfl,ZL _,λ_ _ _ _=>rfl,hV,M,O,hK,λc hc=>⟨by have:=hF.sh c hc;omega,λe=>P (e▸hc),by have:=hF.sh c hc;omega⟩,λi b=>absurd b (ZV _),λc hc=>hc.elim,λi i' b=>absurd b (ZV _),λi b=>absurd b (ZV _),λ_ _ _ h=>h⟩,
   ⟨cs,L,J,λi b=>absurd b (ZV _),λx hx _=>I x hx⟩,λi g Z _ H=>hF.old i g Z H,hF.hears,λi b=>absurd b (ZV _),λi b=>absurd b (ZV _),λi b=>absurd b (ZV _)⟩
  obtain⟨op,d,E⟩:=adf.1 (show(t[i]?).map (·.act)=_ from e);have v:=hF.low op (mem_of_getElem? d);rw[E]at v;have:Wg<B:=v;omega
 have hm:ConcN.Mode 0 (λ_=>(⟨0,0,0⟩:WD)) (.sp nW 6) 0 0:=by
  have:=ConcN.Mode.opn (j:=0) (D:=λ_=>(⟨0,0,0⟩:WD)) (tag:=.sp nW 6) trivial (λi b=>absurd b (ZV _)) (by simp);simpa[Vc,sumTo,pend] using this
 have hcs:CS Q ty Wg V nV K gE An nW off vals (.sp nW 6) 0 0 0 a u (λ_=>False):=by
  have:nW<=nW/\0=nW-nW/\0=0/\0=0/\Sr Q ty Wg V nV K An nW off vals nW a u (λ_=>False):=⟨ZL _,by omega,rfl,rfl,X⟩;cases nW<;>exact this
 have hI:ng Q ty S Wg V nV base nW K off vals zero u gE An (cv nW base u (.sp nW 6) 0 (λ_=>false) (λ_ _=>False) (λ_=>False) gs u,(phi nW (Vc 0 λ_=>(⟨0,0,0⟩:WD)) (.sp nW 6)+Ssum 0 λ_=>(⟨0,0,0⟩:WD),0+2*Fsum 0 (λ_=>(⟨0,0,0⟩:WD))+2*sumTo (base+1) q)) (crowd gs u sl) t:=
  ⟨gs,u,sl,0,_,_,_,_,q,.sp nW 6,0,0,a,0,0,rfl,Y,hcs,R,C,hm,adl _,rfl⟩
 refine Mt (r:=DW Q ty Wg V nV nW K off vals An) (ng Q ty S Wg V nV base nW K off vals zero u gE An) (Ke Q ty S Wg V nV nW off vals zero u gE) (Hw G T U) _ (DJ (Prod.lex Nat.lt_wfRel Nat.lt_wfRel).wf si.down _ _ λk hk=>?_) _ _ hI;show Acc _ (cv nW base u (.sp nW 6) 0 (λ_=>false) (λ_ _=>False) (λ_=>False) gs u k)
 unfold cv
 by_cases o:k<nW
 .rw[if_pos o,if_pos (adl _)]
  exact J8 _ rfl
 .rw[if_neg o]
  by_cases y:k-nW<nW
  .rw[if_pos (show k-nW<lvl (.sp nW 6)from y)]
   exact J8 _ rfl
  .obtain rfl:k=nW+nW:=by omega
   rw[if_neg (show ¬nW+nW-nW<lvl (.sp nW 6)from y),ada,if_pos (show fF (.sp nW 6) nW=true by simp[fF]),Y];refine Gd _ rfl ?_;show aC Q (dI nW (nW+nW)) K (cB Q ty Wg V nV nW K off vals An (nW+nW)) a u (λ_=>False)
   have e1:dI nW (nW+nW)=true:=ady (by omega);have e2:cB Q ty Wg V nV nW K off vals An (nW+nW)=SS Q ty Wg V nV K An nW off vals nW:=(by unfold cB;rw[if_neg o,ada]);rw[e1,e2];cases nW<;>exact X
end
end
section
open Go Go.Conc Go.ConcN
open Go.ConcR (DC0)
section
variable {Q:Program}{main:Bool}{K:Nat->Prop}{S:Goroutine->World->(Nat->Prop)->Prop}{g g':Goroutine}{u:World}{M:Nat->Prop}
def Grow.self (M)(u):Grow M u u=M:=by
 funext c
 exact propext ⟨λh=>h.elim id λh=>absurd h.2 (by omega),.inl⟩
def Does.none (K M)(u):Does K M u u #[]:=⟨rfl,rfl,rfl,ZL _,λ_ _ _=>rfl,λe he=>by simp at he⟩
def Does.sub {u'}{es fs}(h:Does K M u u' es)(hs:∀e∈fs,e∈es):Does K M u u' fs:=⟨h.tape,h.os,h.output,h.size,h.keep,λe he=>h.evs e (hs e he)⟩
def aC.ctl (hs:g.status=.running)(h:∀az,stepG Q main g az=.go g' az #[])(k:aC Q main K S g' u M):aC Q main K S g u M:=
 aC.step hs λaz a=>⟨g',az,#[],h az,Does.none _ _ _,by rw[Grow.self];exact k.rely a⟩
section
variable {b:Frame}{a:Act}{k:List Item}{cs:List Frame}{ops:Array Oper}{i:Nat}{rest:List Nat}{o:Oper}
def aC.op (d:ops[i]? =some o)(hw:Region.wanted o (yielded ops a.tmps)=true)(f:b.kind≠.early)
 (h:∀az,bF K M u az->∃v u',(execOp a.eval o).run Q az=.ok (.value v) u'/\Does K M az u' ((execOp a.eval o).events Q az #[])/\aC Q main K S (G (b.at (a.put o.dst v) (.inRegion ops rest::k)) cs) u' (Grow M az u')):
 aC Q main K S (G (b.at a (.inRegion ops (i::rest)::k)) cs) u M:=
 aC.step rfl λaz c=>by
  obtain⟨v,u',l,j,g⟩:=h az c;exact⟨_,u',_,stepG_value d hw f l,j.sub λe he=>jF e he,g⟩
def aC.Rl (d:ops[i]? =some o)(hw:Region.wanted o (yielded ops a.tmps)=true)(f:b.kind≠.early)
 (h:∀az,bF K M u az->∃u',(execOp a.eval o).run Q az=.ok .skip u'/\Does K M az u' ((execOp a.eval o).events Q az #[])/\aC Q main K S (G (b.at (a.put o.dst undef) (.inRegion ops rest::k)) cs) u' (Grow M az u')):
 aC Q main K S (G (b.at a (.inRegion ops (i::rest)::k)) cs) u M:=
 aC.step rfl λaz c=>by
  obtain⟨u',l,j,g⟩:=h az c;exact⟨_,u',_,stepG_none d hw f l,j.sub λe he=>jF e he,g⟩
def aC.pure (v)(d:ops[i]? =some o)(hw:Region.wanted o (yielded ops a.tmps)=true)(e:b.kind≠.early)
 (h:∀az,(execOp a.eval o).run Q az=.ok (.value v) az)(he:∀az,(execOp a.eval o).events Q az #[]= #[])(hc:aC Q main K S (G (b.at (a.put o.dst v) (.inRegion ops rest::k)) cs) u M):
 aC Q main K S (G (b.at a (.inRegion ops (i::rest)::k)) cs) u M:=
 aC.op d hw e λaz c=>⟨v,az,h az,by rw[he];exact Does.none _ _ _,by rw[Grow.self];exact hc.rely c⟩
end
def PH {S}{B}{N}{e}(he:Ow K N e)(f:∀c,N c\/K c->c<B/\¬S c):UL S B e:=by
 rcases he with⟨c,hl,hs,hp⟩|⟨m,hm,rfl⟩
 .have hc:=f c (hp.imp id And.left)
  obtain⟨loc,wr,g⟩:=e;simp only at hs hl;subst hs;rcases hl with rfl|⟨a,rfl,rfl⟩
  .refine⟨λx hx=>?_,by simp,by simp,?_⟩
   .rintro⟨a,b,d⟩
    simp only[MemAct.ofEvent,MemAct.touch?,ac2]at hx;subst hx;cases b
   .simp only[MemAct.ofEvent,MemAct.low];exact hc.1
  .refine⟨λx hx=>?_,by simp,by simp,?_⟩
   .rintro⟨a',b,d⟩
    simp only[MemAct.ofEvent,MemAct.touch?,ac2]at hx;subst hx;cases b;exact hc.2 d
   .simp only[MemAct.ofEvent,MemAct.low];exact hc.1
 .cases m<;>first
   |exact hm.elim
   |(refine⟨λx hx=>?_,by simp,by simp,?_⟩
     .simp[MemAct.ofEvent,MemAct.touch?]at hx
     .simp[MemAct.ofEvent,MemAct.low])
structure Left (M M':Nat->Prop)(u u':World):Prop where
 tape:u'.tape=u.tape
 os:u'.os=u.os
 output:u'.output=u.output
 size:u.heap.size<=u'.heap.size
 keep:∀c,c<u.heap.size->¬M c->u'.heap[c]? =u.heap[c]?
 mine:∀c,M' c->M c\/(u.heap.size<=c/\c<u'.heap.size)
def Left.refl (M)(u):Left M M u u:=⟨rfl,rfl,rfl,ZL _,λ_ _ _=>rfl,λ_ h=>.inl h⟩
def Left.trans {M M' b}{u u' a}(h:Left M M' u u')(k:Left M' b u' a):Left M b u a:=
 ⟨k.tape.trans h.tape,k.os.trans h.os,k.output.trans h.output,ZP h.size k.size,λc hc hm=>(k.keep c (ZO hc h.size) λd=>(h.mine c d).elim hm λx=>absurd x.1 (by omega)).trans (h.keep c hc hm),
  λc hc=>(k.mine c hc).elim (λx=>(h.mine c x).imp id λy=>⟨y.1,ZO y.2 k.size⟩) λx=>.inr ⟨ZP h.size x.1,x.2⟩⟩
def I7 {j}{St}{g}{u}{M}(h:aC Q true K St g u M):
 ∀(gs:Array Goroutine) (sl:Option (Nat×Nat)) (t:Trace) (q:Nat->Nat),ni Q j gs u.heap.size t q->gs[0]? =some g->(∀c,M c\/K c->c<u.heap.size/\¬j c)->
  ∃(N:Nat) (a:Array Goroutine) (g':Goroutine) (u':World) (b:Option (Nat×Nat)) (k:Trace) (m:Nat->Nat) (M':Nat->Prop),
   runNT Q N (crowd gs u sl) t=(.next (crowd a u' b),k)/\a[0]? =some g'/\St g' u' M'/\ni Q j a u'.heap.size k m/\Left M M' u u':=by
 refine h (λg u M=>∀(gs:Array Goroutine) (sl:Option (Nat×Nat)) (t:Trace) (q:Nat->Nat),ni Q j gs u.heap.size t q->gs[0]? =some g->(∀c,M c\/K c->c<u.heap.size/\¬j c)->
  ∃(N:Nat) (a:Array Goroutine) (g':Goroutine) (u':World) (b:Option (Nat×Nat)) (k:Trace) (m:Nat->Nat) (M':Nat->Prop),
   runNT Q N (crowd gs u sl) t=(.next (crowd a u' b),k)/\a[0]? =some g'/\St g' u' M'/\ni Q j a u'.heap.size k m/\Left M M' u u') ?_
 intro g u M w gs sl t q hF A l;rcases w with s|⟨J,w⟩
 .exact⟨0,gs,g,u,sl,t,q,M,rfl,A,s u (bF.refl _ _ _),hF,Left.refl _ _⟩
 .have v:∀d,bF K M u (u.at d):=λd=>⟨rfl,rfl,rfl,ZL _,λ_ _ _=>rfl⟩
  obtain⟨N,z,g1,u1,r,t1,I,V,G,T,F,⟨U,rfl,hl,L⟩,E⟩:=MQ (sl:=sl) (Stop:=λg' u' B'=>∃M',B'=u'.heap.size/\Left M M' u u'/\∀(gs:Array Goroutine) (sl:Option (Nat×Nat)) (t:Trace) (q:Nat->Nat),ni Q j gs u'.heap.size t q->gs[0]? =some g'->(∀c,M' c\/K c->c<u'.heap.size/\¬j c)->
   ∃(N:Nat) (a:Array Goroutine) (n:Goroutine) (f:World) (b:Option (Nat×Nat)) (k:Trace) (m:Nat->Nat) (o:Nat->Prop),
    runNT Q N (crowd gs u' sl) t=(.next (crowd a f b),k)/\a[0]? =some n/\St n f o/\ni Q j a f.heap.size k m/\Left M' o u' f) hF A J λd=>by
   obtain⟨g',u',es,R,i,P⟩:=w (u.at d) (v d);have hl:Left M (Grow M (u.at d) u') u u':=⟨i.tape,i.os,i.output,i.size,i.keep,λ_ x=>x⟩;refine⟨g',u',es,u'.heap.size,R,i.size,λe he=>PH (i.evs e he) λc hc=>?_,_,rfl,hl,P⟩;rcases hc with hc|hc
   .rcases hc with hc|hc
    .exact⟨ZO (l c (.inl hc)).1 i.size,(l c (.inl hc)).2⟩
    .refine⟨hc.2,λhs=>?_⟩
     have:=hF.sh c hs;have O:u.heap.size<=c:=hc.1;omega
   .exact⟨ZO (l c (.inr hc)).1 i.size,(l c (.inr hc)).2⟩
  obtain⟨S,y,g2,u2,p,t2,H,M2,s1,s2,D,C,B⟩:=L z r t1 I E F λc hc=>by
   rcases hc with hc|hc
   .rcases hl.mine c hc with hc|hc
    .exact⟨ZO (l c (.inl hc)).1 hl.size,(l c (.inl hc)).2⟩
    .refine⟨hc.2,λhs=>?_⟩
     have:=hF.sh c hs;omega
   .exact⟨ZO (l c (.inr hc)).1 hl.size,(l c (.inr hc)).2⟩
  exact⟨N+S,y,g2,u2,p,t2,H,M2,by rw[runNT_add,G];exact s1,s2,D,C,hl.trans B⟩
def Uv {n}{R}(hR:∀w d,R w (w.at d)){St}:
 ∀(m:Nat) (g:Goroutine) (u:World) (gs:Array Goroutine) (sl:Option (Nat×Nat)) (t:Trace) (q:Nat->Nat),Goes Q true R DC0 St m g u->ni Q n gs u.heap.size t q->gs[0]? =some g->
  ∃(N:Nat) (a:Array Goroutine) (g':Goroutine) (d:Nat) (i:Option (Nat×Nat)) (l:Trace) (z:Nat->Nat),
   runNT Q N (crowd gs u sl) t=(.next (crowd a (u.at d) i),l)/\a[0]? =some g'/\St g' (u.at d)/\ni Q n a u.heap.size l z:=by
 intro m
 induction m with
 |zero=>exact λg u gs sl t q h hF b=>⟨0,gs,g,u.drawn,sl,t,q,rfl,b,h _ (hR u _),hF⟩
 |succ m A=>
  intro g u gs sl t q h hF b;rcases h with h|⟨B,h⟩
  .exact⟨0,gs,g,u.drawn,sl,t,q,rfl,b,h _ (hR u _),hF⟩
  .obtain⟨N,k,g1,u1,f,t1,y,H,v,G,s,⟨d,rfl,rfl,C⟩,r⟩:=MQ (sl:=sl) (Stop:=λg' u' B'=>∃d,u'=u.at d/\B'=u.heap.size/\Goes Q true R DC0 St m g' u') hF b B λd=>by
        obtain⟨g',w',es,E,⟨rfl,rfl⟩,D⟩:=goes_elim (h (u.at d) (hR u d));exact⟨g',_,_,u.heap.size,E,ZL _,λe he=>by simp at he,d,rfl,rfl,D⟩
   obtain⟨F,j,g2,d2,c,t2,x,s1,s2,p,o⟩:=A g1 (u.at d) k f t1 y C r s;exact⟨N+F,j,g2,d2,c,t2,x,by rw[runNT_add,v];exact s1,s2,p,o⟩
end
end
section
open Go Go.Conc
def qg (c:Code):Array Oper:=match c with
 |.region _ ops _=>ops
 |_=> #[]
def pZ (c:Code):Code×Code×Code×Code:=match c with
 |.seq a (.seq b (.seq c d))=>(a,b,c,d)
 |c=>(c,c,c,c)
def O0 (f:Func):Array Oper:=qg (pZ (f.body.getD .skip)).1
def O1 (f:Func):Array Oper:=qg (pZ (f.body.getD .skip)).2.1
def O2 (f:Func):Array Oper:=qg (pZ (f.body.getD .skip)).2.2.1
def O3 (f:Func):Array Oper:=qg (pZ (f.body.getD .skip)).2.2.2
def H3 (f:Func):Array Oper:=(hands (O3 f).toList).toArray
abbrev R1 (f:Func):Code:=.region 1 (O1 f) true
abbrev R2 (f:Func):Code:=.region 2 (O2 f) true
abbrev R3 (f:Func):Code:=.region 3 (H3 f) true
abbrev RQ (f:Func):Code:=.region 3 (O3 f) true
def uf:f69.body=some (.seq (.region 0 (O0 f69) false) (.seq (R1 f69) (.seq (R2 f69) (RQ f69)))):=by kernel_rfl
def kr:(fD f69).body=some (.seq (R1 f69) (.seq (R2 f69) (R3 f69))):=by kernel_rfl
def tH (l:List Nat):Bool:=match l.reverse with
 |7::6::p=>p.contains 0&& !p.contains 6&& !p.contains 7
 |_=>false
def allEnd (md:Region.Mode)(ops:Array Oper):Nat->Array Bool->List Nat->Bool
 |0,_,acc=>tH acc.reverse
 |n+1,listed,acc=>if(Region.ready md ops listed).isEmpty then tH acc.reverse else(Region.ready md ops listed).all λi=>allEnd md ops n (listed.setIfInBounds i true) (i::acc)
def BH {md}{ops}:∀(n t:Nat) (listed:Array Bool) (acc:List Nat),allEnd md ops n listed acc=true->tH (Region.linearise.go md ops n t listed acc)=true
 |0,_,_,_,h=>h
 |n+1,t,listed,acc,h=>by
  simp only[Region.linearise.go]
  change tH (match(Region.ready md ops listed)[t% (Region.ready md ops listed).length]? with
   |some i=>Region.linearise.go md ops n (t/ (Region.ready md ops listed).length) (listed.setIfInBounds i true) (i::acc)
   |none=>acc.reverse)=true
  unfold allEnd at h;cases d:(Region.ready md ops listed)[t% (Region.ready md ops listed).length]? with
  |none=>
   have a:Region.ready md ops listed=[]:=by
    cases b:Region.ready md ops listed with
    |nil=>rfl
    |cons x xs=>
     rw[b]at d;have e:t% (x::xs).length< (x::xs).length:=Nat.mod_lt _ (by simp);rw[List.getElem?_eq_none_iff]at d;omega
   rw[a]at h;simpa using h
  |some i=>
   have hm:=List.mem_of_getElem? d
   have c:(Region.ready md ops listed).isEmpty=false:=by
    cases b:Region.ready md ops listed with
    |nil=>rw[b]at hm;cases hm
    |cons x xs=>rfl
   rw[c]at h;simp only[Z0,if_false,ZU]at h;exact BH n _ _ _ (h i hm)
def Uy (md):allEnd md (H3 f69) 8 (Array.replicate 8 false) []=true:=by
 cases md<;>kernel_rfl
def Gs (l:List Nat):Prop:=∃p,l=p++[6,7]/\0∈p/\6∉p/\7∉p
def Pp {l}(h:tH l=true):Gs l:=by
 unfold tH at h;split at h
 .rename_i p hp
  have e:l=p.reverse++[6,7]:=by
   have:=congrArg List.reverse hp;simpa using this
  simp only[ZQ,List.contains_eq_mem,decide_eq_true_eq,Bool.not_eq_true',decide_eq_false_iff_not]at h;exact⟨_,e,by simpa using h.1.1,by simpa using h.1.2,by simpa using h.2⟩
 .cases h
def Qu:(H3 f69).size=8:=by kernel_rfl
def KD (m)(t):Gs (Region.schedule m (H3 f69) t):=by
 have key:∀md t,Gs (Region.linearise md (H3 f69) t):=λmd t=>by
  unfold Region.linearise;rw[Qu];exact Pp (BH _ _ _ _ (Uy md))
 unfold Region.schedule;split
 .exact key _ _
 .split<;>exact key _ _
def okW (f:Func)(a y4 sl:Value)(x:List Item)(y:Array Value):Prop:=
 (y.size=26/\y.getD 0 undef=a/\y.getD 4 undef=y4)/\
 (x=[.code (.seq (R1 f) (.seq (R2 f) (R3 f)))]\/x=[.code (R1 f),.code (.seq (R2 f) (R3 f))]\/(∃l,x=[.inRegion (O1 f) l,.code (.seq (R2 f) (R3 f))])\/x=[.code (.seq (R2 f) (R3 f))]\/x=[.code (R2 f),.code (R3 f)]\/(∃l,x=[.inRegion (O2 f) l,.code (R3 f)])\/x=[.code (R3 f)]\/
    ∃l pre,x=[.inRegion (H3 f) l]/\Gs (pre++l)/\6∈l/\(0∉l->y.getD 19 undef=sl))
def Tp (i:Nat):Bool:=i==0||i==4||i==19||i==25
def MY {c y4 sl}{x d}{y}(h:okW f69 c y4 sl x y)(a:Tr x d):okW f69 c y4 sl d y:=by
 obtain⟨j,h⟩:=h;refine⟨j,?_⟩;rcases h with rfl|rfl|⟨l,rfl⟩|rfl|rfl|⟨l,rfl⟩|rfl|⟨l,pre,rfl,q,g,o⟩
 .exact .inr (.inl a)
 .obtain⟨m,t,rfl⟩:=a;exact .inr (.inr (.inl ⟨_,rfl⟩))
 .cases l with
  |nil=>exact .inr (.inr (.inr (.inl a)))
  |cons i l=>exact a.elim
 .exact .inr (.inr (.inr (.inr (.inl a))))
 .obtain⟨m,t,rfl⟩:=a;exact .inr (.inr (.inr (.inr (.inr (.inl ⟨_,rfl⟩)))))
 .cases l with
  |nil=>exact .inr (.inr (.inr (.inr (.inr (.inr (.inl a))))))
  |cons i l=>exact a.elim
 .obtain⟨m,t,rfl⟩:=a
  obtain⟨p,b,e,n,k⟩:=KD m t;refine .inr (.inr (.inr (.inr (.inr (.inr (.inr ⟨_,[],rfl,⟨p,by simpa using b,e,n,k⟩,?_,λf=>?_⟩))))))
  .rw[b];simp
  .exact absurd (by rw[b];simp[e]) f
 .cases l with
  |nil=>cases g
  |cons i l=>exact a.elim
def QA {i}(a:i=0\/i=6):∃o,(H3 f69)[i]? =some o/\gI o=true:=by
 rcases a with rfl|rfl
 .exact⟨_,rfl,by kernel_rfl⟩
 .exact⟨_,rfl,by kernel_rfl⟩
def Pk {m y4 sl}{ops}{i}{rest}{k}{y a}(hm:∀o,ops[i]? =some o->gI o=false)(h:okW f69 m y4 sl (.inRegion ops (i::rest)::k) y)
 (hy:a=y\/∃d v,Tp d=false/\a=y.setIfInBounds d v):okW f69 m y4 sl (.inRegion ops rest::k) a:=by
 have c:∀j,Tp j=true->a.getD j undef=y.getD j undef:=λj r=>by
  rcases hy with rfl|⟨d,v,hd,rfl⟩
  .rfl
  .exact getD_set_ne λe=>by rw[e,r]at hd;cases hd
 obtain⟨f,h⟩:=h
 have p:a.size=y.size:=by
  rcases hy with rfl|⟨d,v,hd,rfl⟩
  .rfl
  .simp
 refine⟨⟨p.trans f.1,(c 0 rfl).trans f.2.1,(c 4 rfl).trans f.2.2⟩,?_⟩;rcases h with h|h|⟨l,h⟩|h|h|⟨l,h⟩|h|⟨l,pre,h,u,t,s⟩
 .cases h
 .cases h
 .simp only[ac0,Item.inRegion.injEq]at h
  obtain⟨⟨rfl,rfl⟩,rfl⟩:=h;exact .inr (.inr (.inl ⟨_,rfl⟩))
 .cases h
 .cases h
 .simp only[ac0,Item.inRegion.injEq]at h
  obtain⟨⟨rfl,rfl⟩,rfl⟩:=h;exact .inr (.inr (.inr (.inr (.inr (.inl ⟨_,rfl⟩)))))
 .cases h
 .simp only[ac0,Item.inRegion.injEq]at h
  obtain⟨⟨rfl,rfl⟩,rfl⟩:=h
  have n:i≠0:=λe=>by
   obtain⟨o,g,b⟩:=QA (i:=i) (.inl e);rw[hm o g]at b;cases b
  have n6:i≠6:=λe=>by
   obtain⟨o,g,b⟩:=QA (i:=i) (.inr e);rw[hm o g]at b;cases b
  refine .inr (.inr (.inr (.inr (.inr (.inr (.inr ⟨rest,pre++[i],rfl,by simpa using u,?_,λq=>?_⟩))))))
  .exact(ZW.1 t).resolve_left (Ne.symm n6)
  .exact(c 19 rfl).trans (s λhx=>(ZW.1 hx).elim (λe=>n e.symm) q)
def ou (f:Func)(a y4 sl:Value):iG:=
 {fns:=yB,sp:=[],mark:=gI,sg:=uo,root:=69,rt:=25,jh:=true,dd:=[dcall 70 #[a]],kd:=.deferred,pv:=Tp,okF:=okW f a y4 sl,ext:=[167]}
def eY (o):(uo o).dst=o.dst/\(uo o).after=o.after/\(uo o).guard=o.guard:=by
 unfold uo;split<;>exact⟨rfl,rfl,rfl⟩
end
section
open Go
def oO:TypeDesc->Bool
 |.float _|.complex _=>false
 |_=>true
def cr (o:Option TypeInfo):Prop:=∀i,o=some i->oO i.desc=true
def cr.bind {α}{o:Option α}{f}(h:∀a,cr (f a)):cr (o.bind f):=λi b=>by
 cases o with
 |none=>cases b
 |some a=>exact h a i b
def cr.none:cr none:=λi h=>by cases h
def cr.some {i:TypeInfo}(h:oO i.desc=true):cr (some i):=λj a=>by cases a;exact h
def qQ (info)(fs):cr (Made.reckonStruct info fs):=by
 unfold Made.reckonStruct;simp only[Option.bind_eq_bind];refine cr.bind λr=>?_
 split<;>exact cr.some rfl
def Ew (info)(d):cr (Made.reckon info d):=by
 unfold Made.reckon;cases d with
 |pointer e=>
  refine cr.bind λi=>?_
  split
  .exact cr.none
  .split
   .exact cr.none
   .exact cr.bind λs=>cr.some rfl
  .exact cr.bind λs=>cr.some rfl
 |slice e=>exact cr.bind λi=>cr.bind λs=>cr.some rfl
 |map k e=>exact cr.bind λi=>cr.bind λs=>cr.bind λi=>cr.bind λs=>cr.some rfl
 |chan dir e=>exact cr.bind λi=>cr.bind λs=>cr.some rfl
 |func ps rs v=>exact cr.bind λs=>cr.some rfl
 |array n e=>exact cr.bind λi=>cr.bind λs=>cr.some rfl
 |struct fs=>exact qQ info fs
 |_=>exact cr.none
def Fe {T}(h:T.types.all (λi=>oO i.desc)=true):∀(n:Nat) (t:TypeId),cr (Made.infoAt T n t)
 |0,_=>cr.none
 |n+1,t=>by
  unfold Made.infoAt;split
  .exact λi a=>adb.1 h i (ac5 a)
  .exact cr.bind λd=>Ew _ d
def EK {P}(h:P.types.all (λi=>oO i.desc)=true):j4 P:=by
 have key:∀t i,P.info? t=some i->oO i.desc=true:=λt i a=>by
  unfold Tables.info? at a;split at a
  .exact adb.1 h i (ac5 a)
  .exact Fe h _ _ i a
 have all:∀t d,P.underlying t=some d->oO d=true:=λt d hd=>by
  unfold Program.underlying at hd;cases a:P.info? t with
  |none=>rw[a]at hd;cases hd
  |some i=>
   rw[a]at hd;have b:=key t i a;obtain⟨desc,_⟩:=i;cases desc with
   |named nm u=>
    replace hd:(P.info? u).map (·.desc)=some d:=hd;cases hu:P.info? u with
    |none=>rw[hu]at hd;cases hd
    |some j=>rw[hu]at hd;cases hd;exact key _ _ hu
   |_=>cases hd;exact b
 exact λt=>⟨λk e=>(by have:=all _ _ e;cases this),λk e=>(by have:=all _ _ e;cases this)⟩
def lH:j4 prog:=EK (by kernel_rfl)
def FV:iT.contains (prog).rt.panicNilError=false:=by kernel_rfl
end
