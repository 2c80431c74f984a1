/- Part 18 of the proof. -/
import Derived.Test.YtfpaamhppamcoaaGreatDoorSp17
set_option linter.all false
namespace Go.Proofs.YtfpaamhppamcoaaGreatDoor
section
open Go Go.Conc Go.ConcN
open Go.ConcR (KK wgBlock WgAt stA smA rd wr mk Payload DC0 Bk g_of_ofEvents again_blocked)
structure Cmp where
 idx:Nat
 tag:Nat
 g:Goroutine
 u:World
 M:Nat->Prop
section
variable (Q:Program)(K:Nat->Prop)(dI:Nat->Bool)(cB:Nat->Goroutine->World->(Nat->Prop)->Prop)
def OwnAt (x:Cmp):Prop:=aC Q (dI x.idx) K (cB x.idx) x.g x.u x.M
def Stopped (x:Cmp):Prop:=∀az,bF K x.M x.u az->cB x.idx x.g az x.M
def OStep (y x:Cmp):Prop:=¬Stopped K cB x/\∃az es,bF K x.M x.u az/\stepG Q (dI x.idx) x.g az=.go y.g y.u es/\y.M=Grow x.M az y.u
def CRel (y x:Cmp):Prop:=y.idx=x.idx/\((x.tag=2/\y.tag=1/\OwnAt Q K dI cB y)\/(x.tag=2/\y.tag=0)\/(x.tag=1/\y.tag=0)\/(x.tag=1/\y.tag=1/\OStep Q K dI cB y x))
def CMov (y x:Cmp):Prop:=y=x\/(y.idx=x.idx/\y.tag=x.tag/\y.g=x.g/\y.M=x.M/\bF K x.M x.u y.u)
variable {Q K dI cB}
theorem CMov.down (x y z)(h:CMov K y x)(d:CRel Q K dI cB z y):CRel Q K dI cB z x:=by
 rcases h with rfl|⟨j,p,o,i,n⟩
 .exact d
 .obtain⟨e,d⟩:=d
  refine⟨e.trans j,?_⟩;rw[p]at d;rcases d with d|d|d|⟨a,b,c,az,es,m,l,k⟩
  .exact .inl d
  .exact .inr (.inl d)
  .exact .inr (.inr (.inl d))
  .refine .inr (.inr (.inr ⟨a,b,λhs=>c λg f=>?_,az,es,?_,?_,?_⟩))
   .rw[i]at f⊢
    rw[j,o];exact hs g (n.trans f)
   .rw[i]at m;exact n.trans m
   .rw[j,o]at l;exact l
   .rw[i]at k;exact k
theorem acc_dead (x)(h:x.tag=0):Acc (CRel Q K dI cB) x:=⟨_,λy hy=>by
 obtain⟨_,a|a|a|a⟩:=hy<;> · have:=a.1;omega⟩
theorem acc_live (x)(h:x.tag=1)(i:OwnAt Q K dI cB x):Acc (CRel Q K dI cB) x:=by
 obtain⟨idx,tag,g,u,M⟩:=x;simp only at h;subst h;refine i (λg u M=>Acc (CRel Q K dI cB) ⟨idx,1,g,u,M⟩) λg u M b=>⟨_,λy hy=>?_⟩
 obtain⟨o,n,p,m,q⟩:=y;obtain⟨e,a|a|a|⟨_,a,hs,az,es,f,c,d⟩⟩:=hy
 .have:=a.1;simp at this
 .have:=a.1;simp at this
 .exact acc_dead _ a.2
 .simp only at e a f c d
  subst e a d;rcases b with b|⟨_,b⟩
  .exact absurd b hs
  .obtain⟨g',u',j,l,_,k⟩:=b az f
   rw[l]at c;cases c;exact k
theorem acc_new (x)(h:x.tag=2):Acc (CRel Q K dI cB) x:=⟨_,λy hy=>by
 obtain⟨_,a|a|a|a⟩:=hy
 .exact acc_live _ a.2.1 a.2.2
 .exact acc_dead _ a.2
 .have:=a.1;omega
 .have:=a.1;omega⟩
end
section
variable [Payload]
variable {Q:Program}{ty:TypeId}{S:Nat->Prop}{Wg V nV base nW:Nat}{K:Nat->Prop}{off:Nat->Nat}{vals:Nat->List Value}{zero:Nat->Value}{aL u u':World}{j:Nat}{M:Nat->Nat->Prop}{M₀:Nat->Prop}{t:Trace}
 {gs:Array Goroutine}{D:Nat->WD}{lv:Nat->Bool}{q:Nat->Nat}{d0:Nat}{gE:Goroutine->Prop}{An:Goroutine->World->Prop}{tag:CTag}{f0:Nat}{a:Goroutine}
theorem RL.trans (a b c)(_:RL ty Wg a b)(h:RL ty Wg b c):RL ty Wg a c:=h
theorem Fk.rely {r}{X}(h:Fk Q ty Wg V nV K An nW off vals r X f0 a u M₀)(c:bF K M₀ u u')(hl:WgLive ty Wg u'):Fk Q ty Wg V nV K An nW off vals r X f0 a u' M₀:=by
 obtain⟨g',child,f,e,d⟩:=h;exact⟨g',child,f,Goes.rely RL.trans e hl,λaz b=>d az (c.trans b)⟩
theorem Sr.rely {r}(h:Sr Q ty Wg V nV K An nW off vals r a u M₀)(b:bF K M₀ u u'):Sr Q ty Wg V nV K An nW off vals r a u' M₀:=by
 cases r with
 |zero=>exact aC.rely h b
 |succ r=>exact aC.rely h b
theorem CS.rely (h:CS Q ty Wg V nV K gE An nW off vals tag j f0 d0 a u M₀)(b:bF K M₀ u u')(hl:WgLive ty Wg u'):CS Q ty Wg V nV K gE An nW off vals tag j f0 d0 a u' M₀:=by
 cases tag with
 |sp r s=>
  match r,s,h with
  |r,6,h=>cases r<;>exact⟨h.1,h.2.1,h.2.2.1,h.2.2.2.1,h.2.2.2.2.rely b⟩
  |r+1,5,h=>exact⟨h.1,h.2.1,h.2.2.1,h.2.2.2.rely b hl⟩
  |r+1,4,h=>exact⟨h.1,h.2.1,h.2.2.1,h.2.2.2.rely b hl⟩
  |r+1,3,h=>exact⟨h.1,h.2.1,h.2.2.1,h.2.2.2.rely b hl⟩
  |r+1,2,h=>exact⟨h.1,h.2.1,h.2.2.1,h.2.2.2.rely b hl⟩
  |r+1,1,h=>exact⟨h.1,h.2.1,h.2.2.1,h.2.2.2.rely b hl⟩
  |r+1,0,h=>exact h.elim
  |r+1,s+7,h=>exact h.elim
  |0,0,h=>exact h.elim
  |0,1,h=>exact h.elim
  |0,2,h=>exact h.elim
  |0,3,h=>exact h.elim
  |0,4,h=>exact h.elim
  |0,5,h=>exact h.elim
  |0,s+7,h=>exact h.elim
 |kd=>exact⟨h.1,h.2.1,Goes.rely RL.trans h.2.2 hl⟩
 |anch=>exact⟨h.1,h.2.1,Goes.rely RL.trans h.2.2 hl⟩
 |w1=>exact⟨h.1,h.2.1,Goes.rely RL.trans h.2.2 hl⟩
 |w2 vs=>exact⟨h.1,h.2.1,Goes.rely RL.trans h.2.2 hl⟩
 |w3=>
  refine⟨h.1,h.2.1,?_⟩;rcases h.2.2 with⟨m,e,h⟩|⟨m,e,h⟩
  .exact .inl ⟨m,e,Goes.rely RL.trans h hl⟩
  .exact .inr ⟨m,e,Goes.rely RL.trans h hl⟩
 |blk=>exact h
 |w4=>exact⟨h.1,h.2.1,Goes.rely RL.trans h.2.2 hl⟩
 |ke=>exact⟨h.1,h.2.1,Goes.rely RL.trans h.2.2 hl⟩
 |acq=>exact⟨h.1,h.2.1,Goes.rely RL.trans h.2.2 hl⟩
 |ret=>exact h
theorem Fk.running {r}{X}(b:∀x y g w,X x y g w->g.status=.running)(h:Fk Q ty Wg V nV K An nW off vals r X f0 a u M₀)(hl:WgLive ty Wg u):a.status=.running:=by
 obtain⟨g',child,_,c,_⟩:=h;exact Goes.running (b g' child) u hl c
theorem Sr.running {r}(h:Sr Q ty Wg V nV K An nW off vals r a u M₀)(hl:WgLive ty Wg u):a.status=.running:=by
 cases r with
 |zero=>
  rcases aC.cases h with h|h
  .obtain⟨m,hm⟩:=h u (bF.refl _ _ _)
   exact Goes.running (λ_ _ x=>x.1) u hl hm
  .exact h.1
 |succ r=>
  rcases aC.cases h with h|h
  .obtain⟨g',c,_,⟨m,hm⟩,_⟩:=h u (bF.refl _ _ _)
   exact Goes.running (λ_ _ x=>x.1) u hl hm
  .exact h.1
theorem CS.status (b:∀g w,An g w->g.status=.running)(h:CS Q ty Wg V nV K gE An nW off vals tag j f0 d0 a u M₀)(hl:WgLive ty Wg u):(a.status=.running/\tag≠.blk)\/(a.status=.blocked/\tag=.blk):=by
 cases tag with
 |sp r s=>
  refine .inl ⟨?_,by simp⟩
  match r,s,h with
  |r,6,h=>cases r<;>exact h.2.2.2.2.running hl
  |r+1,5,h=>exact h.2.2.2.running (λ_ _ _ _ x=>x.1) hl
  |r+1,4,h=>exact h.2.2.2.running (λ_ _ _ _ x=>x.1) hl
  |r+1,3,h=>exact h.2.2.2.running (λ_ _ _ _ x=>x.elim (λy=>y.1) λy=>y.1) hl
  |r+1,2,h=>exact h.2.2.2.running (λ_ _ _ _ x=>x.1) hl
  |r+1,1,h=>exact h.2.2.2.running (λ_ _ _ _ x=>x.1) hl
  |r+1,0,h=>exact h.elim
  |r+1,s+7,h=>exact h.elim
  |0,0,h=>exact h.elim
  |0,1,h=>exact h.elim
  |0,2,h=>exact h.elim
  |0,3,h=>exact h.elim
  |0,4,h=>exact h.elim
  |0,5,h=>exact h.elim
  |0,s+7,h=>exact h.elim
 |kd=>exact .inl ⟨Goes.running (λ_ _ x=>x.1) u hl h.2.2,by simp⟩
 |anch=>exact .inl ⟨Goes.running b u hl h.2.2,by simp⟩
 |w1=>exact .inl ⟨Goes.running (λ_ _ x=>x.1) u hl h.2.2,by simp⟩
 |w2 vs=>exact .inl ⟨Goes.running (λ_ _ x=>x.1) u hl h.2.2,by simp⟩
 |w3=>
  rcases h.2.2 with⟨m,e,h⟩|⟨m,e,h⟩
  .exact .inl ⟨Goes.running (λ_ _ x=>x.1) u hl h,by simp⟩
  .exact .inl ⟨Goes.running (λ_ _ x=>x.1) u hl h,by simp⟩
 |blk=>
  obtain⟨_,_,_,g,rfl,_⟩:=h;exact .inr ⟨rfl,rfl⟩
 |w4=>exact .inl ⟨Goes.running (λ_ _ x=>x.1) u hl h.2.2,by simp⟩
 |ke=>exact .inl ⟨Goes.running (λ_ _ x=>x.1) u hl h.2.2,by simp⟩
 |acq=>exact .inl ⟨Goes.running (λ_ _ x=>x.1) u hl h.2.2,by simp⟩
 |ret=>exact h.elim
theorem CS.wokenBy (f:∀g w,An g w->g.status=.running)(h:CS Q ty Wg V nV K gE An nW off vals tag j f0 d0 a u M₀)(m:bF K M₀ u u')(hl:WgLive ty Wg u')(g g'):
 ∃tag' f',CS Q ty Wg V nV K gE An nW off vals tag' j f' d0 (woken Q g g' u' a) u' M₀/\f'<=f0+1/\((tag'=tag/\woken Q g g' u' a=a)\/(tag=.blk/\tag'=.w3))/\(mayWake Q g=true->g'.status=.running->tag'≠.blk):=by
 have c:=h.rely m hl;unfold Go.Conc.woken;split
 .rcases c.status f hl with⟨hs,d⟩|⟨_,rfl⟩
  .have e:=again_running (g:=a) u' (.inl hs)
   exact⟨tag,f0,by rw[e];exact c,by omega,.inl ⟨rfl,e⟩,λ_ _=>d⟩
  .obtain⟨k,i,p,g0,rfl,o,l⟩:=c
   have n:=l u' hl;refine⟨.w3,0+1,?_,by omega,.inr ⟨rfl,rfl⟩,λ_ _=>by simp⟩;rw[again_blocked n.1 o];exact⟨k,i,.inr ⟨0,rfl,Goes.stop λb hw=>l b hw⟩⟩
 .rename_i hc
  exact⟨tag,f0,c,by omega,.inl ⟨rfl,rfl⟩,λk i=>absurd (by simp[k,i]) hc⟩
end
def ph0:Goroutine:={(default:Goroutine)with status:=.finished}
def fF:CTag->Nat->Bool
 |.sp r 6,a=>a==r
 |_,_=>false
def lvl:CTag->Nat
 |.sp r _=>r
 |_=>0
def cv (nW base:Nat)(a:World)(tag:CTag)(j:Nat)(lv:Nat->Bool)(M:Nat->Nat->Prop)(M₀:Nat->Prop)(gs:Array Goroutine)(u:World)(k:Nat):Cmp:=
 if k<nW then(if j<=k then⟨k,2,ph0,a,λ_=>False⟩else if lv k=true then⟨k,1,(gs[base+1+k]?).getD ph0,u,M k⟩else⟨k,0,ph0,a,λ_=>False⟩)
 else if k-nW<lvl tag then⟨k,2,ph0,a,λ_=>False⟩else if fF tag (k-nW)=true then⟨k,1,(gs[0]?).getD ph0,u,M₀⟩else⟨k,0,ph0,a,λ_=>False⟩
theorem cvMov {nW base j}{m u u'}{tag tag'}{lv d}{M M'}{M₀ a}{gs b}{K}{k}
 (hw:k<nW->k<j->d k=lv k/\(lv k=true->(b[base+1+k]?).getD ph0=(gs[base+1+k]?).getD ph0/\M' k=M k/\bF K (M k) u u'))
 (hs:¬k<nW->lvl tag'=lvl tag/\fF tag' (k-nW)=fF tag (k-nW)/\(fF tag (k-nW)=true->(b[0]?).getD ph0=(gs[0]?).getD ph0/\a=M₀/\bF K M₀ u u')):
 CMov K (cv nW base m tag' j d M' a b u' k) (cv nW base m tag j lv M M₀ gs u k):=by
 unfold cv
 by_cases c:k<nW
 .rw[if_pos c,if_pos c]
  by_cases f:j<=k
  .rw[if_pos f,if_pos f];exact .inl rfl
  .rw[if_neg f,if_neg f]
   obtain⟨e,h⟩:=hw c (by omega);rw[e]
   by_cases hl:lv k=true
   .obtain⟨l,i,g⟩:=h hl
    rw[if_pos hl,if_pos hl,l,i];exact .inr ⟨rfl,rfl,rfl,rfl,g⟩
   .rw[if_neg hl,if_neg hl];exact .inl rfl
 .rw[if_neg c,if_neg c]
  obtain⟨l,i,h⟩:=hs c;rw[l,i]
  by_cases hl:k-nW<lvl tag
  .rw[if_pos hl,if_pos hl];exact .inl rfl
  .rw[if_neg hl,if_neg hl]
   by_cases hc:fF tag (k-nW)=true
   .obtain⟨g,o,n⟩:=h hc
    rw[if_pos hc,if_pos hc,g,o];exact .inr ⟨rfl,rfl,rfl,rfl,n⟩
   .rw[if_neg hc,if_neg hc];exact .inl rfl
section
variable [Payload]
variable (Q:Program)(ty:TypeId)(S:Nat->Prop)(Wg V nV base nW:Nat)(K:Nat->Prop)(off:Nat->Nat)(vals:Nat->List Value)(zero:Nat->Value)(aL:World)(gE:Goroutine->Prop)(An:Goroutine->World->Prop)
def dI (k:Nat):Bool:=decide (nW<=k)
def cB (k:Nat):Goroutine->World->(Nat->Prop)->Prop:=if k<nW then kg Q ty Wg V nV (off k) (vals k)else SrS Q ty Wg V nV K An nW off vals (k-nW)
abbrev CR2:=CRel Q K (dI nW) (cB Q ty Wg V nV nW K off vals An)
abbrev VR2:=VRel (CR2 Q ty Wg V nV nW K off vals An) (CMov K) Lt2 (nW+nW+1)
def ng (x:(Nat->Cmp)×(Nat×Nat))(m:Machine)(t:Trace):Prop:=
 ∃(gs:Array Goroutine) (u:World) (sl:Option (Nat×Nat)) (j:Nat) (D:Nat->WD) (lv:Nat->Bool) (M:Nat->Nat->Prop) (M₀:Nat->Prop) (q:Nat->Nat) (tag:CTag) (f0 d0:Nat) (a:Goroutine) (st sm:Int),
  m=crowd gs u sl/\gs[0]? =some a/\CS Q ty Wg V nV K gE An nW off vals tag j f0 d0 a u M₀/\PI Q ty S Wg V nV base nW K off vals zero aL j gs u t D lv M M₀ q d0/\WgAt ty Wg u st sm/\ConcN.Mode j D tag st sm/\j<=nW/\
  x=(cv nW base aL tag j lv M M₀ gs u,(phi nW (Vc j D) tag+Ssum j D,f0+2*Fsum j D+2*sumTo (base+1) q))
end
section
variable [Payload]
variable {Q:Program}{ty:TypeId}{S:Nat->Prop}{Wg V nV base nW:Nat}{K:Nat->Prop}{off:Nat->Nat}{vals:Nat->List Value}{zero:Nat->Value}{aL u u':World}{j:Nat}{M:Nat->Nat->Prop}{M₀:Nat->Prop}{t:Trace}
 {gs:Array Goroutine}{D:Nat->WD}{lv:Nat->Bool}{q:Nat->Nat}{d0:Nat}{gE:Goroutine->Prop}{An:Goroutine->World->Prop}{tag:CTag}{f0:Nat}{a:Goroutine}{st sm st' sm':Int}{sl:Option (Nat×Nat)}
theorem wStep (G:pg nV nW off vals)(κ:∀g w,An g w->g.status=.running)(ha:gs[0]? =some a)(hcs:CS Q ty Wg V nV K gE An nW off vals tag j f0 d0 a u M₀)(h:PI Q ty S Wg V nV base nW K off vals zero aL j gs u t D lv M M₀ q d0)(γ:j<=nW)
 {i}(Y:i<j){g g'}{es}(hg:gs[base+1+i]? =some g)(hgo:stepG Q false g u=.go g' u' es){W}(he:Eff W u u')
 (l:∀c,K c->¬W c)(X:∀m,m<j->m≠i->∀c,M m c->¬W c)(z:∀c,M₀ c->¬W c)(ζ:∀c,c<aL.heap.size->c≠V->c≠Wg->¬W c){d'}{l'}{M'}
 (ι:∀c,M' c->M i c\/(u.heap.size<=c/\c<u'.heap.size))(θ:∀c,M i c->M' c)(Z:Wk Q ty Wg V nV K (off i) (vals i) l' d' M' g' u')
 (α:∀e∈es,∀x,(MemAct.ofEvent e).touch? =some x->(ShB (λc=>S c\/c=Wg) x.loc/\x.kind≠.plain/\x.kind≠.said)\/(x.kind=.plain/\x.loc.isMemory=true/\(OwnF base V nW off vals (upd M i M') (base+1+i) x.loc\/(di K x.loc/\x.write=false))))
 (β:∀e∈es,e.loc≠.mark (.release (stA Wg)))(J:∀e∈es,(MemAct.ofEvent e).low u'.heap.size)(B:deafBehind (D i).deaf es=d'.deaf)
 (hrel:d'.stage<=6->∃r,RelBy (stA Wg) (t++MemOp.ofEvents (base+1+i) g.frame.fn g.frame.place es) (base+1+i) r)(F:Row V nV off vals zero j u' (upd lv i l'))
 (I:WgLive ty Wg u)(n:WgAt ty Wg u' st' sm')(hp:PayAt V nV u->PayAt V nV u')(hc:∀m,m<j->m≠i->u'.cell? ⟨V,off m,none⟩=u.cell? ⟨V,off m,none⟩)
 (A:∀tag',(tag'=tag\/(tag=.blk/\tag'=.w3))->(mayWake Q g=true->g'.status=.running->tag'≠.blk)->ConcN.Mode j (upd D i d') tag' st' sm')
 (O:(lv i=false/\l'=false/\((d'.stage< (D i).stage/\cnt d'<=cnt (D i))\/(d'.stage=(D i).stage/\d'.fuel+1=(D i).fuel)))\/
  (lv i=true/\CR2 Q ty Wg V nV nW K off vals An (if l'=true then⟨i,1,g',u',M'⟩else⟨i,0,ph0,aL,λ_=>False⟩) ⟨i,1,g,u,M i⟩)):
 ∃m₁ ops x',runT Q (crowd gs u sl) (base+1+i)=(.next m₁,ops)/\
  VR2 Q ty Wg V nV nW K off vals An x' (cv nW base aL tag j lv M M₀ gs u,(phi nW (Vc j D) tag+Ssum j D,f0+2*Fsum j D+2*sumTo (base+1) q))/\
  ng Q ty S Wg V nV base nW K off vals zero aL gE An x' m₁ (t++ops):=by
 have f:WgLive ty Wg u':=⟨_,_,n⟩;obtain⟨tag',f',R,ξ,o,C⟩:=hcs.wokenBy κ (he.rely l z) f g g';have ν:=h.size
 have E:=runT_crowd_go (P:=Q) (sl:=sl) (i:=base+1+i) hg (by
  have:(base+1+i==0)=false:=by simp
  rw[this];exact hgo)
 have η:=h.worker G Y (g:=g) (g':=g') (fn:=g.frame.fn) (pos:=g.frame.place) he l X ζ ι θ Z α β J B hrel F I f hp hc;have e1:=sumTo_upd D d' cnt Y;have e2:=sumTo_upd D d' WD.stage Y;have e3:=sumTo_upd D d' WD.fuel Y;have U:((gs.map (woken Q g g' u')).setIfInBounds (base+1+i) g')[0]? =some (woken Q g g' u' a):=by rw[get_map_set _ _ _ _ (by omega),ha];rfl
 have d:tag'=tag\/(tag=.blk/\tag'=.w3):=o.imp (λx=>x.1) id
 refine⟨_,_,(cv nW base aL tag' j (upd lv i l') (upd M i M') M₀ ((gs.map (woken Q g g' u')).setIfInBounds (base+1+i) g') u',(phi nW (Vc j (upd D i d')) tag'+Ssum j (upd D i d'),f'+2*Fsum j (upd D i d')+2*sumTo (base+1) q)),E,?_,
  _,u',sl,j,upd D i d',upd lv i l',upd M i M',M₀,q,tag',f',d0,woken Q g g' u' a,st',sm',rfl,U,R,η,n,A tag' d C,γ,rfl⟩
 have s:∀k,k<nW+nW+1->k≠i->CMov K (cv nW base aL tag' j (upd lv i l') (upd M i M') M₀ ((gs.map (woken Q g g' u')).setIfInBounds (base+1+i) g') u' k) (cv nW base aL tag j lv M M₀ gs u k):=by
  intro k _ b;refine cvMov (λN L=>⟨upd_ne lv _ b,λhl=>⟨?_,upd_ne M _ b,he.rely l (X k L b)⟩⟩) λN=>?_
  .obtain⟨gk,δ,hw⟩:=h.wk k L
   rw[get_map_set _ _ _ _ (by omega),δ];simp[hw.woken I]
  .rcases o with⟨rfl,ea⟩|⟨rfl,rfl⟩
   .refine⟨rfl,rfl,λ_=>⟨?_,rfl,he.rely l z⟩⟩
    rw[U,ha,ea]
   .exact⟨rfl,rfl,λhh=>by cases hh⟩
 have y:i<nW:=by omega
 have p:cv nW base aL tag' j (upd lv i l') (upd M i M') M₀ ((gs.map (woken Q g g' u')).setIfInBounds (base+1+i) g') u' i=(if l'=true then⟨i,1,g',u',M'⟩else⟨i,0,ph0,aL,λ_=>False⟩):=by
  unfold cv;rw[if_pos y,if_neg (by omega),upd_same,upd_same,get_map_set_same _ _ _ (by omega)];rfl
 have hold:cv nW base aL tag j lv M M₀ gs u i=(if lv i=true then⟨i,1,g,u,M i⟩else⟨i,0,ph0,aL,λ_=>False⟩):=by
  unfold cv;rw[if_pos y,if_neg (by omega),hg];rfl
 rcases O with⟨hl,rfl,H⟩|⟨hl,ε⟩
 .refine⟨λk N=>.inl ?_,.inr ?_⟩
  .by_cases b:k=i
   .subst b
    show CMov K (cv _ _ _ _ _ _ _ _ _ _ k) (cv _ _ _ _ _ _ _ _ _ _ k)
    rw[p,hold,hl];exact .inl rfl
   .exact s k N b
  .rw[phi_retag nW _ d]
   simp only[Vc,Ssum,Fsum]at*;rcases H with⟨h1,h2⟩|⟨h1,h2⟩
   .refine Prod.Lex.left _ _ ?_
    have:=phi_mono nW (v':=sumTo j λa=>cnt (upd D i d' a)) (v:=sumTo j λa=>cnt (D a)) (by omega) tag;omega
   .have ec:cnt d'=cnt (D i):=by simp only[cnt,h1]
    have ev:(sumTo j λa=>cnt (upd D i d' a))=sumTo j λa=>cnt (D a):=by omega
    have μ:(sumTo j λa=>(upd D i d' a).stage)=sumTo j λa=>(D a).stage:=by omega
    rw[ev,μ];refine Prod.Lex.right _ ?_;omega
 .have T:CR2 Q ty Wg V nV nW K off vals An (cv nW base aL tag' j (upd lv i l') (upd M i M') M₀ ((gs.map (woken Q g g' u')).setIfInBounds (base+1+i) g') u' i) (cv nW base aL tag j lv M M₀ gs u i):=by
   rw[p,hold,if_pos hl];exact ε
  refine⟨λk N=>?_,.inl ⟨i,by omega,T⟩⟩
  by_cases b:k=i
  .subst b;exact .inr T
  .exact .inl (s k N b)
theorem sStep (G:pg nV nW off vals)(ha:gs[0]? =some a)(h:PI Q ty S Wg V nV base nW K off vals zero aL j gs u t D lv M M₀ q d0)(N:j<=nW)
 {g'}{es}{tag'}{f'}(hgo:stepG Q true a u=.go g' u' es){W}(he:Eff W u u')
 (C:∀c,K c->¬W c)(B:∀Z,Z<j->∀c,M Z c->¬W c)(T:∀c,c<aL.heap.size->c≠V->c≠Wg->¬W c){M'}
 (X:∀c,M' c->M₀ c\/(u.heap.size<=c/\c<u'.heap.size))
 (J:∀e∈es,∀x,(MemAct.ofEvent e).touch? =some x->(ShB (λc=>S c\/c=Wg) x.loc/\x.kind≠.plain)\/(di M' x.loc\/(di K x.loc/\x.write=false)))
 (L:∀e∈es,e.loc≠.mark (.release (stA Wg)))(l:∀e∈es,(MemAct.ofEvent e).low u'.heap.size)(hV:¬W V)
 (z:CS Q ty Wg V nV K gE An nW off vals tag' j f' (deafBehind d0 es) g' u' M')(w:WgLive ty Wg u)(p:WgAt ty Wg u' st' sm')(o:ConcN.Mode j D tag' st' sm')
 (y:(lvl tag'=lvl tag/\(∀r,fF tag r=false)/\(∀r,fF tag' r=false)/\(phi nW (Vc j D) tag'<phi nW (Vc j D) tag\/(phi nW (Vc j D) tag'=phi nW (Vc j D) tag/\f'<f0)))\/
  (∃r,r<=nW/\tag=.sp r 6/\((tag'=.sp r 6/\CR2 Q ty Wg V nV nW K off vals An ⟨nW+r,1,g',u',M'⟩ ⟨nW+r,1,a,u,M₀⟩)\/(lvl tag'=r/\∀r,fF tag' r=false)))):
 ∃m₁ ops Y,runT Q (crowd gs u sl) 0=(.next m₁,ops)/\
  VR2 Q ty Wg V nV nW K off vals An Y (cv nW base aL tag j lv M M₀ gs u,(phi nW (Vc j D) tag+Ssum j D,f0+2*Fsum j D+2*sumTo (base+1) q))/\
  ng Q ty S Wg V nV base nW K off vals zero aL gE An Y m₁ (t++ops):=by
 have α:=h.size;have v:=runT_crowd_go (P:=Q) (sl:=sl) (i:=0) ha (by simpa using hgo);have U:=h.starter G (g:=a) (g':=g') (fn:=a.frame.fn) (pos:=a.frame.place) he C B T X J L l hV w ⟨_,_,p⟩;have A:((gs.map (woken Q a g' u')).setIfInBounds 0 g')[0]? =some g':=get_map_set_same _ _ _ (by omega)
 refine⟨_,_,(cv nW base aL tag' j lv M M' ((gs.map (woken Q a g' u')).setIfInBounds 0 g') u',(phi nW (Vc j D) tag'+Ssum j D,f'+2*Fsum j D+2*sumTo (base+1) q)),v,?_,
  _,u',sl,j,D,lv,M,M',q,tag',f',deafBehind d0 es,g',st',sm',rfl,A,z,U,p,o,N,rfl⟩
 have hw:∀k,k<nW->k<j->lv k=true->((((gs.map (woken Q a g' u')).setIfInBounds 0 g')[base+1+k]?).getD ph0=(gs[base+1+k]?).getD ph0/\M k=M k/\bF K (M k) u u'):=λk n m _=>by
  obtain⟨gk,O,I⟩:=h.wk k m;refine⟨?_,rfl,he.rely C (B k m)⟩;rw[get_map_set _ _ _ _ (by omega),O];simp[I.woken w]
 have l:∀k,k<nW->CMov K (cv nW base aL tag' j lv M M' ((gs.map (woken Q a g' u')).setIfInBounds 0 g') u' k) (cv nW base aL tag j lv M M₀ gs u k):=λk n=>
  cvMov (λ_ m=>⟨rfl,hw k n m⟩) λh=>absurd n h
 rcases y with⟨E,H,h3,F⟩|⟨r,hr,rfl,E⟩
 .refine⟨λk n=>.inl (cvMov (λd m=>⟨rfl,hw k d m⟩) λ_=>⟨E,by rw[H,h3],λhh=>by rw[H]at hh;cases hh⟩),.inr ?_⟩
  rcases F with F|⟨F,h5⟩
  .exact Prod.Lex.left _ _ (by omega)
  .rw[F];exact Prod.Lex.right _ (by omega)
 .have hold:∀k,¬k<nW->cv nW base aL (.sp r 6) j lv M M₀ gs u k=if k-nW<r then⟨k,2,ph0,aL,λ_=>False⟩else if k-nW=r then⟨k,1,a,u,M₀⟩else⟨k,0,ph0,aL,λ_=>False⟩:=λk n=>by
   unfold cv;rw[if_neg n,ha];simp[lvl,fF]
  rcases E with⟨rfl,R⟩|⟨E,H⟩
  .have f:∀k,¬k<nW->cv nW base aL (.sp r 6) j lv M M' ((gs.map (woken Q a g' u')).setIfInBounds 0 g') u' k=if k-nW<r then⟨k,2,ph0,aL,λ_=>False⟩else if k-nW=r then⟨k,1,g',u',M'⟩else⟨k,0,ph0,aL,λ_=>False⟩:=λk n=>by
        unfold cv;rw[if_neg n,A];simp[lvl,fF]
   have hc:CR2 Q ty Wg V nV nW K off vals An (cv nW base aL (.sp r 6) j lv M M' ((gs.map (woken Q a g' u')).setIfInBounds 0 g') u' (nW+r)) (cv nW base aL (.sp r 6) j lv M M₀ gs u (nW+r)):=by
        rw[hold (nW+r) (by omega),f (nW+r) (by omega),Nat.add_sub_cancel_left,if_neg (Nat.lt_irrefl r),if_neg (Nat.lt_irrefl r),if_pos rfl,if_pos rfl];exact R
   refine⟨λk n=>?_,.inl ⟨nW+r,by omega,hc⟩⟩
   by_cases d:k<nW
   .exact .inl (l k d)
   .by_cases s:k=nW+r
    .subst s;exact .inr hc
    .refine .inl (.inl ?_)
     show cv _ _ _ _ _ _ _ _ _ _ k=cv _ _ _ _ _ _ _ _ _ _ k
     rw[hold k d,f k d]
     by_cases b:k-nW<r
     .rw[if_pos b,if_pos b]
     .rw[if_neg b,if_neg b,if_neg (by omega),if_neg (by omega)]
  .have f:∀k,¬k<nW->cv nW base aL tag' j lv M M' ((gs.map (woken Q a g' u')).setIfInBounds 0 g') u' k=if k-nW<r then⟨k,2,ph0,aL,λ_=>False⟩else⟨k,0,ph0,aL,λ_=>False⟩:=λk n=>by
        unfold cv;rw[if_neg n,E,H];simp
   have hc:CR2 Q ty Wg V nV nW K off vals An (cv nW base aL tag' j lv M M' ((gs.map (woken Q a g' u')).setIfInBounds 0 g') u' (nW+r)) (cv nW base aL (.sp r 6) j lv M M₀ gs u (nW+r)):=by
        rw[hold (nW+r) (by omega),f (nW+r) (by omega),Nat.add_sub_cancel_left,if_neg (Nat.lt_irrefl r),if_neg (Nat.lt_irrefl r),if_pos rfl];exact⟨rfl,.inr (.inr (.inl ⟨rfl,rfl⟩))⟩
   refine⟨λk n=>?_,.inl ⟨nW+r,by omega,hc⟩⟩
   by_cases d:k<nW
   .exact .inl (l k d)
   .by_cases s:k=nW+r
    .subst s;exact .inr hc
    .refine .inl (.inl ?_)
     show cv _ _ _ _ _ _ _ _ _ _ k=cv _ _ _ _ _ _ _ _ _ _ k
     rw[hold k d,f k d]
     by_cases b:k-nW<r
     .rw[if_pos b,if_pos b]
     .rw[if_neg b,if_neg b,if_neg (by omega)]
theorem lStep (G:pg nV nW off vals)(F:∀g w,An g w->g.status=.running)(R:gs[0]? =some a)(hcs:CS Q ty Wg V nV K gE An nW off vals tag j f0 d0 a u M₀)(h:PI Q ty S Wg V nV base nW K off vals zero aL j gs u t D lv M M₀ q d0)(B:j<=nW)
 (f:WgAt ty Wg u st sm)(m:ConcN.Mode j D tag st sm){i}(J:0<i)(I:i<=base){g}(O:gs[i]? =some g)(d:g.status=.running):
 ∃m₁ ops H,runT Q (crowd gs u sl) i=(.next m₁,ops)/\
  VR2 Q ty Wg V nV nW K off vals An H (cv nW base aL tag j lv M M₀ gs u,(phi nW (Vc j D) tag+Ssum j D,f0+2*Fsum j D+2*sumTo (base+1) q))/\
  ng Q ty S Wg V nV base nW K off vals zero aL gE An H m₁ (t++ops):=by
 have v:=h.old i g J I O;have T:=h.size;have p:WgLive ty Wg u:=⟨_,_,f⟩;cases l:q i with
 |zero=>rw[l]at v;rw[v.1]at d;cases d
 |succ k=>
  rw[l]at v;rcases v with⟨hf,_⟩|⟨_,g',es,hm,n,z⟩
  .rw[hf]at d;cases d
  have C:(i==0)=false:=by simp;omega
  have o:=runT_crowd_go (P:=Q) (sl:=sl) (i:=i) O (by rw[C];exact n u);obtain⟨tag',f',r,X,e,L⟩:=hcs.wokenBy F (bF.refl K M₀ u) ⟨_,_,f⟩ g g';have b:tag'=tag\/(tag=.blk/\tag'=.w3):=e.imp (λx=>x.1) id;have s:((gs.map (woken Q g g' u)).setIfInBounds i g')[0]? =some (woken Q g g' u a):=by rw[get_map_set _ _ _ _ (by omega),R];rfl
  have N:sumTo (base+1) (upd q i k)+(k+1)=sumTo (base+1) q+k:=by
   have:=sumTo_upd q k id (show i<base+1 by omega);simpa[l] using this
  refine⟨_,_,(cv nW base aL tag' j lv M M₀ ((gs.map (woken Q g g' u)).setIfInBounds i g') u,(phi nW (Vc j D) tag'+Ssum j D,f'+2*Fsum j D+2*sumTo (base+1) (upd q i k))),o,⟨λc hc=>.inl (cvMov (λU A=>⟨rfl,λhl=>⟨?_,rfl,bF.refl _ _ _⟩⟩) λU=>?_),.inr ?_⟩,
   _,u,sl,j,D,lv,M,M₀,upd q i k,tag',f',d0,woken Q g g' u a,st,sm,rfl,s,r,h.slip G J I hm z p,f,m.retag b,B,rfl⟩
  .obtain⟨gk,E,y⟩:=h.wk c A
   rw[get_map_set _ _ _ _ (by omega),E];simp[y.woken p]
  .rcases e with⟨rfl,Y⟩|⟨rfl,rfl⟩
   .refine⟨rfl,rfl,λ_=>⟨?_,rfl,bF.refl _ _ _⟩⟩
    rw[s,R,Y]
   .exact⟨rfl,rfl,λW=>by cases W⟩
  .rw[phi_retag nW _ b]
   exact Prod.Lex.right _ (by omega)
end
end
