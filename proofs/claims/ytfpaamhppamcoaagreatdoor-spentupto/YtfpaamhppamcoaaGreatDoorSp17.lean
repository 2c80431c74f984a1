/- Part 17 of the proof. -/
import Derived.Test.YtfpaamhppamcoaaGreatDoorSp16
import Derived.Conc.CrowdStepC2
set_option linter.all false
namespace Go.Proofs.YtfpaamhppamcoaaGreatDoor
section
open Go Go.Conc Go.ConcN
open Go.ConcR (KK wgBlock WgAt stA smA rd wr mk Payload DC0 Bk)
variable [Payload]
structure Puts (V nV off:Nat)(vs:List Value)(u u':World):Prop where
 tape:u'.tape=u.tape
 os:u'.os=u.os
 output:u'.output=u.output
 size:u'.heap.size=u.heap.size
 block:∀b,b≠V->u'.heap[b]? =u.heap[b]?
 row:∀cs,u.heap[V]? =some (.cells cs Payload.ety)->cs.size=nV->∃cs',u'.heap[V]? =some (.cells cs' Payload.ety)/\cs'.size=nV/\(∀x,¬(off<=x/\x<off+vs.length)->cs'[x]? =cs[x]?)/\∀o,o<vs.length->cs'[off+o]? =vs[o]?
def EvPut (V off n:Nat)(e:Event):Prop:=∃x,off<=x/\x<off+n/\e=⟨.cell ⟨V,x,none⟩,true,false⟩
section
variable (Q:Program)(ty:TypeId)(Wg V nV:Nat)(K:Nat->Prop)
def RL (_ a:World):Prop:=WgLive ty Wg a
def TR0 (off:Nat)(vs:List Value)(g:Goroutine)(w:World):Prop:=
 g.status=.running/\(Has V off (vs.headD undef) w->∃g',stepG Q false g w=.go g' w #[mk (.releaseMerge (stA Wg))]/\∃m,Goes Q false (RW ty Wg V nV 0 off) DC0 (AtK1 Q ty Wg V nV 0 (off+1)) m g' w)
def kg (off:Nat)(vs:List Value)(g:Goroutine)(u:World)(_:Nat->Prop):Prop:=
 g.status=.running/\(PayAt V nV u->WgLive ty Wg u->∃g' u' es,stepG Q false g u=.go g' u' es/\Puts V nV off vs u u'/\(∀e∈es,EvPut V off vs.length e)/\
    ∃m,Goes Q false (RL ty Wg) DC0 (TR0 Q ty Wg V nV off vs) m g' u')
abbrev Tail (off:Nat)(vs:List Value):=WSit Q ty Wg V nV NoFam NoFam 0 (off+1) (vs.headD undef)
def Wk (off:Nat)(vs:List Value)(lv:Bool)(d:WD)(M:Nat->Prop)(g:Goroutine)(u:World):Prop:=
 (lv=true/\d.stage=7/\d.deaf=0/\aC Q false K (kg Q ty Wg V nV off vs) g u M)\/(lv=false/\d.stage=7/\d.deaf=0/\Goes Q false (RL ty Wg) DC0 (TR0 Q ty Wg V nV off vs) d.fuel g u)\/
    (lv=false/\d.stage<=6/\Tail Q ty Wg V nV off vs d.stage d.fuel d.deaf g u)
def TGo (g' child g:Goroutine)(w:World):Prop:=g.status=.running/\stepG Q true g w=.spawn g' child w #[]
def TKeS (g' child g:Goroutine)(w:World):Prop:=g.status=.running/\∃a,stepG Q true g w=.go a w #[mk .enable]/\∃m,Goes Q true (RL ty Wg) DC0 (TGo Q g' child) m a w
def TRd (g' child g:Goroutine)(w:World):Prop:=g.status=.running/\∃a,stepG Q true g w=.go a w #[mk (.read (smA Wg))]/\∃m,Goes Q true (RL ty Wg) DC0 (TKeS Q ty Wg g' child) m a w
def TA1 (g' child g:Goroutine)(w:World):Prop:=g.status=.running/\∀v:Nat,v<4->WgAt ty Wg w (v*KK) 0->
 ∃a,stepG Q true g w=.go a (w.setCell (stA Wg) (.int .u64 ((v+1)*KK))) #[rd (stA Wg),wr (stA Wg)]/\∃m,Goes Q true (RL ty Wg) DC0 (λg w=>TRd Q ty Wg g' child g w\/TKeS Q ty Wg g' child g w) m a (w.setCell (stA Wg) (.int .u64 ((v+1)*KK)))
def TKdS (g' child g:Goroutine)(w:World):Prop:=g.status=.running/\∃a,stepG Q true g w=.go a w #[mk .disable]/\∃m,Goes Q true (RL ty Wg) DC0 (TA1 Q ty Wg g' child) m a w
variable (gE:Goroutine->Prop)(An:Goroutine->World->Prop)
def TAcq (g:Goroutine)(w:World):Prop:=g.status=.running/\∃a,gE a/\stepG Q true g w=.go a w #[mk (.acquire (stA Wg))]
def TKe (g:Goroutine)(w:World):Prop:=g.status=.running/\∃a,stepG Q true g w=.go a w #[mk .enable]/\∃m,Goes Q true (RL ty Wg) DC0 (TAcq Q Wg gE) m a w
def TW4 (g:Goroutine)(w:World):Prop:=g.status=.running/\(WgAt ty Wg w 0 0->∃a,stepG Q true g w=.go a w #[rd (stA Wg)]/\∃m,Goes Q true (RL ty Wg) DC0 (TKe Q ty Wg gE) m a w)
def TW3 (g:Goroutine)(w:World):Prop:=g.status=.running/\g.offers=none/\((∃st,WgAt ty Wg w st 0)->stepG Q true g w=.go {g with status:=.blocked} w #[])/\
 (WgAt ty Wg w 0 1->∃a,stepG Q true g w=.go a (w.setCell (smA Wg) (.int .u32 0)) (semEvents (smA Wg))/\∃m,Goes Q true (RL ty Wg) DC0 (TW4 Q ty Wg gE) m a (w.setCell (smA Wg) (.int .u32 0)))
def TWr (g:Goroutine)(w:World):Prop:=g.status=.running/\∃a,stepG Q true g w=.go a w #[mk (.write (smA Wg))]/\Goes Q true (RL ty Wg) DC0 (TW3 Q ty Wg gE) 100 a w
def TW2 (vs:Nat)(g:Goroutine)(w:World):Prop:=g.status=.running/\∀v:Nat,v<=4->WgAt ty Wg w (v*KK) 0->
 (v=vs->∃a,stepG Q true g w=.go a (w.setCell (stA Wg) (.int .u64 (v*KK+1))) #[rd (stA Wg),wr (stA Wg)]/\∃m,Goes Q true (RL ty Wg) DC0 (TWr Q ty Wg gE) m a (w.setCell (stA Wg) (.int .u64 (v*KK+1))))/\
 (v≠vs->∃a,stepG Q true g w=.go a w #[rd (stA Wg)]/\∃m,Goes Q true (RL ty Wg) DC0 An m a w)
def TW1 (g:Goroutine)(w:World):Prop:=g.status=.running/\∀v:Nat,v<=4->WgAt ty Wg w (v*KK) 0->∃a,stepG Q true g w=.go a w #[rd (stA Wg)]/\
 (v=0->∃m,Goes Q true (RL ty Wg) DC0 (TKe Q ty Wg gE) m a w)/\(v≠0->∃m,Goes Q true (RL ty Wg) DC0 (TW2 Q ty Wg gE An v) m a w)
def TKd (g:Goroutine)(w:World):Prop:=g.status=.running/\∃a,stepG Q true g w=.go a w #[mk .disable]/\∃m,Goes Q true (RL ty Wg) DC0 An m a w
variable (nW:Nat)(off:Nat->Nat)(vals:Nat->List Value)
def SrStop (a:Goroutine->World->(Nat->Prop)->Prop)(r:Nat)(g:Goroutine)(u:World)(M₀:Nat->Prop):Prop:=
 ∃g' child,child.status=.running/\(∃m,Goes Q true (RL ty Wg) DC0 (TKdS Q ty Wg g' child) m g u)/\∀az,bF K M₀ u az->aC Q false K (kg Q ty Wg V nV (off (nW-(r+1))) (vals (nW-(r+1)))) child az M₀/\a g' az (λ_=>False)
def SrEnd (g:Goroutine)(u:World)(_:Nat->Prop):Prop:=∃m,Goes Q true (RL ty Wg) DC0 (TKd Q ty Wg An) m g u
def Sr:Nat->Goroutine->World->(Nat->Prop)->Prop
 |0=>aC Q true K (SrEnd Q ty Wg An)
 |r+1=>aC Q true K (SrStop Q ty Wg V nV K nW off vals (Sr r) r)
def SrS:Nat->Goroutine->World->(Nat->Prop)->Prop
 |0=>SrEnd Q ty Wg An
 |r+1=>SrStop Q ty Wg V nV K nW off vals (Sr Q ty Wg V nV K An nW off vals r) r
def Fk (r:Nat)(X:Goroutine->Goroutine->Goroutine->World->Prop)(f0:Nat)(a:Goroutine)(u:World)(M₀:Nat->Prop):Prop:=
 ∃g' child,child.status=.running/\Goes Q true (RL ty Wg) DC0 (X g' child) f0 a u/\∀az,bF K M₀ u az->aC Q false K (kg Q ty Wg V nV (off (nW-(r+1))) (vals (nW-(r+1)))) child az M₀/\Sr Q ty Wg V nV K An nW off vals r g' az (λ_=>False)
def CS:CTag->Nat->Nat->Nat->Goroutine->World->(Nat->Prop)->Prop
 |.sp r 6,j,f0,d0,a,u,M₀=>r<=nW/\j=nW-r/\f0=0/\d0=0/\Sr Q ty Wg V nV K An nW off vals r a u M₀
 |.sp (r+1) 5,j,f0,d0,a,u,M₀=>r<nW/\j=nW-(r+1)/\d0=0/\Fk Q ty Wg V nV K An nW off vals r (TKdS Q ty Wg) f0 a u M₀
 |.sp (r+1) 4,j,f0,d0,a,u,M₀=>r<nW/\j=nW-(r+1)/\d0=1/\Fk Q ty Wg V nV K An nW off vals r (TA1 Q ty Wg) f0 a u M₀
 |.sp (r+1) 3,j,f0,d0,a,u,M₀=>r<nW/\j=nW-(r+1)/\d0=1/\Fk Q ty Wg V nV K An nW off vals r (λg' c g w=>TRd Q ty Wg g' c g w\/TKeS Q ty Wg g' c g w) f0 a u M₀
 |.sp (r+1) 2,j,f0,d0,a,u,M₀=>r<nW/\j=nW-(r+1)/\d0=1/\Fk Q ty Wg V nV K An nW off vals r (TKeS Q ty Wg) f0 a u M₀
 |.sp (r+1) 1,j,f0,d0,a,u,M₀=>r<nW/\j=nW-(r+1)/\d0=0/\Fk Q ty Wg V nV K An nW off vals r (TGo Q) f0 a u M₀
 |.sp _ _,_,_,_,_,_,_=>False
 |.kd,j,f0,d0,a,u,_=>j=nW/\d0=0/\Goes Q true (RL ty Wg) DC0 (TKd Q ty Wg An) f0 a u
 |.anch,j,f0,d0,a,u,_=>j=nW/\d0=1/\Goes Q true (RL ty Wg) DC0 An f0 a u
 |.w1,j,f0,d0,a,u,_=>j=nW/\d0=1/\Goes Q true (RL ty Wg) DC0 (TW1 Q ty Wg gE An) f0 a u
 |.w2 vs,j,f0,d0,a,u,_=>j=nW/\d0=1/\Goes Q true (RL ty Wg) DC0 (TW2 Q ty Wg gE An vs) f0 a u
 |.w3,j,f0,d0,a,u,_=>j=nW/\d0=1/\((∃m,f0=m+102/\Goes Q true (RL ty Wg) DC0 (TWr Q ty Wg gE) m a u)\/∃m,f0=m+1/\Goes Q true (RL ty Wg) DC0 (TW3 Q ty Wg gE) m a u)
 |.blk,j,f0,d0,a,_,_=>j=nW/\d0=1/\f0=0/\∃g:Goroutine,a={g with status:=.blocked}/\g.offers=none/\∀w,WgLive ty Wg w->TW3 Q ty Wg gE g w
 |.w4,j,f0,d0,a,u,_=>j=nW/\d0=1/\Goes Q true (RL ty Wg) DC0 (TW4 Q ty Wg gE) f0 a u
 |.ke,j,f0,d0,a,u,_=>j=nW/\d0=1/\Goes Q true (RL ty Wg) DC0 (TKe Q ty Wg gE) f0 a u
 |.acq,j,f0,d0,a,u,_=>j=nW/\d0=0/\Goes Q true (RL ty Wg) DC0 (TAcq Q Wg gE) f0 a u
 |.ret,_,_,_,_,_,_=>False
end
def di (M:Nat->Prop)(l:Loc):Prop:=∃c,(l=.obj c\/∃a,l=.cell a/\a.block=c)/\M c
def OwnF (base V nW:Nat)(off:Nat->Nat)(vals:Nat->List Value)(M:Nat->Nat->Prop)(k:Nat)(l:Loc):Prop:=
 base<k/\k-base-1<nW/\(di (M (k-base-1)) l\/∃x,off (k-base-1)<=x/\x<off (k-base-1)+(vals (k-base-1)).length/\l=.cell ⟨V,x,none⟩)
def RdF (base:Nat)(K:Nat->Prop)(k:Nat)(l:Loc):Prop:=base<k/\di K l
structure Eff (W:Nat->Prop)(u u':World):Prop where
 tape:u'.tape=u.tape
 os:u'.os=u.os
 output:u'.output=u.output
 size:u.heap.size<=u'.heap.size
 keep:∀c,c<u.heap.size->¬W c->u'.heap[c]? =u.heap[c]?
theorem Eff.rely {W K M}{u u'}(h:Eff W u u')(b:∀c,K c->¬W c)(a:∀c,M c->¬W c):bF K M u u':=
 ⟨h.tape,h.os,h.output,h.size,λc hc hl=>h.keep c hl (hc.elim (a c) (b c))⟩
section
variable (Q:Program)(ty:TypeId)(S:Nat->Prop)(Wg V nV base nW:Nat)(K:Nat->Prop)(off:Nat->Nat)(vals:Nat->List Value)(zero:Nat->Value)(aL:World)
structure Lie (j:Nat)(u:World)(M:Nat->Nat->Prop)(M₀:Nat->Prop):Prop where
 tape:u.tape=aL.tape
 os:u.os=aL.os
 output:u.output=aL.output
 size:aL.heap.size<=u.heap.size
 keep:∀c,c<aL.heap.size->c≠V->c≠Wg->u.heap[c]? =aL.heap[c]?
 v:V<aL.heap.size
 wg:Wg<aL.heap.size
 vw:V≠Wg
 kin:∀c,K c->c<aL.heap.size/\c≠V/\c≠Wg/\¬S c
 sh:∀c,S c->c<aL.heap.size/\c≠V/\c≠Wg
 low:∀i,i<j->∀c,M i c->c<u.heap.size/\aL.heap.size<=c
 mY:∀c,M₀ c->c<u.heap.size/\aL.heap.size<=c
 dis:∀i i',i<j->i'<j->i≠i'->∀c,M i c->¬M i' c
 dis0:∀i,i<j->∀c,M i c->¬M₀ c
 emp:∀i,j<=i->∀c,¬M i c
def Row (j:Nat)(u:World)(lv:Nat->Bool):Prop:=
 ∃cs,u.heap[V]? =some (.cells cs Payload.ety)/\cs.size=nV/\(∀i,i<j->lv i=false->∀o,o< (vals i).length->cs[off i+o]? =(vals i)[o]?)/\
  ∀x,x<nV->(∀i,i<j->lv i=false->¬(off i<=x/\x<off i+(vals i).length))->cs[x]? =some (zero x)
structure PI (j:Nat)(gs:Array Goroutine)(u:World)(t:Trace)(D:Nat->WD)(lv:Nat->Bool)(M:Nat->Nat->Prop)(M₀:Nat->Prop)(q:Nat->Nat)(d0:Nat):Prop where
 size:gs.size=base+1+j
 ti:TI (ShB λc=>S c\/c=Wg) (OwnF base V nW off vals M) (RdF base K) (stA Wg) base j u.heap.size t
 lie:Lie S Wg V K aL j u M M₀
 row:Row V nV off vals zero j u lv
 old:∀i g,0<i->i<=base->gs[i]? =some g->QuitsD Q (q i) (Deaf t i) g
 deaf0:Deaf t 0=d0
 deafW:∀i,i<j->Deaf t (base+1+i)=(D i).deaf
 wk:∀i,i<j->∃g,gs[base+1+i]? =some g/\Wk Q ty Wg V nV K (off i) (vals i) (lv i) (D i) (M i) g u
 rel:∀i,i<j->(D i).stage<=6->∃r,RelBy (stA Wg) t (base+1+i) r
end
end
section
open Go Go.Conc Go.ConcN
open Go.ConcR (KK wgBlock WgAt stA smA rd wr mk Payload DC0 Bk g_of_ofEvents)
structure pg (nV nW:Nat)(off:Nat->Nat)(vals:Nat->List Value):Prop where
 few:nW<=4
 len:∀i,i<nW->0< (vals i).length
 within:∀i,i<nW->off i+(vals i).length<=nV
 apart:∀i i' x,i<nW->i'<nW->off i<=x->x<off i+(vals i).length->off i'<=x->x<off i'+(vals i').length->i=i'
section
variable {S:Nat->Prop}{Wg V nV base nW:Nat}{K:Nat->Prop}{off:Nat->Nat}{vals:Nat->List Value}{aL u u':World}{j:Nat}{M:Nat->Nat->Prop}{M₀:Nat->Prop}{t:Trace}
theorem dB {M}{a}:di M (.cell a)↔M a.block:=by
 constructor
 .rintro⟨c,h|⟨b,h,rfl⟩,hm⟩
  .cases h
  .cases h;exact hm
 .exact λh=>⟨_,.inr ⟨a,rfl,rfl⟩,h⟩
theorem nJ {M}{c}:di M (.obj c)↔M c:=by
 constructor
 .rintro⟨d,h|⟨b,h,_⟩,hm⟩
  .cases h;exact hm
  .cases h
 .exact λh=>⟨c,.inl rfl,h⟩
theorem di.join {M N}{l}(h:di M l)(k:di N l):∃c,M c/\N c:=by
 obtain⟨c,rfl|⟨a,rfl,rfl⟩,hm⟩:=h
 .exact⟨c,hm,nJ.1 k⟩
 .exact⟨_,hm,dB.1 k⟩
theorem di.mono {M N}{l}(h:di M l)(hm:∀c,M c->N c):di N l:=let ⟨c,a,b⟩:=h;⟨c,a,hm c b⟩
theorem Lie.apart (h:Lie S Wg V K aL j u M M₀)(G:pg nV nW off vals):Apart (ShB λc=>S c\/c=Wg) (OwnF base V nW off vals M) (RdF base K):=by
 have low:∀i c,M i c->aL.heap.size<=c:=λi c hc=>by
  rcases Nat.lt_or_ge i j with g|g
  .exact(h.low i g c hc).2
  .exact(h.emp i g c hc).elim
 have p:∀i x,¬di (M i) (.cell ⟨V,x,none⟩):=λi x hx=>by
  have:=low i V (dB.1 hx);have:=h.v;omega
 refine⟨λk k' l b f=>?_,λk k' l b f=>?_,λk l b f=>?_,λk l b f=>?_⟩
 .obtain⟨b1,n,b⟩:=b
  obtain⟨b2,s,f⟩:=f;rcases b with b|⟨x,x1,x2,rfl⟩<;>rcases f with f|⟨y,r,q,e⟩
  .obtain⟨c,m,c2⟩:=b.join f
   apply Classical.byContradiction;intro t;have g:k-base-1<j:=Nat.lt_of_not_le λg=>h.emp _ g c m
   have o:k'-base-1<j:=Nat.lt_of_not_le λg=>h.emp _ g c c2
   exact h.dis _ _ g o (by omega) c m c2
  .subst e;exact absurd b (p _ _)
  .exact absurd f (p _ _)
  .cases e
   have:=G.apart _ _ x n s x1 x2 r q;omega
 .obtain⟨b1,n,b⟩:=b
  rcases b with b|⟨x,x1,x2,rfl⟩
  .obtain⟨c,m,c2⟩:=b.join f.2
   have:=low _ c m;have:=(h.kin c c2).1;omega
  .exact(h.kin V (dB.1 f.2)).2.1 rfl
 .obtain⟨b1,n,b⟩:=b
  obtain⟨a,rfl,d⟩:=f;rcases b with b|⟨x,x1,x2,e⟩
  .have w:=low _ _ (dB.1 b)
   rcases d with d|d
   .have:=(h.sh _ d).1;omega
   .have:=h.wg;omega
  .cases e
   rcases d with d|d
   .exact(h.sh _ d).2.1 rfl
   .exact h.vw d
 .obtain⟨a,rfl,d⟩:=f
  have:=h.kin _ (dB.1 b.2);rcases d with d|d
  .exact this.2.2.2 d
  .exact this.2.2.1 d
theorem touch_cell (a)(wr):(MemAct.ofEvent ⟨.cell a,wr,false⟩).touch? =some ⟨.cell a,wr,.plain⟩:=rfl
theorem touch_obj (c)(wr):(MemAct.ofEvent ⟨.obj c,wr,false⟩).touch? =some ⟨.obj c,wr,.plain⟩:=by cases wr<;>rfl
theorem EvM.touch {M}{e}(h:EvM K M e){x}(hx:(MemAct.ofEvent e).touch? =some x):x.kind=.plain/\x.loc.isMemory=true/\(di M x.loc\/(di K x.loc/\x.write=false)):=by
 rcases h with⟨c,hc,hs,hm⟩|⟨m,hm,rfl⟩
 .obtain⟨loc,wr,d⟩:=e
  simp only at hc hs hm;subst hs;rcases hc with rfl|⟨a,rfl,rfl⟩
  .rw[touch_obj]at hx
   cases hx;exact⟨rfl,rfl,hm.imp nJ.2 fun⟨a,b⟩=>⟨nJ.2 a,b⟩⟩
  .rw[touch_cell]at hx
   cases hx;exact⟨rfl,rfl,hm.imp dB.2 fun⟨a,b⟩=>⟨dB.2 a,b⟩⟩
 .cases m<;>first|exact hm.elim|cases hx
theorem EvM.low {M}{e}(h:EvM K M e){B}(f:∀c,K c->c<B)(d:∀c,M c->c<B):(MemAct.ofEvent e).low B:=by
 rcases h with⟨c,hc,hs,hm⟩|⟨m,hm,rfl⟩
 .have b:c<B:=hm.elim (d c) λh=>f c h.1
  obtain⟨loc,wr,g⟩:=e;simp only at hc hs;subst hs;rcases hc with rfl|⟨a,rfl,rfl⟩
  .cases wr<;>exact b
  .exact b
 .cases m<;>first|exact hm.elim|trivial
theorem EvM.marks {M}{e}(h:EvM K M e):e.loc≠.mark .disable/\e.loc≠.mark .enable/\∀a,e.loc≠.mark (.release a):=by
 rcases h with⟨c,hc,_⟩|⟨m,hm,rfl⟩
 .rcases hc with hc|⟨a,hc,_⟩<;>rw[hc]<;>simp
 .cases m<;>first|exact hm.elim|simp
theorem jI {a}{g}{fn}{pos}{es}(h:∀e∈es,e.loc≠.mark (.release a)):∀op∈MemOp.ofEvents g fn pos es,op.act≠.mark (.release a):=λop b e=>by
 obtain⟨x,hx,rfl⟩:=Go.Conc.mem_ofEvents b;exact h x hx (Go.ConcR.loc_of_ofEvent e)
end
section
variable [Payload]
variable {Q:Program}{ty:TypeId}{S:Nat->Prop}{Wg V nV base nW:Nat}{K:Nat->Prop}{off:Nat->Nat}{vals:Nat->List Value}{zero:Nat->Value}{aL u u':World}{j:Nat}{M:Nat->Nat->Prop}{M₀:Nat->Prop}{t:Trace}
 {gs:Array Goroutine}{D:Nat->WD}{lv:Nat->Bool}{q:Nat->Nat}{d0:Nat}
theorem Wk.running (a:WgLive ty Wg u){o}{vs}{l}{d}{N}{g}(h:Wk Q ty Wg V nV K o vs l d N g u):g.status=.running\/g.status=.finished:=by
 rcases h with⟨_,_,_,h⟩|⟨_,_,_,h⟩|⟨_,_,h⟩
 .refine .inl ?_
  rcases h.cases with h|h
  .exact(h u (bF.refl _ _ _)).1
  .exact h.1
 .exact .inl (Goes.running (λ_ _ x=>x.1) u a h)
 .exact h.status
theorem Wk.woken (b:WgLive ty Wg u){o:Nat}{vs:List Value}{l:Bool}{d:WD}{N:Nat->Prop}{g:Goroutine}(h:Wk Q ty Wg V nV K o vs l d N g u)(a a':Goroutine)(w':World):woken Q a a' w' g=g:=by
 unfold Go.Conc.woken;split
 .exact again_running _ (h.running b)
 .rfl
theorem Wk.eff {o}{vs}{l}{d}{N W}{g}(h:Wk Q ty Wg V nV K o vs l d N g u)(he:Eff W u u')(k:∀c,K c->¬W c)(j:∀c,N c->¬W c)
 (hl:WgLive ty Wg u')(hp:PayAt V nV u->PayAt V nV u')(hc:u'.cell? ⟨V,o,none⟩=u.cell? ⟨V,o,none⟩):Wk Q ty Wg V nV K o vs l d N g u':=by
 rcases h with⟨f,e,a,i⟩|⟨f,e,a,i⟩|⟨f,e,a⟩
 .exact .inl ⟨f,e,a,i.rely (he.rely k j)⟩
 .exact .inr (.inl ⟨f,e,a,Goes.rely (λ_ _ _ _ h=>h) i hl⟩)
 .exact .inr (.inr ⟨f,e,a.rely ⟨λb hb=>absurd hb (ZV _),λ_=>hl,hp,hc⟩⟩)
theorem upd_self {α}(f:Nat->α)(i):upd f i (f i)=f:=by
 funext a
 by_cases h:a=i
 .subst h;rw[upd_same]
 .rw[upd_ne f _ h]
theorem cO {g g'}{fn}{pos}{es}(h:g'≠g):Deaf (t++MemOp.ofEvents g' fn pos es) g=Deaf t g:=
 Deaf_other t h _ λop a=>by obtain⟨e,_,rfl⟩:=Go.Conc.mem_ofEvents a;rfl
theorem PI.worker (G:pg nV nW off vals)(h:PI Q ty S Wg V nV base nW K off vals zero aL j gs u t D lv M M₀ q d0){i}(P:i<j){g g'}{es}{fn}{pos}{W}(he:Eff W u u')
 (ε:∀c,K c->¬W c)(γ:∀n,n<j->n≠i->∀c,M n c->¬W c)(β:∀c,c<aL.heap.size->c≠V->c≠Wg->¬W c){d'}{l'}{M'}
 (E:∀c,M' c->M i c\/(u.heap.size<=c/\c<u'.heap.size))(δ:∀c,M i c->M' c)(U:Wk Q ty Wg V nV K (off i) (vals i) l' d' M' g' u')
 (L:∀e∈es,∀x,(MemAct.ofEvent e).touch? =some x->(ShB (λc=>S c\/c=Wg) x.loc/\x.kind≠.plain/\x.kind≠.said)\/(x.kind=.plain/\x.loc.isMemory=true/\(OwnF base V nW off vals (upd M i M') (base+1+i) x.loc\/(di K x.loc/\x.write=false))))
 (Y:∀e∈es,e.loc≠.mark (.release (stA Wg)))(N:∀e∈es,(MemAct.ofEvent e).low u'.heap.size)(H:deafBehind (D i).deaf es=d'.deaf)
 (hrel:d'.stage<=6->∃r,RelBy (stA Wg) (t++MemOp.ofEvents (base+1+i) fn pos es) (base+1+i) r)(J:Row V nV off vals zero j u' (upd lv i l'))
 (Z:WgLive ty Wg u)(hl:WgLive ty Wg u')(hp:PayAt V nV u->PayAt V nV u')(hc:∀n,n<j->n≠i->u'.cell? ⟨V,off n,none⟩=u.cell? ⟨V,off n,none⟩):
 PI Q ty S Wg V nV base nW K off vals zero aL j ((gs.map (woken Q g g' u')).setIfInBounds (base+1+i) g') u' (t++MemOp.ofEvents (base+1+i) fn pos es) (upd D i d') (upd lv i l') (upd M i M') M₀ q d0:=by
 have X:=h.size;have d:=h.lie
 have F:Lie S Wg V K aL j u' (upd M i M') M₀:=by
  refine⟨he.tape.trans d.tape,he.os.trans d.os,he.output.trans d.output,ZP d.size he.size,λc hc f w=>(he.keep c (ZO hc d.size) (β c hc f w)).trans (d.keep c hc f w),d.v,d.wg,d.vw,d.kin,d.sh,
   λn o c hc=>?_,λc hc=>⟨ZO (d.mY c hc).1 he.size,(d.mY c hc).2⟩,λa b T hb I c f w=>?_,λn o c hc h0=>?_,λn o c hc=>?_⟩
  .by_cases e:n=i
   .subst e
    rw[upd_same]at hc;rcases E c hc with f|⟨f,w⟩
    .exact⟨ZO (d.low n P c f).1 he.size,(d.low n P c f).2⟩
    .exact⟨w,ZP d.size f⟩
   .rw[upd_ne M _ e]at hc
    exact⟨ZO (d.low n o c hc).1 he.size,(d.low n o c hc).2⟩
  .have key:∀b,b<j->b≠i->M' c->M b c->False:=λb hb α f w=>by
        rcases E c f with h3|⟨h3,_⟩
        .exact d.dis i b P hb (Ne.symm α) c h3 w
        .have:=(d.low b hb c w).1;omega
   by_cases e:a=i
   .subst e
    rw[upd_same]at f;rw[upd_ne M _ (Ne.symm I)]at w;exact key b hb (Ne.symm I) f w
   .rw[upd_ne M _ e]at f
    by_cases e2:b=i
    .subst e2
     rw[upd_same]at w;exact key a T e w f
    .rw[upd_ne M _ e2]at w
     exact d.dis a b T hb I c f w
  .by_cases e:n=i
   .subst e
    rw[upd_same]at hc;rcases E c hc with f|⟨f,_⟩
    .exact d.dis0 n P c f h0
    .have:=(d.mY c h0).1;omega
   .rw[upd_ne M _ e]at hc
    exact d.dis0 n o c hc h0
  .rw[upd_ne M _ (by omega)]at hc
   exact d.emp n o c hc
 have A':=F.apart (base:=base) G;have R:∀op∈MemOp.ofEvents (base+1+i) fn pos es,op.g=base+1+i:=λop z=>by obtain⟨e,_,rfl⟩:=Go.Conc.mem_ofEvents z;rfl
 have ζ:CT (ShB λc=>S c\/c=Wg) (OwnF base V nW off vals (upd M i M')) (RdF base K) t (base+j):=by
  refine CT.fam h.ti.ct (λk _ _ l hl=>?_) (λk _ _ l hl=>?_) λ_ _ _ _=>Iff.rfl
  .obtain⟨b1,b2,f|f⟩:=hl
   .by_cases e:k-base-1=i
    .rw[e,upd_same]at f
     obtain⟨c,hc,hm⟩:=f;rcases E c hm with w|⟨w,_⟩
     .exact .inl ⟨b1,b2,.inl (by rw[e];exact⟨c,hc,w⟩)⟩
     .refine .inr λp a T hl=>?_
      obtain⟨op,z,s⟩:=touch_of T;have C:=h.ti.tk.low op (mem_of_getElem? z)
      have:c<u.heap.size:=by
        cases B:op.act with
        |access ev=>
         rw[B]at s C;simp only[MemAct.touch?,Option.some.injEq]at s;subst s;have O:ev.loc=l:=hl;have A:ev.loc.low u.heap.size:=C;rw[O]at A;rcases hc with rfl|⟨ad,rfl,rfl⟩
         .exact A
         .exact A
        |mark m=>
         rw[B]at s C;cases m<;>simp only[MemAct.touch?,Option.some.injEq,reduceCtorEq]at s
         all_goals
             subst s;subst hl;rcases hc with hc|⟨ad,hc,rfl⟩
             .cases hc
             .cases hc;exact C
        |_=>rw[B]at s;cases s
      omega
    .rw[upd_ne M _ e]at f
     exact .inl ⟨b1,b2,.inl f⟩
   .exact .inl ⟨b1,b2,.inr f⟩
  .obtain⟨b1,b2,f|f⟩:=hl
   .refine⟨b1,b2,.inl ?_⟩
    by_cases e:k-base-1=i
    .rw[e,upd_same]
     rw[e]at f;exact f.mono δ
    .rw[upd_ne M _ e];exact f
   .exact⟨b1,b2,.inr f⟩
 refine⟨by simpa using X,?_,F,J,λk x k1 kb hx=>?_,?_,λn o=>?_,λn o=>?_,λn o hs=>?_⟩
 .refine TI.appW A' ⟨ζ,h.ti.tk⟩ he.size (by omega) (by omega) (λop z=>⟨R op z,λx hx=>?_⟩) (λop z x hx hn=>?_) (jI Y) (iy N)
  .obtain⟨e,hm,rfl⟩:=Go.Conc.mem_ofEvents z
   rcases L e hm x hx with f|⟨_,_,f|⟨f,w⟩⟩
   .exact .inl f
   .exact .inr (.inl f)
   .exact .inr (.inr ⟨⟨by omega,f⟩,w⟩)
  .obtain⟨e,hm,rfl⟩:=Go.Conc.mem_ofEvents z
   rcases L e hm x hx with f|⟨f,w,_⟩
   .exact absurd f.1 hn
   .exact⟨by rw[f];simp,w⟩
 .rw[get_map_set _ _ _ _ (by omega)]at hx
  obtain⟨y,hy,rfl⟩:=Option.map_eq_some_iff.1 hx;have hq:=h.old k y k1 kb hy;rw[woken_quitsD hq,cO (by omega)];exact hq
 .rw[cO (by omega)];exact h.deaf0
 .by_cases e:n=i
  .subst e
   rw[upd_same,Deaf_own,h.deafW n P];exact H
  .rw[upd_ne D _ e,cO (by omega)]
   exact h.deafW n o
 .by_cases e:n=i
  .subst e
   rw[upd_same,upd_same,upd_same];exact⟨g',get_map_set_same _ _ _ (by omega),U⟩
  .obtain⟨x,hx,hw⟩:=h.wk n o
   rw[upd_ne D _ e,upd_ne lv _ e,upd_ne M _ e];refine⟨x,?_,hw.eff he ε (γ n o e) hl hp (hc n o e)⟩;rw[get_map_set _ _ _ _ (by omega),hx];simp[hw.woken Z]
 .by_cases e:n=i
  .subst e
   rw[upd_same]at hs;exact hrel hs
  .rw[upd_ne D _ e]at hs
   obtain⟨r,hr⟩:=h.rel n o hs;exact⟨r,hr.appOther R (by omega)⟩
end
section
variable [Payload]
variable {Q:Program}{ty:TypeId}{S:Nat->Prop}{Wg V nV base nW:Nat}{K:Nat->Prop}{off:Nat->Nat}{vals:Nat->List Value}{zero:Nat->Value}{aL u u':World}{j:Nat}{M:Nat->Nat->Prop}{M₀:Nat->Prop}{t:Trace}
 {gs:Array Goroutine}{D:Nat->WD}{lv:Nat->Bool}{q:Nat->Nat}{d0:Nat}
theorem touched_low {B}{op:MemOp}{x}(b:op.act.low B)(hx:op.act.touch? =some x){N}(hb:di N x.loc):∃c,c<B/\N c:=by
 obtain⟨c,hc,hm⟩:=hb;refine⟨c,?_,hm⟩;cases a:op.act with
 |access e=>
  rw[a]at hx b;simp only[MemAct.touch?,Option.some.injEq]at hx;subst hx;have d:e.loc.low B:=b;simp only at hc;rcases hc with hc|⟨ad,hc,rfl⟩<;>rw[hc]at d<;>exact d
 |mark m=>
  rw[a]at hx b;cases m<;>simp only[MemAct.touch?,Option.some.injEq,reduceCtorEq]at hx
  all_goals
   subst hx;rcases hc with hc|⟨ad,hc,rfl⟩
   .cases hc
   .cases hc;exact b
 |_=>rw[a]at hx;cases hx
theorem PI.starter (G:pg nV nW off vals)(h:PI Q ty S Wg V nV base nW K off vals zero aL j gs u t D lv M M₀ q d0){g g'}{es}{fn}{pos}{W}(he:Eff W u u')
 (N:∀c,K c->¬W c)(L:∀m,m<j->∀c,M m c->¬W c)(J:∀c,c<aL.heap.size->c≠V->c≠Wg->¬W c){M'}
 (z:∀c,M' c->M₀ c\/(u.heap.size<=c/\c<u'.heap.size))
 (E:∀e∈es,∀x,(MemAct.ofEvent e).touch? =some x->(ShB (λc=>S c\/c=Wg) x.loc/\x.kind≠.plain)\/(di M' x.loc\/(di K x.loc/\x.write=false)))
 (F:∀e∈es,e.loc≠.mark (.release (stA Wg)))(s:∀e∈es,(MemAct.ofEvent e).low u'.heap.size)(X:¬W V)
 (H:WgLive ty Wg u)(hl:WgLive ty Wg u'):
 PI Q ty S Wg V nV base nW K off vals zero aL j ((gs.map (woken Q g g' u')).setIfInBounds 0 g') u' (t++MemOp.ofEvents 0 fn pos es) D lv M M' q (deafBehind d0 es):=by
 have B:=h.size;have d:=h.lie;have p:u'.heap[V]? =u.heap[V]?:=he.keep V (ZO d.v d.size) X
 have l:Lie S Wg V K aL j u' M M':=by
  refine⟨he.tape.trans d.tape,he.os.trans d.os,he.output.trans d.output,ZP d.size he.size,λc hc f n=>(he.keep c (ZO hc d.size) (J c hc f n)).trans (d.keep c hc f n),d.v,d.wg,d.vw,d.kin,d.sh,
   λm i c hc=>⟨ZO (d.low m i c hc).1 he.size,(d.low m i c hc).2⟩,λc hc=>?_,d.dis,λm i c hc Y=>?_,d.emp⟩
  .rcases z c hc with f|⟨f,n⟩
   .exact⟨ZO (d.mY c f).1 he.size,(d.mY c f).2⟩
   .exact⟨n,ZP d.size f⟩
  .rcases z c Y with f|⟨f,_⟩
   .exact d.dis0 m i c hc f
   .have:=(d.low m i c hc).1;omega
 have A:=d.apart (base:=base) G;have w:∀op∈MemOp.ofEvents 0 fn pos es,op.g=0:=λop o=>by obtain⟨e,_,rfl⟩:=Go.Conc.mem_ofEvents o;rfl
 refine⟨by simpa using B,?_,l,?_,λk x k1 kb hx=>?_,?_,λm i=>?_,λm i=>?_,λm i hs=>?_⟩
 .refine TI.app0 A h.ti he.size (λop o=>⟨w op o,λx hx=>?_⟩) (jI F) (iy s)
  obtain⟨e,hm,rfl⟩:=Go.Conc.mem_ofEvents o;rcases E e hm x hx with f|f
  .exact .inl f
  .refine .inr ⟨?_,λk k1 U R=>?_,λhw k k1 U C=>?_⟩
   .rintro⟨a,T,hs⟩
    rcases f with f|⟨f,_⟩
    .rw[T]at f
     have n:=dB.1 f;have:aL.heap.size<=a.block:=(l.mY _ n).2;rcases hs with hs|hs
     .have:=(d.sh _ hs).1;omega
     .have:=d.wg;omega
    .exact A.rdSh (base+1) x.loc ⟨by omega,f⟩ ⟨a,T,hs⟩
   .rcases f with f|⟨f,_⟩
    .obtain⟨b1,b2,n|⟨y,_,_,e⟩⟩:=R
     .obtain⟨c,O,c2⟩:=f.join n
      have I:k-base-1<j:=Nat.lt_of_not_le λI=>d.emp _ I c c2
      exact l.dis0 _ I c c2 O
     .rw[e]at f
      have:=(l.mY _ (dB.1 f)).2;have:=d.v;simp only at*;omega
    .exact A.ownRd k (base+1) x.loc R ⟨by omega,f⟩
   .rcases f with f|⟨_,f⟩
    .obtain⟨c,O,c2⟩:=f.join C.2
     have:=(l.mY _ O).2;have:=(d.kin _ c2).1;omega
    .rw[f]at hw;cases hw
 .obtain⟨cs,f,n⟩:=h.row
  exact⟨cs,p.trans f,n⟩
 .rw[get_map_set _ _ _ _ (by omega)]at hx
  obtain⟨y,hy,rfl⟩:=Option.map_eq_some_iff.1 hx;have P:=h.old k y k1 kb hy;rw[woken_quitsD P,cO (by omega)];exact P
 .rw[Deaf_own,h.deaf0]
 .rw[cO (by omega)]
  exact h.deafW m i
 .obtain⟨x,hx,hw⟩:=h.wk m i
  refine⟨x,?_,hw.eff he N (L m i) hl (fun⟨cs,a,b⟩=>⟨cs,p.trans a,b⟩) (cell_of_block p _)⟩;rw[get_map_set _ _ _ _ (by omega),hx];simp[hw.woken H]
 .obtain⟨r,C⟩:=h.rel m i hs
  exact⟨r,C.appOther w (by omega)⟩
theorem PI.slip (G:pg nV nW off vals)(h:PI Q ty S Wg V nV base nW K off vals zero aL j gs u t D lv M M₀ q d0){i k}{g g'}{es}{fn}{pos}(s:0<i)(p:i<=base)
 (hm:∀e∈es,e.mute=true)(l:QuitsD Q k (deafBehind (Deaf t i) es) g')(n:WgLive ty Wg u):
 PI Q ty S Wg V nV base nW K off vals zero aL j ((gs.map (woken Q g g' u)).setIfInBounds i g') u (t++MemOp.ofEvents i fn pos es) D lv M M₀ (upd q i k) d0:=by
 have f:=h.size;have d:∀op∈MemOp.ofEvents i fn pos es,op.g=i:=λop b=>by obtain⟨e,_,rfl⟩:=Go.Conc.mem_ofEvents b;rfl
 have w:∀op∈MemOp.ofEvents i fn pos es,op.act.touch? =none:=λop b=>by obtain⟨e,he,rfl⟩:=Go.Conc.mem_ofEvents b;exact touch_mute (hm e he)
 have m:∀e∈es,e.loc≠.mark (.release (stA Wg)):=λe he hl=>by
  have:=hm e he;obtain⟨loc,wr,z⟩:=e;simp only at hl;subst hl;simp[Event.mute]at this
 refine⟨by simpa using f,TI.slip (h.lie.apart (base:=base) G) h.ti s p d w (jI m) (iy λe he=>low_mute (hm e he) _),h.lie,h.row,λk' x k1 kb hx=>?_,?_,λc a=>?_,λc a=>?_,λc a hs=>?_⟩
 .by_cases e:i=k'
  .subst e
   rw[Array.getElem?_setIfInBounds_self_of_lt (by simp;omega)]at hx;obtain rfl:=Option.some.inj hx;rw[upd_same,Deaf_own];exact l
  .rw[get_map_set _ _ _ _ e]at hx
   obtain⟨y,hy,rfl⟩:=Option.map_eq_some_iff.1 hx;have o:=h.old k' y k1 kb hy;rw[woken_quitsD o,upd_ne q k (Ne.symm e),cO e];exact o
 .rw[cO (by omega)];exact h.deaf0
 .rw[cO (by omega)];exact h.deafW c a
 .obtain⟨x,hx,hw⟩:=h.wk c a
  refine⟨x,?_,hw⟩;rw[get_map_set _ _ _ _ (by omega),hx];simp[hw.woken n]
 .obtain⟨r,v⟩:=h.rel c a hs
  exact⟨r,v.appOther d (by omega)⟩
theorem PI.at (h:PI Q ty S Wg V nV base nW K off vals zero aL j gs u t D lv M M₀ q d0)(a:WgLive ty Wg u)(d):PI Q ty S Wg V nV base nW K off vals zero aL j gs (u.at d) t D lv M M₀ q d0:=by
 have e:Eff (λ_=>False) u (u.at d):=⟨rfl,rfl,rfl,ZL _,λ_ _ _=>rfl⟩;have hl:=h.lie;refine⟨h.size,h.ti,⟨hl.tape,hl.os,hl.output,hl.size,hl.keep,hl.v,hl.wg,hl.vw,hl.kin,hl.sh,hl.low,hl.mY,hl.dis,hl.dis0,hl.emp⟩,h.row,h.old,h.deaf0,h.deafW,λi b=>?_,h.rel⟩;obtain⟨g,c,hw⟩:=h.wk i b;exact⟨g,c,hw.eff e (λ_ _ h=>h) (λ_ _ h=>h) a id rfl⟩
theorem PI.fork (G:pg nV nW off vals)(h:PI Q ty S Wg V nV base nW K off vals zero aL j gs u t D lv M M₀ q 0)(Z:j<nW){a' child}{x y}(hx:x.g=0/\x.act=.go (base+j+1))(hy:y.g=base+j+1/\y.act=.start)
 (hc:aC Q false K (kg Q ty Wg V nV (off j) (vals j)) child u M₀):
 PI Q ty S Wg V nV base nW K off vals zero aL (j+1) ((gs.setIfInBounds 0 a').push child) u (t++ #[x,y]) (upd D j ⟨7,0,0⟩) (upd lv j true) (upd M j M₀) (λ_=>False) q 0:=by
 have T:=h.size;have d:=h.lie
 have s:Lie S Wg V K aL (j+1) u (upd M j M₀) (λ_=>False):=by
  refine⟨d.tape,d.os,d.output,d.size,d.keep,d.v,d.wg,d.vw,d.kin,d.sh,λi B c hc=>?_,λc hc=>hc.elim,λa b ha hb F c m A=>?_,λ_ _ _ _ h=>h,λi B c hc=>?_⟩
  .by_cases e:i=j
   .subst e;rw[upd_same]at hc;exact d.mY c hc
   .rw[upd_ne M _ e]at hc;exact d.low i (by omega) c hc
  .by_cases e:a=j
   .subst e
    rw[upd_same]at m;rw[upd_ne M _ (Ne.symm F)]at A;exact d.dis0 b (by omega) c A m
   .rw[upd_ne M _ e]at m
    by_cases J:b=j
    .subst J
     rw[upd_same]at A;exact d.dis0 a (by omega) c m A
    .rw[upd_ne M _ J]at A
     exact d.dis a b (by omega) (by omega) F c m A
  .rw[upd_ne M _ (by omega)]at hc
   exact d.emp i (by omega) c hc
 have L:CT (ShB λc=>S c\/c=Wg) (OwnF base V nW off vals (upd M j M₀)) (RdF base K) t (base+j):=by
  refine CT.fam h.ti.ct (λk k1 O l hl=>?_) (λk k1 O l hl=>?_) λ_ _ _ _=>Iff.rfl
  .obtain⟨b1,b2,m⟩:=hl
   rw[upd_ne M _ (by omega)]at m;exact .inl ⟨b1,b2,m⟩
  .obtain⟨b1,b2,m⟩:=hl
   refine⟨b1,b2,?_⟩;rw[upd_ne M _ (by omega)];exact m
 have hm:∀op∈ #[x,y],op=x\/op=y:=λop n=>by simpa using n
 have I:∀op∈ #[x,y],op.act≠.mark .disable/\op.act≠.mark .enable:=λop n=>by
  rcases hm op n with rfl|rfl
  .rw[hx.2];simp
  .rw[hy.2];simp
 have C:∀g,Deaf (t++ #[x,y]) g=Deaf t g:=λg=>Deaf_still t g _ I
 have w:∀i,0<i->i<gs.size->((gs.setIfInBounds 0 a').push child)[i]? =gs[i]?:=λi h0 B=>by
  rw[Array.getElem?_push,if_neg (by simp;omega),Array.getElem?_setIfInBounds_ne (by omega)]
 refine⟨by simp;omega,TI.fork (s.apart (base:=base) G) ⟨L,h.ti.tk⟩ hx hy h.deaf0,s,?_,λi g N P H=>?_,by rw[C];exact h.deaf0,λi B=>?_,λi B=>?_,λi B hs=>?_⟩
 .obtain⟨cs,m,A,Y,X⟩:=h.row
  refine⟨cs,m,A,λi B f o W=>?_,λz R E=>X z R λi B f=>?_⟩
  .by_cases e:i=j
   .subst e;rw[upd_same]at f;cases f
   .rw[upd_ne lv _ e]at f
    exact Y i (by omega) f o W
  .exact E i (by omega) (by rw[upd_ne lv _ (by omega)];exact f)
 .rw[w i N (by omega)]at H
  rw[C];exact h.old i g N P H
 .rw[C]
  by_cases e:i=j
  .subst e
   rw[upd_same];exact Deaf_absent λp op hp J=>by have:=h.ti.ct.gs p op hp;omega
  .rw[upd_ne D _ e];exact h.deafW i (by omega)
 .by_cases e:i=j
  .subst e
   rw[upd_same,upd_same,upd_same];refine⟨child,?_,.inl ⟨rfl,rfl,rfl,hc⟩⟩;rw[Array.getElem?_push,if_pos (by simp;omega)]
  .obtain⟨g,H,hw⟩:=h.wk i (by omega)
   rw[upd_ne D _ e,upd_ne lv _ e,upd_ne M _ e];exact⟨g,by rw[w _ (by omega) (by omega)];exact H,hw⟩
 .by_cases e:i=j
  .subst e;rw[upd_same]at hs;simp at hs
  .rw[upd_ne D _ e]at hs
   obtain⟨r,U⟩:=h.rel i (by omega) hs;refine⟨r,U.appNot λop n=>?_⟩;rcases hm op n with rfl|rfl
   .rw[hx.1];omega
   .rw[hy.1];omega
end
end
