/- Part 1 of the proof. -/
import Derived.Test.YtfpaamhppamcoaaGreatDoorSp0
import Derived.DataReads
set_option linter.all false
namespace Go.Proofs.YtfpaamhppamcoaaGreatDoor
section
open Go
variable {st:Prop}
def Ext (p q:Rel st):Prop:=∀b c,p b c->q b c
theorem Ext.refl (p:Rel st):Ext p p:=λ_ _ h=>h
theorem Ext.trans {p q r:Rel st}(h:Ext p q)(k:Ext q r):Ext p r:=λb c x=>k b c (h b c x)
def Mate (K:Nat->Prop)(p:Rel st)(w u:World)(b c:Nat):Prop:=
 (∃xs ys e f g,w.heap[b]? =some (.cells xs e f)/\u.heap[c]? =some (.cells ys e g)/\aF (VR p) xs ys/\(K c->f.1=0/\xs.size<=f.2/\g.2<=f.2/\∀(i:Nat) v,xs[i]? =some v->noU8 v)/\(¬K c->f=g))\/
 (∃a a' l,w.heap[b]? =some (.number a l)/\u.heap[c]? =some (.number a' l)/\AR p a a'/\¬K c)\/
 (∃a a' t,w.heap[b]? =some (.view a t)/\u.heap[c]? =some (.view a' t)/\AR p a a'/\¬K c)
structure WR (G:Nat)(K:Nat->Prop)(p:Rel st)(w u:World):Prop where
 fit:∀b c b' c',p b c->p b' c'->(b=b'↔c=c')
 rows:∀b c,p b c->Mate K p w u b c
 kin:∀c,K c->p c c
 low:∀b c,p b c->b≠c->G<=b/\G<=c
 big:G<=w.heap.size/\G<=u.heap.size
def TR (w u:World):Prop:=∀i q,w.tape (w.drawn+i) q=u.tape (u.drawn+i) q
structure dE (K:Nat->Prop)(p q:Rel st)(u u':World):Prop where
 tape:u'.tape=u.tape
 os:u'.os=u.os
 output:u'.output=u.output
 size:u.heap.size<=u'.heap.size
 keep:∀c,c<u.heap.size->(∀b,p b c->K c)->u'.heap[c]? =u.heap[c]?
 fresh:∀b c,q b c->¬p b c->u.heap.size<=c
 ext:Ext p q
def QMark:Mark->Prop
 |.noRoom|.extern _=>True
 |_=>False
def EvOk (K:Nat->Prop)(p:Rel st)(e:Event):Prop:=
 (∃c b,(e.loc=.obj c\/∃a,e.loc=.cell a/\a.block=c)/\p b c/\e.sync=false/\(e.write=true->¬K c))\/∃m,QMark m/\e=⟨.mark m,false,true⟩
theorem EvOk.mono {K}{p q:Rel st}(h:Ext p q){e}(he:EvOk K p e):EvOk K q e:=by
 rcases he with⟨a,b,f,d,c⟩|g
 .exact .inl ⟨a,b,f,h _ _ d,c⟩
 .exact .inr g
theorem dE.refl (K)(p:Rel st)(u):dE K p p u u:=⟨rfl,rfl,rfl,ZL _,λ_ _ _=>rfl,λ_ _ h n=>absurd h n,Ext.refl p⟩
theorem dE.trans {K}{p q r:Rel st}{u u' a}(h:dE K p q u u')(k:dE K q r u' a):dE K p r u a:=by
 classical
 refine⟨k.tape.trans h.tape,k.os.trans h.os,k.output.trans h.output,ZP h.size k.size,λc hc hp=>?_,λb c f g=>?_,h.ext.trans k.ext⟩
 .refine(k.keep c (ZO hc h.size) λb hb=>?_).trans (h.keep c hc hp)
  by_cases d:p b c
  .exact hp b d
  .exact absurd (h.fresh b c hb d) (by omega)
 .by_cases e:q b c
  .exact h.fresh b c e g
  .exact ZP h.size (k.fresh b c f e)
def noPtr:Value->Prop
 |.iface t (.pointer _)=>iT.contains t=false
 |.iface t (.slice _ _ _)=>iT.contains t=false
 |_=>True
def Mild:Halt->Prop
 |.panic v=>noPtr v
 |.stuck _=>True
 |.unsupported (.initOrder _)=>False
 |.unsupported _=>True
 |_=>False
def ay (w:World)(T:Nat->Question->Nat):World:={w with tape:=T}
def rworld {α:Type}:Result α->World
 |.ok _ w|.halt _ w=>w
def rtaped {α:Type}(T:Nat->Question->Nat):Result α->Result α
 |.ok a w=>.ok a (ay w T)
 |.halt h w=>.halt h (ay w T)
def Local {α:Type}(P:Program)(s:Sem α)(w:World)(es:Array Event):Prop:=
 w.drawn<=(rworld (s.runT P w es).1).drawn/\(rworld (s.runT P w es).1).tape=w.tape/\
    ∀a,(∀j q,w.drawn<=j->j< (rworld (s.runT P w es).1).drawn->a j q=w.tape j q)->s.runT P (ay w a) es=(rtaped a (s.runT P w es).1,(s.runT P w es).2)
theorem Local.bind {α γ}{P}{s}{f:α->Sem γ}{w}{es}(hs:Local P s w es)(hf:∀a w' b,s.runT P w es=(.ok a w',b)->Local P (f a) w' b):Local P (s>>=f) w es:=by
 have e:∀w es,(s>>=f).runT P w es=match s.runT P w es with
  |(.ok a w',b)=>(f a).runT P w' b
  |(.halt h w',b)=>(.halt h w',b):=λw es=>by
  show(s.bind f).runT P w es=_
  rw[Sem.runT_bind'];rcases s.runT P w es with⟨r,m⟩
  cases r<;>rfl
 unfold Local at hs⊢;rw[e];simp only[e];rcases l:s.runT P w es with⟨r,m⟩
 rw[l]at hs;obtain⟨s1,s2,k⟩:=hs;cases r with
 |halt h w1=>
  refine⟨s1,s2,λi g=>?_⟩;rw[k i g];rfl
 |ok a w1=>
  obtain⟨k1,o,n⟩:=hf a w1 m l;have d:w.drawn<=w1.drawn:=s1;have c:w1.tape=w.tape:=s2;refine⟨ZP d k1,o.trans c,λi g=>?_⟩;rw[k i λj q x y=>g j q x (ZO y k1)];exact n i λj q x y=>(g j q (ZP d x) y).trans (by rw[c])
structure Plainly {α:Type}(P:Program)(s:Sem α)(w:World)(es:Array Event):Prop where
 mild:∀h w' es',s.runT P w es=(.halt h w',es')->Mild h
 loc:Local P s w es
def j4 (P:Program):Prop:=∀t,(∀k,P.underlying t≠some (.float k))/\∀k,P.underlying t≠some (.complex k)
structure Twin (P Q:Program):Prop where
 underlying:∀t,Q.underlying t=P.underlying t
 info:∀t,Q.info? t=P.info? t
 globals:Q.globals=P.globals
 cellsOf:Q.cellsOf=P.cellsOf
 bytesOf:Q.bytesOf=P.bytesOf
 byteOfCell:Go.byteOfCell Q Q.depth=Go.byteOfCell P P.depth
 cellAtBytes:Go.cellAtBytes Q Q.depth=Go.cellAtBytes P P.depth
 stoodInHeld:Q.stoodInHeld=P.stoodInHeld
 plainCell:Go.plainCell Q Q.depth=Go.plainCell P P.depth
 seenCells:Go.seenCells Q=Go.seenCells P
 tight:Go.tight Q Q.depth=Go.tight P P.depth
 liesAt:Go.liesAt Q Q.depth=Go.liesAt P P.depth
 holdsStoodIn:Q.holdsStoodIn Q.depth=P.holdsStoodIn P.depth
 eqGuardType:Q.eqGuardType Q.depth=P.eqGuardType P.depth
 mixed:Q.follows .mixedOrders=P.follows .mixedOrders
 noFloats:j4 P
 calm:iT.contains P.rt.panicNilError=false
def af {α β:Type}(P Q:Program)(K:Nat->Prop)(p:Rel st)(s:Sem α)(t:Sem β)(A:(Rel st)->α->β->Prop):Prop:=
 Twin P Q->∀(w u:World) (es fs:Array Event),WR P.globals.size K p w u->TR w u->Plainly P s w es/\∀a w' c,s.runT P w es=(.ok a w',c)->
    ∃q b u' new,t.runT Q u fs=(.ok b u',fs++new)/\A q a b/\WR P.globals.size K q w' u'/\TR w' u'/\dE K p q u u'/\∀e∈new,EvOk K q e
section
variable {α β γ δ:Type}{P Q:Program}{K:Nat->Prop}{p:Rel st}
theorem af.pure {A}{a:α}{b:β}(h:A p a b):af P Q K p (Pure.pure a) (Pure.pure b) A:=by
 intro g w u es fs hw f;refine⟨⟨λh w' c d=>(by cases d),⟨ZL _,rfl,λi _=>rfl⟩⟩,λa' w' c d=>?_⟩;obtain⟨⟨rfl,rfl⟩,rfl⟩:(a=a'/\w=w')/\es=c:=by simpa[Pure.pure] using d
 exact⟨p,b,u,#[],by simp[Pure.pure],h,hw,f,dE.refl _ _ _,λe he=>by simp at he⟩
theorem af.bind {A}{B}{s}{t}{f:α->Sem γ}{g:β->Sem δ}
 (h:af P Q K p s t A)(k:∀q a b,Ext p q->A q a b->af P Q K q (f a) (g b) B):af P Q K p (s>>=f) (t>>=g) B:=by
 intro o w u es fs hw y;refine⟨⟨λH w' m E=>?_,Local.bind (h o w u es fs hw y).1.loc λa w1 n x=>?_⟩,λc w' m E=>?_⟩;rotate_left
 .obtain⟨q,b,u1,v,z,hA,j,l,g1,v1⟩:=(h o w u es fs hw y).2 a w1 n x
  exact(k q a b g1.ext hA o w1 u1 n (fs++v) j l).1.loc
 rotate_left
 .have i:(s.bind f).runT P w es=(.halt H w',m):=E
  rw[Sem.runT_bind']at i;split at i
  .rename_i a w1 n x
   obtain⟨q,b,u1,v,z,hA,j,l,g1,v1⟩:=(h o w u es fs hw y).2 a w1 n x;exact(k q a b g1.ext hA o w1 u1 n (fs++v) j l).1.mild H w' m i
  .rename_i x w1 n F
   cases i;exact(h o w u es fs hw y).1.mild _ _ _ F
 have i:(s.bind f).runT P w es=(.ok c w',m):=E;rw[Sem.runT_bind']at i;split at i
 .rename_i a w1 n x
  obtain⟨q,b,u1,v,z,hA,j,l,g1,v1⟩:=(h o w u es fs hw y).2 a w1 n x;obtain⟨r,d,u2,J,I,L,C,D,g2,v2⟩:=(k q a b g1.ext hA o w1 u1 n (fs++v) j l).2 c w' m i;refine⟨r,d,u2,v++J,?_,L,C,D,g1.trans g2,λe he=>?_⟩
  .show(t.bind g).runT Q u fs=_
   rw[Sem.runT_bind',z];simp only;rw[I,Array.append_assoc]
  .rcases Array.mem_append.1 he with G|G
   .exact(v1 e G).mono g2.ext
   .exact v2 e G
 .cases i
theorem af.halt {A}{h}{t:Sem β}(hm:Mild h:=by trivial):af P Q K p (Sem.halt h:Sem α) t A:=by
 intro d w u es fs hw e;exact⟨⟨λf w' c b=>(by cases b;exact hm),⟨ZL _,rfl,λg _=>rfl⟩⟩,λa w' c b=>by cases b⟩
theorem af.mono {A B}{s:Sem α}{t:Sem β}(h:af P Q K p s t A)(hA:∀q a b,Ext p q->A q a b->B q a b):af P Q K p s t B:=by
 intro d w u es fs hw e;refine⟨(h d w u es fs hw e).1,λa w' c g=>?_⟩;obtain⟨q,b,u',n,m,l,k,j,f,i⟩:=(h d w u es fs hw e).2 a w' c g;exact⟨q,b,u',n,m,hA q a b f.ext l,k,j,f,i⟩
theorem af.program:af P Q K p (program) (program) (λ_ a b=>a=P/\b=Q):=by
 intro i w u es fs hw f;refine⟨⟨λh w' d c=>(by cases c),⟨ZL _,rfl,λj _=>rfl⟩⟩,λa w' d c=>?_⟩;have g:∀(P:Program) (w:World) (es:Array Event),(Go.program).runT P w es=(.ok P w,es):=λ_ _ _=>rfl
 rw[g]at c;cases c;exact⟨p,Q,u,#[],by rw[Array.append_empty];rfl,⟨rfl,rfl⟩,hw,f,dE.refl _ _ _,λe he=>by simp at he⟩
theorem af.twin {A}{s:Sem α}{t:Sem β}(h:Twin P Q->af P Q K p s t A):af P Q K p s t A:=λa=>h a a
theorem eT (q)(w)(es):(choose q).runT P w es=if q.forced then(.ok 0 w,es)else(.ok (q.cut (w.tape w.drawn q)) {w with drawn:=w.drawn+1},es):=by
 unfold Go.choose Sem.runT;split<;>rfl
theorem l8 (q)(w)(es):Local P (choose q) w es:=by
 unfold Local;simp only[eT];split
 .exact⟨ZL _,rfl,λa _=>rfl⟩
 .refine⟨Nat.le_succ _,rfl,λa b=>?_⟩
  have e:(ay w a).tape (ay w a).drawn q=w.tape w.drawn q:=b w.drawn q (ZL _) (Z4 _);rw[e];rfl
theorem af.choose (q:Question):af P Q K p (choose q) (choose q) (λ_ a b=>a=b):=by
 intro j w u es fs hw f;refine⟨⟨λh w' g c=>(by rw[eT]at c;split at c<;>cases c),l8 q w es⟩,λa w' g c=>?_⟩;rw[eT]at c
 by_cases d:q.forced=true
 .rw[if_pos d]at c
  cases c;exact⟨p,0,u,#[],by rw[eT,if_pos d,Array.append_empty],rfl,hw,f,dE.refl _ _ _,λe he=>by simp at he⟩
 .rw[if_neg d]at c
  cases c;refine⟨p,q.cut (u.tape u.drawn q),{u with drawn:=u.drawn+1},#[],by rw[eT,if_neg d,Array.append_empty],?_,⟨hw.fit,hw.rows,hw.kin,hw.low,hw.big⟩,λi r=>?_,⟨rfl,rfl,rfl,ZL _,λ_ _ _=>rfl,λ_ _ h n=>absurd h n,Ext.refl p⟩,λe he=>by simp at he⟩
  .have:=f 0 q
   simp only[Nat.add_zero]at this;rw[this]
  .have:=f (1+i) r
   simpa[Nat.add_assoc] using this
theorem WR.cell {G}{w u}(hw:WR G K p w u){a b}(c:AR p a b){v}(h:w.cell? a=some v):∃x,u.cell? b=some x/\VR p v x:=by
 obtain⟨xs,ys,e,f,g,i,m,k,_,_⟩|⟨n,a2,l,i,_⟩|⟨n,a2,l,i,_⟩:=hw.rows _ _ c.1
 rotate_left
 .simp only[World.cell?,i]at h;cases h
 .simp only[World.cell?,i]at h;cases h
 simp only[World.cell?,i]at h;split at h
 .cases h
 .rename_i hs
  have j:a.off<xs.size:=(ZK.1 h).1;have d:b.off<ys.size:=by rw[<-c.2.1,<-k.1];exact j
  refine⟨ys[b.off],?_,k.2 a.off v _ h (by rw[c.2.1];exact ZM d)⟩;simp only[World.cell?,m];rw[<-c.2.2,if_neg hs];exact ZM d
theorem VR.bytes {v x}(h:VR p v x){bs}(hb:v.bytes? =some bs):x=v:=by
 have:=h.cases
 cases v<;>cases x<;>first
  |exact this.elim
  |(simp[Value.bytes?]at hb;done)
  |(obtain rfl:_=_:=this;rfl)
  |(obtain⟨rfl,rfl⟩:=this;rfl)
theorem aF.at {r}{a b}(h:aF r a b){i:Nat}{x}(hx:a[i]? =some x):∃y,b[i]? =some y/\r x y:=by
 have c:i<b.size:=h.1▸(ZK.1 hx).1;exact⟨b[i],ZM c,h.2 i x _ hx (ZM c)⟩
theorem seen_cells {c d}(h:aF (VR p) c d)(e):∀(n x stop:Nat) (l:List (Nat×Nat×List UInt8)),seenCells P c e n x stop=.ok l->seenCells P d e n x stop=.ok l
 |0,_,_,_,hl=>by unfold Go.seenCells at hl;cases hl
 |n+1,x,stop,l,hl=>by
  unfold Go.seenCells at hl⊢;split at hl
  .rename_i hx;rw[if_pos hx];exact hl
  .rename_i hx
   rw[if_neg hx];simp only at hl⊢;split at hl
   .cases hl
   .rename_i hw
    rw[if_neg hw];split at hl
    .cases hl
    .rename_i i s hm
     split at hl
     .cases hl
     .rename_i v f
      obtain⟨v',a,g⟩:=h.at f;simp only[a];split at hl
      .cases hl
      .cases hl
      .rename_i bs _ hb
       obtain rfl:=g.bytes hb;simp only[hb];cases b:seenCells P c e n (s+bs.length) stop with
       |error _=>rw[b]at hl;cases hl
       |ok r=>rw[b]at hl;rw[seen_cells h e n _ _ r b];exact hl
theorem seen_alike {w u}(m:Twin P Q){t}{j a2 a b}(B:AR p j a2)(I:a.off=b.off)(hs:a.spot=b.spot)
 (l:∀xs e f,w.heap[j.block]? =some (.cells xs e f)->∃ys g,u.heap[a2.block]? =some (.cells ys e g)/\aF (VR p) xs ys)
 {c}{e}{fr}{first}{d}{cells}(h:World.seen P w j t a false=.ok (c,e,fr,first,d,cells)):
 w.heap[j.block]? =some (.cells c e fr)/\Go.plainCell P P.depth t a.off=some d/\∃D C,u.heap[a2.block]? =some (.cells D e C)/\aF (VR p) c D/\World.seen Q u a2 t b false=.ok (D,e,C,first,d,cells):=by
 unfold World.seen at h⊢;simp only[m.plainCell,m.byteOfCell,m.seenCells,m.cellsOf,m.bytesOf,<-I,<-hs,<-B.2.1,<-B.2.2];cases q:(a.spot.isSome||j.spot.isSome)with
 |true=>simp only[q,if_true]at h;cases h
 |false=>
 simp only[q,Z0,if_false]at h⊢;cases v:Go.plainCell P P.depth t a.off with
 |none=>simp only[v]at h;cases h
 |some H=>
 simp only[v]at h⊢;cases n:Option.map (λx=>x.length) H.bytes? with
 |none=>simp only[n]at h;cases h
 |some G=>
 simp only[n]at h⊢;cases z:Go.byteOfCell P P.depth t a.off with
 |none=>simp only[z]at h;cases h
 |some be=>
 simp only[z]at h⊢;cases i:w.heap[j.block]? with
 |none=>simp only[i]at h;cases h
 |some o=>
 cases o with
 |cells c0 k f0=>
  obtain⟨D,g,F,y⟩:=l _ _ _ i;simp only[i]at h;simp only[F]
  by_cases s:P.cellsOf k=0
  .simp only[s,if_true]at h;cases h
  simp only[s,if_false]at h⊢;cases A:Go.byteOfCell P P.depth k (j.off%P.cellsOf k)with
  |none=>simp only[A]at h;cases h
  |some b0=>
  simp only[A]at h⊢;cases E:Go.seenCells P c0 k (G+1) (j.off/P.cellsOf k*P.bytesOf k+b0+be) (j.off/P.cellsOf k*P.bytesOf k+b0+be+G)with
  |error _=>rw[E]at h;cases h
  |ok r=>
   rw[E]at h;rw[seen_cells y _ _ _ _ _ E];cases h;exact⟨rfl,rfl,D,g,rfl,y,rfl⟩
 |_=>simp only[i]at h;cases h
theorem runT_load (a)(w)(es){v}(h:w.cell? a=some v):(load a).runT P w es=(.ok v w,es.push ⟨.cell a,false,false⟩):=by
 unfold Go.load Sem.runT;rw[h];rfl
theorem ic (P)(a)(w)(es):(load a).runT P w es=match w.cell? a with
 |some v=>(.ok v w,es.push ⟨.cell a,false,false⟩)
 |none=>match World.farLoad P w a false with
  |.ok (v,b)=>(.ok v w,es++b.toArray.map (⟨.cell ·,false,false⟩))
  |.error h=>(.halt h w,es):=by
 unfold Go.load Sem.runT;rfl
theorem plain_like (c:j4 P):∀(d:Nat) (t:TypeId) (off:Nat) (a:Value),Go.plainCell P d t off=some a->(∃b,a=.bool b)\/∃k n,a=.int k n
 |0,_,_,_,h=>by unfold Go.plainCell at h;cases h
 |d+1,t,off,a,h=>by
  unfold Go.plainCell at h;split at h
  .obtain⟨f,_,hf⟩:=Array.exists_of_findSome?_eq_some h
   split at hf
   .exact plain_like c d _ _ _ hf
   .cases hf
  .simp only at h
   split at h
   .cases h
   .exact plain_like c d _ _ _ h
  .split at h<;>cases h
   exact .inl ⟨_,rfl⟩
  .split at h<;>cases h
   exact .inr ⟨_,_,rfl⟩
  .rename_i e;exact absurd e ((c t).1 _)
  .rename_i e;exact absurd e ((c t).2 _)
  .cases h
theorem ofBytes_same {old new:Value}{bs}(h:old.ofBytes bs=some new):((∃b,old=.bool b)/\∃b,new=.bool b)\/((∃k n,old=.int k n)/\∃k n,new=.int k n)\/(∃k b,old=.float k b)\/∃k a b,old=.complex k a b:=by
 cases old with
 |bool b=>
  simp only[Value.ofBytes]at h;split at h<;>cases h
  .exact .inl ⟨⟨_,rfl⟩,_,rfl⟩
  .exact .inl ⟨⟨_,rfl⟩,_,rfl⟩
 |int k n=>
  simp only[Value.ofBytes]at h;split at h<;>cases h
  exact .inr (.inl ⟨⟨_,_,rfl⟩,_,_,rfl⟩)
 |float k b=>exact .inr (.inr (.inl ⟨_,_,rfl⟩))
 |complex k a b=>exact .inr (.inr (.inr ⟨_,_,_,rfl⟩))
 |_=>cases h
theorem viewLoad_alike {w u}(A:Twin P Q){t}{m a2 a b}(z:AR p m a2)(C:a.off=b.off)(hs:a.spot=b.spot)
 (i:∀xs e f,w.heap[m.block]? =some (.cells xs e f)->∃ys g,u.heap[a2.block]? =some (.cells ys e g)/\aF (VR p) xs ys){v}{l}(h:World.viewLoad P w m t a false=.ok (v,l)):
 ∃l',World.viewLoad Q u a2 t b false=.ok (v,l')/\(∀x∈l',x.block=a2.block)/\VR p v v:=by
 unfold World.viewLoad at h⊢;cases q:World.seen P w m t a false with
 |error _=>rw[q]at h;cases h
 |ok r=>
  obtain⟨c,e,fr,first,B,cells⟩:=r;obtain⟨_,s,D,g,_,_,o⟩:=seen_alike A z C hs i q;have d:=plain_like A.noFloats _ _ _ _ s;rw[q]at h;rw[o];simp only[bind,Except.bind,pure,Except.pure]at h⊢;split at h;rotate_left
  .cases h
  rename_i v0 hb;cases h;refine⟨_,rfl,λx hx=>?_,?_⟩
  .obtain⟨y,_,rfl⟩:=List.mem_map.1 hx
   rfl
  .rcases ofBytes_same hb with⟨_,b,rfl⟩|⟨_,k,n,rfl⟩|⟨k,b,e⟩|⟨k,a,b,e⟩
   .exact VR.bool _
   .exact VR.int _ _
   .rcases d with⟨_,j⟩|⟨_,_,j⟩<;>rw[e]at j<;>cases j
   .rcases d with⟨_,j⟩|⟨_,_,j⟩<;>rw[e]at j<;>cases j
theorem WR.seenRows {G}{w u}(hw:WR G K p w u){c a2}(b:AR p c a2):∀xs e f,w.heap[c.block]? =some (.cells xs e f)->∃ys g,u.heap[a2.block]? =some (.cells ys e g)/\aF (VR p) xs ys:=by
 intro xs e f h;rcases hw.rows _ _ b.1 with⟨d,ys,k,f',g,a,j,i,_⟩|⟨_,_,_,a,_⟩|⟨_,_,_,a,_⟩
 .rw[a]at h;cases h;exact⟨_,_,j,i⟩
 .rw[a]at h;cases h
 .rw[a]at h;cases h
theorem farLoad_mild {G}{w u}(hw:WR G K p w u){a b}(d:AR p a b){h}(hf:World.farLoad P w a false=.error h):Mild h:=by
 rcases hw.rows _ _ d.1 with⟨xs,ys,e,f,g,c,_⟩|⟨_,_,_,c,_⟩|⟨k,a2,t,c,_⟩
 .simp only[World.farLoad,c,World.noCell]at hf;cases hf;trivial
 .simp only[World.farLoad,c,World.noCell]at hf;cases hf;trivial
 .simp only[World.farLoad,c]at hf
  cases i:World.viewLoad P w k t a false with
  |ok r=>rw[i]at hf;cases hf
  |error j=>rw[i]at hf;cases hf;trivial
theorem af.load {a b:Addr}(d:AR p a b):af P Q K p (load a) (load b) (λq v x=>VR q v x):=by
 intro G w u es fs hw C
 have m:Local P (Go.load a) w es:=by
  unfold Local;simp only[ic];have J:∀k,(ay w k).cell? a=w.cell? a:=λ_=>rfl
  have I:∀k,World.farLoad P (ay w k) a false=World.farLoad P w a false:=λ_=>rfl
  simp only[J,I];cases w.cell? a with
  |some v=>exact⟨ZL _,rfl,λk _=>rfl⟩
  |none=>cases World.farLoad P w a false with
   |error h=>exact⟨ZL _,rfl,λk _=>rfl⟩
   |ok r=>exact⟨ZL _,rfl,λk _=>rfl⟩
 refine⟨⟨λh w' B c=>?_,m⟩,λv w' B c=>?_⟩
 .rw[ic]at c
  cases j:w.cell? a with
  |some v'=>rw[j]at c;cases c
  |none=>
   rw[j]at c;simp only at c;cases hf:World.farLoad P w a false with
   |ok r=>rw[hf]at c;cases c
   |error H=>rw[hf]at c;cases c;exact farLoad_mild hw d hf
 .cases j:w.cell? a with
  |some v'=>
   rw[runT_load a w es j]at c;cases c;obtain⟨x,hx,c⟩:=hw.cell d j;refine⟨p,x,u,#[⟨.cell b,false,false⟩],?_,c,hw,C,dE.refl _ _ _,λe he=>?_⟩
   .rw[runT_load b u fs hx];rfl
   .obtain rfl:e=⟨.cell b,false,false⟩:=by simpa using he
    exact .inl ⟨b.block,a.block,.inr ⟨b,rfl,rfl⟩,d.1,rfl,λh=>by cases h⟩
  |none=>
   rw[ic,j]at c;simp only at c;cases hf:World.farLoad P w a false with
   |error H=>rw[hf]at c;cases c
   |ok r=>
    obtain⟨v0,l⟩:=r;rw[hf]at c;cases c;rcases hw.rows _ _ d.1 with⟨xs,ys,e,f,g,n,_⟩|⟨_,_,_,n,_⟩|⟨E,a2,t,n,D,i,_⟩
    .simp only[World.farLoad,n]at hf;cases hf
    .simp only[World.farLoad,n]at hf;cases hf
    .simp only[World.farLoad,n]at hf
     cases z:World.viewLoad P w E t a false with
     |error F=>rw[z]at hf;cases hf
     |ok r=>
      rw[z]at hf;cases hf;obtain⟨l',y,A,o⟩:=viewLoad_alike G i d.2.1 d.2.2 (hw.seenRows i) z;have s:u.cell? b=none:=(by simp only[World.cell?,D]);refine⟨p,v,u,l'.toArray.map (⟨.cell ·,false,false⟩),?_,o,hw,C,dE.refl _ _ _,λe he=>?_⟩
      .rw[ic,s]
       simp only[World.farLoad,D,y]
      .obtain⟨x,hx,rfl⟩:=Array.mem_map.1 he
       exact .inl ⟨a2.block,E.block,.inr ⟨x,rfl,A x (by simpa using hx)⟩,i.1,rfl,λh=>by cases h⟩
theorem WR.lt {G}{w u}(hw:WR G K p w u){b c}(h:p b c):b<w.heap.size/\c<u.heap.size:=by
 obtain⟨_,_,_,_,_,d,a,_⟩|⟨_,_,_,d,a,_⟩|⟨_,_,_,d,a,_⟩:=hw.rows b c h
 all_goals exact⟨(ZK.1 d).1,(ZK.1 a).1⟩
theorem WR.put {G}{w u}(hw:WR G K p w u){b c}(i:p b c)(v:¬K c){xs ys}{e}{f}(t:aF (VR p) xs ys){w' u'}(y:w'.heap[b]? =some (.cells xs e f))(x:u'.heap[c]? =some (.cells ys e f))
 (o:∀k,k≠b->w'.heap[k]? =w.heap[k]?)(n:∀k,k≠c->u'.heap[k]? =u.heap[k]?)(s1:w'.heap.size=w.heap.size)(s2:u'.heap.size=u.heap.size):WR G K p w' u':=by
 refine⟨hw.fit,λs q h=>?_,hw.kin,hw.low,by rw[s1,s2];exact hw.big⟩
 by_cases hb:s=b
 .subst hb
  obtain rfl:q=c:=(hw.fit _ _ _ _ h i).1 rfl;exact .inl ⟨xs,ys,e,f,f,y,x,t,λh=>absurd h v,λ_=>rfl⟩
 .have hc:q≠c:=λe=>hb ((hw.fit _ _ _ _ h i).2 e)
  rcases hw.rows s q h with⟨m,j,z,f',g',g,d,a⟩|⟨r,a2,l,g,d,a⟩|⟨r,a2,l,g,d,a⟩
  .exact .inl ⟨m,j,z,f',g',(o _ hb).trans g,(n _ hc).trans d,a⟩
  .exact .inr (.inl ⟨r,a2,l,(o _ hb).trans g,(n _ hc).trans d,a⟩)
  .exact .inr (.inr ⟨r,a2,l,(o _ hb).trans g,(n _ hc).trans d,a⟩)
theorem dE.put {b c}{u u'}(a:p b c)(j:¬K c)(g:u'.tape=u.tape)(i:u'.os=u.os)(hp:u'.output=u.output)(f:∀k,k≠c->u'.heap[k]? =u.heap[k]?)(s2:u'.heap.size=u.heap.size):dE K p p u u':=
 ⟨g,i,hp,Nat.le_of_eq s2.symm,λd _ h=>f d λe=>j (e▸h b (e▸a)),λ_ _ h n=>absurd h n,Ext.refl p⟩
theorem iV (P)(v)(w)(es)(d:∀cs,v≠.agg cs)(c:∀cs,v≠.tuple cs)(a):(Go.store a v).runT P w es=match w.cell? a with
 |some _=>if w.frozen? a then(.halt (.unsupported (.unsafePointer "a write to bytes that a string shares")) w,es)else(.ok () (w.setCell a v),es.push ⟨.cell a,true,false⟩)
 |none=>match World.farStore P w a v false with
  |.ok (w,b)=>(.ok () w,es++b.toArray.map (⟨.cell ·,true,false⟩))
  |.error h=>(.halt h w,es):=by
 unfold Go.store;cases v<;>first|exact absurd rfl (d _)|exact absurd rfl (c _)|rfl
def gN (fr:Nat×Nat)(first:Nat)(bytes:List UInt8)(c:Array Value)(x:Nat×Nat×List UInt8):Except String (Array Value):=
 if(decide (x.2.1<first)||decide (x.2.1+x.2.2.length>first+bytes.length))=true then .error "memory seen as another type: a part of a cell written"
 else if(decide (fr.1<=x.1)&&decide (x.1<fr.2))=true then .error "a write to bytes that a string shares"
 else match c[x.1]? with
    |some old=>match old.ofBytes (List.take x.2.2.length (List.drop (x.2.1-first) bytes))with
     |some new=>.ok (c.setIfInBounds x.1 new)
     |none=>.error "memory seen as another type: a bool from a byte other than 0 or 1"
    |none=>.error "memory seen as another type: no such cell"
theorem VR.ofBytes {old x new}(h:VR p old x){bs}(hb:old.ofBytes bs=some new):x.ofBytes bs=some new/\VR p new new:=by
 have:=h.cases;rcases ofBytes_same hb with⟨⟨b,rfl⟩,c,rfl⟩|⟨⟨k,n,rfl⟩,k',d,rfl⟩|⟨k,b,rfl⟩|⟨k,a,b,rfl⟩
 .cases x<;>first
   |exact this.elim
   |(obtain rfl:_=_:=this;exact⟨hb,VR.bool _⟩)
 .cases x<;>first
   |exact this.elim
   |(obtain⟨rfl,rfl⟩:=this;exact⟨hb,VR.int _ _⟩)
 .cases x<;>exact this.elim
 .cases x<;>exact this.elim
theorem pI {fr}{first}{bytes}:∀(l:List (Nat×Nat×List UInt8)) (c b d:Array Value),aF (VR p) c b->l.foldlM (gN fr first bytes) c=.ok d->∃d',l.foldlM (gN fr first bytes) b=.ok d'/\aF (VR p) d d'
 |[],c,b,d,h,hd=>by cases hd;exact⟨b,rfl,h⟩
 |x::l,c,b,d,h,hd=>by
  simp only[List.foldlM_cons,bind,Except.bind]at hd⊢;cases hs:gN fr first bytes c x with
  |error _=>rw[hs]at hd;cases hd
  |ok n=>
   rw[hs]at hd;simp only at hd
   obtain⟨a,z,y⟩:∃a,gN fr first bytes b x=.ok a/\aF (VR p) n a:=by
        unfold gN at hs⊢;split at hs
        .cases hs
        rename_i k1;rw[if_neg k1];split at hs
        .cases hs
        rename_i r;rw[if_neg r];split at hs;rotate_left
        .cases hs
        rename_i old k;obtain⟨j,e,v⟩:=h.at k;simp only[e];split at hs;rotate_left
        .cases hs
        rename_i new w;obtain⟨g,u⟩:=v.ofBytes w;simp only[g];cases hs
        exact⟨_,rfl,by simpa using h.1,λi s t hs f=>by
         by_cases m:i=x.1
         .subst m
          have q:=(ZK.1 k).1;have o:=(ZK.1 e).1;rw[Array.getElem?_setIfInBounds_self_of_lt q]at hs;rw[Array.getElem?_setIfInBounds_self_of_lt o]at f;cases hs;cases f;exact u
         .rw[Array.getElem?_setIfInBounds_ne (Ne.symm m)]at hs f
          exact h.2 i s t hs f⟩
   rw[z];exact pI l n a d y hd
theorem putStep_shut {fr}{first}{bytes}{l}{c d}(f:fr.1=0)(g:c.size<=fr.2)(hd:l.foldlM (gN fr first bytes) c=.ok d):l=[]/\d=c:=by
 cases l with
 |nil=>cases hd;exact⟨rfl,rfl⟩
 |cons x l=>
  exfalso;simp only[List.foldlM_cons,bind,Except.bind]at hd;unfold gN at hd;split at hd
  .cases hd
  rename_i k a;split at a
  .cases a
  split at a
  .cases a
  rename_i b;split at a;rotate_left
  .cases a
  rename_i old e;have:=(ZK.1 e).1;rw[f]at b;simp at b;omega
theorem fO (P)(w)(at_)(t)(k)(v):World.viewStore P w at_ t k v false=if(!Go.tight P P.depth t)=true then .error "memory seen as another type: a store through a type with padding" else
 (World.seen P w at_ t k false).bind λr=>match r with
  |(c,e,frozen,first,a,cells)=>match v.bytes? with
   |some bytes=>if some bytes.length≠Option.map (λx=>x.length) a.bytes? then .error "memory seen as another type: a value of another size" else
      (cells.foldlM (gN frozen first bytes) c).bind λc=>.ok ({w with heap:=w.heap.setIfInBounds at_.block (.cells c e frozen)},cells.map λx=>{block:=at_.block,off:=x.1})
   |none=>.error "memory seen as another type: a value that is no plain data" :=by
 unfold World.viewStore;simp only;split
 .rfl
 .show(World.seen P w at_ t k false).bind _=_
  congr 1
  funext r
  obtain⟨c,e,frozen,first,a,cells⟩:=r;simp only;cases v.bytes? with
  |none=>rfl
  |some bytes=>
   simp only;split
   .rfl
   .show Except.bind (List.foldlM _ c cells) _=Except.bind (List.foldlM _ c cells) _
    congr 2
    funext c x
    obtain⟨i,s,bs⟩:=x;unfold gN;simp only;split
    .rfl
    .split
     .rfl
     .cases c[i]? with
      |none=>rfl
      |some old=>
       simp only;cases old.ofBytes (List.take bs.length (List.drop (s-first) bytes))<;>rfl
theorem farStore_mild {G}{w u}(hw:WR G K p w u){a b}(d:AR p a b){v}{h}(hf:World.farStore P w a v false=.error h):Mild h:=by
 rcases hw.rows _ _ d.1 with⟨xs,ys,e,f,g,c,_⟩|⟨_,_,_,c,_⟩|⟨k,a2,t,c,_⟩
 .simp only[World.farStore,c,World.noCell]at hf;cases hf;trivial
 .simp only[World.farStore,c,World.noCell]at hf;cases hf;trivial
 .simp only[World.farStore,c]at hf
  cases i:World.viewStore P w k t a v false with
  |ok r=>rw[i]at hf;cases hf
  |error j=>rw[i]at hf;cases hf;trivial
theorem farStore_taped (P)(w)(T)(a)(v):World.farStore P (ay w T) a v false=match World.farStore P w a v false with
 |.ok (w',l)=>.ok (ay w' T,l)
 |.error h=>.error h:=by
 unfold World.farStore;have e:(ay w T).heap=w.heap:=rfl;rw[e];cases i:w.heap[a.block]? with
 |none=>rfl
 |some o=>
  cases o with
  |view at_ t=>
   simp only;rw[fO,fO];have g:World.seen P (ay w T) at_ t a false=World.seen P w at_ t a false:=rfl;rw[g]
   by_cases b:(!Go.tight P P.depth t)=true
   .rw[if_pos b,if_pos b]
   .rw[if_neg b,if_neg b]
    cases World.seen P w at_ t a false with
    |error _=>rfl
    |ok r=>
     obtain⟨c,e,fr,first,f,cells⟩:=r;simp only[Except.bind];cases v.bytes? with
     |none=>rfl
     |some bytes=>
      simp only
      by_cases d:some bytes.length≠Option.map (λx=>x.length) f.bytes?
      .rw[if_pos d,if_pos d]
      .rw[if_neg d,if_neg d]
       cases cells.foldlM (gN fr first bytes) c<;>rfl
  |_=>rfl
theorem af.store {a b:Addr}{v x:Value}(n:AR p a b)(W:VR p v x):af P Q K p (store a v) (store b x) (λ_ _ _=>True):=by
 classical
 intro tw w u es fs hw O
 by_cases V:∃cs,v=.agg cs
 .obtain⟨cs,rfl⟩:=V
  exact⟨⟨λhh w' J m=>by cases m;trivial,⟨ZL _,rfl,λM _=>rfl⟩⟩,λv' w' J m=>by cases m⟩
 by_cases U:∃cs,v=.tuple cs
 .obtain⟨cs,rfl⟩:=U
  exact⟨⟨λhh w' J m=>by cases m;trivial,⟨ZL _,rfl,λM _=>rfl⟩⟩,λv' w' J m=>by cases m⟩
 have V:∀cs,v≠.agg cs:=λcs h=>V ⟨cs,h⟩
 have U:∀cs,v≠.tuple cs:=λcs h=>U ⟨cs,h⟩
 have nb:∀cs,x≠.agg cs:=λcs h=>by
  subst h;have:=W.cases;cases v<;>first|exact this|exact V _ rfl|(exact Bool.noConfusion this)
 have nu:∀cs,x≠.tuple cs:=λcs h=>by
  subst h;have:=W.cases;cases v<;>first|exact this|exact U _ rfl|(exact Bool.noConfusion this)
 have G:=λw es=>iV P v w es V U a
 refine⟨⟨λhh w' J m=>?_,?_⟩,λv' w' J m=>?_⟩
 .rw[G]at m
  split at m
  .split at m<;>cases m
   trivial
  .cases hf:World.farStore P w a v false with
   |ok r=>rw[hf]at m;cases m
   |error h'=>rw[hf]at m;cases m;exact farStore_mild hw n hf
 .unfold Local
  simp only[G];have e:∀M,(ay w M).cell? a=w.cell? a:=λ_=>rfl
  have e2:∀M,(ay w M).frozen? a=w.frozen? a:=λ_=>rfl
  simp only[e,e2,farStore_taped];cases W:w.cell? a with
  |some y=>
   simp only;split
   .exact⟨ZL _,rfl,λM _=>rfl⟩
   .exact⟨ZL _,rfl,λM _=>rfl⟩
  |none=>
   simp only;cases hf:World.farStore P w a v false with
   |error h=>exact⟨ZL _,rfl,λM _=>rfl⟩
   |ok r=>
    obtain⟨w1,l⟩:=r
    have:w1.drawn=w.drawn/\w1.tape=w.tape:=by
     unfold World.farStore at hf
     revert hf
     cases ho:w.heap[a.block]? with
     |none=>intro hf;cases hf
     |some o=>
      cases o with
      |view at_ t=>
       simp only;rw[fO]
       by_cases A:(!Go.tight P P.depth t)=true
       .rw[if_pos A];intro hf;cases hf
       .rw[if_neg A]
        cases World.seen P w at_ t a false with
        |error _=>intro hf;cases hf
        |ok r=>
         obtain⟨c,e,fr,first,E,cells⟩:=r;simp only[Except.bind];cases v.bytes? with
         |none=>intro hf;cases hf
         |some bytes=>
          simp only
          by_cases B:some bytes.length≠Option.map (λx=>x.length) E.bytes?
          .rw[if_pos B];intro hf;cases hf
          .rw[if_neg B]
           cases cells.foldlM (gN fr first bytes) c with
           |error _=>intro hf;cases hf
           |ok d=>intro hf;cases hf;exact⟨rfl,rfl⟩
      |_=>intro hf;cases hf
    refine⟨?_,this.2,λM _=>rfl⟩;show w.drawn<=w1.drawn
    rw[this.1];exact ZL _
 rw[G]at m;cases hc:w.cell? a with
 |some y=>
  rw[hc]at m;simp only at m;cases hf:w.frozen? a with
  |true=>rw[hf]at m;cases m
  |false=>
   rw[hf]at m;cases m;obtain⟨xs,ys,e,f,g,C,S,h3,h4,h5⟩|⟨a1,a2,l,C,_⟩|⟨a1,a2,l,C,_⟩:=hw.rows _ _ n.1
   rotate_left
   .simp only[World.cell?,C]at hc;cases hc
   .simp only[World.cell?,C]at hc;cases hc
   have F:a.spot=none:=World.cell?_spot hc
   have R:a.off<xs.size:=by
        simp only[World.cell?,C]at hc;split at hc
        .cases hc
        .exact(ZK.1 hc).1
   have L:¬K b.block:=λq=>by
        have:=h4 q;simp only[World.frozen?,C]at hf;obtain⟨f1,f2⟩:=f;simp only at this hf;obtain⟨rfl,h6,_⟩:=this;simp at hf;omega
   obtain rfl:=h5 L;obtain⟨z,hz,_⟩:=hw.cell n hc
   have ε:u.frozen? b=false:=by
        simp only[World.frozen?,C]at hf;simp only[World.frozen?,S,<-n.2.1];exact hf
   have ι:b.spot=none:=n.2.2▸F
   have e1:(w.setCell a v).heap[a.block]? =some (.cells (xs.setIfInBounds a.off v) e f):=by
        simp only[World.setCell,Array.getElem?_modify,C,Option.map_some,if_true,F];rfl
   have e2:(u.setCell b x).heap[b.block]? =some (.cells (ys.setIfInBounds b.off x) e f):=by
        simp only[World.setCell,Array.getElem?_modify,S,Option.map_some,if_true,ι];rfl
   have T:∀k,k≠a.block->(w.setCell a v).heap[k]? =w.heap[k]?:=λk q=>by simp[World.setCell,Array.getElem?_modify,Ne.symm q]
   have o2:∀k,k≠b.block->(u.setCell b x).heap[k]? =u.heap[k]?:=λk q=>by simp[World.setCell,Array.getElem?_modify,Ne.symm q]
   have γ:aF (VR p) (xs.setIfInBounds a.off v) (ys.setIfInBounds b.off x):=⟨by simp[h3.1],λi s t hs O=>by
        by_cases hi:i=a.off
        .subst hi
         have α:b.off<ys.size:=(by rw[<-n.2.1,<-h3.1];exact R);rw[Array.getElem?_setIfInBounds_self_of_lt R]at hs;rw[n.2.1,Array.getElem?_setIfInBounds_self_of_lt α]at O;cases hs;cases O;exact W
        .rw[Array.getElem?_setIfInBounds_ne (Ne.symm hi)]at hs
         rw[Array.getElem?_setIfInBounds_ne (by rw[<-n.2.1];exact Ne.symm hi)]at O;exact h3.2 i s t hs O⟩
   refine⟨p,(),u.setCell b x,#[⟨.cell b,true,false⟩],?_,trivial,hw.put n.1 L γ e1 e2 T o2 (by simp[World.setCell]) (by simp[World.setCell]),O,dE.put n.1 L rfl rfl rfl o2 (by simp[World.setCell]),λe he=>?_⟩
   .rw[iV Q x u fs nb nu b,hz]
    simp only[ε];rfl
   .obtain rfl:e=⟨.cell b,true,false⟩:=by simpa using he
    exact .inl ⟨b.block,a.block,.inr ⟨b,rfl,rfl⟩,n.1,rfl,λ_=>L⟩
 |none=>
  rw[hc]at m;simp only at m;cases hf:World.farStore P w a v false with
  |error h'=>rw[hf]at m;cases m
  |ok r=>
   obtain⟨w1,l⟩:=r;rw[hf]at m;cases m;rcases hw.rows _ _ n.1 with⟨xs,ys,e,f,g,C,_⟩|⟨_,_,_,C,_⟩|⟨a1,a2,t,C,S,D,_⟩
   .simp only[World.farStore,C]at hf;cases hf
   .simp only[World.farStore,C]at hf;cases hf
   .simp only[World.farStore,C,fO]at hf
    by_cases A:(!Go.tight P P.depth t)=true
    .rw[if_pos A]at hf;cases hf
    rw[if_neg A]at hf;cases hq:World.seen P w a1 t a false with
    |error κ=>rw[hq]at hf;cases hf
    |ok r=>
     obtain⟨c,e,fr,first,E,cells⟩:=r;obtain⟨I,μ,c',ν,H,θ,Y⟩:=seen_alike tw D n.2.1 n.2.2 (hw.seenRows D) hq;rw[hq]at hf;simp only[Except.bind]at hf;cases hb:v.bytes? with
     |none=>rw[hb]at hf;cases hf
     |some bytes=>
      obtain rfl:=W.bytes hb;rw[hb]at hf;simp only at hf
      by_cases B:some bytes.length≠Option.map (λx=>x.length) E.bytes?
      .rw[if_pos B]at hf;cases hf
      rw[if_neg B]at hf;cases hd:cells.foldlM (gN fr first bytes) c with
      |error _=>rw[hd]at hf;cases hf
      |ok d=>
       rw[hd]at hf;cases hf;have X:u.cell? b=none:=(by simp only[World.cell?,S]);obtain⟨xs,ys,e',f,g,N,r2,r3,r4,r5⟩|⟨_,_,_,N,_⟩|⟨_,_,_,N,_⟩:=hw.rows _ _ D.1
       rotate_left
       .rw[I]at N;cases N
       .rw[I]at N;cases N
       rw[I]at N;rw[H]at r2;cases N;cases r2
       by_cases q:K a2.block
       .obtain⟨rfl,rfl⟩:=putStep_shut (r4 q).1 (r4 q).2.1 hd
        have ew:∀{w:World} {i:Nat} {o:Obj},w.heap[i]? =some o->({w with heap:=w.heap.setIfInBounds i o}:World)=w:=fun{w i o} h=>by
             have:w.heap.setIfInBounds i o=w.heap:=Array.ext (by simp) λj C S=>by
              obtain⟨hi,δ⟩:=ZK.1 h
              by_cases Z:i=j
              .subst Z;simp[δ]
              .rw[Array.getElem_setIfInBounds_ne _ Z]
             rw[this]
        rw[ew I];refine⟨p,(),u,#[],?_,trivial,hw,O,dE.refl _ _ _,λe he=>by simp at he⟩;rw[iV Q _ u fs nb nu b,X];have e0:(Pure.pure c':Except String (Array Value))=.ok c':=rfl;simp only[World.farStore,S,fO,tw.tight,if_neg A,Y,Except.bind,hb,if_neg B,List.foldlM_nil,e0,ew H];simp
       .obtain rfl:=r5 q
        obtain⟨d',η,ζ⟩:=pI _ _ _ _ θ hd;have T:∀(w:World) (i k:Nat) (o:Obj),k≠i->({w with heap:=w.heap.setIfInBounds i o}:World).heap[k]? =w.heap[k]?:=λw i k o q=>Array.getElem?_setIfInBounds_ne (Ne.symm q)
        have l1:=(ZK.1 I).1;have l2:=(ZK.1 H).1;refine⟨p,(),{u with heap:=u.heap.setIfInBounds a2.block (.cells d' e fr)},(cells.map λx=>({block:=a2.block,off:=x.1}:Addr)).toArray.map (⟨.cell ·,true,false⟩),?_,trivial,hw.put D.1 q ζ (Array.getElem?_setIfInBounds_self_of_lt l1) (Array.getElem?_setIfInBounds_self_of_lt l2) (λk q=>T w _ k _ q) (λk q=>T u _ k _ q) (by simp) (by simp),O,dE.put D.1 q rfl rfl rfl (λk q=>T u _ k _ q) (by simp),λev he=>?_⟩
        .rw[iV Q _ u fs nb nu b,X]
         simp only[World.farStore,S,fO,tw.tight,if_neg A,Y,Except.bind,hb,if_neg B,η]
        .obtain⟨y,hy,rfl⟩:=Array.mem_map.1 he
         have β:y∈cells.map λx=>({block:=a2.block,off:=x.1}:Addr):=by simpa using hy
         obtain⟨z,_,rfl⟩:=List.mem_map.1 β;exact .inl ⟨a2.block,a1.block,.inr ⟨_,rfl,rfl⟩,D.1,rfl,λ_=>q⟩
theorem af.newMate {o n}(h:∀(q:Rel st) (w u:World),Ext p q->¬K u.heap.size->q w.heap.size u.heap.size->Mate K q {w with heap:=w.heap.push o} {u with heap:=u.heap.push n} w.heap.size u.heap.size):af P Q K p (newObj o) (newObj n) (λq r s=>q r s/\¬K s):=by
 classical
 intro O w u es fs hw J;refine⟨⟨λh w' C t=>(by cases t),⟨ZL _,rfl,λT _=>rfl⟩⟩,λr w' C t=>?_⟩;have H:∀(P:Program) (o:Obj) (w:World) (es:Array Event),(newObj o).runT P w es=(.ok w.heap.size {w with heap:=w.heap.push o},es):=λ_ _ _ _=>rfl
 rw[H]at t;cases t;have m:Ext p (λb c=>p b c\/(b=w.heap.size/\c=u.heap.size)):=λ_ _ h=>.inl h
 have G:¬K u.heap.size:=λM=>by have:=(hw.lt (hw.kin _ M)).2;omega
 refine⟨λb c=>p b c\/(b=w.heap.size/\c=u.heap.size),u.heap.size,{u with heap:=u.heap.push n},#[],?_,⟨.inr ⟨rfl,rfl⟩,G⟩,⟨λb c S R x v=>?_,λb c a=>?_,λc hc=>.inl (hw.kin c hc),λb c a B=>?_,by simp;have:=hw.big;omega⟩,J,⟨rfl,rfl,rfl,by simp,λc hc _=>by simp[Array.getElem?_push];omega,λb c A L=>?_,m⟩,λe he=>by simp at he⟩
 .rw[H,Array.append_empty]
 .rcases x with x|⟨rfl,rfl⟩<;>rcases v with v|⟨rfl,rfl⟩
  .exact hw.fit _ _ _ _ x v
  .have:=hw.lt x;omega
  .have:=hw.lt v;omega
  .simp
 .rcases a with a|⟨rfl,rfl⟩
  .have l:=hw.lt a
   have E:({w with heap:=w.heap.push o}:World).heap[b]? =w.heap[b]?:=(by simp[Array.getElem?_push];omega);have D:({u with heap:=u.heap.push n}:World).heap[c]? =u.heap[c]?:=(by simp[Array.getElem?_push];omega);obtain⟨z,y,N,f,g,k,j,d,i,I⟩|⟨F,a2,l,k,j,d,i⟩|⟨F,a2,l,k,j,d,i⟩:=hw.rows b c a
   .exact .inl ⟨z,y,N,f,g,E.trans k,D.trans j,d.mono λ_ _ h=>h.mono m,i,I⟩
   .exact .inr (.inl ⟨F,a2,l,E.trans k,D.trans j,⟨m _ _ d.1,d.2⟩,i⟩)
   .exact .inr (.inr ⟨F,a2,l,E.trans k,D.trans j,⟨m _ _ d.1,d.2⟩,i⟩)
  .exact h _ w u m G (.inr ⟨rfl,rfl⟩)
 .rcases a with a|⟨rfl,rfl⟩
  .exact hw.low b c a B
  .exact hw.big
 .rcases A with A|⟨_,rfl⟩
  .exact absurd A L
  .exact ZL _
theorem af.newRow {xs ys}(e)(h:aF (VR p) xs ys):af P Q K p (newObj (.cells xs e)) (newObj (.cells ys e)) (λq r s=>q r s/\¬K s):=
 af.newMate λq w u b a _=>.inl ⟨xs,ys,e,(0,0),(0,0),by simp,by simp,h.mono λ_ _ h=>h.mono b,λc=>absurd c a,λ_=>rfl⟩
theorem af.newNumber {a b}(l)(h:AR p a b):af P Q K p (newObj (.number a l)) (newObj (.number b l)) (λq r s=>q r s/\¬K s):=
 af.newMate λq w u d c _=>.inr (.inl ⟨a,b,l,by simp,by simp,⟨d _ _ h.1,h.2⟩,c⟩)
theorem af.newView {a b}(t)(h:AR p a b):af P Q K p (newObj (.view a t)) (newObj (.view b t)) (λq r s=>q r s/\¬K s):=
 af.newMate λq w u d c _=>.inr (.inr ⟨a,b,t,by simp,by simp,⟨d _ _ h.1,h.2⟩,c⟩)
theorem af.shape {r s:Nat}(h:p r s):af P Q K p (shape r) (shape s) (λ_ a b=>a=b):=by
 intro n w u es fs hw l;refine⟨⟨λh w' j i=>(by cases i),⟨ZL _,rfl,λo _=>rfl⟩⟩,λa w' j i=>?_⟩;have k:∀(P:Program) (r:Nat) (w:World) (es:Array Event),(Go.shape r).runT P w es=(.ok (w.shape? r) w,es):=λ_ _ _ _=>rfl
 rw[k]at i;cases i;refine⟨p,u.shape? s,u,#[],by rw[k,Array.append_empty],?_,hw,l,dE.refl _ _ _,λe he=>by simp at he⟩;obtain⟨xs,ys,e,f,g,d,c,m,_⟩|⟨_,_,_,d,c,_⟩|⟨_,_,_,d,c,_⟩:=hw.rows r s h
 .simp[World.shape?,d,c,m.1]
 .simp[World.shape?,d,c]
 .simp[World.shape?,d,c]
theorem af.mark (m:Mark)(hm:QMark m):af P Q K p (mark m) (mark m) (λ_ _ _=>True):=by
 intro g w u es fs hw f;refine⟨⟨λh w' c b=>(by cases b),⟨ZL _,rfl,λi _=>rfl⟩⟩,λa w' c b=>?_⟩;have d:∀(P:Program) (w:World) (es:Array Event),(Go.mark m).runT P w es=(.ok () w,es.push ⟨.mark m,false,true⟩):=λ_ _ _=>rfl
 rw[d]at b;cases b;exact⟨p,(),u,#[⟨.mark m,false,true⟩],by rw[d];rfl,trivial,hw,f,dE.refl _ _ _,λe he=>.inr ⟨m,hm,by simpa using he⟩⟩
theorem af.noRoom:af P Q K p (Go.mark .noRoom) (Go.mark .noRoom) (λ_ _ _=>True):=af.mark _ trivial
end
end
