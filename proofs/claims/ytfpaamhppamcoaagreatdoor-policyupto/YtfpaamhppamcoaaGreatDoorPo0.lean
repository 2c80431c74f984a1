/- Part 0 of the proof. -/
import Derived.Conc.Events
import Derived.DataReads
import Derived.Laws.Entries
set_option linter.all false
set_option maxHeartbeats 60000000
namespace Go.Proofs.YtfpaamhppamcoaaGreatDoor
abbrev ZK:=@Array.getElem?_eq_some_iff
abbrev ZL:=@Nat.le_refl
abbrev ZM:=@Array.getElem?_eq_getElem
abbrev ZN:=@List.setIfInBounds_toArray
abbrev ZO:=@Nat.lt_of_lt_of_le
abbrev ZP:=@Nat.le_trans
abbrev ZQ:=@Bool.and_eq_true
abbrev ZR:=@List.set_cons_zero
abbrev ZS:=@List.set_cons_succ
abbrev ZT:=@List.getElem?_eq_getElem
abbrev ZU:=@List.all_eq_true
abbrev ZV:=@Nat.not_lt_zero
abbrev ZW:=@List.mem_cons
abbrev ZX:=@List.mem_cons_self
abbrev acV:=@Array.getElem?_setIfInBounds_self_of_lt
abbrev ZY:=@Array.getD_eq_getD_getElem?
abbrev ZZ:=@List.getElem?_eq_some_iff
abbrev Z0:=@Bool.false_eq_true
abbrev Z4:=@Nat.lt_succ_self
abbrev aby:=@Nat.lt_irrefl
abbrev abz:=@List.mem_append
abbrev Z5:=@List.getElem?_take
abbrev Z6:=@List.range_succ
abbrev Z7:=@List.length_append
abbrev Z8:=@Nat.zero_add
abbrev acW:=@Nat.add_sub_cancel
abbrev Z9:=@List.mem_range
abbrev acX:=@Int.toNat_natCast
abbrev acY:=@List.getElem_mem
abbrev acZ:=@beq_eq_false_iff_ne
abbrev ac0:=@List.cons.injEq
abbrev ac1:=@List.mem_cons_of_mem
abbrev ac2:=@Option.some.injEq
abbrev ac3:=@Array.getElem?_push
abbrev ac4:=@Array.append_empty
abbrev ac5:=@Array.mem_of_getElem?
abbrev ac6:=@Array.getElem?_map
abbrev ac7:=@Nat.lt_succ_iff_lt_or_eq
abbrev ac8:=@List.getElem?_set_ne
abbrev ac9:=@Option.getD_some
abbrev ada:=@Nat.add_sub_cancel_left
abbrev adb:=@Array.all_eq_true'
abbrev ade:=@Array.getElem?_setIfInBounds_ne
abbrev adf:=@Option.map_eq_some_iff
abbrev adg:=@decide_eq_false
abbrev adh:=@List.length_take
abbrev adi:=@List.mem_singleton
abbrev adj:=@of_decide_eq_true
abbrev adk:=@List.pairwise_iff_getElem
abbrev adl:=@Nat.zero_le
abbrev adm:=@List.not_mem_nil
abbrev adn:=@Option.some.inj
abbrev ado:=@List.mem_iff_getElem
abbrev adp:=@List.mem_filter
abbrev adq:=@List.take_add_one
abbrev adr:=@List.map_cons
abbrev ads:=@Option.map_some
abbrev adt:=@List.length_cons
abbrev adu:=@List.append_assoc
abbrev adv:=@List.mem_of_elem_eq_true
abbrev adw:=@List.append_cancel_right
abbrev adx:=@List.Pairwise.filter
abbrev ady:=@decide_eq_true
abbrev adz:=@List.mem_map
abbrev adA:=@List.mem_toArray
abbrev adB:=@Bool.or_eq_true
abbrev adC:=@Array.size_push
abbrev adD:=@List.find?_some
abbrev adF:=@Array.getElem?_toList
abbrev adG:=@Array.length_toList
abbrev adH:=@List.length_map
abbrev adI:=@List.length_range
section
open Go
def Rel (_:Prop):Type:=Nat->Nat->Prop
variable {st:Prop}
def dS:List Nat:=[77,128,80,134,83,135,136,169,170]
def Ju:Fn->Prop
 |.func f=>f∈dS
 |_=>False
def aF (r:Value->Value->Prop)(a b:Array Value):Prop:=a.size=b.size/\∀(i:Nat) (x y:Value),a[i]? =some x->b[i]? =some y->r x y
def AR (p:Rel st)(a b:Addr):Prop:=p a.block b.block/\a.off=b.off/\a.spot=b.spot
def OA (p:Rel st):Option Addr->Option Addr->Prop
 |none,none=>True
 |some a,some b=>AR p a b
 |_,_=>False
def SA (p:Rel st)(l c:Nat):Option Addr->Option Addr->Prop
 |none,none=>True
 |some a,some b=>AR p a b\/((l=0/\c=0)/\st)
 |_,_=>False
def iT:List Nat:=[31,37,47]
def bP:TypeId:=244
def sU:List Nat:=[9,195,345,326]
def sO (t:TypeId):Bool:=sU.contains t
def KW {t}(h:sO t=true):iT.contains t=false/\(t==bP)=false:=by
 have key:∀t∈sU,iT.contains t=false/\(t==bP)=false:=by decide
 exact key t (by simpa[sO] using h)
def QW:Value->Bool
 |.float _ _|.complex _ _ _|.map _|.chan _|.iface _ _|.func _ _ _|.pointer _|.slice _ _ _|.nilFunc|.int .u8 _|.string _=>true
 |_=>false
def Ae:Value->Prop
 |.int .u8 _=>False
 |_=>True
def vE (p:Rel st):Nat->Value->Value->Prop
 |0,_,_=>False
 |n+1,v,u=>match v,u with
  |.bool a,.bool b=>a=b
  |.int k a,.int k' b=>k=k'/\a=b
  |.string a,.string b=>a=b
  |.pointer a,.pointer b=>OA p a b
  |.slice a l c,.slice b l' g=>SA p l c a b/\l=l'/\c=g
  |.func f x c,.func f' y d=>(f=f'/\Ju f)/\aF (vE p n) x y/\aF (vE p n) c d
  |.nilFunc,b=>QW b=true
  |.nilIface,.nilIface=>True
  |.iface t a,.iface e b=>t=e/\((sO t=true/\vE p n a b)\/(t=bP/\a=b))
  |.agg a,.agg b=>aF (vE p n) a b
  |.tuple a,.tuple b=>aF (vE p n) a b
  |_,_=>False
def VR (p:Rel st)(v u:Value):Prop:=∃n,vE p n v u
def VR.gU {p:Rel st}{u}(h:QW u=true):VR p .nilFunc u:=⟨1,h⟩
def aF.mono {r s}{a b}(h:aF r a b)(c:∀x y,r x y->s x y):aF s a b:=⟨h.1,λi x y hx hy=>c _ _ (h.2 i x y hx hy)⟩
def OA.mono {p q:Rel st}(hp:∀b c,p b c->q b c){a b}(h:OA p a b):OA q a b:=by
 cases a<;>cases b<;>first|exact h|exact⟨hp _ _ h.1,h.2⟩
def SA.mono {p q:Rel st}(hp:∀b c,p b c->q b c){l c}{a b}(h:SA p l c a b):SA q l c a b:=by
 cases a<;>cases b<;>first|exact h|exact h.imp (λh=>⟨hp _ _ h.1,h.2⟩) id
def OA.sa {p:Rel st}{a b}(h:OA p a b)(l c):SA p l c a b:=by
 cases a<;>cases b<;>first|exact h|exact .inl h
def SA.aV {p:Rel st}{l c}{b}(h:SA p l c none b):b=none:=by
 cases b<;>first|rfl|exact h.elim
def SA.aO {p:Rel st}{l c}{a}{b}(h:SA p l c (some a) b):∃x,b=some x/\(AR p a x\/((l=0/\c=0)/\st)):=by
 cases b<;>first|exact h.elim|exact⟨_,rfl,h⟩
def vE.up {p:Rel st}:∀{n:Nat} {v u:Value},vE p n v u->vE p (n+1) v u
 |0,_,_,h=>h.elim
 |n+1,v,u,h=>by
  have a:∀{v u:Value},vE p n v u->vE p (n+1) v u:=λh=>vE.up h
  cases v<;>cases u<;>first
   |exact h
   |exact⟨h.1,h.2.1.mono λ_ _=>a,h.2.2.mono λ_ _=>a⟩
   |exact⟨h.1,h.2.imp (λk=>⟨k.1,a k.2⟩) id⟩
   |exact aF.mono h λ_ _=>a
def vE.le {p:Rel st}{n m}{v u}(h:vE p n v u)(hm:n<=m):vE p m v u:=by
 induction hm with
 |refl=>exact h
 |step _ a=>exact a.up
def vE.mono {p q:Rel st}(hp:∀b c,p b c->q b c):∀{n:Nat} {v u:Value},vE p n v u->vE q n v u
 |0,_,_,h=>h.elim
 |n+1,v,u,h=>by
  have a:∀{v u:Value},vE p n v u->vE q n v u:=λh=>vE.mono hp h
  cases v<;>cases u<;>first
   |exact h
   |exact OA.mono hp h
   |exact⟨SA.mono hp h.1,h.2⟩
   |exact⟨h.1,h.2.1.mono λ_ _=>a,h.2.2.mono λ_ _=>a⟩
   |exact⟨h.1,h.2.imp (λk=>⟨k.1,a k.2⟩) id⟩
   |exact aF.mono h λ_ _=>a
def VR.mono {p q:Rel st}(hp:∀b c,p b c->q b c){v u}(h:VR p v u):VR q v u:=let ⟨n,a⟩:=h;⟨n,a.mono hp⟩
def mG {p:Rel st}{a b}(h:aF (VR p) a b):∃n,aF (vE p n) a b:=by
 have:∀k,∃n,∀(i:Nat) (x y:Value),i<k->a[i]? =some x->b[i]? =some y->vE p n x y:=by
  intro k
  induction k with
  |zero=>exact⟨0,λi x y c=>absurd c (ZV _)⟩
  |succ k g=>
   obtain⟨n,e⟩:=g
   by_cases f:k<a.size
   .have d:k<b.size:=h.1▸f
    obtain⟨m,hm⟩:=h.2 k a[k] b[k] (ZM f) (ZM d);refine⟨max n m,λi x y c hx hy=>?_⟩;rcases ac7.1 c with c|rfl
    .exact(e i x y c hx hy).le (Nat.le_max_left _ _)
    .rw[ZM f]at hx
     rw[ZM d]at hy;cases hx;cases hy;exact hm.le (Nat.le_max_right _ _)
   .refine⟨n,λi x y c hx hy=>e i x y ?_ hx hy⟩
    have:=(ZK.1 hx).1;omega
 obtain⟨n,e⟩:=this a.size;exact⟨n,h.1,λi x y hx hy=>e i x y (ZK.1 hx).1 hx hy⟩
section
variable {p:Rel st}
def VR.int (k)(n):VR p (.int k n) (.int k n):=⟨1,rfl,rfl⟩
def VR.bool (b):VR p (.bool b) (.bool b):=⟨1,rfl⟩
def VR.string (s):VR p (.string s) (.string s):=⟨1,rfl⟩
def VR.ptr {a b}(h:OA p a b):VR p (.pointer a) (.pointer b):=⟨1,h⟩
def VR.slice {a b}{l c}(h:OA p a b):VR p (.slice a l c) (.slice b l c):=⟨1,h.sa _ _,rfl,rfl⟩
def VR.kJ {a b}{l c}(h:SA p l c a b):VR p (.slice a l c) (.slice b l c):=⟨1,h,rfl,rfl⟩
def VR.agg {a b}(h:aF (VR p) a b):VR p (.agg a) (.agg b):=let ⟨n,c⟩:=mG h;⟨n+1,c⟩
def VR.tuple {a b}(h:aF (VR p) a b):VR p (.tuple a) (.tuple b):=let ⟨n,c⟩:=mG h;⟨n+1,c⟩
def VR.func {f}{a b c d}(hf:Ju f)(h:aF (VR p) a b)(k:aF (VR p) c d):VR p (.func f a c) (.func f b d):=by
 obtain⟨n,e⟩:=mG h;obtain⟨m,hm⟩:=mG k;exact⟨max n m+1,⟨rfl,hf⟩,e.mono λ_ _ h=>h.le (Nat.le_max_left _ _),hm.mono λ_ _ h=>h.le (Nat.le_max_right _ _)⟩
def VR.iface {t}{a b}(c:sO t=true)(h:VR p a b):VR p (.iface t a) (.iface t b):=let ⟨n,d⟩:=h;⟨n+1,rfl,.inl ⟨c,d⟩⟩
def VR.Tj (a):VR p (.iface bP a) (.iface bP a):=⟨1,rfl,.inr ⟨rfl,rfl⟩⟩
def VR.nilIface:VR p .nilIface .nilIface:=⟨1,trivial⟩
def VR.undef:VR p undef undef:=VR.tuple ⟨rfl,λi x y hx _=>by simp at hx⟩
def VR.cases {v u}(h:VR p v u):match v,u with
 |.bool a,.bool b=>a=b
 |.int k a,.int k' b=>k=k'/\a=b
 |.string a,.string b=>a=b
 |.pointer a,.pointer b=>OA p a b
 |.slice a l c,.slice b l' i=>SA p l c a b/\l=l'/\c=i
 |.func f x c,.func f' y d=>(f=f'/\Ju f)/\aF (VR p) x y/\aF (VR p) c d
 |.nilFunc,b=>QW b=true
 |.nilIface,.nilIface=>True
 |.iface t a,.iface g b=>t=g/\((sO t=true/\VR p a b)\/(t=bP/\a=b))
 |.agg a,.agg b=>aF (VR p) a b
 |.tuple a,.tuple b=>aF (VR p) a b
 |_,_=>False:=by
 obtain⟨n,e⟩:=h;cases n with
 |zero=>exact e.elim
 |succ n=>
  cases v<;>cases u<;>first
   |exact e
   |exact⟨e.1,e.2.1.mono λ_ _ h=>⟨n,h⟩,e.2.2.mono λ_ _ h=>⟨n,h⟩⟩
   |exact⟨e.1,e.2.imp (λk=>⟨k.1,n,k.2⟩) id⟩
   |exact aF.mono e λ_ _ h=>⟨n,h⟩
   |(rename_i a b;cases a<;>cases b<;>first|exact e|exact(e:False).elim)
end
variable {st:Prop}
def Ext (p q:Rel st):Prop:=∀b c,p b c->q b c
def Ext.refl (p:Rel st):Ext p p:=λ_ _ h=>h
def Ext.trans {p q r:Rel st}(h:Ext p q)(k:Ext q r):Ext p r:=λb c x=>k b c (h b c x)
def Qn (K:Nat->Prop)(p:Rel st)(w u:World)(b c:Nat):Prop:=
 (∃xs ys e f g,w.heap[b]? =some (.cells xs e f)/\u.heap[c]? =some (.cells ys e g)/\aF (VR p) xs ys/\(K c->f.1=0/\xs.size<=f.2/\g.2<=f.2/\∀(i:Nat) v,xs[i]? =some v->Ae v)/\(¬K c->f=g))\/
 (∃a a' l,w.heap[b]? =some (.number a l)/\u.heap[c]? =some (.number a' l)/\AR p a a'/\¬K c)\/
 (∃a a' t,w.heap[b]? =some (.view a t)/\u.heap[c]? =some (.view a' t)/\AR p a a'/\¬K c)
structure WR (G:Nat)(K:Nat->Prop)(p:Rel st)(w u:World):Prop where
 fit:∀b c b' c',p b c->p b' c'->(b=b'↔c=c')
 rows:∀b c,p b c->Qn K p w u b c
 qp:∀c,K c->p c c
 low:∀b c,p b c->b≠c->G<=b/\G<=c
 BB:G<=w.heap.size/\G<=u.heap.size
def TR (w u:World):Prop:=∀i q,w.tape (w.drawn+i) q=u.tape (u.drawn+i) q
structure dE (K:Nat->Prop)(p q:Rel st)(u u':World):Prop where
 tape:u'.tape=u.tape
 os:u'.os=u.os
 output:u'.output=u.output
 size:u.heap.size<=u'.heap.size
 keep:∀c,c<u.heap.size->(∀b,p b c->K c)->u'.heap[c]? =u.heap[c]?
 fresh:∀b c,q b c->¬p b c->u.heap.size<=c
 ext:Ext p q
def Oo:Mark->Prop
 |.noRoom|.extern _=>True
 |_=>False
def vG (K:Nat->Prop)(p:Rel st)(e:Event):Prop:=
 (∃c b,(e.loc=.obj c\/∃a,e.loc=.cell a/\a.block=c)/\p b c/\e.sync=false/\(e.write=true->¬K c))\/∃m,Oo m/\e=⟨.mark m,false,true⟩
def vG.mono {K}{p q:Rel st}(h:Ext p q){e}(he:vG K p e):vG K q e:=by
 rcases he with⟨a,b,f,d,c⟩|g
 .exact .inl ⟨a,b,f,h _ _ d,c⟩
 .exact .inr g
def dE.refl (K)(p:Rel st)(u):dE K p p u u:=⟨rfl,rfl,rfl,ZL _,λ_ _ _=>rfl,λ_ _ h n=>absurd h n,Ext.refl p⟩
def dE.trans {K}{p q r:Rel st}{u u' a}(h:dE K p q u u')(k:dE K q r u' a):dE K p r u a:=by
 classical
 refine⟨k.tape.trans h.tape,k.os.trans h.os,k.output.trans h.output,ZP h.size k.size,λc hc hp=>?_,λb c f g=>?_,h.ext.trans k.ext⟩
 .refine(k.keep c (ZO hc h.size) λb hb=>?_).trans (h.keep c hc hp)
  by_cases d:p b c
  .exact hp b d
  .exact absurd (h.fresh b c hb d) (by omega)
 .by_cases e:q b c
  .exact h.fresh b c e g
  .exact ZP h.size (k.fresh b c f e)
def EJ:Value->Prop
 |.iface t (.pointer _)=>iT.contains t=false
 |.iface t (.slice _ _ _)=>iT.contains t=false
 |_=>True
def DR:Halt->Prop
 |.panic v=>EJ v
 |.stuck _=>True
 |.unsupported (.initOrder _)=>False
 |.unsupported _=>True
 |_=>False
def ay (w:World)(T:Nat->Question->Nat):World:={w with tape:=T}
def G4 {α:Type}:Result α->World
 |.ok _ w|.halt _ w=>w
def G9 {α:Type}(T:Nat->Question->Nat):Result α->Result α
 |.ok a w=>.ok a (ay w T)
 |.halt h w=>.halt h (ay w T)
def Local {α:Type}(P:Program)(s:Sem α)(w:World)(es:Array Event):Prop:=
 w.drawn<=(G4 (s.runT P w es).1).drawn/\(G4 (s.runT P w es).1).tape=w.tape/\
    ∀a,(∀j q,w.drawn<=j->j< (G4 (s.runT P w es).1).drawn->a j q=w.tape j q)->s.runT P (ay w a) es=(G9 a (s.runT P w es).1,(s.runT P w es).2)
def Local.bind {α γ}{P}{s}{f:α->Sem γ}{w}{es}(hs:Local P s w es)(hf:∀a w' b,s.runT P w es=(.ok a w',b)->Local P (f a) w' b):Local P (s>>=f) w es:=by
 have e:∀w es,(s>>=f).runT P w es=match s.runT P w es with
  |(.ok a w',b)=>(f a).runT P w' b
  |(.halt h w',b)=>(.halt h w',b):=λw es=>by
  show(s.bind f).runT P w es=_
  rw[Sem.runT_bind'];rcases s.runT P w es with⟨r,m⟩
  cases r<;>rfl
 unfold Local at hs⊢;rw[e];simp only[e];rcases l:s.runT P w es with⟨r,m⟩
 rw[l]at hs;obtain⟨s1,s2,k⟩:=hs;cases r with
 |halt h w1=>
  refine⟨s1,s2,λi g=>?_⟩;rw[k i g];rfl
 |ok a w1=>
  obtain⟨k1,o,n⟩:=hf a w1 m l;have d:w.drawn<=w1.drawn:=s1;have c:w1.tape=w.tape:=s2;refine⟨ZP d k1,o.trans c,λi g=>?_⟩;rw[k i λj q x y=>g j q x (ZO y k1)];exact n i λj q x y=>(g j q (ZP d x) y).trans (by rw[c])
structure vV {α:Type}(P:Program)(s:Sem α)(w:World)(es:Array Event):Prop where
 ET:∀h w' WW,s.runT P w es=(.halt h w',WW)->DR h
 loc:Local P s w es
def j4 (P:Program):Prop:=∀t,(∀k,P.underlying t≠some (.float k))/\∀k,P.underlying t≠some (.complex k)
structure Twin (P Q:Program):Prop where
 underlying:∀t,Q.underlying t=P.underlying t
 info:∀t,Q.info? t=P.info? t
 globals:Q.globals=P.globals
 cellsOf:Q.cellsOf=P.cellsOf
 bytesOf:Q.bytesOf=P.bytesOf
 byteOfCell:Go.byteOfCell Q Q.depth=Go.byteOfCell P P.depth
 cellAtBytes:Go.cellAtBytes Q Q.depth=Go.cellAtBytes P P.depth
 stoodInHeld:Q.stoodInHeld=P.stoodInHeld
 plainCell:Go.plainCell Q Q.depth=Go.plainCell P P.depth
 seenCells:Go.seenCells Q=Go.seenCells P
 tight:Go.tight Q Q.depth=Go.tight P P.depth
 liesAt:Go.liesAt Q Q.depth=Go.liesAt P P.depth
 holdsStoodIn:Q.holdsStoodIn Q.depth=P.holdsStoodIn P.depth
 eqGuardType:Q.eqGuardType Q.depth=P.eqGuardType P.depth
 mixed:Q.follows .mixedOrders=P.follows .mixedOrders
 EL:j4 P
 calm:iT.contains P.rt.panicNilError=false
def af {α β:Type}(P Q:Program)(K:Nat->Prop)(p:Rel st)(s:Sem α)(t:Sem β)(A:(Rel st)->α->β->Prop):Prop:=
 Twin P Q->∀(w u:World) (es fs:Array Event),WR P.globals.size K p w u->TR w u->vV P s w es/\∀a w' c,s.runT P w es=(.ok a w',c)->
    ∃q b u' new,t.runT Q u fs=(.ok b u',fs++new)/\A q a b/\WR P.globals.size K q w' u'/\TR w' u'/\dE K p q u u'/\∀e∈new,vG K q e
section
variable {α β γ δ:Type}{P Q:Program}{K:Nat->Prop}{p:Rel st}
def af.pure {A}{a:α}{b:β}(h:A p a b):af P Q K p (Pure.pure a) (Pure.pure b) A:=by
 intro g w u es fs hw f;refine⟨⟨λh w' c d=>(by cases d),⟨ZL _,rfl,λi _=>rfl⟩⟩,λa' w' c d=>?_⟩;obtain⟨⟨rfl,rfl⟩,rfl⟩:(a=a'/\w=w')/\es=c:=by simpa[Pure.pure] using d
 exact⟨p,b,u,#[],by simp[Pure.pure],h,hw,f,dE.refl _ _ _,λe he=>by simp at he⟩
def af.bind {A}{B}{s}{t}{f:α->Sem γ}{g:β->Sem δ}
 (h:af P Q K p s t A)(k:∀q a b,Ext p q->A q a b->af P Q K q (f a) (g b) B):af P Q K p (s>>=f) (t>>=g) B:=by
 intro o w u es fs hw y;refine⟨⟨λH w' m E=>?_,Local.bind (h o w u es fs hw y).1.loc λa w1 n x=>?_⟩,λc w' m E=>?_⟩;rotate_left
 .obtain⟨q,b,u1,v,z,hA,j,l,g1,v1⟩:=(h o w u es fs hw y).2 a w1 n x
  exact(k q a b g1.ext hA o w1 u1 n (fs++v) j l).1.loc
 rotate_left
 .have i:(s.bind f).runT P w es=(.halt H w',m):=E
  rw[Sem.runT_bind']at i;split at i
  .rename_i a w1 n x
   obtain⟨q,b,u1,v,z,hA,j,l,g1,v1⟩:=(h o w u es fs hw y).2 a w1 n x;exact(k q a b g1.ext hA o w1 u1 n (fs++v) j l).1.ET H w' m i
  .rename_i x w1 n F
   cases i;exact(h o w u es fs hw y).1.ET _ _ _ F
 have i:(s.bind f).runT P w es=(.ok c w',m):=E;rw[Sem.runT_bind']at i;split at i
 .rename_i a w1 n x
  obtain⟨q,b,u1,v,z,hA,j,l,g1,v1⟩:=(h o w u es fs hw y).2 a w1 n x;obtain⟨r,d,u2,J,I,L,C,D,g2,v2⟩:=(k q a b g1.ext hA o w1 u1 n (fs++v) j l).2 c w' m i;refine⟨r,d,u2,v++J,?_,L,C,D,g1.trans g2,λe he=>?_⟩
  .show(t.bind g).runT Q u fs=_
   rw[Sem.runT_bind',z];simp only;rw[I,Array.append_assoc]
  .rcases Array.mem_append.1 he with G|G
   .exact(v1 e G).mono g2.ext
   .exact v2 e G
 .cases i
def af.halt {A}{h}{t:Sem β}(hm:DR h:=by trivial):af P Q K p (Sem.halt h:Sem α) t A:=by
 intro d w u es fs hw e;exact⟨⟨λf w' c b=>(by cases b;exact hm),⟨ZL _,rfl,λg _=>rfl⟩⟩,λa w' c b=>by cases b⟩
def af.mono {A B}{s:Sem α}{t:Sem β}(h:af P Q K p s t A)(hA:∀q a b,Ext p q->A q a b->B q a b):af P Q K p s t B:=by
 intro d w u es fs hw e;refine⟨(h d w u es fs hw e).1,λa w' c g=>?_⟩;obtain⟨q,b,u',n,m,l,k,j,f,i⟩:=(h d w u es fs hw e).2 a w' c g;exact⟨q,b,u',n,m,hA q a b f.ext l,k,j,f,i⟩
def af.program:af P Q K p (program) (program) (λ_ a b=>a=P/\b=Q):=by
 intro i w u es fs hw f;refine⟨⟨λh w' d c=>(by cases c),⟨ZL _,rfl,λj _=>rfl⟩⟩,λa w' d c=>?_⟩;have g:∀(P:Program) (w:World) (es:Array Event),(Go.program).runT P w es=(.ok P w,es):=λ_ _ _=>rfl
 rw[g]at c;cases c;exact⟨p,Q,u,#[],by rw[ac4];rfl,⟨rfl,rfl⟩,hw,f,dE.refl _ _ _,λe he=>by simp at he⟩
def af.twin {A}{s:Sem α}{t:Sem β}(h:Twin P Q->af P Q K p s t A):af P Q K p s t A:=λa=>h a a
def eT (q)(w)(es):(choose q).runT P w es=if q.forced then(.ok 0 w,es)else(.ok (q.cut (w.tape w.drawn q)) {w with drawn:=w.drawn+1},es):=by
 unfold Go.choose Sem.runT;split<;>rfl
def l8 (q)(w)(es):Local P (choose q) w es:=by
 unfold Local;simp only[eT];split
 .exact⟨ZL _,rfl,λa _=>rfl⟩
 .refine⟨Nat.le_succ _,rfl,λa b=>?_⟩
  have e:(ay w a).tape (ay w a).drawn q=w.tape w.drawn q:=b w.drawn q (ZL _) (Z4 _);rw[e];rfl
def af.choose (q:Question):af P Q K p (choose q) (choose q) (λ_ a b=>a=b):=by
 intro j w u es fs hw f;refine⟨⟨λh w' g c=>(by rw[eT]at c;split at c<;>cases c),l8 q w es⟩,λa w' g c=>?_⟩;rw[eT]at c
 by_cases d:q.forced=true
 .rw[if_pos d]at c
  cases c;exact⟨p,0,u,#[],by rw[eT,if_pos d,ac4],rfl,hw,f,dE.refl _ _ _,λe he=>by simp at he⟩
 .rw[if_neg d]at c
  cases c;refine⟨p,q.cut (u.tape u.drawn q),{u with drawn:=u.drawn+1},#[],by rw[eT,if_neg d,ac4],?_,⟨hw.fit,hw.rows,hw.qp,hw.low,hw.BB⟩,λi r=>?_,⟨rfl,rfl,rfl,ZL _,λ_ _ _=>rfl,λ_ _ h n=>absurd h n,Ext.refl p⟩,λe he=>by simp at he⟩
  .have:=f 0 q
   simp only[Nat.add_zero]at this;rw[this]
  .have:=f (1+i) r
   simpa[Nat.add_assoc] using this
def WR.cell {G}{w u}(hw:WR G K p w u){a b}(c:AR p a b){v}(h:w.cell? a=some v):∃x,u.cell? b=some x/\VR p v x:=by
 obtain⟨xs,ys,e,f,g,i,m,k,_,_⟩|⟨n,a2,l,i,_⟩|⟨n,a2,l,i,_⟩:=hw.rows _ _ c.1
 rotate_left
 .simp only[World.cell?,i]at h;cases h
 .simp only[World.cell?,i]at h;cases h
 simp only[World.cell?,i]at h;split at h
 .cases h
 .rename_i hs
  have j:a.off<xs.size:=(ZK.1 h).1;have d:b.off<ys.size:=by rw[<-c.2.1,<-k.1];exact j
  refine⟨ys[b.off],?_,k.2 a.off v _ h (by rw[c.2.1];exact ZM d)⟩;simp only[World.cell?,m];rw[<-c.2.2,if_neg hs];exact ZM d
def VR.bytes {v x}(h:VR p v x){bs}(hb:v.bytes? =some bs):x=v:=by
 have:=h.cases
 cases v<;>cases x<;>first
  |exact this.elim
  |(simp[Value.bytes?]at hb;done)
  |(obtain rfl:_=_:=this;rfl)
  |(obtain⟨rfl,rfl⟩:=this;rfl)
def aF.at {r}{a b}(h:aF r a b){i:Nat}{x}(hx:a[i]? =some x):∃y,b[i]? =some y/\r x y:=by
 have c:i<b.size:=h.1▸(ZK.1 hx).1;exact⟨b[i],ZM c,h.2 i x _ hx (ZM c)⟩
def seen_cells {c d}(h:aF (VR p) c d)(e):∀(n x stop:Nat) (l:List (Nat×Nat×List UInt8)),seenCells P c e n x stop=.ok l->seenCells P d e n x stop=.ok l
 |0,_,_,_,hl=>by unfold Go.seenCells at hl;cases hl
 |n+1,x,stop,l,hl=>by
  unfold Go.seenCells at hl⊢;split at hl
  .rename_i hx;rw[if_pos hx];exact hl
  .rename_i hx
   rw[if_neg hx];simp only at hl⊢;split at hl
   .cases hl
   .rename_i hw
    rw[if_neg hw];split at hl
    .cases hl
    .rename_i i s hm
     split at hl
     .cases hl
     .rename_i v f
      obtain⟨v',a,g⟩:=h.at f;simp only[a];split at hl
      .cases hl
      .cases hl
      .rename_i bs _ hb
       obtain rfl:=g.bytes hb;simp only[hb];cases b:seenCells P c e n (s+bs.length) stop with
       |error _=>rw[b]at hl;cases hl
       |ok r=>rw[b]at hl;rw[seen_cells h e n _ _ r b];exact hl
def xm {w u}(m:Twin P Q){t}{j a2 a b}(B:AR p j a2)(I:a.off=b.off)(hs:a.spot=b.spot)
 (l:∀xs e f,w.heap[j.block]? =some (.cells xs e f)->∃ys g,u.heap[a2.block]? =some (.cells ys e g)/\aF (VR p) xs ys)
 {c}{e}{fr}{first}{d}{cells}(h:World.seen P w j t a false=.ok (c,e,fr,first,d,cells)):
 w.heap[j.block]? =some (.cells c e fr)/\Go.plainCell P P.depth t a.off=some d/\∃D C,u.heap[a2.block]? =some (.cells D e C)/\aF (VR p) c D/\World.seen Q u a2 t b false=.ok (D,e,C,first,d,cells):=by
 unfold World.seen at h⊢;simp only[m.plainCell,m.byteOfCell,m.seenCells,m.cellsOf,m.bytesOf,<-I,<-hs,<-B.2.1,<-B.2.2];cases q:(a.spot.isSome||j.spot.isSome)with
 |true=>simp only[q,if_true]at h;cases h
 |false=>
 simp only[q,Z0,if_false]at h⊢;cases v:Go.plainCell P P.depth t a.off with
 |none=>simp only[v]at h;cases h
 |some H=>
 simp only[v]at h⊢;cases n:Option.map (λx=>x.length) H.bytes? with
 |none=>simp only[n]at h;cases h
 |some G=>
 simp only[n]at h⊢;cases z:Go.byteOfCell P P.depth t a.off with
 |none=>simp only[z]at h;cases h
 |some be=>
 simp only[z]at h⊢;cases i:w.heap[j.block]? with
 |none=>simp only[i]at h;cases h
 |some o=>
 cases o with
 |cells c0 k f0=>
  obtain⟨D,g,F,y⟩:=l _ _ _ i;simp only[i]at h;simp only[F]
  by_cases s:P.cellsOf k=0
  .simp only[s,if_true]at h;cases h
  simp only[s,if_false]at h⊢;cases A:Go.byteOfCell P P.depth k (j.off%P.cellsOf k)with
  |none=>simp only[A]at h;cases h
  |some b0=>
  simp only[A]at h⊢;cases E:Go.seenCells P c0 k (G+1) (j.off/P.cellsOf k*P.bytesOf k+b0+be) (j.off/P.cellsOf k*P.bytesOf k+b0+be+G)with
  |error _=>rw[E]at h;cases h
  |ok r=>
   rw[E]at h;rw[seen_cells y _ _ _ _ _ E];cases h;exact⟨rfl,rfl,D,g,rfl,y,rfl⟩
 |_=>simp only[i]at h;cases h
def sG (a)(w)(es){v}(h:w.cell? a=some v):(load a).runT P w es=(.ok v w,es.push ⟨.cell a,false,false⟩):=by
 unfold Go.load Sem.runT;rw[h];rfl
def ic (P)(a)(w)(es):(load a).runT P w es=match w.cell? a with
 |some v=>(.ok v w,es.push ⟨.cell a,false,false⟩)
 |none=>match World.farLoad P w a false with
  |.ok (v,b)=>(.ok v w,es++b.toArray.map (⟨.cell ·,false,false⟩))
  |.error h=>(.halt h w,es):=by
 unfold Go.load Sem.runT;rfl
def qj (c:j4 P):∀(d:Nat) (t:TypeId) (off:Nat) (a:Value),Go.plainCell P d t off=some a->(∃b,a=.bool b)\/∃k n,a=.int k n
 |0,_,_,_,h=>by unfold Go.plainCell at h;cases h
 |d+1,t,off,a,h=>by
  unfold Go.plainCell at h;split at h
  .obtain⟨f,_,hf⟩:=Array.exists_of_findSome?_eq_some h
   split at hf
   .exact qj c d _ _ _ hf
   .cases hf
  .simp only at h
   split at h
   .cases h
   .exact qj c d _ _ _ h
  .split at h<;>cases h
   exact .inl ⟨_,rfl⟩
  .split at h<;>cases h
   exact .inr ⟨_,_,rfl⟩
  .rename_i e;exact absurd e ((c t).1 _)
  .rename_i e;exact absurd e ((c t).2 _)
  .cases h
def qU {old new:Value}{bs}(h:old.ofBytes bs=some new):((∃b,old=.bool b)/\∃b,new=.bool b)\/((∃k n,old=.int k n)/\∃k n,new=.int k n)\/(∃k b,old=.float k b)\/∃k a b,old=.complex k a b:=by
 cases old with
 |bool b=>
  simp only[Value.ofBytes]at h;split at h<;>cases h
  .exact .inl ⟨⟨_,rfl⟩,_,rfl⟩
  .exact .inl ⟨⟨_,rfl⟩,_,rfl⟩
 |int k n=>
  simp only[Value.ofBytes]at h;split at h<;>cases h
  exact .inr (.inl ⟨⟨_,_,rfl⟩,_,_,rfl⟩)
 |float k b=>exact .inr (.inr (.inl ⟨_,_,rfl⟩))
 |complex k a b=>exact .inr (.inr (.inr ⟨_,_,_,rfl⟩))
 |_=>cases h
def wT {w u}(A:Twin P Q){t}{m a2 a b}(z:AR p m a2)(C:a.off=b.off)(hs:a.spot=b.spot)
 (i:∀xs e f,w.heap[m.block]? =some (.cells xs e f)->∃ys g,u.heap[a2.block]? =some (.cells ys e g)/\aF (VR p) xs ys){v}{l}(h:World.viewLoad P w m t a false=.ok (v,l)):
 ∃l',World.viewLoad Q u a2 t b false=.ok (v,l')/\(∀x∈l',x.block=a2.block)/\VR p v v:=by
 unfold World.viewLoad at h⊢;cases q:World.seen P w m t a false with
 |error _=>rw[q]at h;cases h
 |ok r=>
  obtain⟨c,e,fr,first,B,cells⟩:=r;obtain⟨_,s,D,g,_,_,o⟩:=xm A z C hs i q;have d:=qj A.EL _ _ _ _ s;rw[q]at h;rw[o];simp only[bind,Except.bind,pure,Except.pure]at h⊢;split at h;rotate_left
  .cases h
  rename_i v0 hb;cases h;refine⟨_,rfl,λx hx=>?_,?_⟩
  .obtain⟨y,_,rfl⟩:=adz.1 hx
   rfl
  .rcases qU hb with⟨_,b,rfl⟩|⟨_,k,n,rfl⟩|⟨k,b,e⟩|⟨k,a,b,e⟩
   .exact VR.bool _
   .exact VR.int _ _
   .rcases d with⟨_,j⟩|⟨_,_,j⟩<;>rw[e]at j<;>cases j
   .rcases d with⟨_,j⟩|⟨_,_,j⟩<;>rw[e]at j<;>cases j
def WR.Ep {G}{w u}(hw:WR G K p w u){c a2}(b:AR p c a2):∀xs e f,w.heap[c.block]? =some (.cells xs e f)->∃ys g,u.heap[a2.block]? =some (.cells ys e g)/\aF (VR p) xs ys:=by
 intro xs e f h;rcases hw.rows _ _ b.1 with⟨d,ys,k,f',g,a,j,i,_⟩|⟨_,_,_,a,_⟩|⟨_,_,_,a,_⟩
 .rw[a]at h;cases h;exact⟨_,_,j,i⟩
 .rw[a]at h;cases h
 .rw[a]at h;cases h
def Di {G}{w u}(hw:WR G K p w u){a b}(d:AR p a b){h}(hf:World.farLoad P w a false=.error h):DR h:=by
 rcases hw.rows _ _ d.1 with⟨xs,ys,e,f,g,c,_⟩|⟨_,_,_,c,_⟩|⟨k,a2,t,c,_⟩
 .simp only[World.farLoad,c,World.noCell]at hf;cases hf;trivial
 .simp only[World.farLoad,c,World.noCell]at hf;cases hf;trivial
 .simp only[World.farLoad,c]at hf
  cases i:World.viewLoad P w k t a false with
  |ok r=>rw[i]at hf;cases hf
  |error j=>rw[i]at hf;cases hf;trivial
def af.load {a b:Addr}(d:AR p a b):af P Q K p (load a) (load b) (λq v x=>VR q v x):=by
 intro G w u es fs hw C
 have m:Local P (Go.load a) w es:=by
  unfold Local;simp only[ic];have J:∀k,(ay w k).cell? a=w.cell? a:=λ_=>rfl
  have I:∀k,World.farLoad P (ay w k) a false=World.farLoad P w a false:=λ_=>rfl
  simp only[J,I];cases w.cell? a with
  |some v=>exact⟨ZL _,rfl,λk _=>rfl⟩
  |none=>cases World.farLoad P w a false with
   |error h=>exact⟨ZL _,rfl,λk _=>rfl⟩
   |ok r=>exact⟨ZL _,rfl,λk _=>rfl⟩
 refine⟨⟨λh w' B c=>?_,m⟩,λv w' B c=>?_⟩
 .rw[ic]at c
  cases j:w.cell? a with
  |some v'=>rw[j]at c;cases c
  |none=>
   rw[j]at c;simp only at c;cases hf:World.farLoad P w a false with
   |ok r=>rw[hf]at c;cases c
   |error H=>rw[hf]at c;cases c;exact Di hw d hf
 .cases j:w.cell? a with
  |some v'=>
   rw[sG a w es j]at c;cases c;obtain⟨x,hx,c⟩:=hw.cell d j;refine⟨p,x,u,#[⟨.cell b,false,false⟩],?_,c,hw,C,dE.refl _ _ _,λe he=>?_⟩
   .rw[sG b u fs hx];rfl
   .obtain rfl:e=⟨.cell b,false,false⟩:=by simpa using he
    exact .inl ⟨b.block,a.block,.inr ⟨b,rfl,rfl⟩,d.1,rfl,λh=>by cases h⟩
  |none=>
   rw[ic,j]at c;simp only at c;cases hf:World.farLoad P w a false with
   |error H=>rw[hf]at c;cases c
   |ok r=>
    obtain⟨v0,l⟩:=r;rw[hf]at c;cases c;rcases hw.rows _ _ d.1 with⟨xs,ys,e,f,g,n,_⟩|⟨_,_,_,n,_⟩|⟨E,a2,t,n,D,i,_⟩
    .simp only[World.farLoad,n]at hf;cases hf
    .simp only[World.farLoad,n]at hf;cases hf
    .simp only[World.farLoad,n]at hf
     cases z:World.viewLoad P w E t a false with
     |error F=>rw[z]at hf;cases hf
     |ok r=>
      rw[z]at hf;cases hf;obtain⟨l',y,A,o⟩:=wT G i d.2.1 d.2.2 (hw.Ep i) z;have s:u.cell? b=none:=(by simp only[World.cell?,D]);refine⟨p,v,u,l'.toArray.map (⟨.cell ·,false,false⟩),?_,o,hw,C,dE.refl _ _ _,λe he=>?_⟩
      .rw[ic,s]
       simp only[World.farLoad,D,y]
      .obtain⟨x,hx,rfl⟩:=Array.mem_map.1 he
       exact .inl ⟨a2.block,E.block,.inr ⟨x,rfl,A x (by simpa using hx)⟩,i.1,rfl,λh=>by cases h⟩
def WR.lt {G}{w u}(hw:WR G K p w u){b c}(h:p b c):b<w.heap.size/\c<u.heap.size:=by
 obtain⟨_,_,_,_,_,d,a,_⟩|⟨_,_,_,d,a,_⟩|⟨_,_,_,d,a,_⟩:=hw.rows b c h
 all_goals exact⟨(ZK.1 d).1,(ZK.1 a).1⟩
def WR.put {G}{w u}(hw:WR G K p w u){b c}(i:p b c)(v:¬K c){xs ys}{e}{f}(t:aF (VR p) xs ys){w' u'}(y:w'.heap[b]? =some (.cells xs e f))(x:u'.heap[c]? =some (.cells ys e f))
 (o:∀k,k≠b->w'.heap[k]? =w.heap[k]?)(n:∀k,k≠c->u'.heap[k]? =u.heap[k]?)(s1:w'.heap.size=w.heap.size)(s2:u'.heap.size=u.heap.size):WR G K p w' u':=by
 refine⟨hw.fit,λs q h=>?_,hw.qp,hw.low,by rw[s1,s2];exact hw.BB⟩
 by_cases hb:s=b
 .subst hb
  obtain rfl:q=c:=(hw.fit _ _ _ _ h i).1 rfl;exact .inl ⟨xs,ys,e,f,f,y,x,t,λh=>absurd h v,λ_=>rfl⟩
 .have hc:q≠c:=λe=>hb ((hw.fit _ _ _ _ h i).2 e)
  rcases hw.rows s q h with⟨m,j,z,f',g',g,d,a⟩|⟨r,a2,l,g,d,a⟩|⟨r,a2,l,g,d,a⟩
  .exact .inl ⟨m,j,z,f',g',(o _ hb).trans g,(n _ hc).trans d,a⟩
  .exact .inr (.inl ⟨r,a2,l,(o _ hb).trans g,(n _ hc).trans d,a⟩)
  .exact .inr (.inr ⟨r,a2,l,(o _ hb).trans g,(n _ hc).trans d,a⟩)
def dE.put {b c}{u u'}(a:p b c)(j:¬K c)(g:u'.tape=u.tape)(i:u'.os=u.os)(hp:u'.output=u.output)(f:∀k,k≠c->u'.heap[k]? =u.heap[k]?)(s2:u'.heap.size=u.heap.size):dE K p p u u':=
 ⟨g,i,hp,Nat.le_of_eq s2.symm,λd _ h=>f d λe=>j (e▸h b (e▸a)),λ_ _ h n=>absurd h n,Ext.refl p⟩
def iV (P)(v)(w)(es)(d:∀cs,v≠.agg cs)(c:∀cs,v≠.tuple cs)(a):(Go.store a v).runT P w es=match w.cell? a with
 |some _=>if w.frozen? a then(.halt (.unsupported (.unsafePointer "a write to bytes that a string shares")) w,es)else(.ok () (w.setCell a v),es.push ⟨.cell a,true,false⟩)
 |none=>match World.farStore P w a v false with
  |.ok (w,b)=>(.ok () w,es++b.toArray.map (⟨.cell ·,true,false⟩))
  |.error h=>(.halt h w,es):=by
 unfold Go.store;cases v<;>first|exact absurd rfl (d _)|exact absurd rfl (c _)|rfl
def gN (fr:Nat×Nat)(first:Nat)(bytes:List UInt8)(c:Array Value)(x:Nat×Nat×List UInt8):Except String (Array Value):=
 if(decide (x.2.1<first)||decide (x.2.1+x.2.2.length>first+bytes.length))=true then .error "memory seen as another type: a part of a cell written"
 else if(decide (fr.1<=x.1)&&decide (x.1<fr.2))=true then .error "a write to bytes that a string shares"
 else match c[x.1]? with
    |some old=>match old.ofBytes (List.take x.2.2.length (List.drop (x.2.1-first) bytes))with
     |some new=>.ok (c.setIfInBounds x.1 new)
     |none=>.error "memory seen as another type: a bool from a byte other than 0 or 1"
    |none=>.error "memory seen as another type: no such cell"
def VR.ofBytes {old x new}(h:VR p old x){bs}(hb:old.ofBytes bs=some new):x.ofBytes bs=some new/\VR p new new:=by
 have:=h.cases;rcases qU hb with⟨⟨b,rfl⟩,c,rfl⟩|⟨⟨k,n,rfl⟩,k',d,rfl⟩|⟨k,b,rfl⟩|⟨k,a,b,rfl⟩
 .cases x<;>first
   |exact this.elim
   |(obtain rfl:_=_:=this;exact⟨hb,VR.bool _⟩)
 .cases x<;>first
   |exact this.elim
   |(obtain⟨rfl,rfl⟩:=this;exact⟨hb,VR.int _ _⟩)
 .cases x<;>exact this.elim
 .cases x<;>exact this.elim
def pI {fr}{first}{bytes}:∀(l:List (Nat×Nat×List UInt8)) (c b d:Array Value),aF (VR p) c b->l.foldlM (gN fr first bytes) c=.ok d->∃d',l.foldlM (gN fr first bytes) b=.ok d'/\aF (VR p) d d'
 |[],c,b,d,h,hd=>by cases hd;exact⟨b,rfl,h⟩
 |x::l,c,b,d,h,hd=>by
  simp only[List.foldlM_cons,bind,Except.bind]at hd⊢;cases hs:gN fr first bytes c x with
  |error _=>rw[hs]at hd;cases hd
  |ok n=>
   rw[hs]at hd;simp only at hd
   obtain⟨a,z,y⟩:∃a,gN fr first bytes b x=.ok a/\aF (VR p) n a:=by
        unfold gN at hs⊢;split at hs
        .cases hs
        rename_i k1;rw[if_neg k1];split at hs
        .cases hs
        rename_i r;rw[if_neg r];split at hs;rotate_left
        .cases hs
        rename_i old k;obtain⟨j,e,v⟩:=h.at k;simp only[e];split at hs;rotate_left
        .cases hs
        rename_i new w;obtain⟨g,u⟩:=v.ofBytes w;simp only[g];cases hs
        exact⟨_,rfl,by simpa using h.1,λi s t hs f=>by
         by_cases m:i=x.1
         .subst m
          have q:=(ZK.1 k).1;have o:=(ZK.1 e).1;rw[acV q]at hs;rw[acV o]at f;cases hs;cases f;exact u
         .rw[ade (Ne.symm m)]at hs f
          exact h.2 i s t hs f⟩
   rw[z];exact pI l n a d y hd
def Cv {fr}{first}{bytes}{l}{c d}(f:fr.1=0)(g:c.size<=fr.2)(hd:l.foldlM (gN fr first bytes) c=.ok d):l=[]/\d=c:=by
 cases l with
 |nil=>cases hd;exact⟨rfl,rfl⟩
 |cons x l=>
  exfalso;simp only[List.foldlM_cons,bind,Except.bind]at hd;unfold gN at hd;split at hd
  .cases hd
  rename_i k a;split at a
  .cases a
  split at a
  .cases a
  rename_i b;split at a;rotate_left
  .cases a
  rename_i old e;have:=(ZK.1 e).1;rw[f]at b;simp at b;omega
def fO (P)(w)(at_)(t)(k)(v):World.viewStore P w at_ t k v false=if(!Go.tight P P.depth t)=true then .error "memory seen as another type: a store through a type with padding" else
 (World.seen P w at_ t k false).bind λr=>match r with
  |(c,e,frozen,first,a,cells)=>match v.bytes? with
   |some bytes=>if some bytes.length≠Option.map (λx=>x.length) a.bytes? then .error "memory seen as another type: a value of another size" else
      (cells.foldlM (gN frozen first bytes) c).bind λc=>.ok ({w with heap:=w.heap.setIfInBounds at_.block (.cells c e frozen)},cells.map λx=>{block:=at_.block,off:=x.1})
   |none=>.error "memory seen as another type: a value that is no plain data" :=by
 unfold World.viewStore;simp only;split
 .rfl
 .show(World.seen P w at_ t k false).bind _=_
  congr 1
  funext r
  obtain⟨c,e,frozen,first,a,cells⟩:=r;simp only;cases v.bytes? with
  |none=>rfl
  |some bytes=>
   simp only;split
   .rfl
   .show Except.bind (List.foldlM _ c cells) _=Except.bind (List.foldlM _ c cells) _
    congr 2
    funext c x
    obtain⟨i,s,bs⟩:=x;unfold gN;simp only;split
    .rfl
    .split
     .rfl
     .cases c[i]? with
      |none=>rfl
      |some old=>
       simp only;cases old.ofBytes (List.take bs.length (List.drop (s-first) bytes))<;>rfl
def Aq {G}{w u}(hw:WR G K p w u){a b}(d:AR p a b){v}{h}(hf:World.farStore P w a v false=.error h):DR h:=by
 rcases hw.rows _ _ d.1 with⟨xs,ys,e,f,g,c,_⟩|⟨_,_,_,c,_⟩|⟨k,a2,t,c,_⟩
 .simp only[World.farStore,c,World.noCell]at hf;cases hf;trivial
 .simp only[World.farStore,c,World.noCell]at hf;cases hf;trivial
 .simp only[World.farStore,c]at hf
  cases i:World.viewStore P w k t a v false with
  |ok r=>rw[i]at hf;cases hf
  |error j=>rw[i]at hf;cases hf;trivial
def yD (P)(w)(T)(a)(v):World.farStore P (ay w T) a v false=match World.farStore P w a v false with
 |.ok (w',l)=>.ok (ay w' T,l)
 |.error h=>.error h:=by
 unfold World.farStore;have e:(ay w T).heap=w.heap:=rfl;rw[e];cases i:w.heap[a.block]? with
 |none=>rfl
 |some o=>
  cases o with
  |view at_ t=>
   simp only;rw[fO,fO];have g:World.seen P (ay w T) at_ t a false=World.seen P w at_ t a false:=rfl;rw[g]
   by_cases b:(!Go.tight P P.depth t)=true
   .rw[if_pos b,if_pos b]
   .rw[if_neg b,if_neg b]
    cases World.seen P w at_ t a false with
    |error _=>rfl
    |ok r=>
     obtain⟨c,e,fr,first,f,cells⟩:=r;simp only[Except.bind];cases v.bytes? with
     |none=>rfl
     |some bytes=>
      simp only
      by_cases d:some bytes.length≠Option.map (λx=>x.length) f.bytes?
      .rw[if_pos d,if_pos d]
      .rw[if_neg d,if_neg d]
       cases cells.foldlM (gN fr first bytes) c<;>rfl
  |_=>rfl
def af.store {a b:Addr}{v x:Value}(n:AR p a b)(W:VR p v x):af P Q K p (store a v) (store b x) (λ_ _ _=>True):=by
 classical
 intro tw w u es fs hw O
 by_cases V:∃cs,v=.agg cs
 .obtain⟨cs,rfl⟩:=V
  exact⟨⟨λhh w' J m=>by cases m;trivial,⟨ZL _,rfl,λM _=>rfl⟩⟩,λv' w' J m=>by cases m⟩
 by_cases U:∃cs,v=.tuple cs
 .obtain⟨cs,rfl⟩:=U
  exact⟨⟨λhh w' J m=>by cases m;trivial,⟨ZL _,rfl,λM _=>rfl⟩⟩,λv' w' J m=>by cases m⟩
 have V:∀cs,v≠.agg cs:=λcs h=>V ⟨cs,h⟩
 have U:∀cs,v≠.tuple cs:=λcs h=>U ⟨cs,h⟩
 have nb:∀cs,x≠.agg cs:=λcs h=>by
  subst h;have:=W.cases;cases v<;>first|exact this|exact V _ rfl|(exact Bool.noConfusion this)
 have nu:∀cs,x≠.tuple cs:=λcs h=>by
  subst h;have:=W.cases;cases v<;>first|exact this|exact U _ rfl|(exact Bool.noConfusion this)
 have G:=λw es=>iV P v w es V U a
 refine⟨⟨λhh w' J m=>?_,?_⟩,λv' w' J m=>?_⟩
 .rw[G]at m
  split at m
  .split at m<;>cases m
   trivial
  .cases hf:World.farStore P w a v false with
   |ok r=>rw[hf]at m;cases m
   |error h'=>rw[hf]at m;cases m;exact Aq hw n hf
 .unfold Local
  simp only[G];have e:∀M,(ay w M).cell? a=w.cell? a:=λ_=>rfl
  have e2:∀M,(ay w M).frozen? a=w.frozen? a:=λ_=>rfl
  simp only[e,e2,yD];cases W:w.cell? a with
  |some y=>
   simp only;split
   .exact⟨ZL _,rfl,λM _=>rfl⟩
   .exact⟨ZL _,rfl,λM _=>rfl⟩
  |none=>
   simp only;cases hf:World.farStore P w a v false with
   |error h=>exact⟨ZL _,rfl,λM _=>rfl⟩
   |ok r=>
    obtain⟨w1,l⟩:=r
    have:w1.drawn=w.drawn/\w1.tape=w.tape:=by
     unfold World.farStore at hf
     revert hf
     cases ho:w.heap[a.block]? with
     |none=>intro hf;cases hf
     |some o=>
      cases o with
      |view at_ t=>
       simp only;rw[fO]
       by_cases A:(!Go.tight P P.depth t)=true
       .rw[if_pos A];intro hf;cases hf
       .rw[if_neg A]
        cases World.seen P w at_ t a false with
        |error _=>intro hf;cases hf
        |ok r=>
         obtain⟨c,e,fr,first,E,cells⟩:=r;simp only[Except.bind];cases v.bytes? with
         |none=>intro hf;cases hf
         |some bytes=>
          simp only
          by_cases B:some bytes.length≠Option.map (λx=>x.length) E.bytes?
          .rw[if_pos B];intro hf;cases hf
          .rw[if_neg B]
           cases cells.foldlM (gN fr first bytes) c with
           |error _=>intro hf;cases hf
           |ok d=>intro hf;cases hf;exact⟨rfl,rfl⟩
      |_=>intro hf;cases hf
    refine⟨?_,this.2,λM _=>rfl⟩;show w.drawn<=w1.drawn
    rw[this.1];exact ZL _
 rw[G]at m;cases hc:w.cell? a with
 |some y=>
  rw[hc]at m;simp only at m;cases hf:w.frozen? a with
  |true=>rw[hf]at m;cases m
  |false=>
   rw[hf]at m;cases m;obtain⟨xs,ys,e,f,g,C,S,h3,h4,h5⟩|⟨a1,a2,l,C,_⟩|⟨a1,a2,l,C,_⟩:=hw.rows _ _ n.1
   rotate_left
   .simp only[World.cell?,C]at hc;cases hc
   .simp only[World.cell?,C]at hc;cases hc
   have F:a.spot=none:=World.cell?_spot hc
   have R:a.off<xs.size:=by
        simp only[World.cell?,C]at hc;split at hc
        .cases hc
        .exact(ZK.1 hc).1
   have L:¬K b.block:=λq=>by
        have:=h4 q;simp only[World.frozen?,C]at hf;obtain⟨f1,f2⟩:=f;simp only at this hf;obtain⟨rfl,h6,_⟩:=this;simp at hf;omega
   obtain rfl:=h5 L;obtain⟨z,hz,_⟩:=hw.cell n hc
   have ε:u.frozen? b=false:=by
        simp only[World.frozen?,C]at hf;simp only[World.frozen?,S,<-n.2.1];exact hf
   have ι:b.spot=none:=n.2.2▸F
   have e1:(w.setCell a v).heap[a.block]? =some (.cells (xs.setIfInBounds a.off v) e f):=by
        simp only[World.setCell,Array.getElem?_modify,C,ads,if_true,F];rfl
   have e2:(u.setCell b x).heap[b.block]? =some (.cells (ys.setIfInBounds b.off x) e f):=by
        simp only[World.setCell,Array.getElem?_modify,S,ads,if_true,ι];rfl
   have T:∀k,k≠a.block->(w.setCell a v).heap[k]? =w.heap[k]?:=λk q=>by simp[World.setCell,Array.getElem?_modify,Ne.symm q]
   have o2:∀k,k≠b.block->(u.setCell b x).heap[k]? =u.heap[k]?:=λk q=>by simp[World.setCell,Array.getElem?_modify,Ne.symm q]
   have γ:aF (VR p) (xs.setIfInBounds a.off v) (ys.setIfInBounds b.off x):=⟨by simp[h3.1],λi s t hs O=>by
        by_cases hi:i=a.off
        .subst hi
         have α:b.off<ys.size:=(by rw[<-n.2.1,<-h3.1];exact R);rw[acV R]at hs;rw[n.2.1,acV α]at O;cases hs;cases O;exact W
        .rw[ade (Ne.symm hi)]at hs
         rw[ade (by rw[<-n.2.1];exact Ne.symm hi)]at O;exact h3.2 i s t hs O⟩
   refine⟨p,(),u.setCell b x,#[⟨.cell b,true,false⟩],?_,trivial,hw.put n.1 L γ e1 e2 T o2 (by simp[World.setCell]) (by simp[World.setCell]),O,dE.put n.1 L rfl rfl rfl o2 (by simp[World.setCell]),λe he=>?_⟩
   .rw[iV Q x u fs nb nu b,hz]
    simp only[ε];rfl
   .obtain rfl:e=⟨.cell b,true,false⟩:=by simpa using he
    exact .inl ⟨b.block,a.block,.inr ⟨b,rfl,rfl⟩,n.1,rfl,λ_=>L⟩
 |none=>
  rw[hc]at m;simp only at m;cases hf:World.farStore P w a v false with
  |error h'=>rw[hf]at m;cases m
  |ok r=>
   obtain⟨w1,l⟩:=r;rw[hf]at m;cases m;rcases hw.rows _ _ n.1 with⟨xs,ys,e,f,g,C,_⟩|⟨_,_,_,C,_⟩|⟨a1,a2,t,C,S,D,_⟩
   .simp only[World.farStore,C]at hf;cases hf
   .simp only[World.farStore,C]at hf;cases hf
   .simp only[World.farStore,C,fO]at hf
    by_cases A:(!Go.tight P P.depth t)=true
    .rw[if_pos A]at hf;cases hf
    rw[if_neg A]at hf;cases hq:World.seen P w a1 t a false with
    |error κ=>rw[hq]at hf;cases hf
    |ok r=>
     obtain⟨c,e,fr,first,E,cells⟩:=r;obtain⟨I,μ,c',ν,H,θ,Y⟩:=xm tw D n.2.1 n.2.2 (hw.Ep D) hq;rw[hq]at hf;simp only[Except.bind]at hf;cases hb:v.bytes? with
     |none=>rw[hb]at hf;cases hf
     |some bytes=>
      obtain rfl:=W.bytes hb;rw[hb]at hf;simp only at hf
      by_cases B:some bytes.length≠Option.map (λx=>x.length) E.bytes?
      .rw[if_pos B]at hf;cases hf
      rw[if_neg B]at hf;cases hd:cells.foldlM (gN fr first bytes) c with
      |error _=>rw[hd]at hf;cases hf
      |ok d=>
       rw[hd]at hf;cases hf;have X:u.cell? b=none:=(by simp only[World.cell?,S]);obtain⟨xs,ys,e',f,g,N,r2,r3,r4,r5⟩|⟨_,_,_,N,_⟩|⟨_,_,_,N,_⟩:=hw.rows _ _ D.1
       rotate_left
       .rw[I]at N;cases N
       .rw[I]at N;cases N
       rw[I]at N;rw[H]at r2;cases N;cases r2
       by_cases q:K a2.block
       .obtain⟨rfl,rfl⟩:=Cv (r4 q).1 (r4 q).2.1 hd
        have ew:∀{w:World} {i:Nat} {o:Obj},w.heap[i]? =some o->({w with heap:=w.heap.setIfInBounds i o}:World)=w:=fun{w i o} h=>by
             have:w.heap.setIfInBounds i o=w.heap:=Array.ext (by simp) λj C S=>by
              obtain⟨hi,δ⟩:=ZK.1 h
              by_cases Z:i=j
              .subst Z;simp[δ]
              .rw[Array.getElem_setIfInBounds_ne _ Z]
             rw[this]
        rw[ew I];refine⟨p,(),u,#[],?_,trivial,hw,O,dE.refl _ _ _,λe he=>by simp at he⟩;rw[iV Q _ u fs nb nu b,X];have e0:(Pure.pure c':Except String (Array Value))=.ok c':=rfl;simp only[World.farStore,S,fO,tw.tight,if_neg A,Y,Except.bind,hb,if_neg B,List.foldlM_nil,e0,ew H];simp
       .obtain rfl:=r5 q
        obtain⟨d',η,ζ⟩:=pI _ _ _ _ θ hd;have T:∀(w:World) (i k:Nat) (o:Obj),k≠i->({w with heap:=w.heap.setIfInBounds i o}:World).heap[k]? =w.heap[k]?:=λw i k o q=>ade (Ne.symm q)
        have l1:=(ZK.1 I).1;have l2:=(ZK.1 H).1;refine⟨p,(),{u with heap:=u.heap.setIfInBounds a2.block (.cells d' e fr)},(cells.map λx=>({block:=a2.block,off:=x.1}:Addr)).toArray.map (⟨.cell ·,true,false⟩),?_,trivial,hw.put D.1 q ζ (acV l1) (acV l2) (λk q=>T w _ k _ q) (λk q=>T u _ k _ q) (by simp) (by simp),O,dE.put D.1 q rfl rfl rfl (λk q=>T u _ k _ q) (by simp),λev he=>?_⟩
        .rw[iV Q _ u fs nb nu b,X]
         simp only[World.farStore,S,fO,tw.tight,if_neg A,Y,Except.bind,hb,if_neg B,η]
        .obtain⟨y,hy,rfl⟩:=Array.mem_map.1 he
         have β:y∈cells.map λx=>({block:=a2.block,off:=x.1}:Addr):=by simpa using hy
         obtain⟨z,_,rfl⟩:=adz.1 β;exact .inl ⟨a2.block,a1.block,.inr ⟨_,rfl,rfl⟩,D.1,rfl,λ_=>q⟩
def af.CL {o n}(h:∀(q:Rel st) (w u:World),Ext p q->¬K u.heap.size->q w.heap.size u.heap.size->Qn K q {w with heap:=w.heap.push o} {u with heap:=u.heap.push n} w.heap.size u.heap.size):af P Q K p (newObj o) (newObj n) (λq r s=>q r s/\¬K s):=by
 classical
 intro O w u es fs hw J;refine⟨⟨λh w' C t=>(by cases t),⟨ZL _,rfl,λT _=>rfl⟩⟩,λr w' C t=>?_⟩;have H:∀(P:Program) (o:Obj) (w:World) (es:Array Event),(newObj o).runT P w es=(.ok w.heap.size {w with heap:=w.heap.push o},es):=λ_ _ _ _=>rfl
 rw[H]at t;cases t;have m:Ext p (λb c=>p b c\/(b=w.heap.size/\c=u.heap.size)):=λ_ _ h=>.inl h
 have G:¬K u.heap.size:=λM=>by have:=(hw.lt (hw.qp _ M)).2;omega
 refine⟨λb c=>p b c\/(b=w.heap.size/\c=u.heap.size),u.heap.size,{u with heap:=u.heap.push n},#[],?_,⟨.inr ⟨rfl,rfl⟩,G⟩,⟨λb c S R x v=>?_,λb c a=>?_,λc hc=>.inl (hw.qp c hc),λb c a B=>?_,by simp;have:=hw.BB;omega⟩,J,⟨rfl,rfl,rfl,by simp,λc hc _=>by simp[ac3];omega,λb c A L=>?_,m⟩,λe he=>by simp at he⟩
 .rw[H,ac4]
 .rcases x with x|⟨rfl,rfl⟩<;>rcases v with v|⟨rfl,rfl⟩
  .exact hw.fit _ _ _ _ x v
  .have:=hw.lt x;omega
  .have:=hw.lt v;omega
  .simp
 .rcases a with a|⟨rfl,rfl⟩
  .have l:=hw.lt a
   have E:({w with heap:=w.heap.push o}:World).heap[b]? =w.heap[b]?:=(by simp[ac3];omega);have D:({u with heap:=u.heap.push n}:World).heap[c]? =u.heap[c]?:=(by simp[ac3];omega);obtain⟨z,y,N,f,g,k,j,d,i,I⟩|⟨F,a2,l,k,j,d,i⟩|⟨F,a2,l,k,j,d,i⟩:=hw.rows b c a
   .exact .inl ⟨z,y,N,f,g,E.trans k,D.trans j,d.mono λ_ _ h=>h.mono m,i,I⟩
   .exact .inr (.inl ⟨F,a2,l,E.trans k,D.trans j,⟨m _ _ d.1,d.2⟩,i⟩)
   .exact .inr (.inr ⟨F,a2,l,E.trans k,D.trans j,⟨m _ _ d.1,d.2⟩,i⟩)
  .exact h _ w u m G (.inr ⟨rfl,rfl⟩)
 .rcases a with a|⟨rfl,rfl⟩
  .exact hw.low b c a B
  .exact hw.BB
 .rcases A with A|⟨_,rfl⟩
  .exact absurd A L
  .exact ZL _
def af.newRow {xs ys}(e)(h:aF (VR p) xs ys):af P Q K p (newObj (.cells xs e)) (newObj (.cells ys e)) (λq r s=>q r s/\¬K s):=
 af.CL λq w u b a _=>.inl ⟨xs,ys,e,(0,0),(0,0),by simp,by simp,h.mono λ_ _ h=>h.mono b,λc=>absurd c a,λ_=>rfl⟩
def af.KX {a b}(l)(h:AR p a b):af P Q K p (newObj (.number a l)) (newObj (.number b l)) (λq r s=>q r s/\¬K s):=
 af.CL λq w u d c _=>.inr (.inl ⟨a,b,l,by simp,by simp,⟨d _ _ h.1,h.2⟩,c⟩)
def af.CK {a b}(t)(h:AR p a b):af P Q K p (newObj (.view a t)) (newObj (.view b t)) (λq r s=>q r s/\¬K s):=
 af.CL λq w u d c _=>.inr (.inr ⟨a,b,t,by simp,by simp,⟨d _ _ h.1,h.2⟩,c⟩)
def af.shape {r s:Nat}(h:p r s):af P Q K p (shape r) (shape s) (λ_ a b=>a=b):=by
 intro n w u es fs hw l;refine⟨⟨λh w' j i=>(by cases i),⟨ZL _,rfl,λo _=>rfl⟩⟩,λa w' j i=>?_⟩;have k:∀(P:Program) (r:Nat) (w:World) (es:Array Event),(Go.shape r).runT P w es=(.ok (w.shape? r) w,es):=λ_ _ _ _=>rfl
 rw[k]at i;cases i;refine⟨p,u.shape? s,u,#[],by rw[k,ac4],?_,hw,l,dE.refl _ _ _,λe he=>by simp at he⟩;obtain⟨xs,ys,e,f,g,d,c,m,_⟩|⟨_,_,_,d,c,_⟩|⟨_,_,_,d,c,_⟩:=hw.rows r s h
 .simp[World.shape?,d,c,m.1]
 .simp[World.shape?,d,c]
 .simp[World.shape?,d,c]
def af.mark (m:Mark)(hm:Oo m):af P Q K p (mark m) (mark m) (λ_ _ _=>True):=by
 intro g w u es fs hw f;refine⟨⟨λh w' c b=>(by cases b),⟨ZL _,rfl,λi _=>rfl⟩⟩,λa w' c b=>?_⟩;have d:∀(P:Program) (w:World) (es:Array Event),(Go.mark m).runT P w es=(.ok () w,es.push ⟨.mark m,false,true⟩):=λ_ _ _=>rfl
 rw[d]at b;cases b;exact⟨p,(),u,#[⟨.mark m,false,true⟩],by rw[d];rfl,trivial,hw,f,dE.refl _ _ _,λe he=>.inr ⟨m,hm,by simpa using he⟩⟩
def af.noRoom:af P Q K p (Go.mark .noRoom) (Go.mark .noRoom) (λ_ _ _=>True):=af.mark _ trivial
end
variable {st:Prop}
def ag {α:Type}(P:Program)(s:Sem α):Prop:=∀(w:World) (es:Array Event),(∃h w' a,DR h/\s.runT P w es=(.halt h w',a))/\Local P s w es
def aY {α:Type}(P:Program)(s:Sem α):Prop:=∀(w:World) (es:Array Event),((∃a w' b,s.runT P w es=(.ok a w',b))\/∃h w' b,DR h/\s.runT P w es=(.halt h w',b))/\Local P s w es
section
variable {α β γ δ:Type}{P Q:Program}{K:Nat->Prop}{p:Rel st}
def ag.bR {A}{s:Sem α}{t:Sem β}(h:ag P s):af P Q K p s t A:=λ_ w u es fs _ _=>by
 obtain⟨⟨c,w1,d,hm,b⟩,hl⟩:=h w es;exact⟨⟨λ_ _ _ a=>by rw[b]at a;cases a;exact hm,hl⟩,λ_ _ _ a=>by rw[b]at a;cases a⟩
def ag.halt (h)(hm:DR h:=by trivial):ag P (Sem.halt h:Sem α):=λw es=>⟨⟨h,w,es,hm,rfl⟩,⟨ZL _,rfl,λa _=>rfl⟩⟩
def aY.pure (a):aY P (Pure.pure a:Sem α):=λw es=>⟨.inl ⟨a,w,es,rfl⟩,⟨ZL _,rfl,λb _=>rfl⟩⟩
def aY.halt (h)(hm:DR h:=by trivial):aY P (Sem.halt h:Sem α):=λw es=>⟨.inr ⟨h,w,es,hm,rfl⟩,⟨ZL _,rfl,λa _=>rfl⟩⟩
def aY.program:aY P program:=λw es=>⟨.inl ⟨P,w,es,rfl⟩,⟨ZL _,rfl,λa _=>rfl⟩⟩
def aY.newObj (o:Obj):aY P (newObj o):=λw es=>⟨.inl ⟨_,_,es,rfl⟩,⟨ZL _,rfl,λa _=>rfl⟩⟩
def aY.bind {s}{f:α->Sem γ}(hs:aY P s)(h:∀a,aY P (f a)):aY P (s>>=f):=λw es=>by
 refine⟨?_,Local.bind (hs w es).2 λa w' c _=>(h a w' c).2⟩;have e:(s>>=f).runT P w es=(s.bind f).runT P w es:=rfl;rw[e,Sem.runT_bind'];rcases(hs w es).1 with⟨a,w1,d,b⟩|⟨g,w1,d,hm,b⟩
 .rw[b];exact(h a w1 d).1
 .rw[b];exact .inr ⟨g,w1,d,hm,rfl⟩
def aY.typeInfo (t:TypeId):aY P (typeInfo t):=by
 unfold Go.typeInfo;refine aY.bind aY.program λa=>?_
 split
 .exact aY.pure _
 .exact aY.halt _
def aY.underlying (t:TypeId):aY P (underlying t):=by
 unfold Go.underlying;refine aY.bind aY.program λa=>?_
 split
 .exact aY.pure _
 .exact aY.halt _
def aY.shape (r:Nat):aY P (shape r):=λw es=>⟨.inl ⟨_,_,es,rfl⟩,⟨ZL _,rfl,λa _=>rfl⟩⟩
def aY.frozen (a:Addr):aY P (frozen a):=λw es=>⟨.inl ⟨_,_,es,rfl⟩,⟨ZL _,rfl,λb _=>rfl⟩⟩
def aY.mark (m:Mark):aY P (mark m):=λw es=>⟨.inl ⟨_,w,_,rfl⟩,⟨ZL _,rfl,λa _=>rfl⟩⟩
def aY.choose (q:Question):aY P (choose q):=λw es=>by
 refine⟨?_,l8 q w es⟩;rw[eT];split
 .exact .inl ⟨_,_,_,rfl⟩
 .exact .inl ⟨_,_,_,rfl⟩
def aY.holdsCells (a)(n):aY P (Builtin.holdsCells a n):=by
 unfold Builtin.holdsCells;refine aY.bind (aY.shape _) λo=>?_
 split<;>exact aY.pure _
def aY.mayShare (size c n)(base)(x):aY P (Builtin.mayShare size c n base x):=by
 have h:∀there:Bool,aY P (if !there then(Pure.pure true:Sem Bool)else match x with
  |.slice (some b) _ _=>do Pure.pure (!(<-Builtin.holdsCells b (n*size))||base.any (·.block==b.block))
  |_=>Pure.pure false):=by
  intro there;split
  .exact aY.pure _
  .split
   .exact aY.bind (aY.holdsCells _ _) λ_=>aY.pure _
   .exact aY.pure _
 unfold Builtin.mayShare;cases base with
 |none=>exact aY.bind (aY.pure _) h
 |some a=>exact aY.bind (s:=Builtin.holdsCells _ _) (aY.holdsCells _ _) λb=>aY.bind (aY.frozen _) λ_=>aY.bind (aY.pure _) h
def ag.left {s}{f:α->Sem γ}(h:ag P s):ag P (s>>=f):=λw es=>by
 obtain⟨⟨d,w1,i,hm,c⟩,hl⟩:=h w es;refine⟨?_,Local.bind hl λa w' g b=>by rw[c]at b;cases b⟩;have e:(s>>=f).runT P w es=(s.bind f).runT P w es:=rfl;rw[e,Sem.runT_bind',c];exact⟨d,w1,i,hm,rfl⟩
def ag.bind {s}{f:α->Sem γ}(hs:aY P s)(h:∀a,ag P (f a)):ag P (s>>=f):=λw es=>by
 refine⟨?_,Local.bind (hs w es).2 λa w' c _=>(h a w' c).2⟩;have e:(s>>=f).runT P w es=(s.bind f).runT P w es:=rfl;rw[e,Sem.runT_bind'];rcases(hs w es).1 with⟨a,w1,d,b⟩|⟨g,w1,d,hm,b⟩
 .rw[b];exact(h a w1 d).1
 .rw[b];exact⟨g,w1,d,hm,rfl⟩
def Oq:RuntimeError->Prop
 |.typeAssertion .. |.panicNil=>False
 |_=>True
def ag.runtimePanic (e:RuntimeError)(he:Oq e:=by trivial):ag P (runtimePanic e:Sem α):=by
 unfold Go.runtimePanic;refine ag.bind aY.program λq=>?_
 cases e<;>first
  |exact he.elim
  |exact ag.halt _
def ag.boundsPanic (k:IntKind)(x y:Int)(c:BoundsCode):ag P (boundsPanic k x y c:Sem α):=by
 unfold Go.boundsPanic;simp only;split
 .exact ag.bind (aY.bind (aY.choose _) λ_=>aY.pure _) λ_=>ag.runtimePanic _
 .exact ag.bind (aY.pure _) λ_=>ag.runtimePanic _
def af.underlying (t:TypeId):af P Q K p (underlying t) (underlying t) (λ_ a b=>a=b/\P.underlying t=some a):=by
 unfold Go.underlying;refine af.twin λe=>af.bind af.program λq a b _ c=>?_
 rw[c.1,c.2,e.underlying];cases h:P.underlying t with
 |some d=>exact af.pure ⟨rfl,rfl⟩
 |none=>exact af.halt
def af.typeInfo (t:TypeId):af P Q K p (typeInfo t) (typeInfo t) (λ_ a b=>a=b/\P.info? t=some a):=by
 unfold Go.typeInfo;refine af.twin λe=>af.bind af.program λq a b _ c=>?_
 rw[c.1,c.2,e.info];cases h:P.info? t with
 |some d=>exact af.pure ⟨rfl,rfl⟩
 |none=>exact af.halt
def af.sizeOf (t:TypeId):af P Q K p (sizeOf t) (sizeOf t) (λ_ a b=>a=b):=by
 unfold Go.sizeOf;refine af.bind (af.typeInfo t) λq a b _ h=>?_
 obtain⟨rfl,_⟩:=h;exact af.pure rfl
def af.isAgg (t:TypeId):af P Q K p (isAgg t) (isAgg t) (λ_ a b=>a=b):=by
 unfold Go.isAgg;refine af.bind (af.underlying t) λq a b _ h=>?_
 obtain⟨rfl,_⟩:=h;cases a<;>exact af.pure rfl
def af.askRoom (n:Nat):af P Q K p (askRoom n) (askRoom n) (λ_ _ _=>True):=by
 unfold Go.askRoom;split
 .exact af.noRoom
 .exact af.pure trivial
def dM (_:Program):Prop:=True
def tT (P:Program)(t:TypeId):Prop:=∀i v,P.info? t=some i->i.zero=some v->∀(st:Prop) (p:Rel st),VR p v v
def tQ (P:Program)(t:TypeId):Prop:=∀e,P.underlying t=some (.slice e)->tT P e
def VY:Nat->Value->Bool
 |0,_=>false
 |n+1,v=>match v with
  |.bool _|.int _ _|.string _|.pointer none|.slice none _ _|.nilFunc|.nilIface=>true
  |.agg vs|.tuple vs=>vs.all (VY n)
  |_=>false
def MX (p:Rel st):∀(n:Nat) (v:Value),VY n v=true->vE p n v v
 |0,_,h=>by cases h
 |n+1,v,h=>by
  have key:∀vs:Array Value,vs.all (VY n)=true->aF (vE p n) vs vs:=λvs d=>⟨rfl,λi x y hx hy=>by
   rw[hx]at hy;cases hy;exact MX p n x (adb.1 d x (ac5 hx))⟩
  cases v with
  |pointer a=>cases a with
   |none=>trivial
   |some a=>cases h
  |slice a l c=>cases a with
   |none=>exact⟨trivial,rfl,rfl⟩
   |some a=>cases h
  |bool b=>rfl
  |int k m=>exact⟨rfl,rfl⟩
  |string s=>rfl
  |nilFunc=>rfl
  |nilIface=>trivial
  |agg vs=>exact key vs h
  |tuple vs=>exact key vs h
  |_=>cases h
def AF (P:Program)(t:TypeId):Bool:=match P.info? t with
 |some i=>(match i.zero with
  |some v=>VY 8 v
  |none=>true)
 |none=>true
def PM (P:Program)(t:TypeId):Bool:=match P.underlying t with
 |some (.slice e)=>AF P e
 |_=>true
def qG {P}{t}(h:AF P t=true):tT P t:=λi v b a st p=>by
 unfold AF at h;rw[b]at h;simp only[a]at h;exact⟨_,MX p 8 v h⟩
def yM {P}{t}(h:PM P t=true):tQ P t:=λe he=>by
 unfold PM at h;rw[he]at h;exact qG h
def af.zeroValue (t:TypeId)(c:tT P t):af P Q K p (zeroValue t) (zeroValue t) (λq a b=>a=b/\VR q a a):=by
 unfold Go.zeroValue;refine af.bind (af.typeInfo t) λq a b _ h=>?_
 obtain⟨rfl,h⟩:=h;cases d:a.zero with
 |some v=>exact af.pure ⟨rfl,c a v h d _ q⟩
 |none=>exact af.halt
def AR.mono {q}(hp:Ext p q){a b}(h:AR p a b):AR q a b:=⟨hp _ _ h.1,h.2⟩
def AR.add {a b}(h:AR p a b)(n):AR p (a.add n) (b.add n):=by
 unfold Addr.add;split
 .exact h
 .exact⟨h.1,by simp[h.2.1],rfl⟩
def VR.ext {q}(hp:Ext p q){v u}(h:VR p v u):VR q v u:=h.mono hp
def aF.ext {q}(hp:Ext p q){a b}(h:aF (VR p) a b):aF (VR q) a b:=h.mono λ_ _ k=>k.ext hp
def aF.empty {r}:aF r #[] #[]:=⟨rfl,λi x y hx _=>by simp at hx⟩
def aF.push {r}{a b}(h:aF r a b){x y}(d:r x y):aF r (a.push x) (b.push y):=by
 refine⟨by simp[h.1],λi s t hs c=>?_⟩;rw[ac3]at hs c;rw[<-h.1]at c;split at hs
 .rename_i e
  rw[if_pos e]at c;cases hs;cases c;exact d
 .rename_i e
  rw[if_neg e]at c;exact h.2 i s t hs c
def aF.cells {v u}(h:VR p v u):aF (VR p) v.cells u.cells:=by
 have hc:=h.cases
 cases v<;>cases u<;>first
  |exact hc
  |exact hc.elim
  |exact Bool.noConfusion hc
  |exact aF.push aF.empty h
def aF.toList {r}{a b}(h:aF r a b):a.toList.length=b.toList.length/\∀(i:Nat) x y,a.toList[i]? =some x->b.toList[i]? =some y->r x y:=
 ⟨by simpa using h.1,λi x y hx hy=>h.2 i x y (by simpa using hx) (by simpa using hy)⟩
def af.loadCellsFrom {a b:Addr}:∀(n i:Nat) {p:Rel st} {xs ys:Array Value},AR p a b->aF (VR p) xs ys->af P Q K p (loadCellsFrom a i n xs) (loadCellsFrom b i n ys) (λq x y=>aF (VR q) x y)
 |0,i,p,xs,ys,h,c=>by unfold Go.loadCellsFrom;exact af.pure c
 |n+1,i,p,xs,ys,h,c=>by
  unfold Go.loadCellsFrom;refine af.bind (af.load (h.add i)) λq v u d e=>?_
  exact af.loadCellsFrom n (i+1) (h.mono d) ((c.ext d).push e)
def af.loadCells {a b:Addr}(h:AR p a b)(n:Nat):af P Q K p (loadCells a n) (loadCells b n) (λq x y=>aF (VR q) x y):=af.loadCellsFrom n 0 h aF.empty
def af.loadVar {a b:Addr}(t:TypeId)(h:AR p a b):af P Q K p (loadVar t a) (loadVar t b) (λq x y=>VR q x y):=by
 unfold Go.loadVar;refine af.bind (af.isAgg t) λq x y f e=>?_
 subst e;cases x with
 |true=>
  refine af.bind (af.sizeOf t) λi n j d e=>?_
  subst e;refine af.bind (af.loadCells (h.mono (f.trans d)) n) λg c k _ hc=>af.pure (VR.agg hc)
 |false=>exact af.load (h.mono f)
def af.storeCells {a b:Addr}:∀(vs us:List Value) (i:Nat) {p:Rel st},AR p a b->vs.length=us.length->(∀(i:Nat) x y,vs[i]? =some x->us[i]? =some y->VR p x y)->af P Q K p (storeCells a vs i) (storeCells b us i) (λ_ _ _=>True)
 |[],[],i,p,_,_,_=>by unfold Go.storeCells;exact af.pure trivial
 |[],_::_,i,p,_,hl,_=>by simp at hl
 |_::_,[],i,p,_,hl,_=>by simp at hl
 |v::vs,u::us,i,p,h,hl,c=>by
  unfold Go.storeCells;refine af.bind (af.store (h.add i) (c 0 v u rfl rfl)) λq _ _ d _=>?_
  exact af.storeCells vs us (i+1) (h.mono d) (by simpa using hl) λi x y hx hy=>(c (i+1) x y (by simpa using hx) (by simpa using hy)).ext d
def af.storeVar {a b:Addr}(t:TypeId){v u:Value}(h:AR p a b)(f:VR p v u):af P Q K p (storeVar t a v) (storeVar t b u) (λ_ _ _=>True):=by
 unfold Go.storeVar;have hc:=aF.cells f;refine af.bind (af.sizeOf t) λq n m d e=>?_
 subst e;rw[hc.1]
 by_cases c:u.cells.size≠n
 .rw[if_pos c,if_pos c]
  exact ag.bR (λw es=>by refine⟨⟨_,_,_,?_,rfl⟩,ZL _,rfl,λg _=>rfl⟩;trivial)
 .rw[if_neg c,if_neg c]
  exact af.storeCells _ _ 0 (h.mono d) (hc.ext d).toList.1 (hc.ext d).toList.2
def af.l6 {xs ys}(e)(h:aF (VR p) xs ys):af P Q K p (Go.newRow e xs) (Go.newRow e ys) (λq a b=>AR q a b/\¬K b.block):=by
 unfold Go.newRow;exact af.bind (af.newRow e h) λq r s _ c=>af.pure ⟨⟨c.1,rfl,rfl⟩,c.2⟩
def af.newVar {v u}(t)(h:VR p v u):af P Q K p (Go.newVar t v) (Go.newVar t u) (λq a b=>AR q a b/\¬K b.block):=af.l6 t (aF.cells h)
end
variable {st:Prop}
section
variable {α β γ δ:Type}{P Q:Program}{K:Nat->Prop}{p:Rel st}
def VR.bT {k}{n}{u}(h:VR p (.int k n) u):u=.int k n:=by
 have:=h.cases;cases u<;>first|exact this.elim|(obtain⟨rfl,rfl⟩:=this;rfl)
def VR.j3 {b}{u}(h:VR p (.bool b) u):u=.bool b:=by
 have:=h.cases;cases u<;>first|exact this.elim|(obtain rfl:b=_:=this;rfl)
def VR.bO {b}{u}(h:VR p (.string b) u):u=.string b:=by
 have:=h.cases;cases u<;>first|exact this.elim|(obtain rfl:b=_:=this;rfl)
def VR.bV {a}{u}(h:VR p (.pointer a) u):∃b,u=.pointer b/\OA p a b:=by
 have:=h.cases;cases u<;>first|exact this.elim|exact⟨_,rfl,this⟩
def VR.bD {a}{l c}{u}(h:VR p (.slice a l c) u):∃b,u=.slice b l c/\SA p l c a b:=by
 have:=h.cases;cases u<;>first|exact this.elim|(obtain⟨d,rfl,rfl⟩:=this;exact⟨_,rfl,d⟩)
def VR.vQ {a}{u}(h:VR p (.agg a) u):∃b,u=.agg b/\aF (VR p) a b:=by
 have:=h.cases;cases u<;>first|exact this.elim|exact⟨_,rfl,this⟩
def VR.Km {a}{u}(h:VR p (.tuple a) u):∃b,u=.tuple b/\aF (VR p) a b:=by
 have:=h.cases;cases u<;>first|exact this.elim|exact⟨_,rfl,this⟩
def VR.Fu {f}{a c}{u}(h:VR p (.func f a c) u):Ju f/\∃b d,u=.func f b d/\aF (VR p) a b/\aF (VR p) c d:=by
 have:=h.cases;cases u<;>first|exact this.elim|(obtain⟨⟨rfl,i⟩,g,e⟩:=this;exact⟨i,_,_,rfl,g,e⟩)
def OA.aO {a}{b}(h:OA p (some a) b):∃c,b=some c/\AR p a c:=by
 cases b with
 |none=>exact h.elim
 |some c=>exact⟨c,rfl,h⟩
def OA.aV {b}(h:OA p none b):b=none:=by
 cases b with
 |none=>rfl
 |some c=>exact h.elim
def af.sureAddr {v u}(h:VR p v u):af P Q K p (Instr.sureAddr v) (Instr.sureAddr u) (λq a b=>AR q a b):=by
 unfold Instr.sureAddr;cases v with
 |pointer a=>
  cases a with
  |some a=>
   obtain⟨b,rfl,hb⟩:=h.bV;obtain⟨c,rfl,hc⟩:=hb.aO;exact af.pure hc
  |none=>exact af.halt
 |_=>exact af.halt
def af.loadAt {v u}(t)(h:VR p v u):af P Q K p (Instr.loadAt t v) (Instr.loadAt t u) (λq a b=>VR q a b):=by
 unfold Instr.loadAt;exact af.bind (af.sureAddr h) λq a b _ c=>af.loadVar t c
def af.storeAt {v u x y}(t)(h:VR p v u)(hx:VR p x y):af P Q K p (Instr.storeAt t v x) (Instr.storeAt t u y) (λ_ _ _=>True):=by
 unfold Instr.storeAt;exact af.bind (af.sureAddr h) λq a b d c=>af.storeVar t c (hx.ext d)
def af.alloc (t)(d:tT P t):af P Q K p (Instr.alloc t true (.tuple #[])) (Instr.alloc t true (.tuple #[])) (λq a b=>VR q a b):=by
 unfold Instr.alloc;refine af.bind (af.zeroValue t d) λq a b _ c=>?_
 obtain⟨rfl,e⟩:=c;refine af.bind (af.newVar t e) λf a b _ c=>af.pure (VR.ptr c.1)
def af.box {v u}(t)(h:VR p v u):af P Q K p (Instr.box t v) (Instr.box t u) (λq a b=>VR q a b):=by
 unfold Instr.box;exact af.bind (af.newVar t h) λd a b _ c=>af.pure (VR.ptr c.1)
def af.numberAt {r s:Nat}(h:p r s):af P Q K p (numberAt r) (numberAt s) (λq a b=>match a,b with
 |none,none=>True
 |some a,some b=>AR q a.1 b.1/\a.2=b.2
 |_,_=>False):=by
 intro A w u es fs hw v
 have k1:∀(P:Program) (w:World) (es:Array Event) (r:Nat) xs e f,w.heap[r]? =some (.cells xs e f)->(Go.numberAt r).runT P w es=(.ok none w,es):=by
  intro P w es r xs e f h;show(Sem.bind (Go.shape r) _).runT P w es=_
  rw[Sem.runT_bind'];have:(Go.shape r).runT P w es=(.ok (w.shape? r) w,es):=rfl;rw[this];simp only[World.shape?,h];rfl
 have m:∀(P:Program) (w:World) (es:Array Event) (r:Nat) a l,w.heap[r]? =some (.number a l)->(Go.numberAt r).runT P w es=(.ok (some (a,l)) w,es.push ⟨.obj r,false,false⟩):=by
  intro P w es r a l h;show(Sem.bind (Go.shape r) _).runT P w es=_
  rw[Sem.runT_bind'];have:(Go.shape r).runT P w es=(.ok (w.shape? r) w,es):=rfl;rw[this];simp only[World.shape?,h];show(Sem.bind (Go.getObj r) _).runT P w es=_
  rw[Sem.runT_bind']
  have:(Go.getObj r).runT P w es=(.ok (.number a l) w,es.push ⟨.obj r,false,false⟩):=by
   unfold Go.getObj Sem.runT;rw[h];rfl
  rw[this];rfl
 have k:∀(P:Program) (w:World) (es:Array Event) (r:Nat) a t,w.heap[r]? =some (.view a t)->(Go.numberAt r).runT P w es=(.ok none w,es.push ⟨.obj r,false,false⟩):=by
  intro P w es r a t h;show(Sem.bind (Go.shape r) _).runT P w es=_
  rw[Sem.runT_bind'];have:(Go.shape r).runT P w es=(.ok (w.shape? r) w,es):=rfl;rw[this];simp only[World.shape?,h];show(Sem.bind (Go.getObj r) _).runT P w es=_
  rw[Sem.runT_bind']
  have:(Go.getObj r).runT P w es=(.ok (.view a t) w,es.push ⟨.obj r,false,false⟩):=by
   unfold Go.getObj Sem.runT;rw[h];rfl
  rw[this];rfl
 obtain⟨xs,ys,e,f,g,d,n,_⟩|⟨j,a2,l,d,n,y,z⟩|⟨j,a2,l,d,n,y,z⟩:=hw.rows _ _ h
 .refine⟨⟨λx w' i c=>(by rw[k1 P w es r xs e f d]at c;cases c),(by unfold Local;rw[k1 P w es r xs e f d];exact⟨ZL _,rfl,λo _=>(k1 P (ay w o) es r xs e f d).trans rfl⟩)⟩,λa w' i c=>?_⟩
  rw[k1 P w es r xs e f d]at c;cases c;exact⟨p,none,u,#[],by rw[k1 Q u fs s ys e g n,ac4],trivial,hw,v,dE.refl _ _ _,λe he=>by simp at he⟩
 .refine⟨⟨λx w' i c=>(by rw[m P w es r j l d]at c;cases c),(by unfold Local;rw[m P w es r j l d];exact⟨ZL _,rfl,λo _=>(m P (ay w o) es r j l d).trans rfl⟩)⟩,λa w' i c=>?_⟩
  rw[m P w es r j l d]at c;cases c
  exact⟨p,some (a2,l),u,#[⟨.obj s,false,false⟩],by rw[m Q u fs s a2 l n];rfl,⟨y,rfl⟩,hw,v,dE.refl _ _ _,λe he=>by
   obtain rfl:e=⟨.obj s,false,false⟩:=by simpa using he
   exact .inl ⟨s,r,.inl rfl,h,rfl,λh=>by cases h⟩⟩
 .refine⟨⟨λx w' i c=>(by rw[k P w es r j l d]at c;cases c),(by unfold Local;rw[k P w es r j l d];exact⟨ZL _,rfl,λo _=>(k P (ay w o) es r j l d).trans rfl⟩)⟩,λa w' i c=>?_⟩
  rw[k P w es r j l d]at c;cases c
  exact⟨p,none,u,#[⟨.obj s,false,false⟩],by rw[k Q u fs s a2 l n];rfl,trivial,hw,v,dE.refl _ _ _,λe he=>by
   obtain rfl:e=⟨.obj s,false,false⟩:=by simpa using he
   exact .inl ⟨s,r,.inl rfl,h,rfl,λh=>by cases h⟩⟩
def af.viewAt {r s:Nat}(h:p r s):af P Q K p (viewAt r) (viewAt s) (λq a b=>match a,b with
 |none,none=>True
 |some a,some b=>AR q a.1 b.1/\a.2=b.2
 |_,_=>False):=by
 intro A w u es fs hw v
 have k1:∀(P:Program) (w:World) (es:Array Event) (r:Nat) xs e f,w.heap[r]? =some (.cells xs e f)->(Go.viewAt r).runT P w es=(.ok none w,es):=by
  intro P w es r xs e f h;show(Sem.bind (Go.shape r) _).runT P w es=_
  rw[Sem.runT_bind'];have:(Go.shape r).runT P w es=(.ok (w.shape? r) w,es):=rfl;rw[this];simp only[World.shape?,h];rfl
 have m:∀(P:Program) (w:World) (es:Array Event) (r:Nat) a l,w.heap[r]? =some (.number a l)->(Go.viewAt r).runT P w es=(.ok none w,es.push ⟨.obj r,false,false⟩):=by
  intro P w es r a l h;show(Sem.bind (Go.shape r) _).runT P w es=_
  rw[Sem.runT_bind'];have:(Go.shape r).runT P w es=(.ok (w.shape? r) w,es):=rfl;rw[this];simp only[World.shape?,h];show(Sem.bind (Go.getObj r) _).runT P w es=_
  rw[Sem.runT_bind']
  have:(Go.getObj r).runT P w es=(.ok (.number a l) w,es.push ⟨.obj r,false,false⟩):=by
   unfold Go.getObj Sem.runT;rw[h];rfl
  rw[this];rfl
 have k:∀(P:Program) (w:World) (es:Array Event) (r:Nat) a t,w.heap[r]? =some (.view a t)->(Go.viewAt r).runT P w es=(.ok (some (a,t)) w,es.push ⟨.obj r,false,false⟩):=by
  intro P w es r a t h;show(Sem.bind (Go.shape r) _).runT P w es=_
  rw[Sem.runT_bind'];have:(Go.shape r).runT P w es=(.ok (w.shape? r) w,es):=rfl;rw[this];simp only[World.shape?,h];show(Sem.bind (Go.getObj r) _).runT P w es=_
  rw[Sem.runT_bind']
  have:(Go.getObj r).runT P w es=(.ok (.view a t) w,es.push ⟨.obj r,false,false⟩):=by
   unfold Go.getObj Sem.runT;rw[h];rfl
  rw[this];rfl
 obtain⟨xs,ys,e,f,g,d,n,_⟩|⟨j,a2,l,d,n,y,z⟩|⟨j,a2,l,d,n,y,z⟩:=hw.rows _ _ h
 .refine⟨⟨λx w' i c=>(by rw[k1 P w es r xs e f d]at c;cases c),(by unfold Local;rw[k1 P w es r xs e f d];exact⟨ZL _,rfl,λo _=>(k1 P (ay w o) es r xs e f d).trans rfl⟩)⟩,λa w' i c=>?_⟩
  rw[k1 P w es r xs e f d]at c;cases c;exact⟨p,none,u,#[],by rw[k1 Q u fs s ys e g n,ac4],trivial,hw,v,dE.refl _ _ _,λe he=>by simp at he⟩
 .refine⟨⟨λx w' i c=>(by rw[m P w es r j l d]at c;cases c),(by unfold Local;rw[m P w es r j l d];exact⟨ZL _,rfl,λo _=>(m P (ay w o) es r j l d).trans rfl⟩)⟩,λa w' i c=>?_⟩
  rw[m P w es r j l d]at c;cases c
  exact⟨p,none,u,#[⟨.obj s,false,false⟩],by rw[m Q u fs s a2 l n];rfl,trivial,hw,v,dE.refl _ _ _,λe he=>by
   obtain rfl:e=⟨.obj s,false,false⟩:=by simpa using he
   exact .inl ⟨s,r,.inl rfl,h,rfl,λh=>by cases h⟩⟩
 .refine⟨⟨λx w' i c=>(by rw[k P w es r j l d]at c;cases c),(by unfold Local;rw[k P w es r j l d];exact⟨ZL _,rfl,λo _=>(k P (ay w o) es r j l d).trans rfl⟩)⟩,λa w' i c=>?_⟩
  rw[k P w es r j l d]at c;cases c
  exact⟨p,some (a2,l),u,#[⟨.obj s,false,false⟩],by rw[k Q u fs s a2 l n];rfl,⟨y,rfl⟩,hw,v,dE.refl _ _ _,λe he=>by
   obtain rfl:e=⟨.obj s,false,false⟩:=by simpa using he
   exact .inl ⟨s,r,.inl rfl,h,rfl,λh=>by cases h⟩⟩
def af.noView {a b:Addr}(h:AR p a b):af P Q K p (noView a) (noView b) (λ_ _ _=>True):=by
 unfold Go.noView;refine af.bind (af.viewAt h.1) λq x y _ e=>?_
 cases x with
 |none=>cases y with
  |none=>exact af.pure trivial
  |some y=>exact e.elim
 |some x=>exact af.halt
def af.byteOf {a b:Addr}(h:AR p a b):af P Q K p (byteOf a) (byteOf b) (λ_ x y=>x=y):=by
 unfold Go.byteOf;rw[<-h.2.2];cases a.spot with
 |some s=>exact af.pure rfl
 |none=>
  simp only;refine af.twin λc=>af.bind af.program λq x y f e=>?_
  rw[e.1,e.2,c.byteOfCell,c.cellsOf,c.bytesOf];refine af.bind (af.noView (h.mono f)) λi _ _ d _=>?_
  refine af.bind (af.shape ((f.trans d) _ _ h.1)) λg s s' _ e=>?_
  subst e;cases s with
  |none=>exact af.halt
  |some s=>
   simp only;split
   .exact af.pure rfl
   .rw[<-h.2.1]
    cases byteOfCell P P.depth s.1 (a.off%P.cellsOf s.1)with
    |none=>exact af.halt
    |some b=>exact af.pure rfl
def af.partAt {a b:Addr}(h:AR p a b)(c n:Nat):af P Q K p (partAt a c n) (partAt b c n) (λq x y=>AR q x y):=by
 unfold Go.partAt;refine af.bind (af.byteOf h) λq x y f e=>?_
 subst e;have g:AR q {block:=a.block,off:=a.off+c} {block:=b.block,off:=b.off+c}:=⟨f _ _ h.1,by simp[h.2.1],rfl⟩;refine af.bind (af.byteOf g) λk i j d e=>?_
 subst e
 by_cases hx:i=x+n
 .simp only[hx,if_true]
  exact af.pure (g.mono d)
 .simp only[hx,if_false]
  exact af.pure ⟨(f.trans d) _ _ h.1,by simp[h.2.1],rfl⟩
def af.fieldPlace {a b:Addr}(h:AR p a b)(f:Field):af P Q K p (fieldPlace a f) (fieldPlace b f) (λq x y=>AR q x y):=by
 unfold Go.fieldPlace;refine af.bind (af.sizeOf f.type) λq x y c e=>?_
 subst e
 by_cases hx:x=0
 .simp only[hx,if_true]
  exact af.partAt (h.mono c) _ _
 .simp only[hx,if_false]
  exact af.pure ((h.mono c).add _)
def af.fieldAt {v u}(s)(h:VR p v u)(i):af P Q K p (Instr.fieldAt s v i) (Instr.fieldAt s u i) (λq a b=>VR q a b):=by
 unfold Instr.fieldAt;refine af.bind (af.underlying s) λq x y j e=>?_
 obtain⟨rfl,_⟩:=e;cases x with
 |struct fields=>
  simp only;cases fields[i]? with
  |none=>exact af.halt
  |some f=>
   simp only;refine af.bind (af.sureAddr (h.ext j)) λk a b g c=>?_
   exact af.bind (af.fieldPlace c f) λd a b _ c=>af.pure (VR.ptr c)
 |_=>exact af.halt
def af.part {xs ys:Array Value}(t:TypeId)(h:aF (VR p) xs ys)(off:Nat):af P Q K p (part t xs off) (part t ys off) (λq a b=>VR q a b):=by
 unfold Go.part;refine af.bind (af.isAgg t) λq x y j e=>?_
 subst e;have g:=h.ext j;cases x with
 |true=>
  simp only[if_true];refine af.bind (af.sizeOf t) λk n m f e=>?_
  subst e;have d:=g.ext f;refine af.pure (VR.agg ⟨by simp[d.1],λi x y hx hy=>?_⟩);rw[Array.getElem?_extract]at hx hy;rw[<-d.1]at hy;split at hx
  .rename_i c
   rw[if_pos c]at hy;exact d.2 _ x y hx hy
  .cases hx
 |false=>
  simp only[Z0,if_false];cases hx:xs[off]? with
  |none=>exact af.halt
  |some v=>
   have c:off<ys.size:=(by rw[<-h.1];exact(ZK.1 hx).1);rw[ZM c];exact af.pure (g.2 off v _ hx (ZM c))
def af.asIntOf {v u:Value}(h:VR p v u):af P Q K p (asIntOf v) (asIntOf u) (λ_ a b=>a=b):=by
 unfold Go.asIntOf;cases v with
 |int k n=>rw[h.bT];exact af.pure rfl
 |pointer a=>cases a<;>exact af.halt
 |_=>exact af.halt
def af.asInt {v u:Value}(h:VR p v u):af P Q K p (asInt v) (asInt u) (λ_ a b=>a=b):=by
 unfold Go.asInt;refine af.bind (af.asIntOf h) λq x y _ e=>?_
 subst e;exact af.pure rfl
def af.asBool {v u:Value}(h:VR p v u):af P Q K p (asBool v) (asBool u) (λ_ a b=>a=b):=by
 unfold Go.asBool;cases v with
 |bool b=>rw[h.j3];exact af.pure rfl
 |_=>exact af.halt
def af.asAgg {v u:Value}(h:VR p v u):af P Q K p (asAgg v) (asAgg u) (λq a b=>aF (VR q) a b):=by
 unfold Go.asAgg;cases v with
 |agg a=>obtain⟨b,rfl,hb⟩:=h.vQ;exact af.pure hb
 |_=>exact af.halt
def af.field {v u}(t)(h:VR p v u)(i):af P Q K p (Instr.field t v i) (Instr.field t u i) (λq a b=>VR q a b):=by
 unfold Instr.field;refine af.bind (af.underlying t) λq x y d e=>?_
 obtain⟨rfl,_⟩:=e;cases x with
 |struct fields=>
  simp only;cases fields[i]? with
  |none=>exact af.halt
  |some f=>exact af.bind (af.asAgg (h.ext d)) λg a b _ c=>af.part f.type c f.offset
 |_=>exact af.halt
def af.index {v u x y}(t)(h:VR p v u)(hx:VR p x y):af P Q K p (Instr.index t v x) (Instr.index t u y) (λq a b=>VR q a b):=by
 unfold Instr.index;refine af.bind (af.asIntOf hx) λq k k' j e=>?_
 subst e;refine af.bind (af.underlying t) λl d d' f e=>?_
 obtain⟨rfl,_⟩:=e;have g:=(h.ext j).ext f;cases d with
 |array len elem=>
  cases v with
  |agg cs=>
   obtain⟨b,rfl,hb⟩:=g.vQ;simp only;split
   .refine af.bind (af.sizeOf elem) λi n m c e=>?_
    subst e;exact af.part elem (hb.ext c) _
   .exact(ag.boundsPanic _ _ _ _).bR
  |_=>exact af.halt
 |string=>
  cases v with
  |string s=>
   rw[g.bO];simp only;split
   .exact af.pure (VR.int _ _)
   .exact(ag.boundsPanic _ _ _ _).bR
  |_=>exact af.halt
 |_=>exact af.halt
def af.indexAt {v u x y}(t)(h:VR p v u)(hx:VR p x y):af P Q K p (Instr.indexAt t v x) (Instr.indexAt t u y) (λq a b=>VR q a b):=by
 unfold Instr.indexAt;refine af.bind (af.asIntOf hx) λq k k' w e=>?_
 subst e;refine af.bind (af.underlying t) λB d d' i e=>?_
 obtain⟨rfl,_⟩:=e;have l:=(h.ext w).ext i;cases d with
 |array len elem=>
  simp only;refine af.bind (af.sureAddr l) λA a c s j=>?_
  simp only[pure_bind];refine af.bind (af.underlying t) λr d d' g e=>?_
  obtain⟨rfl,_⟩:=e;split
  .refine af.bind (af.sizeOf elem) λo n m f e=>?_
   subst e;exact af.pure (VR.ptr ((j.mono (g.trans f)).add _))
  .exact ag.bR (by repeat' split
                   all_goals first|exact ag.halt _|exact ag.boundsPanic _ _ _ _)
 |slice elem=>
  cases v with
  |slice base len cap=>
   obtain⟨b2,rfl,hb⟩:=l.bD;simp only[pure_bind];refine af.bind (af.underlying t) λr d d' g e=>?_
   obtain⟨rfl,_⟩:=e;cases base with
   |none=>exact(ag.boundsPanic _ _ _ _).bR
   |some a=>
    obtain⟨c,rfl,hc⟩:=hb.aO;simp only;split
    .rename_i z
     have hc:=hc.resolve_right (λh=>by omega);refine af.bind (af.sizeOf elem) λo n m f e=>?_
     subst e;exact af.pure (VR.ptr ((hc.mono (g.trans f)).add _))
    .exact ag.bR (by repeat' split
                     all_goals first|exact ag.halt _|exact ag.boundsPanic _ _ _ _)
  |_=>exact af.halt
 |_=>exact af.halt
def af.extract {v u}(h:VR p v u)(i):af P Q K p (Instr.extract v i) (Instr.extract u i) (λq a b=>VR q a b):=by
 unfold Instr.extract;cases v with
 |tuple a=>
  obtain⟨b,rfl,hb⟩:=h.Km;simp only;cases hx:a[i]? with
  |none=>exact af.halt
  |some x=>
   have c:i<b.size:=(by rw[<-hb.1];exact(ZK.1 hx).1);rw[ZM c];exact af.pure (hb.2 i x _ hx (ZM c))
 |_=>exact af.halt
def aF.append {r}{a b c d}(h:aF r a b)(k:aF r c d):aF r (a++c) (b++d):=by
 refine⟨by simp[h.1,k.1],λi x y hx hy=>?_⟩;rw[Array.getElem?_append]at hx hy;rw[<-h.1]at hy;split at hx
 .rename_i e
  rw[if_pos e]at hy;exact h.2 i x y hx hy
 .rename_i e
  rw[if_neg e]at hy;exact k.2 _ x y hx hy
def aF.same {a}(h:∀v,v∈a->VR p v v):aF (VR p) a a:=⟨rfl,λi x y hx hy=>by
 rw[hx]at hy;cases hy;exact h x (ac5 hx)⟩
def af.behindNumber {a b:Addr}(h:AR p a b):af P Q K p (behindNumber a) (behindNumber b) (λq x y=>AR q x.1 y.1/\x.2=y.2):=by
 unfold Go.behindNumber;refine af.bind (af.numberAt h.1) λq x y c e=>?_
 cases x with
 |none=>cases y with
  |none=>exact af.pure ⟨h.mono c,rfl⟩
  |some y=>exact e.elim
 |some x=>cases y with
  |none=>exact e.elim
  |some y=>exact af.pure e
def af.asNumber {a b:Addr}(l:Bool)(h:AR p a b):af P Q K p (asNumber a l) (asNumber b l) (λq x y=>VR q x y):=by
 unfold Go.asNumber;exact af.bind (af.KX l h) λq r s _ c=>af.pure (VR.ptr ⟨c.1,rfl,rfl⟩)
def af.unsafeAdd {a b}{x y}(t)(h:OA p a b)(hx:VR p x y):af P Q K p (Builtin.unsafeAdd_ #[] t #[.pointer a,x]) (Builtin.unsafeAdd_ #[] t #[.pointer b,y]) (λq x y=>VR q x y/\∃a,x=.pointer a):=by
 unfold Builtin.unsafeAdd_;refine af.bind (af.asInt hx) λq n m o e=>?_
 subst e;cases a with
 |none=>
  obtain rfl:=h.aV;refine ag.bR ?_;simp only
  repeat' split
  all_goals first|exact ag.halt _|exact ag.bind (by first|exact aY.underlying _|exact aY.typeInfo _|exact aY.pure _) λ_=>ag.halt _
 |some a=>
  obtain⟨c,rfl,hc⟩:=h.aO;have d:=hc.mono o;simp only
  by_cases j:n=0
  .simp only[j,if_true]
   refine af.bind (af.viewAt d.1) λl s t f e=>?_
   cases s with
   |none=>cases t with
    |none=>exact af.pure ⟨VR.ptr (d.mono f),_,rfl⟩
    |some t=>exact e.elim
   |some s=>exact af.halt
  .simp only[j,if_false]
   by_cases hl:n<0
   .simp only[hl,if_true]
    exact ag.bR (λw es=>by refine⟨⟨_,_,_,?_,rfl⟩,ZL _,rfl,λu _=>rfl⟩;trivial)
   .simp only[hl,if_false]
    refine af.bind (af.shape d.1) λl s t f e=>?_
    subst e;cases s with
    |none=>exact af.halt
    |some s=>
     simp only;refine af.twin λi=>af.bind af.program λk s' r g e=>?_
     rw[e.1,e.2,i.cellAtBytes,i.cellsOf,<-d.2.1];cases cellAtBytes P P.depth s.1 (s.2/P.cellsOf s.1) a.off n with
     |none=>exact af.halt
     |some off=>exact af.pure ⟨VR.ptr ⟨(f.trans g) _ _ d.1,rfl,d.2.2⟩,_,rfl⟩
def af.movedNumber {x y z f:Value}(t:TypeId)(h:VR p x y)(i:VR p z f)(hp:∃a,x=.pointer a):af P Q K p (movedNumber t x z) (movedNumber t y f) (λq x y=>VR q x y):=by
 obtain⟨a,rfl⟩:=hp;obtain⟨b,rfl,hb⟩:=h.bV;unfold Go.movedNumber;refine af.bind (af.underlying t) λq d d' n e=>?_
 obtain⟨rfl,_⟩:=e;have l:=OA.mono n hb;have s:=i.ext n;cases a with
 |none=>
  obtain rfl:=l.aV
  cases d<;>first
   |exact(af.unsafeAdd t l s).mono λ_ _ _ _ h=>h.1
   |exact ag.bR (λw es=>by refine⟨⟨_,_,_,?_,rfl⟩,ZL _,rfl,λE _=>rfl⟩;trivial)
 |some a=>
  obtain⟨c,rfl,hc⟩:=l.aO
  have main:∀{q:Rel st},AR q a c->VR q z f->af P Q K q
        (do let (a,lost)<-Go.behindNumber a
            match<-Builtin.unsafeAdd_ #[] t #[.pointer (some a),z]with
            |.pointer (some b)=>Go.asNumber b lost
            |v=>Pure.pure v)
        (do let (a,lost)<-Go.behindNumber c
            match<-Builtin.unsafeAdd_ #[] t #[.pointer (some a),f]with
            |.pointer (some b)=>Go.asNumber b lost
            |v=>Pure.pure v) (λq x y=>VR q x y):=by
   intro q hc i;refine af.bind (af.behindNumber hc) λC x y j e=>?_
   obtain⟨x1,x2⟩:=x;obtain⟨m,A⟩:=y;obtain⟨D,rfl⟩:AR C x1 m/\x2=A:=e;refine af.bind (af.unsafeAdd t (a:=some x1) (b:=some m) D (i.ext j)) λB v u _ g=>?_
   obtain⟨g,o,rfl⟩:=g;obtain⟨G,rfl,r⟩:=g.bV;cases o with
   |none=>obtain rfl:=r.aV;exact af.pure g
   |some o=>obtain⟨F,rfl,k⟩:=r.aO;exact af.asNumber x2 k
  cases d<;>first
   |exact main hc s
   |exact ag.bR (λw es=>by refine⟨⟨_,_,_,?_,rfl⟩,ZL _,rfl,λE _=>rfl⟩;trivial)
end
variable {st:Prop}
section
variable {α β γ δ:Type}{P Q:Program}{K:Nat->Prop}{p:Rel st}
def AR.iM {w u}{G}(hw:WR G K p w u){a b c d}(h:AR p a c)(k:AR p b d):(a.block==b.block)=(c.block==d.block):=by
 have:=hw.fit _ _ _ _ h.1 k.1;rw[Bool.eq_iff_iff];simp[this]
def af.given {s}{t}{A:(Rel st)->α->β->Prop}(h:(∃w u,WR P.globals.size K p w u)->af P Q K p s t A):af P Q K p s t A:=
 λa w u es fs hw b=>h ⟨w,u,hw⟩ a w u es fs hw b
def af.twoPlaces {a b c d}(h:AR p a c)(k:AR p b d):af P Q K p (Op.twoPlaces a b) (Op.twoPlaces c d) (λ_ x y=>x=y):=by
 refine af.given fun⟨w,u,hw⟩=>?_
 have A:=AR.iM hw h k;unfold Op.twoPlaces;refine af.twin λj=>af.bind af.program λq s t i e=>?_
 rw[e.1,e.2,j.globals]
 have z:(a.block !=b.block||decide (a.block≥P.globals.size))=(c.block !=d.block||decide (c.block≥P.globals.size)):=by
  have v:(a.block !=b.block)=(c.block !=d.block):=by simp only[bne,A]
  rw[v]
  by_cases f:a.block=c.block
  .rw[f]
  .obtain⟨n,m⟩:=hw.low _ _ h.1 f
   have r:decide (a.block≥P.globals.size)=true:=(by simp[n]);have o:decide (c.block≥P.globals.size)=true:=(by simp[m]);rw[r,o]
 rw[z];split
 .exact ag.bR (λw es=>by refine⟨⟨_,_,_,?_,rfl⟩,ZL _,rfl,λC _=>rfl⟩;trivial)
 .refine af.bind (af.byteOf (h.mono i)) λB x y g e=>?_
  subst e;refine af.bind (af.byteOf ((k.mono i).mono g)) λl x y _ e=>?_
  subst e;exact af.pure rfl
def af.addrSub {a b c d}(k)(h:AR p a c)(f:AR p b d):af P Q K p (Op.addrSub k a b) (Op.addrSub k c d) (λq x y=>VR q x y):=by
 unfold Op.addrSub;refine af.bind (af.twoPlaces h f) λq x y _ e=>?_
 subst e;exact af.pure (VR.int _ _)
def af.addrCmp {a b c d}(op)(h:AR p a c)(f:AR p b d):af P Q K p (Op.addrCmp op a b) (Op.addrCmp op c d) (λq x y=>VR q x y):=by
 unfold Op.addrCmp;refine af.bind (af.twoPlaces h f) λq x y _ e=>?_
 subst e;cases op<;>first|exact af.halt|exact af.pure (VR.bool _)
def af.addrMod {a c}(k)(n)(h:AR p a c):af P Q K p (Op.addrMod k a n) (Op.addrMod k c n) (λq x y=>VR q x y):=by
 unfold Op.addrMod;refine af.bind (af.shape h.1) λq x y f e=>?_
 subst e;cases x with
 |none=>exact af.halt
 |some x=>
  simp only;refine af.bind (af.typeInfo x.1) λg i j b e=>?_
  obtain⟨rfl,_⟩:=e;split
  .exact ag.bR (λw es=>by refine⟨⟨_,_,_,?_,rfl⟩,ZL _,rfl,λl _=>rfl⟩;trivial)
  .refine af.bind (af.byteOf (h.mono (f.trans b))) λd x y _ e=>?_
   subst e;exact af.pure (VR.int _ _)
def af.intArith (op)(k)(x y):af P Q K p (Op.intArith op k x y) (Op.intArith op k x y) (λq a b=>VR q a b):=by
 unfold Op.intArith;cases op<;>first|exact af.pure (VR.int _ _)|exact af.halt
def af.intDiv (op)(k)(x y):af P Q K p (Op.intDiv op k x y) (Op.intDiv op k x y) (λq a b=>VR q a b):=by
 unfold Op.intDiv;split
 .exact(ag.runtimePanic _).bR
 .cases op<;>first|exact af.pure (VR.int _ _)|exact af.halt
def af.intBits (op)(k)(x y):af P Q K p (Op.intBits op k x y) (Op.intBits op k x y) (λq a b=>VR q a b):=by
 unfold Op.intBits;cases op<;>first|exact af.pure (VR.int _ _)|exact af.halt
def af.intCmp (op)(x y):af P Q K p (Op.intCmp op x y) (Op.intCmp op x y) (λq a b=>VR q a b):=by
 unfold Op.intCmp;cases op<;>first|exact af.pure (VR.bool _)|exact af.halt
def af.shift (op)(k)(x)(j)(y):af P Q K p (Op.shift op k x j y) (Op.shift op k x j y) (λq a b=>VR q a b):=by
 unfold Op.shift;split
 .exact(ag.runtimePanic _).bR
 .cases op<;>first|exact af.pure (VR.int _ _)|exact af.halt
def AR.eq_iff {w u}{G}(hw:WR G K p w u){a b c d}(h:AR p a c)(k:AR p b d):(a==b)=(c==d):=by
 rw[Bool.eq_iff_iff];simp only[beq_iff_eq];have:=hw.fit _ _ _ _ h.1 k.1;constructor
 .rintro rfl
  obtain⟨i,c2,c3⟩:=c;obtain⟨d1,d2,d3⟩:=d;have e:=this.1 rfl;simp only at e;have g:c2=d2:=h.2.1.symm.trans k.2.1;have f:c3=d3:=h.2.2.symm.trans k.2.2;rw[e,g,f]
 .rintro rfl
  obtain⟨j,a2,a3⟩:=a;obtain⟨b1,b2,b3⟩:=b;have e:=this.2 rfl;simp only at e;have g:a2=b2:=h.2.1.trans k.2.1.symm;have f:a3=b3:=h.2.2.trans k.2.2.symm;rw[e,g,f]
def af.yI {x y v u}(n)(t){k}(Z:P.underlying t=some (.int k))(h:VR p x v)(k':VR p y u):af P Q K p (Op.equalIn n t x y) (Op.equalIn n t v u) (λ_ a b=>a=b):=by
 cases n with
 |zero=>exact af.halt
 |succ n=>
  unfold Op.equalIn;refine af.bind (af.underlying t) λq d d' L e=>?_
  obtain⟨rfl,hd⟩:=e;rw[Z]at hd;cases hd;have hx:=h.ext L;have hy:=k'.ext L;have A:=hx.cases;have c:=hy.cases;cases x with
  |int k1 a=>
   rw[hx.bT];cases y with
   |int Y b=>
    rw[hy.bT];simp only;split
    .exact af.pure rfl
    .exact af.halt
   |pointer o=>
    obtain⟨V,rfl,D⟩:=hy.bV;cases o with
    |none=>
     obtain rfl:=D.aV;cases a with
     |ofNat m=>cases m<;>exact af.halt
     |negSucc m=>exact af.halt
    |some o=>
     obtain⟨U,rfl,_⟩:=D.aO;cases a with
     |ofNat m=>cases m with
      |zero=>exact af.pure rfl
      |succ m=>exact af.halt
     |negSucc m=>exact af.halt
   |_=>first|exact c.elim|exact Bool.noConfusion c|(cases u<;>first|exact c.elim|exact Bool.noConfusion c|exact af.halt)
  |pointer o=>
   obtain⟨V,rfl,D⟩:=hx.bV;cases o with
   |none=>cases y<;>cases u<;>first|exact c.elim|exact Bool.noConfusion c|exact af.halt
   |some o=>
    obtain⟨U,rfl,H⟩:=D.aO;cases y with
    |int Y b=>
     rw[hy.bT];cases b with
     |ofNat m=>cases m with
      |zero=>exact af.pure rfl
      |succ m=>exact af.halt
     |negSucc m=>exact af.halt
    |pointer r=>
     obtain⟨r',rfl,J⟩:=hy.bV;cases r with
     |none=>obtain rfl:=J.aV;exact af.halt
     |some r=>
      obtain⟨r2,rfl,E⟩:=J.aO;refine af.bind (af.behindNumber H) λT z M G e=>?_
      obtain⟨z1,z2⟩:=z;obtain⟨l,N⟩:=M;obtain⟨e1,rfl⟩:AR T z1 l/\z2=N:=e;refine af.bind (af.behindNumber (E.mono G)) λS v v' F e=>?_
      obtain⟨v1,v2⟩:=v;obtain⟨u1,u2⟩:=v';obtain⟨I,rfl⟩:AR S v1 u1/\v2=u2:=e;have g:=e1.mono F;refine af.twin λO=>af.bind af.program λq3 s s' f e=>?_
      rw[e.1,e.2,O.globals];refine af.given fun⟨w,u,hw⟩=>?_
      have f1:=AR.iM hw (g.mono f) (I.mono f);have f2:=AR.eq_iff hw (g.mono f) (I.mono f)
      have f3:(z1.block==v1.block&&decide (z1.block<P.globals.size))=(l.block==u1.block&&decide (l.block<P.globals.size)):=by
           rw[f1]
           by_cases C:z1.block=l.block
           .rw[C]
           .obtain⟨X,W⟩:=hw.low _ _ ((g.mono f).1) C
            have e4:decide (z1.block<P.globals.size)=false:=(by simp[X]);have e5:decide (l.block<P.globals.size)=false:=(by simp[W]);rw[e4,e5]
      simp only[f3];split
      .refine af.bind (af.byteOf (g.mono f)) λR b b' B e=>?_
       subst e;refine af.bind (af.byteOf ((I.mono f).mono B)) λq5 b b' α e=>?_
       subst e;exact af.pure rfl
      .refine af.bind (af.typeInfo t) λR i j B e=>?_
       obtain⟨rfl,_⟩:=e;rw[f2];split
       .split
        .exact af.pure rfl
        .exact af.halt
       .exact af.halt
    |_=>first|exact c.elim|exact Bool.noConfusion c|(cases u<;>first|exact c.elim|exact Bool.noConfusion c|exact af.halt)
  |_=>cases v<;>first|exact A.elim|exact Bool.noConfusion A|(cases y<;>cases u<;>first|exact c.elim|exact Bool.noConfusion c|exact af.halt)
end
variable {st:Prop}
section
variable {α β γ δ:Type}{P Q:Program}{K:Nat->Prop}{p:Rel st}
def ag.type {t}{d}(i:P.underlying t=some d){f:TypeDesc->Sem γ}(h:ag P (f d)):ag P (Go.underlying t>>=f):=λw es=>by
 obtain⟨r,b,g⟩:∃r b,(Go.underlying t).runT P w es=(r,b):=⟨_,_,rfl⟩
 have j:r=.ok d w:=by
  have:=congrArg Prod.fst g;rw[Sem.runT_fst,run_underlying i]at this;exact this.symm
 subst j;refine⟨?_,Local.bind ((aY.underlying t) w es).2 λa w' k c=>?_⟩
 .have e:(Go.underlying t>>=f).runT P w es=((Go.underlying t).bind f).runT P w es:=rfl
  rw[e,Sem.runT_bind',g];exact(h w b).1
 .rw[g]at c
  cases c;exact(h w b).2
def isIface:Value->Prop
 |.nilFunc=>True
 |_=>False
def iX {x y}(n)(t)(a:(∃k,P.underlying t=some (.int k))\/P.underlying t=some .bool\/(∃e,P.underlying t=some (.slice e))\/(∃e,P.underlying t=some (.pointer e)))(h:isIface x):ag P (Op.equalIn n t x y):=by
 cases n with
 |zero=>exact ag.halt _
 |succ n=>
  unfold Op.equalIn;cases x<;>first|exact h.elim|skip
  rcases a with⟨k,a⟩|a|⟨e,a⟩|⟨e,a⟩
  all_goals refine ag.type a ?_
  all_goals cases y<;>first|exact ag.halt _|(rename_i o;cases o<;>exact ag.halt _)|(rename_i o l c;cases o<;>exact ag.halt _)
def uB {x y}(op)(t)(c:(∃k,P.underlying t=some (.int k))\/P.underlying t=some .bool\/(∃e,P.underlying t=some (.slice e))\/(∃e,P.underlying t=some (.pointer e)))(h:isIface x):ag P (binOp op t x y):=by
 have b:∀y,ag P (do Pure.pure (.bool (<-Op.equal t x y)):Sem Value):=λy=>ag.left (iX _ t c h)
 have a:∀y,ag P (do Pure.pure (.bool (!(<-Op.equal t x y))):Sem Value):=λy=>ag.left (iX _ t c h)
 cases x<;>first|exact h.elim|skip
 cases y<;>cases op<;>first|exact ag.halt _|exact b _|exact a _
def iw {x}(n)(t)(a:(∃k,P.underlying t=some (.int k))\/P.underlying t=some .bool\/(∃e,P.underlying t=some (.slice e))\/(∃e,P.underlying t=some (.pointer e))):ag P (Op.equalIn n t x .nilFunc):=by
 cases n with
 |zero=>exact ag.halt _
 |succ n=>
  unfold Op.equalIn;rcases a with⟨k,a⟩|a|⟨e,a⟩|⟨e,a⟩
  all_goals refine ag.type a ?_
  all_goals cases x<;>first|exact ag.halt _|(rename_i o;cases o<;>exact ag.halt _)|(rename_i o l c;cases o<;>exact ag.halt _)|(rename_i k n;cases n with
   |ofNat m=>cases m<;>exact ag.halt _
   |negSucc m=>exact ag.halt _)
def l7 {x}(op)(t)(c:(∃k,P.underlying t=some (.int k))\/P.underlying t=some .bool\/(∃e,P.underlying t=some (.slice e))\/(∃e,P.underlying t=some (.pointer e))):ag P (binOp op t x .nilFunc):=by
 have b:∀x,ag P (do Pure.pure (.bool (<-Op.equal t x .nilFunc)):Sem Value):=λx=>ag.left (iw _ t c)
 have a:∀x,ag P (do Pure.pure (.bool (!(<-Op.equal t x .nilFunc))):Sem Value):=λx=>ag.left (iw _ t c)
 cases x<;>cases op<;>first|exact ag.halt _|exact b _|exact a _|(rename_i o;cases o<;>exact ag.halt _)
def af.tF {x y v u}(n)(t)(f:P.underlying t=some .bool)(h:VR p x v)(k':VR p y u):af P Q K p (Op.equalIn n t x y) (Op.equalIn n t v u) (λ_ a b=>a=b):=by
 cases n with
 |zero=>exact af.halt
 |succ n=>
  unfold Op.equalIn;refine af.bind (af.underlying t) λq d d' c e=>?_
  obtain⟨rfl,hd⟩:=e;rw[f]at hd;cases hd;have hx:=(h.ext c).cases;have hy:=(k'.ext c).cases
  cases x<;>cases v<;>first
   |exact hx.elim
   |exact Bool.noConfusion hx
   |(cases y<;>cases u<;>first
        |exact hy.elim
        |exact Bool.noConfusion hy
        |(obtain rfl:_=_:=hx;obtain rfl:_=_:=hy;exact af.pure rfl)
        |exact af.halt)
def af.FH {x v}{y}(n)(t)(c:(∃e,P.underlying t=some (.slice e)/\y=.slice none 0 0)\/(∃e,P.underlying t=some (.pointer e)/\y=.pointer none))(h:VR p x v):af P Q K p (Op.equalIn n t x y) (Op.equalIn n t v y) (λ_ a b=>a=b):=by
 cases n with
 |zero=>exact af.halt
 |succ n=>
  unfold Op.equalIn;refine af.bind (af.underlying t) λq d d' g e=>?_
  obtain⟨rfl,hd⟩:=e;have hx:=(h.ext g).cases;rcases c with⟨e,c,rfl⟩|⟨e,c,rfl⟩<;>rw[c]at hd<;>cases hd
  .cases x<;>cases v<;>first
        |exact hx.elim
        |exact Bool.noConfusion hx
        |exact af.halt
        |(rename_i f k l a2 j c2
          obtain⟨i,rfl,rfl⟩:=hx;cases f<;>cases a2<;>first|exact af.pure rfl|exact i.elim)
  .cases x<;>cases v<;>first
        |exact hx.elim
        |exact Bool.noConfusion hx
        |exact af.halt
        |(rename_i f a2
          cases f<;>cases a2<;>first|exact af.pure rfl|exact(hx:False).elim)
def af.eqGuardIn {x y v u}(n)(t)(c:(∃k,P.underlying t=some (.int k))\/P.underlying t=some .bool\/(∃e,P.underlying t=some (.slice e))\/(∃e,P.underlying t=some (.pointer e))):af P Q K p (Op.eqGuardIn n t x y) (Op.eqGuardIn n t v u) (λ_ a b=>a=b):=by
 cases n with
 |zero=>exact af.halt
 |succ n=>
  unfold Op.eqGuardIn;refine af.bind (af.underlying t) λq d d' f e=>?_
  obtain⟨rfl,hd⟩:=e;rcases c with⟨k,c⟩|c|⟨e,c⟩|⟨e,c⟩<;>rw[c]at hd<;>cases hd<;>exact af.pure rfl
def af.eqGuard {x y v u:Value}(op:BinOp)(t:TypeId)(a b:Operand)(i:(∃k,P.underlying t=some (.int k))\/P.underlying t=some .bool\/(∃e,P.underlying t=some (.slice e))\/(∃e,P.underlying t=some (.pointer e)))(h:VR p x v)(k:VR p y u):af P Q K p (eqGuard op t a b x y) (eqGuard op t a b v u) (λ_ _ _=>True):=by
 have hx:=h.cases;have hy:=k.cases;unfold Go.eqGuard
 have f:∀{q:Rel st} (c:Bool),af P Q K q
  (if c then(Pure.pure ():Sem Unit)else do
        if<-Op.eqGuardIn Op.maxDepth t .nilIface .nilIface then unsupported (.noEntry "binop/eql: two nil values of an interface type with methods, neither of them the literal nil"))
  (if c then(Pure.pure ():Sem Unit)else do
        if<-Op.eqGuardIn Op.maxDepth t .nilIface .nilIface then unsupported (.noEntry "binop/eql: two nil values of an interface type with methods, neither of them the literal nil")) (λ_ _ _=>True):=by
  intro q c;cases c with
  |true=>exact af.pure trivial
  |false=>
   refine af.bind (af.eqGuardIn _ t i) λl c d _ e=>?_
   subst e;cases c with
   |true=>exact af.halt
   |false=>exact af.pure trivial
 have g:∀{q:Rel st} (xs ys vs us:Array Value),af P Q K q
  (do if !(<-Go.program).eqGuardType (<-Go.program).depth t then return
      if<-Op.eqGuardIn Op.maxDepth t (.agg xs) (.agg ys)then unsupported (.noEntry "binop/eql: two nil values of an interface type with methods, in a part of a struct or an array"))
  (do if !(<-Go.program).eqGuardType (<-Go.program).depth t then return
      if<-Op.eqGuardIn Op.maxDepth t (.agg vs) (.agg us)then unsupported (.noEntry "binop/eql: two nil values of an interface type with methods, in a part of a struct or an array")) (λ_ _ _=>True):=by
  intro q xs ys vs us;refine af.twin λj=>af.bind af.program λq s s' _ e=>?_
  rw[e.1,e.2];refine af.bind af.program λq s s' _ e=>?_
  rw[e.1,e.2,j.eqGuardType];split
  .exact af.pure trivial
  .refine af.bind (af.eqGuardIn _ t i) λl c d _ e=>?_
   subst e;cases c with
   |true=>exact af.halt
   |false=>exact af.pure trivial
 cases op<;>first
  |exact af.pure trivial
  |(cases x<;>cases v<;>first
       |exact hx.elim
       |exact Bool.noConfusion hx
       |(cases y<;>cases u<;>first
        |exact hy.elim
        |exact Bool.noConfusion hy
        |exact af.pure trivial
        |exact f _
        |exact g _ _ _ _))
def af.Sg {x y v u}(op)(t){k}(B:P.underlying t=some (.int k))(h:VR p x v)(f:VR p y u):af P Q K p (binOp op t x y) (binOp op t v u) (λq a b=>VR q a b):=by
 have hx:=h.cases;have hy:=f.cases
 have eqv:∀{a b c d:Value},VR p a c->VR p b d->af P Q K p (do Pure.pure (.bool (<-Op.equal t a b))) (do Pure.pure (.bool (<-Op.equal t c d))) (λq a b=>VR q a b):=λA C=>
  af.bind (af.yI _ t B A C) λq a b _ e=>by subst e;exact af.pure (VR.bool _)
 have g:∀{a b c d:Value},VR p a c->VR p b d->af P Q K p (do Pure.pure (.bool (!(<-Op.equal t a b)))) (do Pure.pure (.bool (!(<-Op.equal t c d)))) (λq a b=>VR q a b):=λA C=>
  af.bind (af.yI _ t B A C) λq a b _ e=>by subst e;exact af.pure (VR.bool _)
 have cmp:∀{a b c d:Addr} (op:BinOp),AR p a c->AR p b d->af P Q K p (do Op.addrCmp op (<-Go.behindNumber a).1 (<-Go.behindNumber b).1) (do Op.addrCmp op (<-Go.behindNumber c).1 (<-Go.behindNumber d).1) (λq a b=>VR q a b):=λop A C=>
  af.bind (af.behindNumber A) λI z H l e=>af.bind (af.behindNumber (C.mono l)) λR v v' w G=>af.addrCmp op (e.1.mono w) G.1
 have mod:∀{a c:Addr} (k:IntKind) (n:Int),AR p a c->af P Q K p (do Op.addrMod k (<-Go.behindNumber a).1 n) (do Op.addrMod k (<-Go.behindNumber c).1 n) (λq a b=>VR q a b):=λk n A=>
  af.bind (af.behindNumber A) λI z H l e=>af.addrMod k n e.1
 have str:∀(op:BinOp) (a b:ByteArray),af P Q K p (Op.stringOp op a b) (Op.stringOp op a b) (λq a b=>VR q a b):=by
  intro op a b;unfold Op.stringOp
  cases op<;>first
   |exact af.pure (VR.bool _)
   |exact af.halt
   |(simp only;split
     .exact af.halt
     .exact af.pure (VR.string _))
 cases x with
 |int k1 a=>
  obtain rfl:=h.bT;cases y with
  |int L b=>
   obtain rfl:=f.bT;cases op with
   |shl=>simp only[binOp];exact af.shift _ _ _ _ _
   |shr=>simp only[binOp];exact af.shift _ _ _ _ _
   |_=>
    by_cases N:k1≠L
    .simp only[binOp,if_pos N];exact af.halt
    .simp only[binOp,if_neg N]
     first|exact af.intArith _ _ _ _|exact af.intDiv _ _ _ _|exact af.intBits _ _ _ _|exact af.intCmp _ _ _
  |pointer o=>
   obtain⟨D,rfl,m⟩:=f.bV;cases o with
   |none=>
    obtain rfl:=m.aV;cases op with
    |eql=>exact eqv h f
    |neq=>exact g h f
    |add=>exact af.movedNumber t f h ⟨_,rfl⟩
    |_=>exact af.halt
   |some o=>
    obtain⟨J,rfl,i⟩:=m.aO;cases op with
    |eql=>exact eqv h f
    |neq=>exact g h f
    |add=>exact af.movedNumber t f h ⟨_,rfl⟩
    |and=>exact mod _ _ i
    |_=>exact af.halt
  |nilFunc=>exact ag.bR (l7 op t (.inl ⟨_,B⟩))
  |_=>cases u<;>first
    |exact hy.elim
    |exact Bool.noConfusion hy
    |(cases op with
       |eql=>exact eqv h f
       |neq=>exact g h f
       |_=>exact af.halt)
 |pointer o=>
  obtain⟨D,rfl,m⟩:=h.bV
  have s:∀{y u:Value},VR p y u->af P Q K p (do if(<-Go.underlying t) matches .unsafePointer then movedPointer t (.pointer o) y else Go.movedNumber t (.pointer o) y)
        (do if(<-Go.underlying t) matches .unsafePointer then movedPointer t (.pointer D) u else Go.movedNumber t (.pointer D) u) (λq a b=>VR q a b):=by
   intro y u E;refine af.bind (af.underlying t) λq d d' M e=>?_
   obtain⟨rfl,hd⟩:=e;rw[B]at hd;cases hd;exact af.movedNumber t (h.ext M) (E.ext M) ⟨_,rfl⟩
  cases y with
  |int L b=>
   obtain rfl:=f.bT;cases o with
   |none=>
    obtain rfl:=m.aV;cases op with
    |eql=>exact eqv h f
    |neq=>exact g h f
    |add=>exact s f
    |sub=>exact af.movedNumber t h (VR.int _ _) ⟨_,rfl⟩
    |_=>exact af.halt
   |some o=>
    obtain⟨J,rfl,i⟩:=m.aO;cases op with
    |eql=>exact eqv h f
    |neq=>exact g h f
    |add=>exact s f
    |sub=>exact af.movedNumber t h (VR.int _ _) ⟨_,rfl⟩
    |rem=>exact mod _ _ i
    |and=>exact mod _ _ i
    |_=>exact af.halt
  |pointer r=>
   obtain⟨O,rfl,F⟩:=f.bV;cases o with
   |none=>
    obtain rfl:=m.aV;cases op with
    |eql=>exact eqv h f
    |neq=>exact g h f
    |_=>cases r<;>cases O<;>first|exact af.halt|exact F.elim
   |some o=>
    obtain⟨J,rfl,i⟩:=m.aO;cases r with
    |none=>
     obtain rfl:=F.aV;cases op with
     |eql=>exact eqv h f
     |neq=>exact g h f
     |_=>exact af.halt
    |some r=>
     obtain⟨S,rfl,j⟩:=F.aO;cases op with
     |eql=>exact eqv h f
     |neq=>exact g h f
     |sub=>exact af.bind (af.behindNumber i) λI z H l e=>af.bind (af.behindNumber (j.mono l)) λR v v' w G=>af.addrSub _ (e.1.mono w) G.1
     |lss=>exact cmp _ i j
     |leq=>exact cmp _ i j
     |gtr=>exact cmp _ i j
     |geq=>exact cmp _ i j
     |_=>exact af.halt
  |_=>cases u<;>first
    |exact hy.elim
    |exact Bool.noConfusion hy
    |(cases op with
          |eql=>exact eqv h f
          |neq=>exact g h f
          |_=>cases o<;>cases D<;>first|exact af.halt|exact m.elim)
 |string a=>
  obtain rfl:=h.bO;cases y with
  |string b=>
   obtain rfl:=f.bO;cases op<;>(simp only[binOp];exact str _ _ _)
  |nilFunc=>exact ag.bR (l7 op t (.inl ⟨_,B⟩))
  |_=>cases u<;>first
    |exact hy.elim
    |exact Bool.noConfusion hy
    |(cases op with
       |eql=>exact eqv h f
       |neq=>exact g h f
       |_=>exact af.halt)
 |nilFunc=>exact ag.bR (uB op t (.inl ⟨_,B⟩) trivial)
 |_=>cases v<;>first
   |exact hx.elim
   |exact Bool.noConfusion hx
   |(cases y<;>cases u<;>first
      |exact hy.elim
      |exact Bool.noConfusion hy
      |(cases op with
       |eql=>exact eqv h f
       |neq=>exact g h f
       |_=>exact af.halt))
def af.N9 {x y v u}(op)(t)(m:op=.eql\/op=.neq)(h:VR p x v)
 (c:(P.underlying t=some .bool/\VR p y u)\/(u=y/\((∃e,P.underlying t=some (.slice e)/\y=.slice none 0 0)\/(∃e,P.underlying t=some (.pointer e)/\y=.pointer none)))):af P Q K p (binOp op t x y) (binOp op t v u) (λq a b=>VR q a b):=by
 have hx:=h.cases
 have eqv:af P Q K p (do Pure.pure (.bool (<-Op.equal t x y))) (do Pure.pure (.bool (<-Op.equal t v u))) (λq a b=>VR q a b):=by
  refine af.bind (A:=λ_ a b=>a=b) ?_ λq a b _ e=>by subst e;exact af.pure (VR.bool _)
  rcases c with⟨c,f⟩|⟨rfl,c⟩
  .exact af.tF _ t c h f
  .exact af.FH _ t c h
 have n:af P Q K p (do Pure.pure (.bool (!(<-Op.equal t x y)))) (do Pure.pure (.bool (!(<-Op.equal t v u)))) (λq a b=>VR q a b):=by
  refine af.bind (A:=λ_ a b=>a=b) ?_ λq a b _ e=>by subst e;exact af.pure (VR.bool _)
  rcases c with⟨c,f⟩|⟨rfl,c⟩
  .exact af.tF _ t c h f
  .exact af.FH _ t c h
 have hy:(∃a,y=.slice a 0 0/\u=y)\/(y=.pointer none/\u=y)\/VR p y u:=by
  rcases c with⟨_,f⟩|⟨rfl,⟨e,_,rfl⟩|⟨e,_,rfl⟩⟩
  .exact .inr (.inr f)
  .exact .inl ⟨_,rfl,rfl⟩
  .exact .inr (.inl ⟨rfl,rfl⟩)
 have o:VR p y u:=by
  rcases c with⟨_,f⟩|⟨rfl,⟨e,_,rfl⟩|⟨e,_,rfl⟩⟩
  .exact f
  .exact VR.slice trivial
  .exact VR.ptr trivial
 have d:=o.cases
 have k:∀(k1 l:IntKind) (a b:Int),af P Q K p (binOp op t (.int k1 a) (.int l b)) (binOp op t (.int k1 a) (.int l b)) (λq a b=>VR q a b):=by
  intro k1 l a b
  by_cases s:k1≠l
  .rcases m with rfl|rfl<;>(simp only[binOp,if_pos s];exact af.halt)
  .rcases m with rfl|rfl<;>(simp only[binOp,if_neg s];exact af.intCmp _ _ _)
 have g:∀(a b:ByteArray),af P Q K p (binOp op t (.string a) (.string b)) (binOp op t (.string a) (.string b)) (λq a b=>VR q a b):=by
  intro a b;rcases m with rfl|rfl<;>(simp only[binOp,Op.stringOp];exact af.pure (VR.bool _))
 have j:isIface x->af P Q K p (binOp op t x y) (binOp op t v u) (λq a b=>VR q a b):=λr=>ag.bR (uB op t (by
  rcases c with⟨c,_⟩|⟨_,⟨e,c,_⟩|⟨e,c,_⟩⟩
  .exact .inr (.inl c)
  .exact .inr (.inr (.inl ⟨e,c⟩))
  .exact .inr (.inr (.inr ⟨e,c⟩))) r)
 have i:y=.nilFunc->af P Q K p (binOp op t x y) (binOp op t v u) (λq a b=>VR q a b):=λr=>by
  subst r
  exact ag.bR (l7 op t (by
   rcases c with⟨c,_⟩|⟨_,⟨e,c,_⟩|⟨e,c,_⟩⟩
   .exact .inr (.inl c)
   .exact .inr (.inr (.inl ⟨e,c⟩))
   .exact .inr (.inr (.inr ⟨e,c⟩))))
 clear c hy
 cases x<;>cases v<;>first
  |exact hx.elim
  |exact j trivial
  |exact Bool.noConfusion hx
  |(cases y<;>cases u<;>first
       |exact d.elim
       |exact i rfl
       |exact Bool.noConfusion d
       |(obtain⟨rfl,rfl⟩:=hx;obtain⟨rfl,rfl⟩:=d;exact k _ _ _ _)
       |(obtain rfl:_=_:=hx;obtain rfl:_=_:=d;exact g _ _)
       |(rcases m with rfl|rfl
         .exact eqv
         .exact n))
end
end
