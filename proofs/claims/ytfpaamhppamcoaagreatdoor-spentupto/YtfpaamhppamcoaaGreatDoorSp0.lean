/- Part 0 of the proof. -/
import Derived.Conc.Events
set_option linter.all false
namespace Go.Proofs.YtfpaamhppamcoaaGreatDoor
abbrev ZK:=@Array.getElem?_eq_some_iff
abbrev ZL:=@Nat.le_refl
abbrev ZM:=@Array.getElem?_eq_getElem
abbrev ZN:=@List.setIfInBounds_toArray
abbrev ZO:=@Nat.lt_of_lt_of_le
abbrev ZP:=@Nat.le_trans
abbrev ZQ:=@Bool.and_eq_true
abbrev ZR:=@List.set_cons_zero
abbrev ZS:=@List.set_cons_succ
abbrev ZT:=@List.getElem?_eq_getElem
abbrev ZU:=@List.all_eq_true
abbrev ZV:=@Nat.not_lt_zero
abbrev ZW:=@List.mem_cons
abbrev ZX:=@List.mem_cons_self
abbrev ZY:=@Array.getD_eq_getD_getElem?
abbrev ZZ:=@List.getElem?_eq_some_iff
abbrev Z0:=@Bool.false_eq_true
abbrev Z4:=@Nat.lt_succ_self
abbrev aaz:=@List.mem_append
abbrev Z5:=@List.getElem?_take
abbrev Z6:=@List.range_succ
abbrev Z7:=@List.length_append
abbrev Z8:=@Nat.zero_add
abbrev Z9:=@List.mem_range
section
open Go
def Rel (_:Prop):Type:=Nat->Nat->Prop
variable {st:Prop}
def dS:List Nat:=[77,128,80,134,83,135,136,169,170]
def FnOk:Fn->Prop
 |.func f=>f∈dS
 |_=>False
def aF (r:Value->Value->Prop)(a b:Array Value):Prop:=a.size=b.size/\∀(i:Nat) (x y:Value),a[i]? =some x->b[i]? =some y->r x y
def AR (p:Rel st)(a b:Addr):Prop:=p a.block b.block/\a.off=b.off/\a.spot=b.spot
def OA (p:Rel st):Option Addr->Option Addr->Prop
 |none,none=>True
 |some a,some b=>AR p a b
 |_,_=>False
def SA (p:Rel st)(l c:Nat):Option Addr->Option Addr->Prop
 |none,none=>True
 |some a,some b=>AR p a b\/((l=0/\c=0)/\st)
 |_,_=>False
def iT:List Nat:=[31,37,47]
def bP:TypeId:=244
def ifaceT:List Nat:=[9,195,345,326]
def okIb (t:TypeId):Bool:=ifaceT.contains t
theorem okIb_calm {t}(h:okIb t=true):iT.contains t=false/\(t==bP)=false:=by
 have key:∀t∈ifaceT,iT.contains t=false/\(t==bP)=false:=by decide
 exact key t (by simpa[okIb] using h)
def topU:Value->Bool
 |.float _ _|.complex _ _ _|.map _|.chan _|.iface _ _|.func _ _ _|.pointer _|.slice _ _ _|.nilFunc|.int .u8 _|.string _=>true
 |_=>false
def noU8:Value->Prop
 |.int .u8 _=>False
 |_=>True
def VRn (p:Rel st):Nat->Value->Value->Prop
 |0,_,_=>False
 |n+1,v,u=>match v,u with
  |.bool a,.bool b=>a=b
  |.int k a,.int k' b=>k=k'/\a=b
  |.string a,.string b=>a=b
  |.pointer a,.pointer b=>OA p a b
  |.slice a l c,.slice b l' g=>SA p l c a b/\l=l'/\c=g
  |.func f x c,.func f' y d=>(f=f'/\FnOk f)/\aF (VRn p n) x y/\aF (VRn p n) c d
  |.nilFunc,b=>topU b=true
  |.nilIface,.nilIface=>True
  |.iface t a,.iface e b=>t=e/\((okIb t=true/\VRn p n a b)\/(t=bP/\a=b))
  |.agg a,.agg b=>aF (VRn p n) a b
  |.tuple a,.tuple b=>aF (VRn p n) a b
  |_,_=>False
def VR (p:Rel st)(v u:Value):Prop:=∃n,VRn p n v u
theorem VR.gU {p:Rel st}{u}(h:topU u=true):VR p .nilFunc u:=⟨1,h⟩
theorem aF.mono {r s}{a b}(h:aF r a b)(c:∀x y,r x y->s x y):aF s a b:=⟨h.1,λi x y hx hy=>c _ _ (h.2 i x y hx hy)⟩
theorem OA.mono {p q:Rel st}(hp:∀b c,p b c->q b c){a b}(h:OA p a b):OA q a b:=by
 cases a<;>cases b<;>first|exact h|exact⟨hp _ _ h.1,h.2⟩
theorem SA.mono {p q:Rel st}(hp:∀b c,p b c->q b c){l c}{a b}(h:SA p l c a b):SA q l c a b:=by
 cases a<;>cases b<;>first|exact h|exact h.imp (λh=>⟨hp _ _ h.1,h.2⟩) id
theorem OA.sa {p:Rel st}{a b}(h:OA p a b)(l c):SA p l c a b:=by
 cases a<;>cases b<;>first|exact h|exact .inl h
theorem SA.aV {p:Rel st}{l c}{b}(h:SA p l c none b):b=none:=by
 cases b<;>first|rfl|exact h.elim
theorem SA.aO {p:Rel st}{l c}{a}{b}(h:SA p l c (some a) b):∃x,b=some x/\(AR p a x\/((l=0/\c=0)/\st)):=by
 cases b<;>first|exact h.elim|exact⟨_,rfl,h⟩
theorem VRn.up {p:Rel st}:∀{n:Nat} {v u:Value},VRn p n v u->VRn p (n+1) v u
 |0,_,_,h=>h.elim
 |n+1,v,u,h=>by
  have a:∀{v u:Value},VRn p n v u->VRn p (n+1) v u:=λh=>VRn.up h
  cases v<;>cases u<;>first
   |exact h
   |exact⟨h.1,h.2.1.mono λ_ _=>a,h.2.2.mono λ_ _=>a⟩
   |exact⟨h.1,h.2.imp (λk=>⟨k.1,a k.2⟩) id⟩
   |exact aF.mono h λ_ _=>a
theorem VRn.le {p:Rel st}{n m}{v u}(h:VRn p n v u)(hm:n<=m):VRn p m v u:=by
 induction hm with
 |refl=>exact h
 |step _ a=>exact a.up
theorem VRn.mono {p q:Rel st}(hp:∀b c,p b c->q b c):∀{n:Nat} {v u:Value},VRn p n v u->VRn q n v u
 |0,_,_,h=>h.elim
 |n+1,v,u,h=>by
  have a:∀{v u:Value},VRn p n v u->VRn q n v u:=λh=>VRn.mono hp h
  cases v<;>cases u<;>first
   |exact h
   |exact OA.mono hp h
   |exact⟨SA.mono hp h.1,h.2⟩
   |exact⟨h.1,h.2.1.mono λ_ _=>a,h.2.2.mono λ_ _=>a⟩
   |exact⟨h.1,h.2.imp (λk=>⟨k.1,a k.2⟩) id⟩
   |exact aF.mono h λ_ _=>a
theorem VR.mono {p q:Rel st}(hp:∀b c,p b c->q b c){v u}(h:VR p v u):VR q v u:=let ⟨n,a⟩:=h;⟨n,a.mono hp⟩
theorem mG {p:Rel st}{a b}(h:aF (VR p) a b):∃n,aF (VRn p n) a b:=by
 have:∀k,∃n,∀(i:Nat) (x y:Value),i<k->a[i]? =some x->b[i]? =some y->VRn p n x y:=by
  intro k
  induction k with
  |zero=>exact⟨0,λi x y c=>absurd c (ZV _)⟩
  |succ k g=>
   obtain⟨n,e⟩:=g
   by_cases f:k<a.size
   .have d:k<b.size:=h.1▸f
    obtain⟨m,hm⟩:=h.2 k a[k] b[k] (ZM f) (ZM d);refine⟨max n m,λi x y c hx hy=>?_⟩;rcases Nat.lt_succ_iff_lt_or_eq.1 c with c|rfl
    .exact(e i x y c hx hy).le (Nat.le_max_left _ _)
    .rw[ZM f]at hx
     rw[ZM d]at hy;cases hx;cases hy;exact hm.le (Nat.le_max_right _ _)
   .refine⟨n,λi x y c hx hy=>e i x y ?_ hx hy⟩
    have:=(ZK.1 hx).1;omega
 obtain⟨n,e⟩:=this a.size;exact⟨n,h.1,λi x y hx hy=>e i x y (ZK.1 hx).1 hx hy⟩
section
variable {p:Rel st}
theorem VR.int (k)(n):VR p (.int k n) (.int k n):=⟨1,rfl,rfl⟩
theorem VR.bool (b):VR p (.bool b) (.bool b):=⟨1,rfl⟩
theorem VR.string (s):VR p (.string s) (.string s):=⟨1,rfl⟩
theorem VR.ptr {a b}(h:OA p a b):VR p (.pointer a) (.pointer b):=⟨1,h⟩
theorem VR.slice {a b}{l c}(h:OA p a b):VR p (.slice a l c) (.slice b l c):=⟨1,h.sa _ _,rfl,rfl⟩
theorem VR.kJ {a b}{l c}(h:SA p l c a b):VR p (.slice a l c) (.slice b l c):=⟨1,h,rfl,rfl⟩
theorem VR.agg {a b}(h:aF (VR p) a b):VR p (.agg a) (.agg b):=let ⟨n,c⟩:=mG h;⟨n+1,c⟩
theorem VR.tuple {a b}(h:aF (VR p) a b):VR p (.tuple a) (.tuple b):=let ⟨n,c⟩:=mG h;⟨n+1,c⟩
theorem VR.func {f}{a b c d}(hf:FnOk f)(h:aF (VR p) a b)(k:aF (VR p) c d):VR p (.func f a c) (.func f b d):=by
 obtain⟨n,e⟩:=mG h;obtain⟨m,hm⟩:=mG k;exact⟨max n m+1,⟨rfl,hf⟩,e.mono λ_ _ h=>h.le (Nat.le_max_left _ _),hm.mono λ_ _ h=>h.le (Nat.le_max_right _ _)⟩
theorem VR.iface {t}{a b}(c:okIb t=true)(h:VR p a b):VR p (.iface t a) (.iface t b):=let ⟨n,d⟩:=h;⟨n+1,rfl,.inl ⟨c,d⟩⟩
theorem VR.rtype (a):VR p (.iface bP a) (.iface bP a):=⟨1,rfl,.inr ⟨rfl,rfl⟩⟩
theorem VR.nilIface:VR p .nilIface .nilIface:=⟨1,trivial⟩
theorem VR.undef:VR p undef undef:=VR.tuple ⟨rfl,λi x y hx _=>by simp at hx⟩
theorem VR.cases {v u}(h:VR p v u):match v,u with
 |.bool a,.bool b=>a=b
 |.int k a,.int k' b=>k=k'/\a=b
 |.string a,.string b=>a=b
 |.pointer a,.pointer b=>OA p a b
 |.slice a l c,.slice b l' i=>SA p l c a b/\l=l'/\c=i
 |.func f x c,.func f' y d=>(f=f'/\FnOk f)/\aF (VR p) x y/\aF (VR p) c d
 |.nilFunc,b=>topU b=true
 |.nilIface,.nilIface=>True
 |.iface t a,.iface g b=>t=g/\((okIb t=true/\VR p a b)\/(t=bP/\a=b))
 |.agg a,.agg b=>aF (VR p) a b
 |.tuple a,.tuple b=>aF (VR p) a b
 |_,_=>False:=by
 obtain⟨n,e⟩:=h;cases n with
 |zero=>exact e.elim
 |succ n=>
  cases v<;>cases u<;>first
   |exact e
   |exact⟨e.1,e.2.1.mono λ_ _ h=>⟨n,h⟩,e.2.2.mono λ_ _ h=>⟨n,h⟩⟩
   |exact⟨e.1,e.2.imp (λk=>⟨k.1,n,k.2⟩) id⟩
   |exact aF.mono e λ_ _ h=>⟨n,h⟩
   |(rename_i a b;cases a<;>cases b<;>first|exact e|exact(e:False).elim)
end
end
