/- Part 0 of the proof that Devices answers true and leaves its input as it was, for input of bulk at most the bound of its row: W0 W1. -/
import Derived.Conc.Events
import Derived.DataReads
namespace Go.Proofs.YtojoafcnijajmaaGreatDoor
open Go
def valList:List Nat:=[128,193]
def FnOk:Fn → Prop
  | .func f=>f ∈ valList
  | _=>False
def AllR (r:Value → Value → Prop) (a b:Array Value):Prop:=a.size = b.size ∧ ∀ (i:Nat) (x y:Value),a[i]? = some x → b[i]? = some y → r x y
def AR (p:Nat → Nat → Prop) (a b:Addr):Prop:=p a.block b.block ∧ a.off = b.off ∧ a.spot = b.spot
def OA (p:Nat → Nat → Prop):Option Addr → Option Addr → Prop
  | none,none=>True
  | some a,some b=>AR p a b
  | _,_=>False
def SA (p:Nat → Nat → Prop) (l c:Nat):Option Addr → Option Addr → Prop
  | none,none=>True
  | some a,some b=>AR p a b ∨ (l = 0 ∧ c = 0)
  | _,_=>False
def topU:Value → Bool
  | .float _ _ | .complex _ _ _ | .map _ | .chan _ | .iface _ _ | .func _ _ _ | .pointer _ | .slice _ _ _ | .nilFunc=>true
  | _=>false
def VRn (p:Nat → Nat → Prop):Nat → Value → Value → Prop
  | 0,_,_=>False
  | n + 1,v,u=>match v,u with
    | .bool a,.bool b=>a = b
    | .int k a,.int k' b=>k = k' ∧ a = b
    | .string a,.string b=>a = b
    | .pointer a,.pointer b=>OA p a b
    | .slice a l c,.slice b l' c'=>SA p l c a b ∧ l = l' ∧ c = c'
    | .func f x c,.func f' y d=>(f = f' ∧ FnOk f) ∧ AllR (VRn p n) x y ∧ AllR (VRn p n) c d
    | .nilFunc,b=>topU b = true
    | .nilIface,.nilIface=>True
    | .agg a,.agg b=>AllR (VRn p n) a b
    | .tuple a,.tuple b=>AllR (VRn p n) a b
    | _,_=>False
def VR (p:Nat → Nat → Prop) (v u:Value):Prop:=∃ n,VRn p n v u
theorem VR.junk {p:Nat → Nat → Prop} {u:Value} (h:topU u = true):VR p .nilFunc u:=⟨1,h⟩
theorem AllR.mono {r s:Value → Value → Prop} {a b:Array Value} (h:AllR r a b) (hr:∀ x y,r x y → s x y):AllR s a b:=⟨h.1,fun i x y hx hy=>hr _ _ (h.2 i x y hx hy)⟩
theorem OA.mono {p q:Nat → Nat → Prop} (hp:∀ b c,p b c → q b c) {a b:Option Addr} (h:OA p a b):OA q a b:=by
  cases a <;> cases b <;> first | exact h | exact ⟨hp _ _ h.1,h.2⟩
theorem SA.mono {p q:Nat → Nat → Prop} (hp:∀ b c,p b c → q b c) {l c:Nat} {a b:Option Addr} (h:SA p l c a b):SA q l c a b:=by
  cases a <;> cases b <;> first | exact h | exact h.imp (fun h=>⟨hp _ _ h.1,h.2⟩) id
theorem OA.sa {p:Nat → Nat → Prop} {a b:Option Addr} (h:OA p a b) (l c:Nat):SA p l c a b:=by
  cases a <;> cases b <;> first | exact h | exact .inl h
theorem SA.none_inv {p:Nat → Nat → Prop} {l c:Nat} {b:Option Addr} (h:SA p l c none b):b = none:=by
  cases b <;> first | rfl | exact h.elim
theorem SA.some_inv {p:Nat → Nat → Prop} {l c:Nat} {a:Addr} {b:Option Addr} (h:SA p l c (some a) b):∃ x,b = some x ∧ (AR p a x ∨ (l = 0 ∧ c = 0)):=by
  cases b <;> first | exact h.elim | exact ⟨_,rfl,h⟩
theorem VRn.up {p:Nat → Nat → Prop}:∀ {n:Nat} {v u:Value},VRn p n v u → VRn p (n + 1) v u
  | 0,_,_,h=>h.elim
  | n + 1,v,u,h=>by
    have ih:∀ {v u:Value},VRn p n v u → VRn p (n + 1) v u:=fun h=>VRn.up h
    cases v <;> cases u <;> first
      | exact h
      | exact ⟨h.1,h.2.1.mono fun _ _=>ih,h.2.2.mono fun _ _=>ih⟩
      | exact AllR.mono h fun _ _=>ih
theorem VRn.le {p:Nat → Nat → Prop} {n m:Nat} {v u:Value} (h:VRn p n v u) (hm:n ≤ m):VRn p m v u:=by
  induction hm with
  | refl=>exact h
  | step _ ih=>exact ih.up
theorem VRn.mono {p q:Nat → Nat → Prop} (hp:∀ b c,p b c → q b c):∀ {n:Nat} {v u:Value},VRn p n v u → VRn q n v u
  | 0,_,_,h=>h.elim
  | n + 1,v,u,h=>by
    have ih:∀ {v u:Value},VRn p n v u → VRn q n v u:=fun h=>VRn.mono hp h
    cases v <;> cases u <;> first
      | exact h
      | exact OA.mono hp h
      | exact ⟨SA.mono hp h.1,h.2⟩
      | exact ⟨h.1,h.2.1.mono fun _ _=>ih,h.2.2.mono fun _ _=>ih⟩
      | exact AllR.mono h fun _ _=>ih
theorem VR.mono {p q:Nat → Nat → Prop} (hp:∀ b c,p b c → q b c) {v u:Value} (h:VR p v u):VR q v u:=let ⟨n,hn⟩:=h; ⟨n,hn.mono hp⟩
theorem allR_bound {p:Nat → Nat → Prop} {a b:Array Value} (h:AllR (VR p) a b):∃ n,AllR (VRn p n) a b:=by
  have:∀ k,∃ n,∀ (i:Nat) (x y:Value),i < k → a[i]? = some x → b[i]? = some y → VRn p n x y:=by
    intro k
    induction k with
    | zero=>exact ⟨0,fun i x y hi=>absurd hi (Nat.not_lt_zero _)⟩
    | succ k ih =>
      obtain ⟨n,hn⟩:=ih
      by_cases hk:k < a.size
      · have hkb:k < b.size:=h.1 ▸ hk
        obtain ⟨m,hm⟩:=h.2 k a[k] b[k] (Array.getElem?_eq_getElem hk) (Array.getElem?_eq_getElem hkb)
        refine ⟨max n m,fun i x y hi hx hy=>?_⟩
        rcases Nat.lt_succ_iff_lt_or_eq.1 hi with hi | rfl
        · exact (hn i x y hi hx hy).le (Nat.le_max_left _ _)
        · rw [Array.getElem?_eq_getElem hk] at hx
          rw [Array.getElem?_eq_getElem hkb] at hy
          cases hx; cases hy
          exact hm.le (Nat.le_max_right _ _)
      · refine ⟨n,fun i x y hi hx hy=>hn i x y ?_ hx hy⟩
        have:=(Array.getElem?_eq_some_iff.1 hx).1
        omega
  obtain ⟨n,hn⟩:=this a.size
  exact ⟨n,h.1,fun i x y hx hy=>hn i x y (Array.getElem?_eq_some_iff.1 hx).1 hx hy⟩
section
variable {p:Nat → Nat → Prop}
theorem VR.int (k:IntKind) (n:Int):VR p (.int k n) (.int k n):=⟨1,rfl,rfl⟩
theorem VR.bool (b:Bool):VR p (.bool b) (.bool b):=⟨1,rfl⟩
theorem VR.string (s:ByteArray):VR p (.string s) (.string s):=⟨1,rfl⟩
theorem VR.ptr {a b:Option Addr} (h:OA p a b):VR p (.pointer a) (.pointer b):=⟨1,h⟩
theorem VR.slice {a b:Option Addr} {l c:Nat} (h:OA p a b):VR p (.slice a l c) (.slice b l c):=⟨1,h.sa _ _,rfl,rfl⟩
theorem VR.sliceS {a b:Option Addr} {l c:Nat} (h:SA p l c a b):VR p (.slice a l c) (.slice b l c):=⟨1,h,rfl,rfl⟩
theorem VR.agg {a b:Array Value} (h:AllR (VR p) a b):VR p (.agg a) (.agg b):=let ⟨n,hn⟩:=allR_bound h; ⟨n + 1,hn⟩
theorem VR.tuple {a b:Array Value} (h:AllR (VR p) a b):VR p (.tuple a) (.tuple b):=let ⟨n,hn⟩:=allR_bound h; ⟨n + 1,hn⟩
theorem VR.func {f:Fn} {a b c d:Array Value} (hf:FnOk f) (h:AllR (VR p) a b) (k:AllR (VR p) c d):VR p (.func f a c) (.func f b d):=by
  obtain ⟨n,hn⟩:=allR_bound h
  obtain ⟨m,hm⟩:=allR_bound k
  exact ⟨max n m + 1,⟨rfl,hf⟩,hn.mono fun _ _ h=>h.le (Nat.le_max_left _ _),hm.mono fun _ _ h=>h.le (Nat.le_max_right _ _)⟩
theorem VR.undef:VR p undef undef:=VR.tuple ⟨rfl,fun i x y hx _=>by simp at hx⟩
theorem VR.cases {v u:Value} (h:VR p v u):match v,u with
    | .bool a,.bool b=>a = b
    | .int k a,.int k' b=>k = k' ∧ a = b
    | .string a,.string b=>a = b
    | .pointer a,.pointer b=>OA p a b
    | .slice a l c,.slice b l' c'=>SA p l c a b ∧ l = l' ∧ c = c'
    | .func f x c,.func f' y d=>(f = f' ∧ FnOk f) ∧ AllR (VR p) x y ∧ AllR (VR p) c d
    | .nilFunc,b=>topU b = true
    | .nilIface,.nilIface=>True
    | .agg a,.agg b=>AllR (VR p) a b
    | .tuple a,.tuple b=>AllR (VR p) a b
    | _,_=>False:=by
  obtain ⟨n,hn⟩:=h
  cases n with
  | zero=>exact hn.elim
  | succ n =>
    cases v <;> cases u <;> first
      | exact hn
      | exact ⟨hn.1,hn.2.1.mono fun _ _ h=>⟨n,h⟩,hn.2.2.mono fun _ _ h=>⟨n,h⟩⟩
      | exact AllR.mono hn fun _ _ h=>⟨n,h⟩
      | (rename_i a b; cases a <;> cases b <;> first | exact hn | exact (hn:False).elim)
end
end Go.Proofs.YtojoafcnijajmaaGreatDoor

namespace Go.Proofs.YtojoafcnijajmaaGreatDoor
open Go
def Ext (p q:Nat → Nat → Prop):Prop:=∀ b c,p b c → q b c
theorem Ext.refl (p:Nat → Nat → Prop):Ext p p:=fun _ _ h=>h
theorem Ext.trans {p q r:Nat → Nat → Prop} (h:Ext p q) (k:Ext q r):Ext p r:=fun b c x=>k b c (h b c x)
def Mate (K:Nat → Prop) (p:Nat → Nat → Prop) (w u:World) (b c:Nat):Prop :=
  (∃ xs ys e f g,w.heap[b]? = some (.cells xs e f) ∧ u.heap[c]? = some (.cells ys e g) ∧ AllR (VR p) xs ys ∧ (K c → f.1 = 0 ∧ xs.size ≤ f.2) ∧ (¬ K c → f = (0,0) ∧ g = (0,0))) ∨
  (∃ a a' l,w.heap[b]? = some (.number a l) ∧ u.heap[c]? = some (.number a' l) ∧ AR p a a' ∧ ¬ K c)
structure WR (G:Nat) (K:Nat → Prop) (p:Nat → Nat → Prop) (w u:World):Prop where
  fit:∀ b c b' c',p b c → p b' c' → (b = b' ↔ c = c')
  rows:∀ b c,p b c → Mate K p w u b c
  kin:∀ c,K c → p c c
  low:∀ b c,p b c → b ≠ c → G ≤ b ∧ G ≤ c
  big:G ≤ w.heap.size ∧ G ≤ u.heap.size
def TR (w u:World):Prop:=∀ i q,w.tape (w.drawn + i) q = u.tape (u.drawn + i) q
structure Guar (K:Nat → Prop) (p q:Nat → Nat → Prop) (u u':World):Prop where
  tape:u'.tape = u.tape
  os:u'.os = u.os
  output:u'.output = u.output
  size:u.heap.size ≤ u'.heap.size
  keep:∀ c,c < u.heap.size → (∀ b,p b c → K c) → u'.heap[c]? = u.heap[c]?
  fresh:∀ b c,q b c → ¬ p b c → u.heap.size ≤ c
  ext:Ext p q
def EvOk (K:Nat → Prop) (p:Nat → Nat → Prop) (e:Event):Prop :=
  (∃ c b,(e.loc = .obj c ∨ ∃ a,e.loc = .cell a ∧ a.block = c) ∧ p b c ∧ e.sync = false ∧ (e.write = true → ¬ K c)) ∨ e = ⟨.mark .noRoom,false,true⟩
theorem EvOk.mono {K:Nat → Prop} {p q:Nat → Nat → Prop} (h:Ext p q) {e:Event} (he:EvOk K p e):EvOk K q e:=by
  rcases he with ⟨a,b,h1,h2,h3⟩ | h'
  · exact .inl ⟨a,b,h1,h _ _ h2,h3⟩
  · exact .inr h'
theorem Guar.refl (K:Nat → Prop) (p:Nat → Nat → Prop) (u:World):Guar K p p u u:=⟨rfl,rfl,rfl,Nat.le_refl _,fun _ _ _=>rfl,fun _ _ h n=>absurd h n,Ext.refl p⟩
theorem Guar.trans {K:Nat → Prop} {p q r:Nat → Nat → Prop} {u u' u'':World} (h:Guar K p q u u') (k:Guar K q r u' u''):Guar K p r u u'':=by
  classical
  refine ⟨k.tape.trans h.tape,k.os.trans h.os,k.output.trans h.output,Nat.le_trans h.size k.size,fun c hc hp=>?_,fun b c hr hn=>?_,h.ext.trans k.ext⟩
  · refine (k.keep c (Nat.lt_of_lt_of_le hc h.size) fun b hb=>?_).trans (h.keep c hc hp)
    by_cases hpb:p b c
    · exact hp b hpb
    · exact absurd (h.fresh b c hb hpb) (by omega)
  · by_cases hq:q b c
    · exact h.fresh b c hq hn
    · exact Nat.le_trans h.size (k.fresh b c hr hq)
def noPtr:Value → Prop
  | .iface _ (.pointer _)=>False
  | _=>True
def Mild:Halt → Prop
  | .panic v=>noPtr v
  | .stuck _=>True
  | .unsupported (.initOrder _)=>False
  | .unsupported _=>True
  | _=>False
def taped (w:World) (T:Nat → Question → Nat):World:={ w with tape:=T }
def rworld {α:Type}:Result α → World
  | .ok _ w | .halt _ w=>w
def rtaped {α:Type} (T:Nat → Question → Nat):Result α → Result α
  | .ok a w=>.ok a (taped w T)
  | .halt h w=>.halt h (taped w T)
def Local {α:Type} (P:Program) (s:Sem α) (w:World) (es:Array Event):Prop :=
  w.drawn ≤ (rworld (s.runT P w es).1).drawn ∧ (rworld (s.runT P w es).1).tape = w.tape ∧
    ∀ T',(∀ j q,w.drawn ≤ j → j < (rworld (s.runT P w es).1).drawn → T' j q = w.tape j q) → s.runT P (taped w T') es = (rtaped T' (s.runT P w es).1,(s.runT P w es).2)
theorem Local.bind {α γ:Type} {P:Program} {s:Sem α} {f:α → Sem γ} {w:World} {es:Array Event} (hs:Local P s w es) (hf:∀ a w' es',s.runT P w es = (.ok a w',es') → Local P (f a) w' es'):Local P (s >>= f) w es:=by
  have e:∀ w es,(s >>= f).runT P w es = match s.runT P w es with
      | (.ok a w',es')=>(f a).runT P w' es'
      | (.halt h w',es')=>(.halt h w',es'):=fun w es=>by
    show (s.bind f).runT P w es = _
    rw [Sem.runT_bind']
    rcases s.runT P w es with ⟨r,e1⟩
    cases r <;> rfl
  unfold Local at hs ⊢
  rw [e]
  simp only [e]
  rcases h1:s.runT P w es with ⟨r,e1⟩
  rw [h1] at hs
  obtain ⟨s1,s2,s3⟩:=hs
  cases r with
  | halt h w1 =>
    refine ⟨s1,s2,fun T' hT=>?_⟩
    rw [s3 T' hT]
    rfl
  | ok a w1 =>
    obtain ⟨k1,k2,k3⟩:=hf a w1 e1 h1
    have s1':w.drawn ≤ w1.drawn:=s1
    have s2':w1.tape = w.tape:=s2
    refine ⟨Nat.le_trans s1' k1,k2.trans s2',fun T' hT=>?_⟩
    rw [s3 T' fun j q x y=>hT j q x (Nat.lt_of_lt_of_le y k1)]
    exact k3 T' fun j q x y=>(hT j q (Nat.le_trans s1' x) y).trans (by rw [s2'])
structure Plainly {α:Type} (P:Program) (s:Sem α) (w:World) (es:Array Event):Prop where
  mild:∀ h w' es',s.runT P w es = (.halt h w',es') → Mild h
  loc:Local P s w es
structure Twin (P Q:Program):Prop where
  underlying:∀ t,Q.underlying t = P.underlying t
  info:∀ t,Q.info? t = P.info? t
  globals:Q.globals = P.globals
  cellsOf:Q.cellsOf = P.cellsOf
  bytesOf:Q.bytesOf = P.bytesOf
  byteOfCell:Go.byteOfCell Q Q.depth = Go.byteOfCell P P.depth
  cellAtBytes:Go.cellAtBytes Q Q.depth = Go.cellAtBytes P P.depth
  stoodInHeld:Q.stoodInHeld = P.stoodInHeld
  eqGuardType:Q.eqGuardType Q.depth = P.eqGuardType P.depth
  mixed:Q.follows .mixedOrders = P.follows .mixedOrders
def Sim {α β:Type} (P Q:Program) (K:Nat → Prop) (p:Nat → Nat → Prop) (s:Sem α) (t:Sem β) (A:(Nat → Nat → Prop) → α → β → Prop):Prop :=
  Twin P Q → ∀ (w u:World) (es fs:Array Event),WR P.globals.size K p w u → TR w u → Plainly P s w es ∧ ∀ a w' es',s.runT P w es = (.ok a w',es') →
    ∃ q b u' new,t.runT Q u fs = (.ok b u',fs ++ new) ∧ A q a b ∧ WR P.globals.size K q w' u' ∧ TR w' u' ∧ Guar K p q u u' ∧ ∀ e ∈ new,EvOk K q e
section
variable {α β γ δ:Type} {P Q:Program} {K:Nat → Prop} {p:Nat → Nat → Prop}
theorem Sim.pure {A:(Nat → Nat → Prop) → α → β → Prop} {a:α} {b:β} (h:A p a b):Sim P Q K p (Pure.pure a) (Pure.pure b) A:=by
  intro tw w u es fs hw ht
  refine ⟨⟨fun h w' es' hr=>(by cases hr),⟨Nat.le_refl _,rfl,fun T' _=>rfl⟩⟩,fun a' w' es' hr=>?_⟩
  obtain ⟨⟨rfl,rfl⟩,rfl⟩ : (a = a' ∧ w = w') ∧ es = es':=by simpa [Pure.pure] using hr
  exact ⟨p,b,u,#[],by simp [Pure.pure],h,hw,ht,Guar.refl _ _ _,fun e he=>by simp at he⟩
theorem Sim.bind {A:(Nat → Nat → Prop) → α → β → Prop} {B:(Nat → Nat → Prop) → γ → δ → Prop} {s:Sem α} {t:Sem β} {f:α → Sem γ} {g:β → Sem δ}
    (h:Sim P Q K p s t A) (k:∀ q a b,Ext p q → A q a b → Sim P Q K q (f a) (g b) B):Sim P Q K p (s >>= f) (t >>= g) B:=by
  intro tw w u es fs hw ht
  refine ⟨⟨fun hh w' es' hr=>?_,Local.bind (h tw w u es fs hw ht).1.loc fun a w1 e1 h1=>?_⟩,fun c w' es' hr=>?_⟩
  rotate_left
  · obtain ⟨q,b,u1,n1,r1,hA,hw1,ht1,g1,v1⟩:=(h tw w u es fs hw ht).2 a w1 e1 h1
    exact (k q a b g1.ext hA tw w1 u1 e1 (fs ++ n1) hw1 ht1).1.loc
  rotate_left
  · have hr':(s.bind f).runT P w es = (.halt hh w',es'):=hr
    rw [Sem.runT_bind'] at hr'
    split at hr'
    · rename_i a w1 e1 h1
      obtain ⟨q,b,u1,n1,r1,hA,hw1,ht1,g1,v1⟩:=(h tw w u es fs hw ht).2 a w1 e1 h1
      exact (k q a b g1.ext hA tw w1 u1 e1 (fs ++ n1) hw1 ht1).1.mild hh w' es' hr'
    · rename_i h1 w1 e1 hh1
      cases hr'
      exact (h tw w u es fs hw ht).1.mild _ _ _ hh1
  have hr':(s.bind f).runT P w es = (.ok c w',es'):=hr
  rw [Sem.runT_bind'] at hr'
  split at hr'
  · rename_i a w1 e1 h1
    obtain ⟨q,b,u1,n1,r1,hA,hw1,ht1,g1,v1⟩:=(h tw w u es fs hw ht).2 a w1 e1 h1
    obtain ⟨r,d,u2,n2,r2,hB,hw2,ht2,g2,v2⟩:=(k q a b g1.ext hA tw w1 u1 e1 (fs ++ n1) hw1 ht1).2 c w' es' hr'
    refine ⟨r,d,u2,n1 ++ n2,?_,hB,hw2,ht2,g1.trans g2,fun e he=>?_⟩
    · show (t.bind g).runT Q u fs = _
      rw [Sem.runT_bind',r1]
      simp only
      rw [r2,Array.append_assoc]
    · rcases Array.mem_append.1 he with h' | h'
      · exact (v1 e h').mono g2.ext
      · exact v2 e h'
  · cases hr'
theorem Sim.halt {A:(Nat → Nat → Prop) → α → β → Prop} {h:Halt} {t:Sem β} (hm:Mild h:=by trivial):Sim P Q K p (Sem.halt h:Sem α) t A:=by
  intro tw w u es fs hw ht
  exact ⟨⟨fun hh w' es' hr=>(by cases hr; exact hm),⟨Nat.le_refl _,rfl,fun T' _=>rfl⟩⟩,fun a w' es' hr=>by cases hr⟩
theorem Sim.mono {A B:(Nat → Nat → Prop) → α → β → Prop} {s:Sem α} {t:Sem β} (h:Sim P Q K p s t A) (hA:∀ q a b,Ext p q → A q a b → B q a b):Sim P Q K p s t B:=by
  intro tw w u es fs hw ht
  refine ⟨(h tw w u es fs hw ht).1,fun a w' es' hr=>?_⟩
  obtain ⟨q,b,u',n,h1,h2,h3,h4,h5,h6⟩:=(h tw w u es fs hw ht).2 a w' es' hr
  exact ⟨q,b,u',n,h1,hA q a b h5.ext h2,h3,h4,h5,h6⟩
theorem Sim.program:Sim P Q K p (program) (program) (fun _ a b=>a = P ∧ b = Q):=by
  intro tw w u es fs hw ht
  refine ⟨⟨fun h w' es' hr=>(by cases hr),⟨Nat.le_refl _,rfl,fun T' _=>rfl⟩⟩,fun a w' es' hr=>?_⟩
  have h0:∀ (P:Program) (w:World) (es:Array Event),(Go.program).runT P w es = (.ok P w,es):=fun _ _ _=>rfl
  rw [h0] at hr
  cases hr
  exact ⟨p,Q,u,#[],by rw [Array.append_empty]; rfl,⟨rfl,rfl⟩,hw,ht,Guar.refl _ _ _,fun e he=>by simp at he⟩
theorem Sim.twin {A:(Nat → Nat → Prop) → α → β → Prop} {s:Sem α} {t:Sem β} (h:Twin P Q → Sim P Q K p s t A):Sim P Q K p s t A:=fun tw=>h tw tw
theorem runT_choose (q:Question) (w:World) (es:Array Event):(choose q).runT P w es = if q.forced then (.ok 0 w,es) else (.ok (q.cut (w.tape w.drawn q)) { w with drawn:=w.drawn + 1 },es):=by
  unfold Go.choose Sem.runT
  split <;> rfl
theorem local_choose (q:Question) (w:World) (es:Array Event):Local P (choose q) w es:=by
  unfold Local
  simp only [runT_choose]
  split
  · exact ⟨Nat.le_refl _,rfl,fun T' _=>rfl⟩
  · refine ⟨Nat.le_succ _,rfl,fun T' hT=>?_⟩
    have e:(taped w T').tape (taped w T').drawn q = w.tape w.drawn q:=hT w.drawn q (Nat.le_refl _) (Nat.lt_succ_self _)
    rw [e]
    rfl
theorem Sim.choose (q:Question):Sim P Q K p (choose q) (choose q) (fun _ a b=>a = b):=by
  intro tw w u es fs hw ht
  refine ⟨⟨fun h w' es' hr=>(by rw [runT_choose] at hr; split at hr <;> cases hr),local_choose q w es⟩,fun a w' es' hr=>?_⟩
  rw [runT_choose] at hr
  by_cases hq:q.forced = true
  · rw [if_pos hq] at hr
    cases hr
    exact ⟨p,0,u,#[],by rw [runT_choose,if_pos hq,Array.append_empty],rfl,hw,ht,Guar.refl _ _ _,fun e he=>by simp at he⟩
  · rw [if_neg hq] at hr
    cases hr
    refine ⟨p,q.cut (u.tape u.drawn q),{ u with drawn:=u.drawn + 1 },#[],by rw [runT_choose,if_neg hq,Array.append_empty],?_,⟨hw.fit,hw.rows,hw.kin,hw.low,hw.big⟩,fun i r=>?_,⟨rfl,rfl,rfl,Nat.le_refl _,fun _ _ _=>rfl,fun _ _ h n=>absurd h n,Ext.refl p⟩,fun e he=>by simp at he⟩
    · have:=ht 0 q
      simp only [Nat.add_zero] at this
      rw [this]
    · have:=ht (1 + i) r
      simpa [Nat.add_assoc] using this
theorem WR.cell {G:Nat} {w u:World} (hw:WR G K p w u) {a b:Addr} (hab:AR p a b) {v:Value} (h:w.cell? a = some v):∃ x,u.cell? b = some x ∧ VR p v x:=by
  obtain ⟨xs,ys,e,f,g,h1,h2,h3,_,_⟩ | ⟨a1,a2,l,h1,_⟩:=hw.rows _ _ hab.1
  case inr=>simp only [World.cell?,h1] at h; cases h
  simp only [World.cell?,h1] at h
  split at h
  · cases h
  · rename_i hs
    have hlt:a.off < xs.size:=(Array.getElem?_eq_some_iff.1 h).1
    have hlt':b.off < ys.size:=by rw [← hab.2.1,← h3.1]; exact hlt
    refine ⟨ys[b.off],?_,h3.2 a.off v _ h (by rw [hab.2.1]; exact Array.getElem?_eq_getElem hlt')⟩
    simp only [World.cell?,h2]
    rw [← hab.2.2,if_neg hs]
    exact Array.getElem?_eq_getElem hlt'
theorem runT_load (a:Addr) (w:World) (es:Array Event) {v:Value} (h:w.cell? a = some v):(load a).runT P w es = (.ok v w,es.push ⟨.cell a,false,false⟩):=by
  unfold Go.load Sem.runT
  rw [h]
  rfl
theorem Sim.load {a b:Addr} (hab:AR p a b):Sim P Q K p (load a) (load b) (fun q v x=>VR q v x):=by
  intro tw w u es fs hw ht
  refine ⟨⟨fun h w' es' hr=>?_,?_⟩,fun v w' es' hr=>?_⟩
  rotate_left
  · have e:∀ T',(taped w T').cell? a = w.cell? a:=fun _=>rfl
    cases hv:w.cell? a with
    | some v' =>
      unfold Local
      rw [runT_load a w es hv]
      refine ⟨Nat.le_refl _,rfl,fun T' _=>?_⟩
      rw [runT_load a (taped w T') es ((e T').trans hv)]
      rfl
    | none =>
      have h0:∀ w:World,w.cell? a = none → (∃ o,w.heap[a.block]? = some o ∧ ((∃ xs e f,o = .cells xs e f) ∨ ∃ a1 l,o = .number a1 l)) → (Go.load a).runT P w es = (.halt (.stuck "load: no such cell") w,es):=by
        intro w hv ho
        obtain ⟨o,ho,⟨xs,e,f,rfl⟩ | ⟨a1,l,rfl⟩⟩:=ho
        all_goals
          unfold Go.load Sem.runT
          rw [hv]
          simp only [World.farLoad,World.noCell,ho]
      have h1:∃ o,w.heap[a.block]? = some o ∧ ((∃ xs e f,o = .cells xs e f) ∨ ∃ a1 l,o = .number a1 l):=by
        obtain ⟨xs,ys,e,f,g,h1,_⟩ | ⟨a1,a2,l,h1,_⟩:=hw.rows _ _ hab.1
        · exact ⟨_,h1,.inl ⟨_,_,_,rfl⟩⟩
        · exact ⟨_,h1,.inr ⟨_,_,rfl⟩⟩
      unfold Local
      rw [h0 w hv h1]
      refine ⟨Nat.le_refl _,rfl,fun T' _=>?_⟩
      rw [h0 (taped w T') ((e T').trans hv) h1]
      rfl
  rotate_left
  · cases hv:w.cell? a with
    | some v'=>rw [runT_load a w es hv] at hr; cases hr
    | none =>
      obtain ⟨xs,ys,e,f,g,h1,_⟩ | ⟨a1,a2,l,h1,_⟩:=hw.rows _ _ hab.1
      all_goals
        unfold Go.load Sem.runT at hr
        rw [hv] at hr
        simp only [World.farLoad,World.noCell,h1] at hr
        cases hr
        trivial
  cases hv:w.cell? a with
  | some v' =>
    rw [runT_load a w es hv] at hr
    cases hr
    obtain ⟨x,hx,hr⟩:=hw.cell hab hv
    refine ⟨p,x,u,#[⟨.cell b,false,false⟩],?_,hr,hw,ht,Guar.refl _ _ _,fun e he=>?_⟩
    · rw [runT_load b u fs hx]; rfl
    · obtain rfl:e = ⟨.cell b,false,false⟩:=by simpa using he
      exact .inl ⟨b.block,a.block,.inr ⟨b,rfl,rfl⟩,hab.1,rfl,fun h=>by cases h⟩
  | none =>
    obtain ⟨xs,ys,e,f,g,h1,_⟩ | ⟨a1,a2,l,h1,_⟩:=hw.rows _ _ hab.1
    all_goals
      unfold Go.load Sem.runT at hr
      rw [hv] at hr
      simp only [World.farLoad,h1] at hr
      cases hr
theorem Sim.store {a b:Addr} {v x:Value} (hab:AR p a b) (hv:VR p v x):Sim P Q K p (store a v) (store b x) (fun _ _ _=>True):=by
  classical
  intro tw w u es fs hw ht
  have hone:∀ (P:Program) (v:Value) (w:World) (es:Array Event),(∀ cs,v ≠ .agg cs) → (∀ cs,v ≠ .tuple cs) → ∀ a,(Go.store a v).runT P w es = match w.cell? a with
      | some _=>if w.frozen? a then (.halt (.unsupported (.unsafePointer "a write to bytes that a string shares")) w,es) else (.ok () (w.setCell a v),es.push ⟨.cell a,true,false⟩)
      | none=>match w.farStore P a v (Mode.plain == .atomic) with
        | .ok (w,touched)=>(.ok () w,es ++ touched.toArray.map (⟨.cell ·,true,false⟩))
        | .error h=>(.halt h w,es):=by
    intro P v w es n1 n2 a
    unfold Go.store
    cases v <;> first | exact absurd rfl (n1 _) | exact absurd rfl (n2 _) | rfl
  refine ⟨⟨fun hh w' es' hr=>?_,?_⟩,fun v' w' es' hr=>?_⟩
  rotate_left
  · by_cases na:∃ cs,v = .agg cs
    · obtain ⟨cs,rfl⟩:=na; exact ⟨Nat.le_refl _,rfl,fun T' _=>rfl⟩
    by_cases nt:∃ cs,v = .tuple cs
    · obtain ⟨cs,rfl⟩:=nt; exact ⟨Nat.le_refl _,rfl,fun T' _=>rfl⟩
    have ho:=fun w es=>hone P v w es (fun cs h=>na ⟨cs,h⟩) (fun cs h=>nt ⟨cs,h⟩) a
    unfold Local
    simp only [ho]
    have e:∀ T',(taped w T').cell? a = w.cell? a:=fun _=>rfl
    have e2:∀ T',(taped w T').frozen? a = w.frozen? a:=fun _=>rfl
    simp only [e,e2]
    cases hv:w.cell? a with
    | some y =>
      simp only
      split
      · exact ⟨Nat.le_refl _,rfl,fun T' _=>rfl⟩
      · exact ⟨Nat.le_refl _,rfl,fun T' _=>rfl⟩
    | none =>
      have e3:∀ T',(taped w T').heap = w.heap:=fun _=>rfl
      obtain ⟨xs,ys,e,f,g,h1,_⟩ | ⟨a1,a2,l,h1,_⟩:=hw.rows _ _ hab.1
      all_goals
        simp only [World.farStore,World.noCell,e3,h1]
        exact ⟨Nat.le_refl _,rfl,fun T' _=>rfl⟩
  rotate_left
  · by_cases na:∃ cs,v = .agg cs
    · obtain ⟨cs,rfl⟩:=na; cases hr; trivial
    by_cases nt:∃ cs,v = .tuple cs
    · obtain ⟨cs,rfl⟩:=nt; cases hr; trivial
    rw [hone P v w es (fun cs h=>na ⟨cs,h⟩) (fun cs h=>nt ⟨cs,h⟩) a] at hr
    split at hr
    · split at hr <;> cases hr
      trivial
    · rename_i hv
      obtain ⟨xs,ys,e,f,g,h1,_⟩ | ⟨a1,a2,l,h1,_⟩:=hw.rows _ _ hab.1
      all_goals
        simp only [World.farStore,World.noCell,h1] at hr
        cases hr
        trivial
  have na:∀ cs,v ≠ .agg cs:=fun cs h=>by
    subst h; cases hr
  have nt:∀ cs,v ≠ .tuple cs:=fun cs h=>by
    subst h; cases hr
  have nb:∀ cs,x ≠ .agg cs:=fun cs h=>by
    subst h
    have:=hv.cases
    cases v <;> first | exact this | exact na _ rfl | (exact Bool.noConfusion this)
  have nu:∀ cs,x ≠ .tuple cs:=fun cs h=>by
    subst h
    have:=hv.cases
    cases v <;> first | exact this | exact nt _ rfl | (exact Bool.noConfusion this)
  rw [hone P v w es na nt a] at hr
  obtain ⟨xs,ys,e,f,g,h1,h2,h3,h4,h5⟩ | ⟨a1,a2,l,h1,_⟩:=hw.rows _ _ hab.1
  case inr =>
    have hn:w.cell? a = none:=by simp only [World.cell?,h1]
    rw [hn] at hr
    simp only [World.farStore,h1] at hr
    cases hr
  cases hc:w.cell? a with
  | none =>
    rw [hc] at hr
    simp only [World.farStore,h1] at hr
    cases hr
  | some y =>
    rw [hc] at hr
    simp only at hr
    cases hf:w.frozen? a with
    | true=>rw [hf] at hr; cases hr
    | false =>
      rw [hf] at hr
      cases hr
      have hoff:a.off < xs.size:=by
        simp only [World.cell?,h1] at hc
        split at hc
        · cases hc
        · exact (Array.getElem?_eq_some_iff.1 hc).1
      have hnk:¬ K b.block:=fun hk=>by
        have:=h4 hk
        simp only [World.frozen?,h1] at hf
        obtain ⟨f1,f2⟩:=f
        simp only at this hf
        obtain ⟨rfl,h6⟩:=this
        simp at hf
        omega
      obtain ⟨rfl,rfl⟩:=h5 hnk
      have hspot:a.spot = none:=World.cell?_spot hc
      obtain ⟨z,hz,_⟩:=hw.cell hab hc
      have hfu:u.frozen? b = false:=by simp [World.frozen?,h2]
      have hbs:b.spot = none:=hab.2.2 ▸ hspot
      have e1:(w.setCell a v).heap[a.block]? = some (.cells (xs.setIfInBounds a.off v) e (0,0)):=by
        simp only [World.setCell,Array.getElem?_modify,h1,Option.map_some,if_true,hspot]; rfl
      have e2:(u.setCell b x).heap[b.block]? = some (.cells (ys.setIfInBounds b.off x) e (0,0)):=by
        simp only [World.setCell,Array.getElem?_modify,h2,Option.map_some,if_true,hbs]; rfl
      have o1:∀ k,k ≠ a.block → (w.setCell a v).heap[k]? = w.heap[k]?:=fun k hk=>by simp [World.setCell,Array.getElem?_modify,Ne.symm hk]
      have o2:∀ k,k ≠ b.block → (u.setCell b x).heap[k]? = u.heap[k]?:=fun k hk=>by simp [World.setCell,Array.getElem?_modify,Ne.symm hk]
      refine ⟨p,(),u.setCell b x,#[⟨.cell b,true,false⟩],?_,trivial,⟨hw.fit,fun c d hcd=>?_,hw.kin,hw.low,by simpa [World.setCell] using hw.big⟩,ht,⟨rfl,rfl,rfl,by simp [World.setCell],fun c _ hk=>o2 c ?_,fun _ _ h n=>absurd h n,Ext.refl p⟩,fun e he=>?_⟩
      · rw [hone Q x u fs nb nu b,hz]
        simp only [hfu]
        rfl
      · by_cases hca:c = a.block
        · obtain rfl:d = b.block:=by
            have:=(hw.fit _ _ _ _ hcd hab.1).1 hca
            exact this
          subst hca
          refine .inl ⟨_,_,e,(0,0),(0,0),e1,e2,⟨by simp [h3.1],fun i s t hs ht=>?_⟩,fun hk=>absurd hk hnk,fun _=>⟨rfl,rfl⟩⟩
          by_cases hi:i = a.off
          · subst hi
            have hyo:b.off < ys.size:=by rw [← hab.2.1,← h3.1]; exact hoff
            rw [Array.getElem?_setIfInBounds_self_of_lt hoff] at hs
            rw [hab.2.1,Array.getElem?_setIfInBounds_self_of_lt hyo] at ht
            cases hs; cases ht
            exact hv
          · rw [Array.getElem?_setIfInBounds_ne (Ne.symm hi)] at hs
            rw [Array.getElem?_setIfInBounds_ne (by rw [← hab.2.1]; exact Ne.symm hi)] at ht
            exact h3.2 i s t hs ht
        · have hdb:d ≠ b.block:=fun h=>hca ((hw.fit _ _ _ _ hcd hab.1).2 h)
          obtain ⟨xs',ys',e',f',g',r1,r2,r3⟩ | ⟨a1,a2,l,r1,r2,r3⟩:=hw.rows c d hcd
          · exact .inl ⟨xs',ys',e',f',g',(o1 c hca).trans r1,(o2 d hdb).trans r2,r3⟩
          · exact .inr ⟨a1,a2,l,(o1 c hca).trans r1,(o2 d hdb).trans r2,r3⟩
      · rintro rfl
        exact hnk (hk _ hab.1)
      · obtain rfl:e = ⟨.cell b,true,false⟩:=by simpa using he
        exact .inl ⟨b.block,a.block,.inr ⟨b,rfl,rfl⟩,hab.1,rfl,fun _=>hnk⟩
theorem WR.lt {G:Nat} {w u:World} (hw:WR G K p w u) {b c:Nat} (h:p b c):b < w.heap.size ∧ c < u.heap.size:=by
  obtain ⟨_,_,_,_,_,h1,h2,_⟩ | ⟨_,_,_,h1,h2,_⟩:=hw.rows b c h
  all_goals exact ⟨(Array.getElem?_eq_some_iff.1 h1).1,(Array.getElem?_eq_some_iff.1 h2).1⟩
theorem Sim.newMate {o o':Obj} (h:∀ (q:Nat → Nat → Prop) (w u:World),Ext p q → ¬ K u.heap.size → q w.heap.size u.heap.size → Mate K q { w with heap:=w.heap.push o } { u with heap:=u.heap.push o' } w.heap.size u.heap.size):Sim P Q K p (newObj o) (newObj o') (fun q r s=>q r s ∧ ¬ K s):=by
  classical
  intro tw w u es fs hw ht
  refine ⟨⟨fun h w' es' hr=>(by cases hr),⟨Nat.le_refl _,rfl,fun T' _=>rfl⟩⟩,fun r w' es' hr=>?_⟩
  have h0:∀ (P:Program) (o:Obj) (w:World) (es:Array Event),(newObj o).runT P w es = (.ok w.heap.size { w with heap:=w.heap.push o },es):=fun _ _ _ _=>rfl
  rw [h0] at hr
  cases hr
  have hE:Ext p (fun b c=>p b c ∨ (b = w.heap.size ∧ c = u.heap.size)):=fun _ _ h=>.inl h
  have nk:¬ K u.heap.size:=fun hk=>by have:=(hw.lt (hw.kin _ hk)).2; omega
  refine ⟨fun b c=>p b c ∨ (b = w.heap.size ∧ c = u.heap.size),u.heap.size,{ u with heap:=u.heap.push o' },#[],?_,⟨.inr ⟨rfl,rfl⟩,nk⟩,⟨fun b c b' c' h1 h2=>?_,fun b c hbc=>?_,fun c hc=>.inl (hw.kin c hc),fun b c hbc hne=>?_,by simp; have:=hw.big; omega⟩,ht,⟨rfl,rfl,rfl,by simp,fun c hc _=>by simp [Array.getElem?_push]; omega,fun b c hq hn=>?_,hE⟩,fun e he=>by simp at he⟩
  · rw [h0,Array.append_empty]
  · rcases h1 with h1 | ⟨rfl,rfl⟩ <;> rcases h2 with h2 | ⟨rfl,rfl⟩
    · exact hw.fit _ _ _ _ h1 h2
    · have:=hw.lt h1; omega
    · have:=hw.lt h2; omega
    · simp
  · rcases hbc with hbc | ⟨rfl,rfl⟩
    · have l:=hw.lt hbc
      have e1:({ w with heap:=w.heap.push o }:World).heap[b]? = w.heap[b]?:=by simp [Array.getElem?_push]; omega
      have e2:({ u with heap:=u.heap.push o' }:World).heap[c]? = u.heap[c]?:=by simp [Array.getElem?_push]; omega
      obtain ⟨xs',ys',e',f,g,r1,r2,r3,r4,r5⟩ | ⟨a1,a2,l,r1,r2,r3,r4⟩:=hw.rows b c hbc
      · exact .inl ⟨xs',ys',e',f,g,e1.trans r1,e2.trans r2,r3.mono fun _ _ h=>h.mono hE,r4,r5⟩
      · exact .inr ⟨a1,a2,l,e1.trans r1,e2.trans r2,⟨hE _ _ r3.1,r3.2⟩,r4⟩
    · exact h _ w u hE nk (.inr ⟨rfl,rfl⟩)
  · rcases hbc with hbc | ⟨rfl,rfl⟩
    · exact hw.low b c hbc hne
    · exact hw.big
  · rcases hq with hq | ⟨_,rfl⟩
    · exact absurd hq hn
    · exact Nat.le_refl _
theorem Sim.newRow {xs ys:Array Value} (e:TypeId) (h:AllR (VR p) xs ys):Sim P Q K p (newObj (.cells xs e)) (newObj (.cells ys e)) (fun q r s=>q r s ∧ ¬ K s) :=
  Sim.newMate fun q w u hq nk _=>.inl ⟨xs,ys,e,(0,0),(0,0),by simp,by simp,h.mono fun _ _ h=>h.mono hq,fun hk=>absurd hk nk,fun _=>⟨rfl,rfl⟩⟩
theorem Sim.newNumber {a b:Addr} (l:Bool) (h:AR p a b):Sim P Q K p (newObj (.number a l)) (newObj (.number b l)) (fun q r s=>q r s ∧ ¬ K s) :=
  Sim.newMate fun q w u hq nk _=>.inr ⟨a,b,l,by simp,by simp,⟨hq _ _ h.1,h.2⟩,nk⟩
theorem Sim.shape {r s:Nat} (h:p r s):Sim P Q K p (shape r) (shape s) (fun _ a b=>a = b):=by
  intro tw w u es fs hw ht
  refine ⟨⟨fun h w' es' hr=>(by cases hr),⟨Nat.le_refl _,rfl,fun T' _=>rfl⟩⟩,fun a w' es' hr=>?_⟩
  have h0:∀ (P:Program) (r:Nat) (w:World) (es:Array Event),(Go.shape r).runT P w es = (.ok (w.shape? r) w,es):=fun _ _ _ _=>rfl
  rw [h0] at hr
  cases hr
  refine ⟨p,u.shape? s,u,#[],by rw [h0,Array.append_empty],?_,hw,ht,Guar.refl _ _ _,fun e he=>by simp at he⟩
  obtain ⟨xs,ys,e,f,g,h1,h2,h3,_⟩ | ⟨_,_,_,h1,h2,_⟩:=hw.rows r s h
  · simp [World.shape?,h1,h2,h3.1]
  · simp [World.shape?,h1,h2]
theorem Sim.noRoom:Sim P Q K p (mark .noRoom) (mark .noRoom) (fun _ _ _=>True):=by
  intro tw w u es fs hw ht
  refine ⟨⟨fun h w' es' hr=>(by cases hr),⟨Nat.le_refl _,rfl,fun T' _=>rfl⟩⟩,fun a w' es' hr=>?_⟩
  have h0:∀ (P:Program) (w:World) (es:Array Event),(mark .noRoom).runT P w es = (.ok () w,es.push ⟨.mark .noRoom,false,true⟩):=fun _ _ _=>rfl
  rw [h0] at hr
  cases hr
  exact ⟨p,(),u,#[⟨.mark .noRoom,false,true⟩],by rw [h0]; rfl,trivial,hw,ht,Guar.refl _ _ _,fun e he=>.inr (by simpa using he)⟩
end
end Go.Proofs.YtojoafcnijajmaaGreatDoor
