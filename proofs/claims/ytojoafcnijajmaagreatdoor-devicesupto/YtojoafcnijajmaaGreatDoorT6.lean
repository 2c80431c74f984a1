/- Part 6 of the proof that Devices answers true and leaves its input as it was, for input of bulk at most the bound of its row: WB WC WD WE. -/
import Derived.Test.YtojoafcnijajmaaGreatDoorT5
set_option linter.unusedSimpArgs false
set_option linter.unusedVariables false
namespace Go.Proofs.YtojoafcnijajmaaGreatDoor
open Go
section
variable {α β γ δ:Type} {P Q:Program} {K:Nat → Prop} {p:Nat → Nat → Prop} {C:Cfg}
def Deep (C:Cfg) (a b:Frame):Prop:=b.defers = [] ∧ b.kind = .normal ∧ a.fn ∈ C.fns ∧ a.fn ∉ C.sp
def Beneath (C:Cfg) (az:List Frame) (a b:Frame):Prop:=(az ≠ [] → Deep C a b) ∧ (az = [] → b.defers = C.dd ∧ b.kind = C.kd ∧ (C.atRoot = true → a.fn = C.root))
theorem Beneath.finish {az:List Frame} {a b:Frame} (h:Beneath C az a b) (v u:Value):Beneath C az (a.finish v) (b.finish u):=by
  unfold Beneath Deep
  rw [(finish_fn a v).1,(finish_fn b u).2,finish_kind b u]
  exact h
def CR (C:Cfg) (P:Program) (p:Nat → Nat → Prop):List Frame → List Frame → Prop
  | [],[]=>True
  | a :: az,b :: bs=>(FR C P p a b ∧ a.mode = .run ∧ HeadOk C a ∧ Beneath C az a b) ∧ CR C P p az bs
  | _,_=>False
theorem CR.ext {q:Nat → Nat → Prop} (hq:Ext p q):∀ {az bs:List Frame},CR C P p az bs → CR C P q az bs
  | [],[],_=>trivial
  | _ :: _,_ :: _,h=>⟨⟨h.1.1.ext hq,h.1.2⟩,h.2.ext hq⟩
  | [],_ :: _,h=>h.elim
  | _ :: _,[],h=>h.elim
theorem CR.left:∀ {az bs:List Frame},CR C P p az bs → ∀ x ∈ az,x.mode = .run ∧ x.defers = [] ∧ ∃ fn,P.funcs[x.fn]? = some fn
  | [],_,_,x,hx=>by cases hx
  | a :: az,b :: bs,h,x,hx=>by
    rcases List.mem_cons.1 hx with rfl | hx
    · exact ⟨h.1.2.1,h.1.1.da,h.1.1.known⟩
    · exact h.2.left x hx
  | _ :: _,[],h,_,_=>h.elim
abbrev gor (fr:Frame) (cs:List Frame):Goroutine:={ frame:=fr,callers:=cs,status:=.running,dying:=none }
structure Live (C:Cfg) (P:Program) (p:Nat → Nat → Prop) (a:Frame) (az:List Frame) (b:Frame) (bs:List Frame):Prop where
  fr:FR C P p a b
  mode:a.mode = .run ∨ a.mode = .returning
  cs:CR C P p az bs
  deep:Beneath C az a b
theorem FR.mode {a b:Frame} (h:FR C P p a b):b.mode = a.mode:=by rw [h.same]
theorem FR.todo {a b:Frame} (h:FR C P p a b):b.todo = a.todo.map (sgI C):=by rw [h.same]
theorem FR.fn {a b:Frame} (h:FR C P p a b):b.fn = a.fn:=by rw [h.same]
def DoomedBy (P:Program) (ch:List PanicEntry) (fr:Frame) (az:List Frame):Prop:=fr.mode = .panicking ch ∧ fr.defers = [] ∧ (∃ fn,P.funcs[fr.fn]? = some fn) ∧ ∀ x ∈ az,x.mode = .run ∧ x.defers = [] ∧ ∃ fn,P.funcs[x.fn]? = some fn
def Doomed (P:Program) (fr:Frame) (az:List Frame):Prop:=∃ ch,(∀ e ∈ ch,noPtr e.v) ∧ DoomedBy P ch fr az
def BadStep (P:Program) (s:GStep) (cs:List Frame):Prop:=(∃ o w es,s = .ended o w es) ∨ ∃ fr az w es,s = .go (gor fr (az ++ cs)) w es ∧ Doomed P fr az
def Goon (C:Cfg) (P:Program) (K:Nat → Prop) (p:Nat → Nat → Prop) (u:World) (cs ds:List Frame) (s t:GStep):Prop :=
  ∃ q a az b bs w' u' es new,s = .go (gor a (az ++ cs)) w' es ∧ t = .go (gor b (bs ++ ds)) u' new ∧ Live C P q a az b bs ∧ WR P.globals.size K q w' u' ∧ TR w' u' ∧ Guar K p q u u' ∧ ∀ e ∈ new,EvOk K q e
def Edge (C:Cfg) (P Q:Program) (K:Nat → Prop) (p:Nat → Nat → Prop) (u:World) (cs ds:List Frame) (s t:GStep):Prop :=
  ∃ q f x y a az b bs w' u' es new,f ∈ C.fns ∧ f ∈ C.sp ∧ s = .go (gor (Frame.enter P f x .normal) (a :: az ++ cs)) w' es ∧ t = .go (gor (Frame.enter Q f y .normal) (b :: bs ++ ds)) u' new ∧ (AllR (VR q) x y ∧ (f = 22 → x.size = 2)) ∧ CR C P q (a :: az) (b :: bs) ∧ WR P.globals.size K q w' u' ∧ TR w' u' ∧ Guar K p q u u' ∧ ∀ e ∈ new,EvOk K q e
def Alike (C:Cfg) (P Q:Program) (K:Nat → Prop) (p:Nat → Nat → Prop) (u:World) (cs ds:List Frame) (s t:GStep):Prop :=
  BadStep P s cs ∨ Goon C P K p u cs ds s t ∨ Edge C P Q K p u cs ds s t
theorem Alike.stay {w u:World} {cs ds az bs:List Frame} {a b:Frame} {s t:GStep} (h:Live C P p a az b bs) (hw:WR P.globals.size K p w u) (ht:TR w u)
    (e1:s = .go (gor a (az ++ cs)) w #[]) (e2:t = .go (gor b (bs ++ ds)) u #[]):Alike C P Q K p u cs ds s t :=
  .inr (.inl ⟨p,a,az,b,bs,w,u,#[],#[],e1,e2,h,hw,ht,Guar.refl _ _ _,fun e he=>by simp at he⟩)
theorem Alike.bad {u:World} {cs ds:List Frame} {s t:GStep} {o:Outcome} {w:World} {es:Array Event} (h:s = .ended o w es):Alike C P Q K p u cs ds s t:=.inl (.inl ⟨o,w,es,h⟩)
theorem seen_mem {P:Program} {fn:FuncId} {es:Array Event}:∀ e ∈ seen P fn es,e ∈ es:=by
  have key:∀ (l:List Event) (q:Bool) (kept:Array Event) (f:Bool × Array Event → Event → Bool × Array Event),
      (∀ x e y,y ∈ (f x e).2 → y ∈ x.2 ∨ y = e) → ∀ e ∈ (l.foldl f (q,kept)).2,e ∈ kept ∨ e ∈ l:=by
    intro l
    induction l with
    | nil=>intro q kept f _ e he; exact .inl he
    | cons x l ih =>
      intro q kept f hf e he
      rw [List.foldl_cons] at he
      rcases ih _ _ f hf e (by simpa using he) with h | h
      · rcases hf _ _ _ h with h | rfl
        · exact .inl h
        · exact .inr (by simp)
      · exact .inr (by simp [h])
  intro e he
  unfold seen at he
  simp only at he
  rw [← Array.foldl_toList] at he
  refine (key es.toList _ #[] _ ?_ e he).elim (fun h=>by simp at h) (fun h=>by simpa using h)
  intro x e y hy
  obtain ⟨q,kept⟩:=x
  simp only at hy
  split at hy
  · exact .inl hy
  · split at hy
    · exact .inl hy
    · exact (Array.mem_push.1 hy).elim .inl .inr
theorem apply_alike (hp:PlainBodies C P Q) {w u:World} {cs ds az bs:List Frame} {a b:Frame} {s t:Sem Next} (hl:Live C P p a az b bs) (hr:a.mode = .run) (hh:HeadOk C a) {ops:Array Oper} {i:Nat} {rest:List Nat} {k:List Item}
    (htd:a.todo = .inRegion ops (i :: rest) :: k) (hs:Sim P Q K p s t (NR C.fns)) (tw:Twin P Q) (hw:WR P.globals.size K p w u) (ht:TR w u) :
    Alike C P Q K p u cs ds (stepG.apply P true a (az ++ cs) none s w) (stepG.apply Q true b (bs ++ ds) none t u):=by
  have hx:=hs tw w u #[] #[] hw ht
  have htb:b.todo = .inRegion (ops.map C.sg) (i :: rest) :: k.map (sgI C):=by rw [hl.fr.todo,htd]; rfl
  have hka:=hl.fr.ka
  have hkb:(b.kind == CallKind.early) = false:=by simpa using hl.fr.kb
  unfold stepG.apply
  rcases h1:s.runT P w #[] with ⟨r,es⟩
  cases r with
  | halt h w' =>
    have hm:=hx.1.mild h w' es h1
    simp only [if_true,h1]
    cases h with
    | panic v =>
      refine .inl (.inr ⟨a.raise [{ v,recovered:=false }],az,w',_,rfl,[{ v,recovered:=false }],?_,?_,?_,?_,hl.cs.left⟩)
      · intro e he
        rw [List.mem_singleton.1 he]
        exact hm
      · unfold Frame.raise; rw [hr]
      · unfold Frame.raise; split <;> exact hl.fr.da
      · unfold Frame.raise; split <;> exact hl.fr.known
    | stuck m=>exact .inl (.inl ⟨_,_,_,rfl⟩)
    | unsupported m =>
      cases m with
      | initOrder g=>exact hm.elim
      | _=>exact .inl (.inl ⟨_,_,_,rfl⟩)
    | _=>exact hm.elim
  | ok n w' =>
    obtain ⟨q,n',u',new,h2,hN,hw',ht',hg,he⟩:=hx.2 n w' es h1
    simp only [Array.empty_append] at h2
    simp only [if_true,h1,h2,hka,hkb,htd,htb]
    have hseen:∀ e ∈ seen Q b.fn new ++ #[],EvOk K q e:=fun e hm=>he e (seen_mem e (by simpa using hm))
    have hmf:∀ v,(a.finish v).mode = .run:=fun v=>(finish_mode a v).trans hr
    have hfin:∀ v v',VR q v v' → Live C P q (a.finish v) az (b.finish v') bs:=fun v v' hv=>⟨(hl.fr.ext hg.ext).finish hp.cfg hv hh,.inl (hmf v),hl.cs.ext hg.ext,hl.deep.finish v v'⟩
    cases n with
    | value v=>cases n' with
      | value v'=>exact .inr (.inl ⟨q,_,az,_,bs,w',u',_,_,rfl,rfl,hfin v v' hN,hw',ht',hg,hseen⟩)
      | _=>exact hN.elim
    | skip=>cases n' with
      | skip=>exact .inr (.inl ⟨q,_,az,_,bs,w',u',_,_,rfl,rfl,hfin undef undef VR.undef,hw',ht',hg,hseen⟩)
      | _=>exact hN.elim
    | enter f x=>cases n' with
      | enter g y =>
        obtain ⟨rfl,hf,hxy,har⟩:=hN
        have hcr:CR C P q (a :: az) (b :: bs):=⟨⟨hl.fr.ext hg.ext,hr,hh,hl.deep⟩,hl.cs.ext hg.ext⟩
        by_cases hsp:f ∈ C.sp
        · exact .inr (.inr ⟨q,f,x,y,a,az,b,bs,w',u',_,_,hf,hsp,rfl,rfl,⟨hxy,har⟩,hcr,hw',ht',hg,hseen⟩)
        · exact .inr (.inl ⟨q,_,a :: az,_,b :: bs,w',u',_,_,rfl,rfl,⟨FR.enter hp hf hsp hxy,.inl rfl,hcr,fun _=>⟨rfl,rfl,hf,hsp⟩,fun e=>by cases e⟩,hw',ht',hg,hseen⟩)
      | _=>exact hN.elim
    | _=>cases n' <;> exact hN.elim
end
end Go.Proofs.YtojoafcnijajmaaGreatDoor

namespace Go.Proofs.YtojoafcnijajmaaGreatDoor
open Go
section
variable {α β γ δ:Type} {P Q:Program} {K:Nat → Prop} {p:Nat → Nat → Prop} {C:Cfg}
theorem exitTo_plain {f id:Nat}:∀ {k k':List Item},exitTo id k = some k' → plainTodo C P f k → plainTodo C P f k'
  | [],k',h,_=>by cases h
  | x :: k,k',h,hk=>by
    have hk':=hk.cons.2
    cases x with
    | inBlock id' =>
      simp only [exitTo] at h
      split at h
      · cases h; exact hk'
      · exact exitTo_plain h hk'
    | _=>exact exitTo_plain (id:=id) (by simpa only [exitTo] using h) hk'
theorem yielded_eq {f:Nat} {ops:Array Oper} {x y:Array Value} (h:TmR C p f x y) (hf:f ≠ C.root):yielded ops x = yielded ops y:=by
  have key:∀ (z:Array Value) (j:Nat),yielded ops z j = match (ops[j]?).bind (·.dst) with
      | none=>none
      | some d=>match z.getD d undef with
        | .bool b=>some b
        | _=>none:=fun z j=>by
    unfold yielded
    cases (ops[j]?).bind (·.dst) with
    | none=>rfl
    | some d =>
      simp only [Option.bind_some,Array.getD_eq_getD_getElem?]
      cases z[d]? with
      | none=>rfl
      | some v=>cases v <;> rfl
  funext j
  rw [key,key]
  cases (ops[j]?).bind (·.dst) with
  | none=>rfl
  | some d =>
    have hc:=(h.get d).resolve_left fun hh=>hf hh.1
    revert hc
    show VR p _ _ → (match x.getD d undef with | .bool b=>some b | _=>none) = (match y.getD d undef with | .bool b=>some b | _=>none)
    generalize x.getD d undef = v
    generalize y.getD d undef = u
    intro hc
    replace hc:=hc.cases
    cases v <;> cases u <;> first | exact hc.elim | exact Bool.noConfusion hc | rfl | (simp only at hc; rw [hc])
theorem Sim.asAddr {v u:Value} (h:VR p v u):Sim P Q K p (asAddr v) (asAddr u) (fun q a b=>AR q a b):=by
  have hc:=h.cases
  cases v with
  | pointer a =>
    obtain ⟨b,rfl,hb⟩:=h.ptr_inv
    cases a with
    | none =>
      obtain rfl:=hb.none_inv
      exact Never.sim (Never.runtimePanic .nilDeref)
    | some a =>
      obtain ⟨b,rfl,hab⟩:=hb.some_inv
      exact Sim.pure hab
  | _=>cases u <;> first | exact hc.elim | exact Bool.noConfusion hc | exact Sim.halt
theorem Sim.foldPush {ρ:Type} (f g:ρ → Sem Value) (p₀:Nat → Nat → Prop) (hf:∀ q r,Ext p₀ q → Sim P Q K q (f r) (g r) (fun q a b=>VR q a b)):∀ (l:List ρ) {p:Nat → Nat → Prop} {c d:Array Value},Ext p₀ p → AllR (VR p) c d →
    Sim P Q K p (l.foldlM (init:=c) fun acc r=>Functor.map acc.push (f r)) (l.foldlM (init:=d) fun acc r=>Functor.map acc.push (g r)) (fun q a b=>AllR (VR q) a b)
  | [],p,c,d,_,h=>by simp only [List.foldlM_nil]; exact Sim.pure h
  | r :: l,p,c,d,hp,h=>by
    simp only [List.foldlM_cons]
    refine Sim.bind (A:=fun q a b=>AllR (VR q) a b) ?_ fun q a b hq e=>Sim.foldPush f g p₀ hf l (hp.trans hq) e
    exact Sim.bind (hf p r hp) fun q a b hq e=>Sim.pure ((h.ext hq).push e)
theorem Sim.results {f:Nat} (fn:Func) {x y:Array Value} (h:TmR C p f x y) (hf:f ≠ C.root):Sim P Q K p (results fn x) (results fn y) (fun q a b=>VR q a b):=by
  unfold Go.results
  refine Sim.bind (A:=fun q a b=>AllR (VR q) a b) ?_ fun q a b hq e=>?_
  · rw [Array.mapM_eq_foldlM,Array.mapM_eq_foldlM,← Array.foldlM_toList,← Array.foldlM_toList]
    refine Sim.foldPush _ _ p (fun q r hq=>?_) fn.results.toList (Ext.refl p) AllR.empty
    cases r with
    | tmp t=>exact Sim.pure (((h.ext hq).get t).resolve_left fun hh=>hf hh.1)
    | cell a t=>exact Sim.bind (Sim.asAddr (((h.ext hq).get a).resolve_left fun hh=>hf hh.1)) fun q a b _ hab=>Sim.loadVar t hab
  · refine Sim.pure ?_
    by_cases hs:a.size = 1
    · have hsb:b.size = 1:=e.1 ▸ hs
      rw [dif_pos hs,dif_pos hsb]
      exact e.2 0 _ _ (Array.getElem?_eq_getElem (by omega)) (Array.getElem?_eq_getElem (by omega))
    · have hsb:¬ b.size = 1:=e.1 ▸ hs
      rw [dif_neg hs,dif_neg hsb]
      exact VR.tuple e
end
end Go.Proofs.YtojoafcnijajmaaGreatDoor

namespace Go.Proofs.YtojoafcnijajmaaGreatDoor
open Go
section
variable {α β γ δ:Type} {P Q:Program} {K:Nat → Prop} {p:Nat → Nat → Prop} {C:Cfg}
theorem exec_alike (hz:ZeroOk P) (hp:PlainBodies C P Q) (tw:Twin P Q) {w u:World} {cs ds az bs:List Frame} {m m':Bool} {a b:Frame} (hl:Live C P p a az b bs) (hr:a.mode = .run) (hmk:¬ Marked C a) (hw:WR P.globals.size K p w u) (ht:TR w u) :
    Alike C P Q K p u cs ds (stepG.exec P m true a (az ++ cs) none w) (stepG.exec Q m' true b (bs ++ ds) none u):=by
  have hl0:=hl
  obtain ⟨fn,tmps,todo,defers,mode,kind,ro⟩:=a
  obtain ⟨fn',tmps',todo',defers',mode',kind',ro'⟩:=b
  obtain ⟨⟨h1,h2,h3,h4,h5,h6,h7,h8,h9,h10⟩,hmode,hcs,hdeep⟩:=hl
  simp only at h2 h3 h4 h5 h6 h8 h9 h10 hr
  simp only [Frame.mk.injEq] at h7
  obtain ⟨rfl,-,rfl,-,rfl,-,rfl⟩:=h7
  subst h4 h5 h6 hr
  have to:∀ todo',plainTodo C P fn' todo' → Tr todo todo' → Live C P p ⟨fn',tmps,todo',[],.run,.normal,none⟩ az ⟨fn',tmps',todo'.map (sgI C),defers',.run,kind',none⟩ bs:=fun todo' ht htr=>⟨⟨h1,h2,ht,rfl,rfl,rfl,rfl,h8,fun e=>hp.cfg.clos _ _ _ (h9 e) htr,h10⟩,.inl rfl,hcs,hdeep⟩
  have leave:Live C P p ⟨fn',tmps,todo,[],.returning,.normal,none⟩ az ⟨fn',tmps',todo.map (sgI C),defers',.returning,kind',none⟩ bs:=⟨⟨h1,h2,h3,rfl,rfl,rfl,rfl,h8,h9,h10⟩,.inr rfl,hcs,hdeep⟩
  have hev:∀ x,okOperand x = true → (fn' = C.root → openTo C x = true) → VR p (Frame.eval ⟨fn',tmps,todo,[],.run,.normal,none⟩ x) (Frame.eval ⟨fn',tmps',todo.map (sgI C),defers',.run,kind',none⟩ x):=fun x hx hv=>hl0.fr.eval x hx hv
  cases todo with
  | nil=>exact Alike.stay leave hw ht rfl rfl
  | cons x k =>
    obtain ⟨hx,hk⟩:=h3.cons
    cases x with
    | inBlock id=>exact Alike.stay (to k hk rfl) hw ht rfl rfl
    | inLoop c=>exact Alike.stay (to _ (plainTodo.of (x:=.code c) hx (plainTodo.of (x:=.inLoop c) hx hk)) rfl) hw ht rfl rfl
    | inRegion ops l =>
      cases l with
      | nil=>exact Alike.stay (to k hk rfl) hw ht rfl rfl
      | cons i rest =>
        have hallR:ops.all (okOp C P fn') = true:=hx
        simp only [stepG.exec,List.map_cons,sgI]
        have hwq:(((ops.map C.sg)[i]?).map (Region.wanted · (yielded (ops.map C.sg) tmps'))).getD false = ((ops[i]?).map (Region.wanted · (yielded ops tmps))).getD false:=by
          rw [Array.getElem?_map]
          cases ho:ops[i]? with
          | none=>rfl
          | some o =>
            simp only [Option.map_some,Option.getD_some]
            by_cases hf:fn' = C.root
            · have hg:o.guard = none:=by
                cases hm:C.mark o with
                | true=>exact hp.cfg.free o hm
                | false=>exact ((okOp.parts (Array.all_eq_true'.1 hallR o (Array.mem_of_getElem? ho))).2.2.2 hf hm).2.2
              simp only [Region.wanted,hp.cfg.guard,hg]
            · rw [yielded_map hp.cfg,← yielded_eq h2 hf]
              simp only [Region.wanted,hp.cfg.guard]
        rw [hwq]
        by_cases hwant:((ops[i]?).map (Region.wanted · (yielded ops tmps))).getD false = true
        · rw [if_pos hwant,if_pos hwant]
          cases ho:ops[i]? with
          | none=>rw [ho] at hwant; cases hwant
          | some o =>
            have hall:ops.all (okOp C P fn') = true:=hx
            have hop':okOp C P fn' o = true:=Array.all_eq_true'.1 hall o (Array.mem_of_getElem? ho)
            have hop:plainOp P C.fns o = true:=(okOp.parts hop').1
            have hnm:C.mark o = false:=by
              cases hm:C.mark o with
              | false=>rfl
              | true=>exact absurd ⟨ops,i,rest,k,o,rfl,ho,by simpa [ho] using hwant,hm⟩ hmk
            have hsg:(ops.map C.sg)[i]? = some o:=by rw [Array.getElem?_map,ho]; exact congrArg some (hp.cfg.idle o hnm)
            have hh:HeadOk C ⟨fn',tmps,.inRegion ops (i :: rest) :: k,[],.run,.normal,none⟩:=headOk_of (P:=P) rfl hallR fun o' ho'=>by rw [ho] at ho'; cases ho'; exact hnm
            have e1:stepG.oper P true ⟨fn',tmps,.inRegion ops (i :: rest) :: k,[],.run,.normal,none⟩ (az ++ cs) none w =
                stepG.apply P true ⟨fn',tmps,.inRegion ops (i :: rest) :: k,[],.run,.normal,none⟩ (az ++ cs) none (execOp (Frame.eval ⟨fn',tmps,.inRegion ops (i :: rest) :: k,[],.run,.normal,none⟩) o) w:=by
              simp only [stepG.oper,Frame.oper?,ho]
            have e2:stepG.oper Q true ⟨fn',tmps',.inRegion (ops.map C.sg) (i :: rest) :: k.map (sgI C),defers',.run,kind',none⟩ (bs ++ ds) none u =
                stepG.apply Q true ⟨fn',tmps',.inRegion (ops.map C.sg) (i :: rest) :: k.map (sgI C),defers',.run,kind',none⟩ (bs ++ ds) none (execOp (Frame.eval ⟨fn',tmps',.inRegion (ops.map C.sg) (i :: rest) :: k.map (sgI C),defers',.run,kind',none⟩) o) u:=by
              simp only [stepG.oper,Frame.oper?,hsg]
            rw [e1,e2]
            exact apply_alike hp hl0 rfl hh rfl (Sim.execOpOn hz hp.pfns o hop (fun x hx ho=>hev x ho fun hf=>(okOp.parts hop').2.2.1 hf x hx) (fun v=>⟨rfl,rfl⟩) fun g=>⟨rfl,rfl⟩) tw hw ht
        · rw [if_neg hwant,if_neg hwant]
          have hh:HeadOk C ⟨fn',tmps,.inRegion ops (i :: rest) :: k,[],.run,.normal,none⟩:=headOk_of (P:=P) rfl hallR fun o ho=>by
            cases hm:C.mark o with
            | false=>rfl
            | true=>exact absurd (by rw [ho]; simp [Region.wanted,hp.cfg.free o hm]) hwant
          exact Alike.stay ⟨hl0.fr.finish hp.cfg VR.undef hh,.inl (finish_mode _ _),hcs,Beneath.finish hdeep _ _⟩ hw ht rfl rfl
    | code c =>
      cases c with
      | skip=>exact Alike.stay (to k hk rfl) hw ht rfl rfl
      | label l=>exact Alike.stay (to k hk rfl) hw ht rfl rfl
      | ret=>exact Alike.stay leave hw ht rfl rfl
      | seq c d =>
        have hcd:plainCode C P fn' c = true ∧ plainCode C P fn' d = true:=by simpa [plainItem,plainCode] using hx
        exact Alike.stay (to _ (plainTodo.of (x:=.code c) hcd.1 (plainTodo.of (x:=.code d) hcd.2 hk)) rfl) hw ht rfl rfl
      | block id c=>exact Alike.stay (to _ (plainTodo.of (x:=.code c) hx (plainTodo.of (x:=.inBlock id) rfl hk)) rfl) hw ht rfl rfl
      | loop c=>exact Alike.stay (to _ (plainTodo.of (x:=.code c) hx (plainTodo.of (x:=.inLoop c) hx hk)) rfl) hw ht rfl rfl
      | cond c x y =>
        have hcd:((okOperand c = true ∧ (fn' ≠ C.root ∨ openTo C c = true)) ∧ plainCode C P fn' x = true) ∧ plainCode C P fn' y = true:=by simpa [plainItem,plainCode] using hx
        have hv:=hev c hcd.1.1.1 fun hf=>hcd.1.1.2.resolve_left fun h=>h hf
        simp only [stepG.exec,List.map_cons,sgI,sgC]
        simp only [List.map_cons,sgI,sgC] at hv
        revert hv
        generalize Frame.eval ⟨fn',tmps,.code (.cond c x y) :: k,[],.run,.normal,none⟩ c = v
        generalize Frame.eval ⟨fn',tmps',.code (.cond c (sgC C x) (sgC C y)) :: k.map (sgI C),defers',.run,kind',none⟩ c = v'
        intro hv
        have hc:=hv.cases
        cases v with
        | bool t=>cases v' with
          | bool t' =>
            obtain rfl:t = t':=hc
            cases t
            · exact Alike.stay (to _ (plainTodo.of (x:=.code y) hcd.2 hk) (.inr rfl)) hw ht rfl rfl
            · exact Alike.stay (to _ (plainTodo.of (x:=.code x) hcd.1.2 hk) (.inl rfl)) hw ht rfl rfl
          | _=>exact hc.elim
        | _=>exact Alike.bad rfl
      | exit id =>
        simp only [stepG.exec,List.map_cons,sgI,sgC,exitTo_map]
        cases he:exitTo id k with
        | some k'=>exact Alike.stay (to k' (exitTo_plain he hk) he) hw ht rfl rfl
        | none=>exact Alike.bad rfl
      | region id ops draw =>
        have hops:plainItem C P fn' (.inRegion ops (List.range ops.size)) = true:=hx
        have hsz:(ops.map C.sg).size = ops.size:=Array.size_map ..
        cases draw with
        | false=>exact Alike.stay (to _ (plainTodo.of (x:=.inRegion ops (List.range ops.size)) hx hk) rfl) hw ht rfl (by simp only [stepG.exec,List.map_cons,sgI,sgC,hsz]; rfl)
        | true =>
          have e:∀ (P:Program) (w:World),(choose (.order fn' id)).run P w = .ok (w.tape w.drawn (.order fn' id)) { w with drawn:=w.drawn + 1 }:=fun _ _=>rfl
          have ht0:=ht 0 (.order fn' id)
          simp only [Nat.add_zero] at ht0
          refine .inr (.inl ⟨p,⟨fn',tmps,.inRegion ops (Region.schedule (P.follows .mixedOrders) ops (w.tape w.drawn (.order fn' id))) :: k,[],.run,.normal,none⟩,az,⟨fn',tmps',(Item.inRegion ops (Region.schedule (P.follows .mixedOrders) ops (w.tape w.drawn (.order fn' id))) :: k).map (sgI C),defers',.run,kind',none⟩,bs,
            { w with drawn:=w.drawn + 1 },{ u with drawn:=u.drawn + 1 },#[],#[],rfl,?_,to _ (plainTodo.of (x:=.inRegion ops _) hx hk) ⟨_,_,rfl⟩,⟨hw.fit,hw.rows,hw.kin,hw.low,hw.big⟩,fun i r=>?_,⟨rfl,rfl,rfl,Nat.le_refl _,fun _ _ _=>rfl,fun _ _ h n=>absurd h n,Ext.refl p⟩,fun e he=>by simp at he⟩)
          · rw [ht0,← tw.mixed]
            simp only [List.map_cons,sgI,sgC,← schedule_map hp.cfg (Q.follows .mixedOrders) ops]
            rfl
          · have:=ht (1 + i) r
            simpa [Nat.add_assoc] using this
      | _=>cases hx
    | _=>cases hx
theorem step_alike (hz:ZeroOk P) (hp:PlainBodies C P Q) (tw:Twin P Q) {w u:World} {cs ds az bs:List Frame} {m m':Bool} {a b:Frame} (hl:Live C P p a az b bs) (hmk:a.mode = .run → ¬ Marked C a) (hr:a.mode = .returning → az ≠ []) (hw:WR P.globals.size K p w u) (ht:TR w u) :
    Alike C P Q K p u cs ds (stepG P m (gor a (az ++ cs)) w) (stepG Q m' (gor b (bs ++ ds)) u):=by
  rcases hl.mode with hm | hm
  · have hmb:b.mode = .run:=hl.fr.mode.trans hm
    have e:∀ (P:Program) (m:Bool) (a:Frame) (cs:List Frame) (w:World),a.mode = .run → stepG P m (gor a cs) w = stepG.exec P m true a cs none w:=by
      intro P m a cs w h
      simp only [stepG,h]
    rw [e _ _ _ _ _ hm,e _ _ _ _ _ hmb]
    exact exec_alike hz hp tw hl hm (hmk hm) hw ht
  · have hmb:b.mode = .returning:=hl.fr.mode.trans hm
    obtain ⟨d1,kb,d2,d3⟩:=hl.deep.1 (hr hm)
    obtain ⟨fn,c,fn',f1,_,_,_,f5,_,_,_,f9⟩:=hp.get d2 d3
    have f2:Q.funcs[b.fn]? = some fn':=by rw [hl.fr.fn]; exact f5
    have hres:results fn' b.tmps = results fn b.tmps:=by unfold results; rw [f9]
    have db:b.defers = []:=d1
    have e:∀ (P:Program) (fn:Func) (m:Bool) (a:Frame) (cs:List Frame) (w:World),a.mode = .returning → a.defers = [] → P.funcs[a.fn]? = some fn → stepG P m (gor a cs) w =
        GStep.after (seen P a.fn ((results fn a.tmps).runT P w #[]).2) (match ((results fn a.tmps).runT P w #[]).1 with
          | .ok v w=>doReturn P m a cs none v w
          | .halt (.stuck s) w=>.ended (.stuck s (a.pos P)) w
          | .halt _ w=>.ended (.stuck "return: the result variables cannot be read" (a.pos P)) w):=by
      intro P fn m a cs w h1 h2 h3
      simp only [stepG,unwind,h1,h2,h3]
      rcases (results fn a.tmps).runT P w #[] with ⟨r,es⟩
      cases r with
      | ok v w=>rfl
      | halt h w=>cases h <;> rfl
    rw [e _ _ _ _ _ _ hm hl.fr.da f1,e _ _ _ _ _ _ hmb db f2,hres]
    have hx:=Sim.results (P:=P) (Q:=Q) (K:=K) fn hl.fr.tmps (hp.root _ d2 d3) tw w u #[] #[] hw ht
    rcases h1:(results fn a.tmps).runT P w #[] with ⟨r,es⟩
    cases r with
    | halt h w'=>cases h <;> exact Alike.bad rfl
    | ok v w' =>
      obtain ⟨q,v',u',new,h2,hN,hw',ht',hg,he⟩:=hx.2 v w' es h1
      simp only [Array.empty_append] at h2
      rw [h2]
      cases az with
      | nil=>exact absurd rfl (hr hm)
      | cons x az=>cases bs with
        | nil=>exact hl.cs.elim
        | cons y bs =>
          obtain ⟨⟨hxy,hxr,hxh,hxd⟩,hcs⟩:=hl.cs
          refine .inr (.inl ⟨q,x.finish v,az,y.finish v',bs,w',u',seen P a.fn es ++ #[],seen Q b.fn new ++ #[],?_,?_,⟨(hxy.ext hg.ext).finish hp.cfg hN hxh,.inl ((finish_mode x v).trans hxr),hcs.ext hg.ext,Beneath.finish hxd v v'⟩,hw',ht',hg,fun e hm=>he e (seen_mem e (by simpa using hm))⟩)
          · simp only [List.cons_append,doReturn,hl.fr.ka,GStep.after]
          · simp only [List.cons_append,doReturn,kb,GStep.after]
end
end Go.Proofs.YtojoafcnijajmaaGreatDoor

namespace Go.Proofs.YtojoafcnijajmaaGreatDoor
open Go
section
variable {α β γ δ:Type} {P Q:Program} {K:Nat → Prop} {p:Nat → Nat → Prop} {C:Cfg}
def Agree (w w':World) (T:Nat → Question → Nat):Prop:=∀ j q,w.drawn ≤ j → j < w'.drawn → T j q = w.tape j q
def GLocal (f:World → GStep) (w:World):Prop :=
  (∃ g w' es,f w = .go g w' es ∧ w.drawn ≤ w'.drawn ∧ w'.tape = w.tape ∧ ∀ T',Agree w w' T' → f (taped w T') = .go g (taped w' T') es) ∨
  (∃ o w' es,f w = .ended o w' es ∧ w.drawn ≤ w'.drawn ∧ w'.tape = w.tape ∧ ∀ T',Agree w w' T' → f (taped w T') = .ended o (taped w' T') es)
theorem GLocal.stay {f:World → GStep} {w:World} {g:Goroutine} (h:∀ w,f w = .go g w #[]):GLocal f w:=.inl ⟨g,w,#[],h w,Nat.le_refl _,rfl,fun T' _=>h _⟩
theorem GLocal.lost {f:World → GStep} {w:World} {o:Outcome} (h:∀ w,f w = .ended o w #[]):GLocal f w:=.inr ⟨o,w,#[],h w,Nat.le_refl _,rfl,fun T' _=>h _⟩
theorem apply_local {w u:World} {cs az bs:List Frame} {a b:Frame} {s t:Sem Next} (hl:Live C P p a az b bs) {ops:Array Oper} {i:Nat} {rest:List Nat} {k:List Item}
    (htd:a.todo = .inRegion ops (i :: rest) :: k) (hs:Sim P Q K p s t (NR C.fns)) (tw:Twin P Q) (hw:WR P.globals.size K p w u) (ht:TR w u) :
    GLocal (stepG.apply P true a (az ++ cs) none s) w:=by
  have hx:=hs tw w u #[] #[] hw ht
  have hka:=hl.fr.ka
  obtain ⟨l1,l2,l3⟩:=hx.1.loc
  unfold GLocal stepG.apply
  rcases h1:s.runT P w #[] with ⟨r,es⟩
  rw [h1] at l1 l2 l3
  cases r with
  | halt h w' =>
    have hm:=hx.1.mild h w' es h1
    simp only [if_true,htd]
    cases h with
    | panic v=>exact .inl ⟨_,_,_,rfl,l1,l2,fun T' hT=>by rw [l3 T' hT]; rfl⟩
    | stuck m=>exact .inr ⟨_,_,_,rfl,l1,l2,fun T' hT=>by rw [l3 T' hT]; rfl⟩
    | unsupported m =>
      cases m with
      | initOrder g=>exact hm.elim
      | _=>exact .inr ⟨_,_,_,rfl,l1,l2,fun T' hT=>by rw [l3 T' hT]; rfl⟩
    | _=>exact hm.elim
  | ok n w' =>
    obtain ⟨q,n',u',new,h2,hN,_⟩:=hx.2 n w' es h1
    simp only [if_true,htd,hka]
    cases n with
    | value v=>exact .inl ⟨_,_,_,rfl,l1,l2,fun T' hT=>by rw [l3 T' hT]; rfl⟩
    | skip=>exact .inl ⟨_,_,_,rfl,l1,l2,fun T' hT=>by rw [l3 T' hT]; rfl⟩
    | enter f x=>exact .inl ⟨_,_,_,rfl,l1,l2,fun T' hT=>by rw [l3 T' hT]; rfl⟩
    | _=>cases n' <;> exact hN.elim
theorem exec_local (hz:ZeroOk P) (hp:PlainBodies C P Q) (tw:Twin P Q) {w u:World} {cs az bs:List Frame} {m:Bool} {a b:Frame} (hl:Live C P p a az b bs) (hr:a.mode = .run) (hw:WR P.globals.size K p w u) (ht:TR w u) :
    GLocal (stepG.exec P m true a (az ++ cs) none) w:=by
  have hl0:=hl
  obtain ⟨fn,tmps,todo,defers,mode,kind,ro⟩:=a
  obtain ⟨⟨h1,h2,h3,h4,h5,h6,h7,h8,h9,h10⟩,hmode,hcs,hdeep⟩:=hl
  simp only at h2 h3 h4 h5 h6 hr
  subst h4 h5 h6 hr
  have hev:∀ x,okOperand x = true → (fn = C.root → openTo C x = true) → VR p (Frame.eval ⟨fn,tmps,todo,[],.run,.normal,none⟩ x) (b.eval x):=fun x hx hv=>hl0.fr.eval x hx hv
  cases todo with
  | nil=>exact GLocal.stay fun _=>rfl
  | cons x k =>
    obtain ⟨hx,hk⟩:=h3.cons
    cases x with
    | inBlock id=>exact GLocal.stay fun _=>rfl
    | inLoop c=>exact GLocal.stay fun _=>rfl
    | inRegion ops l =>
      cases l with
      | nil=>exact GLocal.stay fun _=>rfl
      | cons i rest =>
        by_cases hwant:((ops[i]?).map (Region.wanted · (yielded ops tmps))).getD false = true
        · cases ho:ops[i]? with
          | none=>rw [ho] at hwant; cases hwant
          | some o =>
            have hop':okOp C P fn o = true:=Array.all_eq_true'.1 (show ops.all (okOp C P fn) = true from hx) o (Array.mem_of_getElem? ho)
            have hop:plainOp P C.fns o = true:=(okOp.parts hop').1
            have e1:stepG.exec P m true ⟨fn,tmps,.inRegion ops (i :: rest) :: k,[],.run,.normal,none⟩ (az ++ cs) none =
                stepG.apply P true ⟨fn,tmps,.inRegion ops (i :: rest) :: k,[],.run,.normal,none⟩ (az ++ cs) none (execOp (Frame.eval ⟨fn,tmps,.inRegion ops (i :: rest) :: k,[],.run,.normal,none⟩) o):=by
              funext w
              simp only [stepG.exec]
              rw [if_pos hwant]
              simp only [stepG.oper,Frame.oper?,ho]
            rw [e1]
            exact apply_local hl0 rfl (Sim.execOpOn hz hp.pfns o hop (fun x hx ho=>hev x ho fun hf=>(okOp.parts hop').2.2.1 hf x hx) (fun v=>⟨rfl,rfl⟩) fun g=>⟨rfl,rfl⟩) tw hw ht
        · refine GLocal.stay (g:=gor (Frame.finish ⟨fn,tmps,.inRegion ops (i :: rest) :: k,[],.run,.normal,none⟩ undef) (az ++ cs)) fun w=>?_
          simp only [stepG.exec]
          rw [if_neg hwant]
    | code c =>
      cases c with
      | skip=>exact GLocal.stay fun _=>rfl
      | label l=>exact GLocal.stay fun _=>rfl
      | ret=>exact GLocal.stay fun _=>rfl
      | seq c d=>exact GLocal.stay fun _=>rfl
      | block id c=>exact GLocal.stay fun _=>rfl
      | loop c=>exact GLocal.stay fun _=>rfl
      | cond c x y =>
        cases hv:Frame.eval ⟨fn,tmps,.code (.cond c x y) :: k,[],.run,.normal,none⟩ c with
        | bool t=>exact GLocal.stay (g:=gor ⟨fn,tmps,.code (if t then x else y) :: k,[],.run,.normal,none⟩ (az ++ cs)) fun w=>by simp only [stepG.exec,hv]
        | _=>exact GLocal.lost (o:=.stuck "cond: bool expected" (Frame.pos P ⟨fn,tmps,.code (.cond c x y) :: k,[],.run,.normal,none⟩)) fun w=>by simp only [stepG.exec,hv]
      | exit id =>
        cases he:exitTo id k with
        | some k'=>exact GLocal.stay (g:=gor ⟨fn,tmps,k',[],.run,.normal,none⟩ (az ++ cs)) fun w=>by simp only [stepG.exec,he]; rfl
        | none=>exact GLocal.lost (o:=.stuck "exit, goto: no such block or label" (Frame.pos P ⟨fn,tmps,.code (.exit id) :: k,[],.run,.normal,none⟩)) fun w=>by simp only [stepG.exec,he]; rfl
      | region id ops draw =>
        cases draw with
        | false=>exact GLocal.stay fun _=>rfl
        | true =>
          refine .inl ⟨_,_,_,rfl,Nat.le_succ _,rfl,fun T' hT=>?_⟩
          have e:(taped w T').tape (taped w T').drawn (.order fn id) = w.tape w.drawn (.order fn id):=hT w.drawn _ (Nat.le_refl _) (Nat.lt_succ_self _)
          have e2:∀ w:World,stepG.exec P m true ⟨fn,tmps,.code (.region id ops true) :: k,[],.run,.normal,none⟩ (az ++ cs) none w =
            .go (gor ⟨fn,tmps,.inRegion ops (Region.schedule (P.follows .mixedOrders) ops (w.tape w.drawn (.order fn id))) :: k,[],.run,.normal,none⟩ (az ++ cs)) { w with drawn:=w.drawn + 1 } #[]:=fun _=>rfl
          rw [e2,e]
          rfl
      | _=>cases hx
    | _=>cases hx
theorem step_local (hz:ZeroOk P) (hp:PlainBodies C P Q) (tw:Twin P Q) {w u:World} {cs az bs:List Frame} {m:Bool} {a b:Frame} (hl:Live C P p a az b bs) (hr:a.mode = .returning → az ≠ []) (hw:WR P.globals.size K p w u) (ht:TR w u) :
    GLocal (stepG P m (gor a (az ++ cs))) w:=by
  rcases hl.mode with hm | hm
  · have e:stepG P m (gor a (az ++ cs)) = stepG.exec P m true a (az ++ cs) none:=by
      funext w
      simp only [stepG,hm]
    rw [e]
    exact exec_local hz hp tw hl hm hw ht
  · obtain ⟨fn,f1⟩:=hl.fr.known
    have e:stepG P m (gor a (az ++ cs)) = fun w =>
        GStep.after (seen P a.fn ((results fn a.tmps).runT P w #[]).2) (match ((results fn a.tmps).runT P w #[]).1 with
          | .ok v w=>doReturn P m a (az ++ cs) none v w
          | .halt (.stuck s) w=>.ended (.stuck s (a.pos P)) w
          | .halt _ w=>.ended (.stuck "return: the result variables cannot be read" (a.pos P)) w):=by
      funext w
      simp only [stepG,unwind,hm,hl.fr.da,f1]
      rcases (results fn a.tmps).runT P w #[] with ⟨r,es⟩
      cases r with
      | ok v w=>rfl
      | halt h w=>cases h <;> rfl
    rw [e]
    obtain ⟨l1,l2,l3⟩:=(Sim.results (P:=P) (Q:=Q) (K:=K) fn hl.fr.tmps (hp.root _ (hl.deep.1 (hr hm)).2.2.1 (hl.deep.1 (hr hm)).2.2.2) tw w u #[] #[] hw ht).1.loc
    unfold GLocal
    simp only
    rcases h1:(results fn a.tmps).runT P w #[] with ⟨r,es⟩
    rw [h1] at l1 l2 l3
    cases r with
    | halt h w'=>cases h <;> exact .inr ⟨_,_,_,rfl,l1,l2,fun T' hT=>by rw [l3 T' hT]; rfl⟩
    | ok v w' =>
      cases az with
      | nil=>exact absurd rfl (hr hm)
      | cons x az =>
        have hd:∀ w',doReturn P m a (x :: az ++ cs) none v w' = .go (gor (x.finish v) (az ++ cs)) w' #[]:=fun w'=>by
          simp only [List.cons_append,doReturn,hl.fr.ka]
        simp only [hd]
        exact .inl ⟨_,_,_,rfl,l1,l2,fun T' hT=>by rw [l3 T' hT]; simp only [rtaped,hd]; rfl⟩
end
end Go.Proofs.YtojoafcnijajmaaGreatDoor
