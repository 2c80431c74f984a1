/- Part 6 of the proof. -/
import Derived.Test.YtfpaamhppamcoaaGreatDoorPo5
import Derived.Conc.WgGenN3
set_option linter.all false
set_option maxRecDepth 100000
set_option maxHeartbeats 60000000
namespace Go.Proofs.YtfpaamhppamcoaaGreatDoor
open Go.Proofs.Tryz
section
open Go
variable {st:Prop}
section
variable {fns:List Nat}{α β γ δ:Type}{P Q:Program}{K:Nat->Prop}{p:Rel st}
def af.Dj {x v}(h:aF (VR p) x v):af P Q K p (Extern.AbiNoEscape.same x) (Extern.AbiNoEscape.same v) (λq a b=>VR q a b):=by
 obtain⟨d⟩:=x;obtain⟨e⟩:=v;have c:d.length=e.length:=h.1
 match d,e,c with
 |[],[],_=>exact ag.bR (ag.halt _)
 |[x],[v],_=>exact af.pure (h.2 0 x v rfl rfl)
 |x::y::r,v::u::s,_=>exact ag.bR (ag.halt _)
def af.rJ:∀(n:Nat) {p:Rel st} {a b:Addr} (acc:ByteArray),AR p a b->af P Q K p (Extern.Bytes.loadBytes a n acc) (Extern.Bytes.loadBytes b n acc) (λ_ x y=>x=y)
 |0,_,_,_,acc,_=>by unfold Extern.Bytes.loadBytes;exact af.pure rfl
 |n+1,p,a,b,acc,h=>by
  unfold Extern.Bytes.loadBytes;refine af.bind (af.load h) λq v x e c=>?_
  have d:=c.cases;cases v with
  |int k m=>
   obtain rfl:=c.bT;cases k with
   |u8=>exact af.rJ n _ ((h.mono e).add 1)
   |_=>exact af.halt
  |_=>exact ag.bR (ag.halt _)
def af.bytesOf {x v}(h:VR p x v):af P Q K p (Extern.Bytes.bytesOf x) (Extern.Bytes.bytesOf v) (λ_ a b=>a=b):=by
 cases x with
 |string s=>obtain rfl:=h.bO;exact af.pure rfl
 |slice a l c=>
  obtain⟨a',rfl,e⟩:=h.bD;cases a with
  |none=>obtain rfl:=e.aV;exact af.pure rfl
  |some a=>
   obtain⟨a',rfl,d⟩:=e.aO;rcases d with d|⟨⟨rfl,_⟩,_⟩
   .exact af.rJ l _ d
   .exact af.pure rfl
 |_=>exact ag.bR (ag.halt _)
def af.jR {x v}(h:aF (VR p) x v):af P Q K p (Extern.BytealgCompare.compare x) (Extern.BytealgCompare.compare v) (λq a b=>VR q a b):=by
 obtain⟨g⟩:=x;obtain⟨i⟩:=v;have f:g.length=i.length:=h.1
 match g,i,f with
 |[],[],_=>exact ag.bR (ag.halt _)
 |[x],[v],_=>exact ag.bR (ag.halt _)
 |x::y::z::r,v::u::s::t,_=>exact ag.bR (ag.halt _)
 |[x,y],[v,u],_=>
  refine af.bind (af.bytesOf (h.2 0 x v rfl rfl)) λq a b j e=>?_
  subst e;refine af.bind (af.bytesOf ((h.2 1 y u rfl rfl).ext j)) λk c d _ e=>?_
  subst e;exact af.pure (VR.int _ _)
def af.kT (ps rs){x v}(h:aF (VR p) x v):af P Q K p (Extern.BytealgMakeNoZero.makeNoZero ps rs x) (Extern.BytealgMakeNoZero.makeNoZero ps rs v) (λq a b=>VR q a b):=by
 obtain⟨j⟩:=x;obtain⟨l⟩:=v;have g:j.length=l.length:=h.1
 have f:∀(n t:Nat) (acc:Array Value) (q:Rel st),aF (VR q) acc acc->aF (VR q) (Extern.BytealgMakeNoZero.digits n t acc) (Extern.BytealgMakeNoZero.digits n t acc):=by
  intro n
  induction n with
  |zero=>intro t acc q i;exact i
  |succ n o=>intro t acc q i;exact o _ _ q (i.push (VR.int _ _))
 match j,l,g with
 |[],[],_=>exact ag.bR (ag.halt _)
 |x::y::r,v::u::s,_=>exact ag.bR (by cases x<;>first|exact ag.halt _|(rename_i k _;cases k<;>exact ag.halt _))
 |[x],[v],_=>
  have hx:VR p x v:=h.2 0 x v rfl rfl;cases x with
  |int k n=>
   obtain rfl:=hx.bT;cases k with
   |i64=>
    unfold Extern.BytealgMakeNoZero.makeNoZero;cases rs[0]? with
    |none=>exact ag.bR (ag.halt _)
    |some t=>
     refine af.bind (af.underlying t) λq d d' C e=>?_
     obtain⟨rfl,_⟩:=e;cases d with
     |slice elem=>
      show af P Q K q (if(n<0||n>2^48)=true then _ else _) (if(n<0||n>2^48)=true then _ else _) _
      by_cases m:(n<0||n>2^48)=true
      .rw[if_pos m];exact ag.bR (ag.left (ag.runtimePanic _))
      .rw[if_neg m]
       refine af.bind (af.choose _) λB c D _ e=>?_
       subst e;refine af.bind (af.askRoom _) λA _ _ _ _=>?_
       refine af.bind (af.choose _) λz b E _ e=>?_
       subst e;refine af.bind (af.l6 elem (f _ _ _ _ aF.empty)) λw a a' _ e=>?_
       exact af.pure (VR.slice (a:=some a) (b:=some a') e.1)
     |_=>exact ag.bR (ag.halt _)
   |_=>exact ag.bR (ag.halt _)
  |_=>exact ag.bR (ag.halt _)
def qN (P:Program):Prop:=∃s,P.cutTypes.find? (·.1== "internal/reflectlite.rtype")=some (s,bP)
def af.Bn (l:qN P)(k:qN Q)(j:∀t,typeHandle Q t=typeHandle P t){x v}(h:aF (VR p) x v):af P Q K p (Extern.ReflectliteType.typeOf x) (Extern.ReflectliteType.typeOf v) (λq a b=>VR q a b):=by
 obtain⟨d⟩:=x;obtain⟨f⟩:=v;have c:d.length=f.length:=h.1
 have i:∀(q:Rel st) (t:TypeId),af P Q K q (Extern.ReflectliteType.toType t) (Extern.ReflectliteType.toType t) (λq a b=>VR q a b):=λq t=>by
  unfold Extern.ReflectliteType.toType;refine af.bind (A:=λ_ a b=>a=bP/\b=bP) ?_ λg a b _ e=>?_
  .unfold Go.cutType
   refine af.bind af.program λg s s' _ e=>?_
   rw[e.1,e.2];obtain⟨s1,n⟩:=l;obtain⟨s2,m⟩:=k;rw[n,m];exact af.pure ⟨rfl,rfl⟩
  .obtain⟨rfl,rfl⟩:=e
   refine af.bind (A:=λ_ a b=>a=b) ?_ λo a b _ e=>?_
   .unfold Extern.Rtype.handle
    refine af.bind af.program λg s s' _ e=>?_
    rw[e.1,e.2,j];exact af.pure rfl
   .subst e
    exact af.pure (VR.Tj _)
 match d,f,c with
 |[],[],_=>exact ag.bR (ag.halt _)
 |x::y::r,v::u::s,_=>exact ag.bR (by cases x<;>exact ag.halt _)
 |[x],[v],_=>
  have hx:VR p x v:=h.2 0 x v rfl rfl;have hc:=hx.cases;cases x with
  |nilIface=>cases v<;>first|exact hc.elim|exact af.pure VR.nilIface
  |iface t a=>cases v<;>first|exact hc.elim|(obtain⟨rfl,_⟩:=hc;exact i _ _)
  |_=>exact ag.bR (ag.halt _)
end
def bL {L}{P}{g}{e}(h:j5 P g e)(hs:(g==42||g==69||g==88||L.contains g)=false):j5 (patch L P) g e:=by
 obtain⟨fn,b,a⟩:=h;exact⟨fn,pf b hs,a⟩
def pM:j5 prog 167 Extern.BytealgCompare.compare:=⟨_,func167,by kernel_rfl,by kernel_rfl,by kernel_rfl,by kernel_rfl⟩
def RZ:pU [167] (patch ae prog) prog:=λg a=>by
 obtain rfl:=adi.1 a;exact⟨_,bL pM (by rfl),pM,λ_ _ _ _ _ h=>af.jR h⟩
def PG:pU [167] (patch ae prog) (patch ae prog):=λg a=>by
 obtain rfl:=adi.1 a;exact⟨_,bL pM (by rfl),bL pM (by rfl),λ_ _ _ _ _ h=>af.jR h⟩
end
section
open Go Go.Conc
def PV (b y4 sl:Value):j6 (ou f69 b y4 sl) where
 idle o h:=by
  have a:gI o=false:=h;show uo o=o
  unfold uo;rw[a];rfl
 dst o:=(eY o).1
 after o:=(eY o).2.1
 guard o:=(eY o).2.2
 free o h:=by
  have a:gI o=true:=h;simp only[gI,ZQ,Option.isNone_iff_eq_none]at a;exact a.1
 UE x e y h c:=MY h c
 pop ops i rest k y d hm h hy:=Pk hm h hy
def Wt (a y4 sl):∀g∈yB,PB (ou f69 a y4 sl) (patch ae prog) prog g:=
 all_cons ⟨_,_,pf func80 (by rfl),by kernel_rfl,rfl,func80,by kernel_rfl⟩<|
 all_cons ⟨_,_,pf func134 (by rfl),by kernel_rfl,rfl,func134,by kernel_rfl⟩<|
 all_cons ⟨_,_,pf func83 (by rfl),by kernel_rfl,rfl,func83,by kernel_rfl⟩<|
 all_cons ⟨_,_,pf func135 (by rfl),by kernel_rfl,rfl,func135,by kernel_rfl⟩<|
 all_cons ⟨_,_,pf func136 (by rfl),by kernel_rfl,rfl,func136,by kernel_rfl⟩<|
 all_cons ⟨_,_,pf func169 (by rfl),by kernel_rfl,rfl,func169,by kernel_rfl⟩<|
 all_cons ⟨_,_,pf func170 (by rfl),by kernel_rfl,rfl,func170,by kernel_rfl⟩<|
 all_cons ⟨_,_,pf func81 (by rfl),by kernel_rfl,rfl,func81,by kernel_rfl⟩<|
 all_cons ⟨_,_,pf func131 (by rfl),by kernel_rfl,rfl,func131,by kernel_rfl⟩<|
 all_cons ⟨_,_,pf func132 (by rfl),by kernel_rfl,rfl,func132,by kernel_rfl⟩<|
 all_cons ⟨_,_,pf func72 (by rfl),by kernel_rfl,rfl,func72,by kernel_rfl⟩<|
 all_cons ⟨_,_,pf func117 (by rfl),by kernel_rfl,rfl,func117,by kernel_rfl⟩<|
 all_cons ⟨_,_,pf func129 (by rfl),by kernel_rfl,rfl,func129,by kernel_rfl⟩<|
 all_cons ⟨_,_,pf func166 (by rfl),by kernel_rfl,rfl,func166,by kernel_rfl⟩<|
 all_cons ⟨_,_,pf func71 (by rfl),by kernel_rfl,rfl,func71,by kernel_rfl⟩<|
 all_cons ⟨_,_,pf func116 (by rfl),by kernel_rfl,rfl,func116,by kernel_rfl⟩<|
 all_cons ⟨_,_,pf func48 (by rfl),by kernel_rfl,rfl,func48,by kernel_rfl⟩<|
 all_cons ⟨_,_,pf func77 (by rfl),by kernel_rfl,rfl,func77,by kernel_rfl⟩<|
 all_cons ⟨_,_,pf func78 (by rfl),by kernel_rfl,rfl,func78,by kernel_rfl⟩<|
 all_cons ⟨_,_,pf func128 (by rfl),by kernel_rfl,rfl,func128,by kernel_rfl⟩<|
 all_cons ⟨_,_,pf func130 (by rfl),by kernel_rfl,rfl,func130,by kernel_rfl⟩<|
 all_cons ⟨_,_,pf func127 (by rfl),by kernel_rfl,rfl,func127,by kernel_rfl⟩<|
 all_cons ⟨_,_,pf func157 (by rfl),by kernel_rfl,rfl,func157,by kernel_rfl⟩<|
 all_cons ⟨_,_,pf func76 (by rfl),by kernel_rfl,rfl,func76,by kernel_rfl⟩<|
 all_cons ⟨_,_,pf func126 (by rfl),by kernel_rfl,rfl,func126,by kernel_rfl⟩<|
 all_cons ⟨_,_,pf func73 (by rfl),by kernel_rfl,rfl,func73,by kernel_rfl⟩<|
 all_cons ⟨_,_,pf func118 (by rfl),by kernel_rfl,rfl,func118,by kernel_rfl⟩<|
 all_cons ⟨_,_,pf func119 (by rfl),by kernel_rfl,rfl,func119,by kernel_rfl⟩<|
 all_cons ⟨_,_,pf func163 (by rfl),by kernel_rfl,rfl,func163,by kernel_rfl⟩<|
 all_cons ⟨_,_,pf func192 (by rfl),by kernel_rfl,rfl,func192,by kernel_rfl⟩<|
 all_cons ⟨_,_,pf func214 (by rfl),by kernel_rfl,rfl,func214,by kernel_rfl⟩<|
 all_cons ⟨_,_,pf func215 (by rfl),by kernel_rfl,rfl,func215,by kernel_rfl⟩<|
 all_cons ⟨_,_,pf func120 (by rfl),by kernel_rfl,rfl,func120,by kernel_rfl⟩<|
 all_cons ⟨_,_,pf func164 (by rfl),by kernel_rfl,rfl,func164,by kernel_rfl⟩<|
 all_nil
def Ra (b y4 sl):aH (ou f69 b y4 sl) (patch ae prog) prog:=
 aH.of (PV b y4 sl) RZ fU.nil dw.nil (λg a=>by
  have h:(dS.all λg=>yB.contains g)=true:=by kernel_rfl
  have:=ZU.1 h g a;exact adv this) yB (λg=>⟨.inl,λh=>h.elim id λh=>by cases h⟩) (λg a=>by cases a) (λg a e=>by
  subst e;exact absurd a (adj (show decide (¬69∈yB)=true by kernel_rfl))) (Wt b y4 sl) (λg a=>by cases a)
section
variable {Q:Program}
def jE (V o)(t):∀(vs:List Value) (i:Nat) (cur:Array Value) (w:World) (es:Array Event),w.heap[V]? =some (.cells cur t (0,0))->o+i+vs.length<=cur.size->(∀v∈vs,v.oneCell'=true)->
 ∀c∈(storeCells ⟨V,o,none⟩ vs i).events Q w es,c∈es\/∃x,o+i<=x/\x<o+i+vs.length/\c=⟨.cell ⟨V,x,none⟩,true,false⟩
 |[],i,cur,w,es,_,_,_=>λc h=>.inl (by simpa[storeCells] using h)
 |v::rest,i,cur,w,es,d,hl,g=>λc h=>by
  have j:o+i<cur.size:=by simp at hl;omega
  have b:(⟨V,o,none⟩:Addr).add i=⟨V,o+i,none⟩:=by unfold Addr.add;split<;>simp_all
  have hcell:w.cell? ⟨V,o+i,none⟩=some cur[o+i]:=by simp[World.cell?,d,j]
  have a:w.frozen? ⟨V,o+i,none⟩=false:=by simp[World.frozen?,d]
  have e:(store ((⟨V,o,none⟩:Addr).add i) v).run Q w=.ok () (w.setRow V (cur.setIfInBounds (o+i) v)):=by
   rw[b,run_store Q w _ v _ (g v (by simp)),hcell];simp[a,setCell_eq_setRow w V (o+i) cur t (0,0) v d]
  have f:(store ((⟨V,o,none⟩:Addr).add i) v).events Q w es=es.push ⟨.cell ⟨V,o+i,none⟩,true,false⟩:=by
   rw[b,events_store Q w es _ v _ (g v (by simp)),hcell];simp only[a,Z0,if_false];rfl
  simp only[storeCells,Sem.events_bind,e,Result.evThen_ok,f]at h;rcases jE V o t rest (i+1) (cur.setIfInBounds (o+i) v) (w.setRow V (cur.setIfInBounds (o+i) v)) _ (setRow_heap w V cur _ t _ d) (by simp at hl⊢;omega) (λx hx=>g x (by simp[hx])) c h with h|⟨x,x1,x2,rfl⟩
  .rcases Array.mem_push.1 h with h|rfl
   .exact .inl h
   .exact .inr ⟨o+i,ZL _,by simp,rfl⟩
  .exact .inr ⟨x,by omega,by simp;omega,rfl⟩
def Cm (V o)(t ty)(cells cur)(w)(f:w.heap[V]? =some (.cells cur t (0,0)))(hl:o+cells.size<=cur.size)(e:(Q.info? ty).map (·.size)=some cells.size)(g:∀v∈cells.toList,v.oneCell'=true):
 ∃u',(storeVar ty ⟨V,o,none⟩ (.agg cells)).run Q w=.ok () u'/\u'=w.setRow V (cur.toList.take o++cells.toList++cur.toList.drop (o+cells.size)).toArray/\
  ∀c∈(storeVar ty ⟨V,o,none⟩ (.agg cells)).events Q w #[],∃x,o<=x/\x<o+cells.size/\c=⟨.cell ⟨V,x,none⟩,true,false⟩:=by
 cases b:Q.info? ty with
 |none=>simp[b]at e
 |some i=>
  have hs:cells.size=i.size:=by simp[b]at e;omega
  have d:=run_storeCells_at (P:=Q) V o t cells.toList 0 cur w f (by simpa using hl) g;have he:=jE (Q:=Q) V o t cells.toList 0 cur w #[] f (by simpa using hl) g;simp only[Nat.add_zero,adG]at d he;refine⟨_,?_,rfl,λc a=>?_⟩
  .simp[storeVar,sizeOf,typeInfo,b,Value.cells,hs,d]
  .have:(storeVar ty ⟨V,o,none⟩ (.agg cells)).events Q w #[]=(storeCells ⟨V,o,none⟩ cells.toList 0).events Q w #[]:=by
        simp[storeVar,sizeOf,typeInfo,b,Value.cells,hs]
   rw[this]at a;exact(he c a).resolve_left (by simp)
def uu (a)(ty)(w)(v)(d)(hu:Q.underlying ty=some d)(hd:d.isRow=false)(hc:w.cell? a=some v):
 (loadVar ty a).run Q w=.ok v w/\(loadVar ty a).events Q w #[]= #[⟨.cell a,false,false⟩]:=by
 have b:(isAgg ty).run Q w=.ok false w:=by
  simp only[isAgg,underlying,Sem.run_bind,run_program,Result.andThen_ok,hu];cases d<;>first|rfl|(simp[TypeDesc.isRow]at hd)
 refine⟨?_,?_⟩
 .simp only[loadVar,Sem.run_bind,b,Result.andThen_ok,Z0,if_false]
  simp[hc]
 .simp only[loadVar,Sem.events_bind,b,Result.evThen_ok,events_isAgg,Z0,if_false,events_load,hc]
  rfl
end
end
section
open Go Go.Conc Go.ConcN Go.RowKit Go.Conc.Lib Go.ConcR.Gen Go.ConcN.Gen
open Go.ConcR (KK wgBlock WgAt stA smA rd wr mk Payload DC0)
def aa {ty}{Wg}{w a}(_:WgLive ty Wg w)(r:RL ty Wg w a):WgLive ty Wg a:=r
section
variable {L:WgLink}{P:Program}{Wg:Nat}{b₀:Frame}{a₀:Act}{ops₀:Array Oper}{i₀:Nat}{rest₀:List Nat}{k₀:List Item}{cs:List Frame}{mT:Nat}{g' child:Goroutine}
def P9 (H:WgLib P L)
 (d:∀w,WgLive L.tWg Wg w->Goes P true (RL L.tWg Wg) DC0 (V8 P g' child) mT (G (b₀.at (a₀.put ((ops₀[i₀]?).bind (·.dst)) (.tuple #[])) (.inRegion ops₀ rest₀::k₀)) cs) w)(w)(hF:WgLive L.tWg Wg w):
 Goes P true (RL L.tWg Wg) DC0 (Qd P L.tWg Wg g' child) 40 (G ((base L.add).at ⟨#[.pointer (some ⟨Wg,0,none⟩),.int .i64 1]++Array.replicate 115 undef,[]⟩ [.code (body_add L)]) (b₀.at a₀ (.inRegion ops₀ (i₀::rest₀)::k₀)::cs)) w:=by
 lib_facts
 walk_nrmf addFn
 simp only[body_add,addFn,ac9]
 u_c stepG_seq aa hF
 u_cond true aa hF
 iterate 2 (u_c stepG_seq aa hF)
 u_reg aa hF
 iterate 2 (u_op aa hF)
 u_c stepG_region_end aa hF
 u_cond false aa hF
 u_c stepG_skip aa hF
 u_c stepG_seq aa hF
 u_reg aa hF
 refine Goes.stop (λf hF=>?_);refine⟨rfl,_,stepG_mark0 .disable (by simp) rfl rfl (by k_ne) rfl H.f_disable (x_disable_n L) (x_disable_b L) (x_disable_x L) (x_disable_f L),100,?_⟩
 walk_nrm
 u_c stepG_region_end aa hF
 u_reg aa hF
 u_defer aa hF
 u_c stepG_region_end aa hF
 u_c stepG_seq aa hF
 u_reg aa hF
 u_op aa hF
 u_c stepG_region_end aa hF
 iterate 2 (u_c stepG_seq aa hF)
 u_reg aa hF
 u_bub aa hF
 u_c stepG_region_end aa hF
 u_cond false aa hF
 u_c stepG_skip aa hF
 u_c stepG_seq aa hF
 u_reg aa hF
 iterate 6 (u_op aa hF)
 u_call H.f_uAdd (nm_uAdd L) uAddFn aa hF
 u_c stepG_seq aa hF
 u_reg aa hF
 u_op aa hF
 u_c stepG_region_end aa hF
 u_c stepG_seq aa hF
 u_reg aa hF
 iterate 4 (u_op aa hF)
 refine Goes.stop (λa hF=>?_);refine⟨rfl,λv g hw=>?_⟩;obtain rfl|rfl|rfl|rfl:v=0\/v=1\/v=2\/v=3:=by omega
 all_goals clear g
 .replace hw:WgAt L.tWg Wg a 0 0:=by simpa[KK] using hw
  have z:(((0:Nat):Int)+1)*KK=4294967296:=by decide
  rw[z];have c:IntKind.u64.wrap (0+4294967296)=4294967296:=by decide
  refine⟨_,(stepG_add_atomic rfl rfl (by k_ne) rfl H.f_addU64 (x_addU64_n L) (x_addU64_b L) (x_addU64_x L) .u64 (x_addU64_f L) rfl rfl hw.cellSt (hw.thaw 0)).trans (by rw[c];rfl),160,?_⟩;have hF:WgLive L.tWg Wg (a.setCell (stA Wg) (.int .u64 4294967296)):=⟨_,_,hw.setSt _⟩;clear hw z c
  walk_nrm
  u_op aa hF
  u_c stepG_region_end aa hF
  u_c stepG_ret' aa hF
  u_leave1 H.f_uAdd aa hF
  u_op aa hF
  u_c stepG_region_end aa hF
  iterate 2 (u_c stepG_seq aa hF)
  u_reg aa hF
  iterate 4 (u_op aa hF)
  iterate 2 (u_skip aa hF)
  u_op aa hF
  u_c stepG_region_end aa hF
  u_cond false aa hF
  u_c stepG_skip aa hF
  u_c stepG_seq aa hF
  u_reg aa hF
  iterate 4 (u_op aa hF)
  u_c stepG_region_end aa hF
  u_c stepG_seq aa hF
  u_reg aa hF
  iterate 4 (u_op aa hF)
  u_c stepG_region_end aa hF
  iterate 2 (u_c stepG_seq aa hF)
  u_reg aa hF
  iterate 10 (u_op aa hF)
  u_c stepG_region_end aa hF
  u_cond true aa hF
  u_reg aa hF
  iterate 3 (u_op aa hF)
  u_conv H.underlying_tPU32 H.room_tU32 (WgLive.cell1 hF).choose_spec aa hF
  refine Goes.stop (λe hF=>.inl ⟨rfl,_,stepG_markAt .read (by simp) rfl rfl (by k_ne) rfl H.f_raceRead (x_raceRead_n L) (x_raceRead_b L) (x_raceRead_x L) (x_raceRead_f L) (ad:=⟨Wg,1,none⟩) (by simp[Act.eval]),100,?_⟩)
  walk_nrm
  u_c stepG_region_end aa hF
  iterate 2 (u_c stepG_seq aa hF)
  u_reg aa hF
  iterate 2 (u_op aa hF)
  u_c stepG_region_end aa hF
  u_cond false aa hF
  u_c stepG_skip aa hF
  iterate 2 (u_c stepG_seq aa hF)
  u_reg aa hF
  iterate 3 (u_op aa hF)
  iterate 2 (u_skip aa hF)
  iterate 2 (u_op aa hF)
  iterate 4 (u_skip aa hF)
  u_op aa hF
  u_c stepG_region_end aa hF
  u_cond false aa hF
  u_c stepG_skip aa hF
  iterate 2 (u_c stepG_seq aa hF)
  u_reg aa hF
  iterate 3 (u_op aa hF)
  iterate 2 (u_skip aa hF)
  u_op aa hF
  u_c stepG_region_end aa hF
  u_cond true aa hF
  u_c stepG_ret' aa hF
  refine Goes.stop (λb hF=>?_);refine⟨rfl,_,stepG_unwind_entry (v:=.tuple #[]) (evs:= #[mk .enable]) rfl H.f_enable (x_enable_n L) (x_enable_b L) (x_enable_x L) (x_enable_f L) (by simp[Extern.Race.none_]) (by simp[mk]) (by simp[mk]),mT+1,?_⟩
  u_leave0 H.f_add aa hF
  exact d _ hF
 .replace hw:WgAt L.tWg Wg a 4294967296 0:=by simpa[KK] using hw
  have z:(((1:Nat):Int)+1)*KK=8589934592:=by decide
  rw[z];have c:IntKind.u64.wrap (4294967296+4294967296)=8589934592:=by decide
  have b1:bits .and .u64 8589934592 2147483648=0:=by decide
  have b2:bits .and .u64 8589934592 2147483647=0:=by decide
  refine⟨_,(stepG_add_atomic rfl rfl (by k_ne) rfl H.f_addU64 (x_addU64_n L) (x_addU64_b L) (x_addU64_x L) .u64 (x_addU64_f L) rfl rfl hw.cellSt (hw.thaw 0)).trans (by rw[c];rfl),160,?_⟩;have hF:WgLive L.tWg Wg (a.setCell (stA Wg) (.int .u64 8589934592)):=⟨_,_,hw.setSt _⟩;clear hw z c
  walk_nrm
  u_op aa hF
  u_c stepG_region_end aa hF
  u_c stepG_ret' aa hF
  u_leave1 H.f_uAdd aa hF
  u_op aa hF
  u_c stepG_region_end aa hF
  iterate 2 (u_c stepG_seq aa hF)
  u_reg aa hF
  iterate 4 (u_op aa hF)
  iterate 2 (u_skip aa hF)
  u_op aa hF
  u_c stepG_region_end aa hF
  u_cond false aa hF
  u_c stepG_skip aa hF
  u_c stepG_seq aa hF
  u_reg aa hF
  iterate 4 (u_op aa hF)
  u_c stepG_region_end aa hF
  u_c stepG_seq aa hF
  u_reg aa hF
  iterate 4 (u_op aa hF)
  u_c stepG_region_end aa hF
  iterate 2 (u_c stepG_seq aa hF)
  u_reg aa hF
  iterate 10 (u_op aa hF)
  u_c stepG_region_end aa hF
  u_cond false aa hF
  u_c stepG_skip aa hF
  iterate 2 (u_c stepG_seq aa hF)
  u_reg aa hF
  iterate 2 (u_op aa hF)
  u_c stepG_region_end aa hF
  u_cond false aa hF
  u_c stepG_skip aa hF
  iterate 2 (u_c stepG_seq aa hF)
  u_reg aa hF
  iterate 3 (u_op aa hF)
  iterate 2 (u_skip aa hF)
  iterate 2 (u_op aa hF)
  iterate 4 (u_skip aa hF)
  u_op aa hF
  u_c stepG_region_end aa hF
  u_cond false aa hF
  u_c stepG_skip aa hF
  iterate 2 (u_c stepG_seq aa hF)
  u_reg aa hF
  iterate 3 (u_op aa hF)
  iterate 2 (u_skip aa hF)
  u_op aa hF
  u_c stepG_region_end aa hF
  u_cond true aa hF
  u_c stepG_ret' aa hF
  refine Goes.stop (λb hF=>?_);refine .inr ⟨rfl,_,stepG_unwind_entry (v:=.tuple #[]) (evs:= #[mk .enable]) rfl H.f_enable (x_enable_n L) (x_enable_b L) (x_enable_x L) (x_enable_f L) (by simp[Extern.Race.none_]) (by simp[mk]) (by simp[mk]),mT+1,?_⟩
  u_leave0 H.f_add aa hF
  exact d _ hF
 .replace hw:WgAt L.tWg Wg a 8589934592 0:=by simpa[KK] using hw
  have z:(((2:Nat):Int)+1)*KK=12884901888:=by decide
  rw[z];have c:IntKind.u64.wrap (8589934592+4294967296)=12884901888:=by decide
  have b1:bits .and .u64 12884901888 2147483648=0:=by decide
  have b2:bits .and .u64 12884901888 2147483647=0:=by decide
  refine⟨_,(stepG_add_atomic rfl rfl (by k_ne) rfl H.f_addU64 (x_addU64_n L) (x_addU64_b L) (x_addU64_x L) .u64 (x_addU64_f L) rfl rfl hw.cellSt (hw.thaw 0)).trans (by rw[c];rfl),160,?_⟩;have hF:WgLive L.tWg Wg (a.setCell (stA Wg) (.int .u64 12884901888)):=⟨_,_,hw.setSt _⟩;clear hw z c
  walk_nrm
  u_op aa hF
  u_c stepG_region_end aa hF
  u_c stepG_ret' aa hF
  u_leave1 H.f_uAdd aa hF
  u_op aa hF
  u_c stepG_region_end aa hF
  iterate 2 (u_c stepG_seq aa hF)
  u_reg aa hF
  iterate 4 (u_op aa hF)
  iterate 2 (u_skip aa hF)
  u_op aa hF
  u_c stepG_region_end aa hF
  u_cond false aa hF
  u_c stepG_skip aa hF
  u_c stepG_seq aa hF
  u_reg aa hF
  iterate 4 (u_op aa hF)
  u_c stepG_region_end aa hF
  u_c stepG_seq aa hF
  u_reg aa hF
  iterate 4 (u_op aa hF)
  u_c stepG_region_end aa hF
  iterate 2 (u_c stepG_seq aa hF)
  u_reg aa hF
  iterate 10 (u_op aa hF)
  u_c stepG_region_end aa hF
  u_cond false aa hF
  u_c stepG_skip aa hF
  iterate 2 (u_c stepG_seq aa hF)
  u_reg aa hF
  iterate 2 (u_op aa hF)
  u_c stepG_region_end aa hF
  u_cond false aa hF
  u_c stepG_skip aa hF
  iterate 2 (u_c stepG_seq aa hF)
  u_reg aa hF
  iterate 3 (u_op aa hF)
  iterate 2 (u_skip aa hF)
  iterate 2 (u_op aa hF)
  iterate 4 (u_skip aa hF)
  u_op aa hF
  u_c stepG_region_end aa hF
  u_cond false aa hF
  u_c stepG_skip aa hF
  iterate 2 (u_c stepG_seq aa hF)
  u_reg aa hF
  iterate 3 (u_op aa hF)
  iterate 2 (u_skip aa hF)
  u_op aa hF
  u_c stepG_region_end aa hF
  u_cond true aa hF
  u_c stepG_ret' aa hF
  refine Goes.stop (λb hF=>?_);refine .inr ⟨rfl,_,stepG_unwind_entry (v:=.tuple #[]) (evs:= #[mk .enable]) rfl H.f_enable (x_enable_n L) (x_enable_b L) (x_enable_x L) (x_enable_f L) (by simp[Extern.Race.none_]) (by simp[mk]) (by simp[mk]),mT+1,?_⟩
  u_leave0 H.f_add aa hF
  exact d _ hF
 .replace hw:WgAt L.tWg Wg a 12884901888 0:=by simpa[KK] using hw
  have z:(((3:Nat):Int)+1)*KK=17179869184:=by decide
  rw[z];have c:IntKind.u64.wrap (12884901888+4294967296)=17179869184:=by decide
  have b1:bits .and .u64 17179869184 2147483648=0:=by decide
  have b2:bits .and .u64 17179869184 2147483647=0:=by decide
  refine⟨_,(stepG_add_atomic rfl rfl (by k_ne) rfl H.f_addU64 (x_addU64_n L) (x_addU64_b L) (x_addU64_x L) .u64 (x_addU64_f L) rfl rfl hw.cellSt (hw.thaw 0)).trans (by rw[c];rfl),160,?_⟩;have hF:WgLive L.tWg Wg (a.setCell (stA Wg) (.int .u64 17179869184)):=⟨_,_,hw.setSt _⟩;clear hw z c
  walk_nrm
  u_op aa hF
  u_c stepG_region_end aa hF
  u_c stepG_ret' aa hF
  u_leave1 H.f_uAdd aa hF
  u_op aa hF
  u_c stepG_region_end aa hF
  iterate 2 (u_c stepG_seq aa hF)
  u_reg aa hF
  iterate 4 (u_op aa hF)
  iterate 2 (u_skip aa hF)
  u_op aa hF
  u_c stepG_region_end aa hF
  u_cond false aa hF
  u_c stepG_skip aa hF
  u_c stepG_seq aa hF
  u_reg aa hF
  iterate 4 (u_op aa hF)
  u_c stepG_region_end aa hF
  u_c stepG_seq aa hF
  u_reg aa hF
  iterate 4 (u_op aa hF)
  u_c stepG_region_end aa hF
  iterate 2 (u_c stepG_seq aa hF)
  u_reg aa hF
  iterate 10 (u_op aa hF)
  u_c stepG_region_end aa hF
  u_cond false aa hF
  u_c stepG_skip aa hF
  iterate 2 (u_c stepG_seq aa hF)
  u_reg aa hF
  iterate 2 (u_op aa hF)
  u_c stepG_region_end aa hF
  u_cond false aa hF
  u_c stepG_skip aa hF
  iterate 2 (u_c stepG_seq aa hF)
  u_reg aa hF
  iterate 3 (u_op aa hF)
  iterate 2 (u_skip aa hF)
  iterate 2 (u_op aa hF)
  iterate 4 (u_skip aa hF)
  u_op aa hF
  u_c stepG_region_end aa hF
  u_cond false aa hF
  u_c stepG_skip aa hF
  iterate 2 (u_c stepG_seq aa hF)
  u_reg aa hF
  iterate 3 (u_op aa hF)
  iterate 2 (u_skip aa hF)
  u_op aa hF
  u_c stepG_region_end aa hF
  u_cond true aa hF
  u_c stepG_ret' aa hF
  refine Goes.stop (λb hF=>?_);refine .inr ⟨rfl,_,stepG_unwind_entry (v:=.tuple #[]) (evs:= #[mk .enable]) rfl H.f_enable (x_enable_n L) (x_enable_b L) (x_enable_x L) (x_enable_f L) (by simp[Extern.Race.none_]) (by simp[mk]) (by simp[mk]),mT+1,?_⟩
  u_leave0 H.f_add aa hF
  exact d _ hF
end
def Head (L:WgLink)(Wg:Nat)(c:Frame)(cs:List Frame)(g:Goroutine)(_:World):Prop:=
 ∃T:Array Value,g=G ((base L.wait).at ⟨T,[]⟩ [.code (L7 L),.inLoop (L7 L),.inBlock 0]) (c::cs)/\T.size=84/\T[0]? =some (.pointer (some ⟨Wg,0,none⟩))
def UR (P:Program)(ty:TypeId)(Wg:Nat)(a g:Goroutine):Prop:=∀w,WgLive ty Wg w->∃m,Goes P true (RL ty Wg) DC0 (λg' _=>g'=a) m g w
section
variable {L:WgLink}{P:Program}{Wg:Nat}{b₀:Frame}{a₀:Act}{ops₀:Array Oper}{i₀:Nat}{rest₀:List Nat}{k₀:List Item}{cs:List Frame}
def waitStart (H:WgLib P L)(w)(hF:WgLive L.tWg Wg w):
 Goes P true (RL L.tWg Wg) DC0 (Qe P L.tWg Wg (Head L Wg (b₀.at a₀ (.inRegion ops₀ (i₀::rest₀)::k₀)) cs)) 10 (G ((base L.wait).at ⟨#[.pointer (some ⟨Wg,0,none⟩)]++Array.replicate 83 undef,[]⟩ [.code (body_wait L)]) (b₀.at a₀ (.inRegion ops₀ (i₀::rest₀)::k₀)::cs)) w:=by
 lib_facts
 walk_nrmf waitFn
 simp only[body_wait,waitFn,ac9]
 u_c stepG_seq aa hF
 u_cond true aa hF
 u_reg aa hF
 refine Goes.stop (λb hF=>?_);refine⟨rfl,_,stepG_mark0 .disable (by simp) rfl rfl (by k_ne) rfl H.f_disable (x_disable_n L) (x_disable_b L) (x_disable_x L) (x_disable_f L),10,?_⟩
 walk_nrm
 u_c stepG_region_end aa hF
 u_c stepG_block aa hF
 u_c stepG_loop aa hF
 exact Goes.stop (λa c=>⟨_,rfl,by simp,by simp⟩)
def waitRound (H:WgLib P L)(g)(w)(hF:WgLive L.tWg Wg w)(h:Head L Wg (b₀.at a₀ (.inRegion ops₀ (i₀::rest₀)::k₀)) cs g w):
 ∃m,Goes P true (RL L.tWg Wg) DC0 (Oc P L.tWg Wg (UR P L.tWg Wg (G (b₀.at (a₀.put ((ops₀[i₀]?).bind (·.dst)) (.tuple #[])) (.inRegion ops₀ rest₀::k₀)) cs)) (Head L Wg (b₀.at a₀ (.inRegion ops₀ (i₀::rest₀)::k₀)) cs)) m g w:=by
 lib_facts
 obtain⟨T,rfl,k,t0⟩:=h;obtain⟨v0,v1,v2,v3,v4,v5,v6,v7,v8,v9,v10,v11,v12,η,ζ,ε,δ,γ,β,α,v20,v21,v22,Z,v24,v25,Y,v27,v28,X,v30,v31,W,v33,V,v35,v36,v37,v38,U,v40,R,v42,Q,v44,O,v46,N,v48,v49,M,v51,K,v53,J,I,F,E,D,v59,C,B,A,v63,z,v65,y,x,v68,v69,v70,u,v72,v73,t,v75,v76,s,r,q,v80,p,v82,v83,rfl⟩:=array84 T k;simp only[List.getElem?_toArray,List.getElem?_cons_zero,ac2]at t0;subst t0;refine⟨60,?_⟩;simp only[L7,body_wait,waitFn,ac9]
 u_c stepG_block aa hF
 u_c stepG_seq aa hF
 u_reg aa hF
 iterate 3 (u_op aa hF)
 u_call H.f_uLoad (nm_uLoad L) uLoadFn aa hF
 u_c stepG_seq aa hF
 u_reg aa hF
 u_op aa hF
 u_c stepG_region_end aa hF
 u_c stepG_seq aa hF
 u_reg aa hF
 iterate 3 (u_op aa hF)
 refine Goes.stop (λj hF=>?_);refine⟨rfl,λv hv hw=>?_⟩;rcases Nat.eq_zero_or_pos v with rfl|θ
 .replace hw:WgAt L.tWg Wg j 0 0:=by simpa using hw
  refine⟨_,stepG_load_atomic (v:=0) rfl rfl (by k_ne) rfl H.f_loadU64 (x_loadU64_n L) (x_loadU64_b L) (x_loadU64_x L) .u64 (x_loadU64_f L) rfl hw.cellSt,λ_=>⟨100,?_⟩,λh=>absurd rfl h⟩;clear hw
  walk_nrm
  u_op aa hF
  u_c stepG_region_end aa hF
  u_c stepG_ret' aa hF
  u_leave1 H.f_uLoad aa hF
  u_op aa hF
  u_c stepG_region_end aa hF
  u_c stepG_seq aa hF
  u_reg aa hF
  iterate 4 (u_op aa hF)
  u_c stepG_region_end aa hF
  u_c stepG_seq aa hF
  u_reg aa hF
  iterate 4 (u_op aa hF)
  u_c stepG_region_end aa hF
  iterate 2 (u_c stepG_seq aa hF)
  u_reg aa hF
  iterate 2 (u_op aa hF)
  u_c stepG_region_end aa hF
  u_cond true aa hF
  u_c stepG_seq aa hF
  u_cond true aa hF
  u_c stepG_seq aa hF
  u_reg aa hF
  refine Goes.stop (λf hF=>?_);refine⟨rfl,_,stepG_mark0 .enable (by simp) rfl rfl (by k_ne) rfl H.f_enable (x_enable_n L) (x_enable_b L) (x_enable_x L) (x_enable_f L),30,?_⟩
  walk_nrm
  u_c stepG_region_end aa hF
  u_reg aa hF
  u_op aa hF
  u_conv H.underlying_tWgP H.room_tWg (WgLive.cell0 hF).choose_spec aa hF
  refine Goes.stop (λd hF=>?_);refine⟨rfl,_,?_,stepG_markAt .acquire (by simp) rfl rfl (by k_ne) rfl H.f_acquire (x_acquire_n L) (x_acquire_b L) (x_acquire_x L) (x_acquire_f L) (by simp[Act.eval,stA])⟩;intro c hF;refine⟨60,?_⟩
  walk_nrm
  u_c stepG_region_end aa hF
  iterate 2 (u_c stepG_seq aa hF)
  u_reg aa hF
  iterate 8 (u_op aa hF)
  iterate 2 (u_skip aa hF)
  u_op aa hF
  u_c stepG_region_end aa hF
  u_cond false aa hF
  u_c stepG_skip aa hF
  u_c stepG_ret' aa hF
  u_leave0 H.f_wait aa hF
  exact Goes.stop (λ_ _=>rfl)
 .obtain⟨S,b⟩:∃S:Int,(v:Int)*KK=S:=⟨_,rfl⟩
  have a1:S/4294967296=(v:Int):=by rw[<-b];simp only[KK];omega
  have b1:bits .and .u64 S 2147483648=0:=by rw[<-b];have:=st_flag v 0 (by omega) (by omega);simpa[KK] using this
  have b2:bits .and .u64 S 2147483647=0:=by rw[<-b];have:=st_waiters v 0 (by omega) (by omega);simpa[KK] using this
  have c1:IntKind.i32.wrap (v:Int)=(v:Int):=by rw[IntKind.wrap_i32];omega
  have w1:IntKind.u64.wrap (S+1)=S+1:=by rw[IntKind.wrap_u64,<-b];simp only[KK];omega
  have q3:decide ((v:Int)<0)=false:=adg (by omega);have q4:decide (0< (v:Int))=true:=ady (by omega);have q5:((v:Int)==0)=false:=by simp;omega
  have q6:decide ((v:Int)=0)=false:=adg (by omega);rw[b]at hw;refine⟨_,stepG_load_atomic (v:=S) rfl rfl (by k_ne) rfl H.f_loadU64 (x_loadU64_n L) (x_loadU64_b L) (x_loadU64_x L) .u64 (x_loadU64_f L) rfl hw.cellSt,λh0=>absurd h0 (by omega),λ_=>⟨100,?_⟩⟩;clear hw
  walk_nrm
  u_op aa hF
  u_c stepG_region_end aa hF
  u_c stepG_ret' aa hF
  u_leave1 H.f_uLoad aa hF
  u_op aa hF
  u_c stepG_region_end aa hF
  u_c stepG_seq aa hF
  u_reg aa hF
  iterate 4 (u_op aa hF)
  u_c stepG_region_end aa hF
  u_c stepG_seq aa hF
  u_reg aa hF
  iterate 4 (u_op aa hF)
  u_c stepG_region_end aa hF
  iterate 2 (u_c stepG_seq aa hF)
  u_reg aa hF
  iterate 2 (u_op aa hF)
  u_c stepG_region_end aa hF
  u_cnd false aa hF
  u_c stepG_skip aa hF
  u_c stepG_seq aa hF
  u_reg aa hF
  iterate 6 (u_op aa hF)
  u_call H.f_uCas (nm_uCas L) uCasFn aa hF
  u_c stepG_seq aa hF
  u_reg aa hF
  u_op aa hF
  u_c stepG_region_end aa hF
  u_c stepG_seq aa hF
  u_reg aa hF
  iterate 5 (u_op aa hF)
  refine Goes.stop (λi hF=>?_);refine⟨rfl,λv' ι hw=>⟨λe=>?_,λe=>?_⟩⟩
  .subst e
   rw[b]at hw⊢;refine⟨_,(stepG_cas_hit (v:=S) (n:=S+1) rfl rfl (by k_ne) rfl H.f_casU64 (x_casU64_n L) (x_casU64_b L) (x_casU64_x L) .u64 (x_casU64_f L) rfl rfl rfl hw.cellSt (hw.thaw 0)).trans (by rfl),100,?_⟩;have hF:WgLive L.tWg Wg (i.setCell (stA Wg) (.int .u64 (S+1))):=⟨_,_,hw.setSt _⟩;clear hw
   walk_nrm
   u_op aa hF
   u_c stepG_region_end aa hF
   u_c stepG_ret' aa hF
   u_leave1 H.f_uCas aa hF
   u_c stepG_region_end aa hF
   u_cond true aa hF
   iterate 2 (u_c stepG_seq aa hF)
   u_reg aa hF
   iterate 4 (u_op aa hF)
   u_c stepG_region_end aa hF
   u_cond true aa hF
   u_reg aa hF
   iterate 3 (u_op aa hF)
   u_conv H.underlying_tPU32 H.room_tU32 (WgLive.cell1 hF).choose_spec aa hF
   refine Goes.stop (λa hF=>?_);refine⟨rfl,_,stepG_markAt .write (by simp) rfl rfl (by k_ne) rfl H.f_raceWrite (x_raceWrite_n L) (x_raceWrite_b L) (x_raceWrite_x L) (x_raceWrite_f L) (ad:=⟨Wg,1,none⟩) (by simp[Act.eval]),?_⟩
   walk_nrm
   u_c stepG_region_end aa hF
   u_c stepG_seq aa hF
   u_reg aa hF
   u_op aa hF
   u_c stepG_region_end aa hF
   iterate 2 (u_c stepG_seq aa hF)
   u_reg aa hF
   iterate 4 (u_op aa hF)
   u_skip aa hF
   u_op aa hF
   u_c stepG_region_end aa hF
   u_cond false aa hF
   u_c stepG_skip aa hF
   u_c stepG_seq aa hF
   u_reg aa hF
   iterate 4 (u_op aa hF)
   refine Goes.stop (λa hF=>?_);refine⟨rfl,rfl,fun⟨st,hw⟩=>stepG_semacquire_wait rfl rfl rfl H.f_semacquire (x_semacquire_n L) (x_semacquire_b L) (x_semacquire_x L) (x_semacquire_f L) (by simp[Act.eval,smA]) hw.cellSm,λhf=>?_⟩;refine⟨_,(stepG_semacquire (n:=1) rfl rfl (by k_ne) rfl H.f_semacquire (x_semacquire_n L) (x_semacquire_b L) (x_semacquire_x L) (x_semacquire_f L) (by simp[Act.eval,smA]) hf.cellSm (by k_ne) (hf.thaw 1)).trans (by rfl),60,?_⟩;have hF:WgLive L.tWg Wg (a.setCell (smA Wg) (.int .u32 0)):=⟨_,_,hf.setSm 0⟩;clear hf
   walk_nrm
   u_c stepG_region_end aa hF
   u_c stepG_seq aa hF
   u_reg aa hF
   iterate 3 (u_op aa hF)
   u_call H.f_uLoad (nm_uLoad L) uLoadFn aa hF
   u_c stepG_seq aa hF
   u_reg aa hF
   u_op aa hF
   u_c stepG_region_end aa hF
   u_c stepG_seq aa hF
   u_reg aa hF
   iterate 3 (u_op aa hF)
   refine Goes.stop (λl hF=>?_);refine⟨rfl,λhw=>⟨_,stepG_load_atomic (v:=0) rfl rfl (by k_ne) rfl H.f_loadU64 (x_loadU64_n L) (x_loadU64_b L) (x_loadU64_x L) .u64 (x_loadU64_f L) rfl hw.cellSt,60,?_⟩⟩;clear hw
   walk_nrm
   u_op aa hF
   u_c stepG_region_end aa hF
   u_c stepG_ret' aa hF
   u_leave1 H.f_uLoad aa hF
   iterate 2 (u_op aa hF)
   u_c stepG_region_end aa hF
   u_c stepG_seq aa hF
   u_cond true aa hF
   u_c stepG_seq aa hF
   u_reg aa hF
   refine Goes.stop (λf hF=>?_);refine⟨rfl,_,stepG_mark0 .enable (by simp) rfl rfl (by k_ne) rfl H.f_enable (x_enable_n L) (x_enable_b L) (x_enable_x L) (x_enable_f L),30,?_⟩
   walk_nrm
   u_c stepG_region_end aa hF
   u_reg aa hF
   u_op aa hF
   u_conv H.underlying_tWgP H.room_tWg (WgLive.cell0 hF).choose_spec aa hF
   refine Goes.stop (λd hF=>?_);refine⟨rfl,_,?_,stepG_markAt .acquire (by simp) rfl rfl (by k_ne) rfl H.f_acquire (x_acquire_n L) (x_acquire_b L) (x_acquire_x L) (x_acquire_f L) (by simp[Act.eval,stA])⟩;intro c hF;refine⟨60,?_⟩
   walk_nrm
   u_c stepG_region_end aa hF
   iterate 2 (u_c stepG_seq aa hF)
   u_reg aa hF
   u_op aa hF
   u_c stepG_region_end aa hF
   u_cond false aa hF
   u_c stepG_skip aa hF
   u_c stepG_ret' aa hF
   u_leave0 H.f_wait aa hF
   exact Goes.stop (λ_ _=>rfl)
  .refine⟨_,stepG_cas_miss (v:=(v':Int)*KK) (old:=S) (n:=S+1) rfl rfl (by k_ne) rfl H.f_casU64 (x_casU64_n L) (x_casU64_b L) (x_casU64_x L) .u64 (x_casU64_f L) rfl rfl rfl hw.cellSt (hw.thaw 0) (by rw[<-b];simp only[KK];omega),60,?_⟩
   clear hw
   walk_nrm
   u_op aa hF
   u_c stepG_region_end aa hF
   u_c stepG_ret' aa hF
   u_leave1 H.f_uCas aa hF
   u_c stepG_region_end aa hF
   u_cond false aa hF
   u_c stepG_skip aa hF
   u_c stepG_inBlock aa hF
   u_c stepG_inLoop aa hF
   exact Goes.stop (λa o=>⟨_,rfl,by simp,by simp⟩)
end
section
variable {L:WgLink}{P:Program}{Wg:Nat}{c:Frame}{cs:List Frame}
def R6 (H:WgLib P L):∃a d b:Goroutine,
 (∀w,WgLive L.tWg Wg w->Goes P false (RL L.tWg Wg) DC0 (λg _=>g=a) 60 (G ((baseD L.done).at ⟨#[.pointer (some ⟨Wg,0,none⟩),undef,undef,undef],[]⟩ [.code (body_done L)]) (c::cs)) w)/\
 (∀w,a.status=.running/\stepG P false a w=.go d w #[mk (.releaseMerge (stA Wg))])/\(∀w,WgLive L.tWg Wg w->Goes P false (RL L.tWg Wg) DC0 (λg _=>g=b) 60 d w)/\∀w,∃g',stepG P false b w=.go g' w #[mk .disable]:=by
 lib_facts
 apply Exists.intro;apply Exists.intro;apply Exists.intro;refine⟨λw hF=>?_,λw=>?_,λw hF=>?_,λw=>?_⟩
 .simp only[body_done,doneFn,ac9]
  u_reg aa hF
  u_op aa hF
  u_call H.f_add (nm_add L) addFn aa hF
  u_c stepG_seq aa hF
  u_cond true aa hF
  iterate 2 (u_c stepG_seq aa hF)
  u_reg aa hF
  iterate 2 (u_op aa hF)
  u_c stepG_region_end aa hF
  u_cond true aa hF
  u_reg aa hF
  u_op aa hF
  u_conv H.underlying_tWgP H.room_tWg (WgLive.cell0 hF).choose_spec aa hF
  exact Goes.stop (λ_ _=>rfl)
 .exact⟨rfl,stepG_markAt .releaseMerge (by simp) rfl rfl (by k_ne) rfl H.f_relMerge (x_relMerge_n L) (x_relMerge_b L) (x_relMerge_x L) (x_relMerge_f L) (by simp[Act.eval,stA])⟩
 .walk_nrm
  u_c stepG_region_end aa hF
  u_c stepG_seq aa hF
  u_reg aa hF
  exact Goes.stop (λ_ _=>rfl)
 .exact⟨_,stepG_mark0 .disable (by simp) rfl rfl (by k_ne) rfl H.f_disable (x_disable_n L) (x_disable_b L) (x_disable_x L) (x_disable_f L)⟩
end
section
variable {P:Program}{main:Bool}{R:World->World->Prop}{D:World->World->Array Event->Prop}{Stop:Goroutine->World->Prop}
def stops {b}(hs:∀g w a,R w a->Stop g a->b g a):∀(n:Nat) (g:Goroutine) (w:World),Goes P main R D Stop n g w->Goes P main R D b n g w
 |0,_,_,h=>λa r=>hs _ _ _ r (h a r)
 |n+1,_,_,h=>by
  rcases h with h|⟨c,h⟩
  .exact .inl λa r=>hs _ _ _ r (h a r)
  .refine .inr ⟨c,λa r=>?_⟩
   obtain⟨g',w',es,e,hd,d⟩:=goes_elim (h a r);rw[e];exact⟨hd,stops hs n g' w' d⟩
def along {ty}{Wg}{e}{w}(hl:WgLive ty Wg w)(hR:R w w)(l:∀g,Stop g w->∃g' w' es,stepG P main g w=.go g' w' es/\es≠ #[]):
 ∀(n m:Nat) (g:Goroutine),Goes P main (RL ty Wg) DC0 (λg _=>g=e) n g w->Goes P main R D Stop m g w->∃m',Goes P main R D Stop m' e w:=by
 intro n
 induction n with
 |zero=>intro m g h k;exact⟨m,by rw[<-h w hl];exact k⟩
 |succ n j=>
  intro m g h k;rcases Goes.cases h with h|⟨f,r,h⟩
  .exact⟨m,by rw[<-h w hl];exact k⟩
  .obtain rfl:n=f:=by omega
   obtain⟨g',w',es,c,⟨o,p⟩,d⟩:=h w hl;rw[o]at c d;rcases Goes.cases k with b|⟨m',rfl,b⟩
   .obtain⟨_,_,_,a,q⟩:=l g (b w hR)
    rw[c]at a;cases a;exact absurd p q
   .obtain⟨_,_,_,a,_,i⟩:=b w hR
    rw[c]at a;cases a;exact j m' g' d i
end
section
variable [Payload]{L:WgLink}{P:Program}{Wg V nV off:Nat}{vs:List Value}{c:Frame}{cs:List Frame}
def GH (H:WgLib P L)(i:c.mode=.returning){s}(y:QuitsD P s 0 (G c cs))(w)(hF:WgLive L.tWg Wg w):
 Goes P false (RL L.tWg Wg) DC0 (V7 P L.tWg Wg V nV off vs) 60 (G ((baseD L.done).at ⟨#[.pointer (some ⟨Wg,0,none⟩),undef,undef,undef],[]⟩ [.code (body_done L)]) (c::cs)) w:=by
 obtain⟨E,D,F,p,f,x,z⟩:=R6 (Wg:=Wg) (c:=c) (cs:=cs) H;have b:∀w,RW L.tWg Wg V nV 0 off w w:=λw=>⟨λ_ _ _ _=>rfl,id,id,rfl⟩
 refine stops (Stop:=λg _=>g=E) ?_ _ _ _ (p w hF)
 .rintro g _ a hF rfl
  replace hF:WgLive L.tWg Wg a:=hF;refine⟨(f a).1,λv=>⟨D,(f a).2,?_⟩⟩;have u:=doneN H (Own:=λ_ _=>False) (Rd:=λ_ _=>False) (C:=V) (n:=nV) (Low:=0) (k:=off+1) (val:=vs.headD undef) i y a ⟨hF,v⟩;have q:∀g,AtR0 P L.tWg Wg V nV 0 (off+1) (vs.headD undef) g a->∃g' w' es,stepG P false g a=.go g' w' es/\es≠ #[]:=λg h=>⟨_,_,_,h.2.2.choose_spec.1,by simp⟩
  obtain⟨m',B⟩:=along hF (b a) q _ _ _ (p a hF) u;rcases Goes.cases B with l|⟨m₂,rfl,l⟩
  .obtain⟨_,_,g',e,hm⟩:=l a (b a)
   rw[(f a).2]at e;cases e;exact hm
  .exfalso
   obtain⟨_,_,_,d,_,t⟩:=l a (b a);rw[(f a).2]at d;cases d;obtain⟨o,A⟩:=along hF (b a) q _ _ _ (x a hF) t;obtain⟨g',e⟩:=z a;rcases Goes.cases A with j|⟨m,rfl,j⟩
   .obtain⟨_,_,g',r,hm⟩:=j a (b a)
    rw[e]at r;simp[mk]at r
   .obtain⟨_,_,_,d,d2,_⟩:=j a (b a)
    rw[e]at d;cases d;exact(d2.2 (mk .disable) (by simp)).2.1 rfl
end
end
section
abbrev link:Go.Conc.Lib.WgLink:={add:=68,done:=70,wait:=74,relMerge:=103,disable:=104,enable:=105,inBubble:=106,associate:=107,fatal:=108,uOr:=109,uAdd:=110,raceRead:=111,uLoad:=112,uStore:=113,disassociate:=114,semrelease:=115,acquire:=121,isAssociated:=122,uCas:=123,raceWrite:=124,semacquire:=125,orU64:=159,addU64:=160,loadU64:=161,storeU64:=162,casU64:=165,tWgP:=166,tUP:=168,tAssoc:=170,tWg:=130,tAU:=127,tU64:=125,tUint:=142,tU32:=128,tPU32:=174,tPAU:=225,tPU64:=227,tNoCopy:=122,tANoCopy:=123,tAlign64:=124}
def wS:Go.Conc.Lib.WgLib prog link:=
 ⟨func68,func70,func74,func103,func104,func105,func106,func107,func108,func109,func110,func111,func112,func113,func114,func115,func121,func122,func123,func124,func125,func159,func160,func161,func162,func165,underlying166,Tryz.runUnderlying166,Tryz.sizeOf166,Tryz.isAgg166,Tryz.zeroValue166,underlying168,Tryz.runUnderlying168,Tryz.sizeOf168,Tryz.isAgg168,Tryz.zeroValue168,underlying170,Tryz.runUnderlying170,Tryz.sizeOf170,Tryz.isAgg170,Tryz.zeroValue170,underlying130,Tryz.runUnderlying130,Tryz.sizeOf130,Tryz.isAgg130,Tryz.zeroValue130,underlying127,Tryz.runUnderlying127,Tryz.sizeOf127,Tryz.isAgg127,Tryz.zeroValue127,underlying125,Tryz.runUnderlying125,Tryz.sizeOf125,Tryz.isAgg125,Tryz.zeroValue125,underlying142,Tryz.runUnderlying142,Tryz.sizeOf142,Tryz.isAgg142,Tryz.zeroValue142,underlying128,Tryz.runUnderlying128,Tryz.sizeOf128,Tryz.isAgg128,Tryz.zeroValue128,underlying174,Tryz.runUnderlying174,Tryz.sizeOf174,Tryz.isAgg174,Tryz.zeroValue174,underlying225,Tryz.runUnderlying225,Tryz.sizeOf225,Tryz.isAgg225,Tryz.zeroValue225,underlying227,Tryz.runUnderlying227,Tryz.sizeOf227,Tryz.isAgg227,Tryz.zeroValue227,underlying0,Tryz.runUnderlying0,Tryz.sizeOf0,Tryz.isAgg0,Tryz.zeroValue0,underlying3,Tryz.runUnderlying3,Tryz.sizeOf3,Tryz.isAgg3,Tryz.zeroValue3,underlying4,Tryz.runUnderlying4,Tryz.sizeOf4,Tryz.isAgg4,Tryz.zeroValue4,underlying9,Tryz.runUnderlying9,Tryz.sizeOf9,Tryz.isAgg9,Tryz.zeroValue9,underlying20,Tryz.runUnderlying20,Tryz.sizeOf20,Tryz.isAgg20,Tryz.zeroValue20,underlying21,Tryz.runUnderlying21,Tryz.sizeOf21,Tryz.isAgg21,Tryz.zeroValue21,(by kernel_rfl),(by kernel_rfl)⟩
open Go Go.Conc Go.ConcN Go.RowKit Go.Conc.Lib
open Go.ConcR (KK wgBlock WgAt stA smA rd wr mk Payload DC0)
def jP (v:Value):Prop:=(∃k n,v=.int k n)\/∃b,v=.bool b
def Py {st}{p:Rel st}{v u}(h:VR p v u)(a:jP v):u=v:=by
 rcases a with⟨k,n,rfl⟩|⟨b,rfl⟩
 .exact h.bT
 .exact h.j3
def Fx {st}{p:Rel st}{xs ys}(h:aF (VR p) xs ys)(a:∀v∈xs.toList,jP v):ys=xs:=by
 refine Array.ext h.1.symm λi c b=>?_
 exact Py (h.2 i xs[i] ys[i] (ZM b) (ZM c)) (a _ (by simp))
def Bj {v}(h:jP v):v.oneCell'=true:=by
 rcases h with⟨k,n,rfl⟩|⟨b,rfl⟩<;>rfl
def P8 {a:Frame}(hm:a.mode=.run)(b:a.roundOf=none):a.at ⟨a.tmps,a.defers⟩ a.todo=a:=by
 obtain⟨fn,tmps,todo,defers,mode,kind,ro⟩:=a;simp only at hm b;subst hm b;rfl
def yt {a}{cs}{todo}{ds}(hm:a.mode=.run)(c:a.roundOf=none)(b:a.todo=todo)(hd:a.defers=ds):df a cs=G (a.at ⟨a.tmps,ds⟩ todo) cs:=by
 subst b hd;rw[P8 hm c];rfl
def jq:(patch ae prog).funcs[69]? =some (fD f69):=by
 have:=iO ae prog func69;rw[this];rfl
def RA {pre rest}(h:Gs (pre++6::rest)):rest=[7]:=by
 obtain⟨p,e,g,d,f⟩:=h;rcases List.append_eq_append_iff.1 e with⟨a,c,b⟩|⟨a,c,b⟩
 .cases a with
  |nil=>simpa using b
  |cons y a=>
   simp only[List.cons_append,ac0]at b;obtain⟨rfl,_⟩:=b;exact absurd (by rw[c];simp) d
 .cases a with
  |nil=>simpa using b.symm
  |cons y a=>
   simp only[List.cons_append,ac0]at b;obtain⟨rfl,b⟩:=b;cases a with
   |nil=>simp at b
   |cons z a=>simp at b
def Uo {pre rest}(h:Gs (pre++7::rest)):6∉(7::rest):=by
 obtain⟨p,e,g,f,d⟩:=h;rcases List.append_eq_append_iff.1 e with⟨a,c,b⟩|⟨a,c,b⟩
 .cases a with
  |nil=>simp at b
  |cons y a=>
   simp only[List.cons_append,ac0]at b;obtain⟨rfl,_⟩:=b;exact absurd (by rw[c];simp) d
 .cases a with
  |nil=>simp at b
  |cons y a=>
   simp only[List.cons_append,ac0]at b;obtain⟨rfl,b⟩:=b;cases a with
   |nil=>
    simp only[List.nil_append,ac0]at b;obtain⟨-,rfl⟩:=b;simp
   |cons z a=>simp at b
def mo (n:Int)(d:Option Nat)(o:Oper):Prop:=o.op=flag n/\o.dst=d/\o.guard=none
def Wx {i:Nat}{n}{d}(h:(((H3 f69)[i]?).map λo=>(kN n o.op,o.dst==d,o.guard.isNone))=some (true,true,true)):∃o,(H3 f69)[i]? =some o/\mo n d o:=by
 obtain⟨o,c,b⟩:=adf.1 h;simp only[Prod.mk.injEq,beq_iff_eq,Option.isNone_iff_eq_none]at b;refine⟨o,c,?_,b.2.1,b.2.2⟩;have a:=b.1;unfold kN at a;split at a
 .rename_i m hm
  rw[hm];simp only[beq_iff_eq]at a;rw[a];rfl
 .cases a
def lF:∃o,(H3 f69)[0]? =some o/\mo 0 (some 19) o:=Wx (by kernel_rfl)
def Xr:∃o,(H3 f69)[6]? =some o/\mo 6 (some 25) o:=Wx (by kernel_rfl)
def Xq:∃o,(H3 f69)[7]? =some o/\mo 7 none o:=Wx (by kernel_rfl)
def MU:((List.range 8).all λi=>i==0||i==6||i==7||((H3 f69)[i]?.map gI)==some false)=true:=by kernel_rfl
def noMark (O:Array Oper)(h:O.all (λo=> !gI o)=true){i:Nat}{o}(a:O[i]? =some o):gI o=false:=by
 have:=adb.1 h o (ac5 a);simpa using this
def Pn:(O1 f69).all (λo=> !gI o)=true:=by kernel_rfl
def Pm:(O2 f69).all (λo=> !gI o)=true:=by kernel_rfl
def bq {o}(h:o.guard=none)(y):Region.wanted o y=true:=by simp[Region.wanted,h]
def Er {P}{o}{n}{d}(h:mo n d o)(a:Act)(w):(execOp a.eval o).run P w=.ok (.value (.int .i64 (160160160160000+n))) w:=by
 unfold execOp;simp[h.1,flag,Act.eval]
def o9 (vals:Array Value)(r:Int)(v:Value)(_:World):Prop:=v=.tuple #[.agg vals,.int .i64 r,.int .i64 160160160160006]
def Ce {P}{R}{a a'}{fs b}{w w'}{es}(h:Tree P R a fs w)(hm:a.mode=.run)(hs:stepG P true (df a (fs++[stop P])) (ay w w.tape)=.go (df a' (b++[stop P])) w' es):Tree P R a' b w':=by
 rcases h.step with c|⟨_,c⟩
 .rw[c.1]at hm;cases hm
 .obtain⟨a2,e,w2,f,d,_,i⟩:=c w.tape
  rw[hs]at d;simp only[GStep.go.injEq,Goroutine.mk.injEq]at d;obtain⟨⟨rfl,g,_⟩,rfl,_⟩:=d;rw[adw g];exact i
def AO {P}{R}{a}{w}{ops}{i}{rest}{k}{o}{n}{d}(h:Tree P R a [] w)(hm:a.mode=.run)(c:a.roundOf=none)(hd:a.defers=[])(f:a.kind≠.early)
 (b:a.todo=.inRegion ops (i::rest)::k)(e:ops[i]? =some o)(hf:mo n d o):Tree P R (a.at ((Act.mk a.tmps []).put d (.int .i64 (160160160160000+n))) (.inRegion ops rest::k)) [] w:=by
 have hs:∃es,stepG P true (df a ([]++[stop P])) (ay w w.tape)=.go (df (a.at ((Act.mk a.tmps []).put d (.int .i64 (160160160160000+n))) (.inRegion ops rest::k)) ([]++[stop P])) (ay w w.tape) es:=by
  rw[yt hm c b hd,stepG_value e (bq hf.2.2 _) f (Er hf _ _),hf.2.1];exact⟨_,rfl⟩
 obtain⟨es,hs⟩:=hs;exact Ce h hm hs
def Mk {R}{a}{w}{ops}(h:Tree (patch ae prog) R a [] w)(hm:a.mode=.run)(e:a.roundOf=none)(hd:a.defers=[])(hf:a.fn=69)(d:a.todo=[.inRegion ops []]):
 ∃w',R (.tuple #[a.tmps.getD 24 undef,a.tmps.getD 20 undef,a.tmps.getD 25 undef]) w':=by
 have i:Tree (patch ae prog) R (a.at ⟨a.tmps,[]⟩ []) [] w:=Ce (w':=ay w w.tape) h hm (by rw[yt hm e d hd,stepG_region_end];rfl)
 have g:Tree (patch ae prog) R {a.at ⟨a.tmps,[]⟩ []with mode:=.returning} [] w:=Ce (w':=ay w w.tape) i rfl (by
  show stepG (patch ae prog) true (G (a.at ⟨a.tmps,[]⟩ []) ([]++[stop (patch ae prog)])) _=_
  rw[stepG_end];rfl)
 rcases g.step with⟨_,_,_,fn,T,v,k,c,j⟩|⟨f,_⟩
 .have b:(patch ae prog).funcs[a.fn]? =some fn:=k
  rw[hf,jq]at b;cases b;rw[results_tmp3 (t:=24) (u:=20) (v:=25) (by kernel_rfl)]at c;cases c;exact⟨_,j⟩
 .exact absurd ⟨rfl,rfl⟩ f
def Un {vals}{r}{a}{w}(h:Tree (patch ae prog) (o9 vals r) a [] w)(hm:a.mode=.run)(i:a.roundOf=none)(hd:a.defers=[])(d:a.kind≠.early)(hf:a.fn=69)(g:a.todo=[.inRegion (H3 f69) [6,7]]):
 a.tmps.getD 24 undef=.agg vals/\a.tmps.getD 20 undef=.int .i64 r:=by
 obtain⟨o,m,l⟩:=Xr;obtain⟨n,f1,f2⟩:=Xq;have k:=AO h hm i hd d g m l;have j:=AO k rfl rfl rfl d rfl f1 f2;obtain⟨w',c⟩:=Mk j rfl rfl rfl hf rfl;unfold o9 at c;simp only[Value.tuple.injEq]at c;have b:=congrArg Array.toList c;simp only[ac0,and_true,Act.put,Frame.at]at b;obtain⟨f,e,_⟩:=b;rw[getD_set_ne (by decide)]at f e;exact⟨f,e⟩
def ko (V:Nat):Value:=.slice (some ⟨V,0,none⟩) 4 4
def ptr (b:Nat):Value:=.pointer (some ⟨b,0,none⟩)
def QO (VV V:Nat)(u:World)(M:Nat->Prop):Prop:=VV<u.heap.size/\¬M VV/\u.cell? ⟨VV,0,none⟩=some (ko V)
def E4 {K}{VV V}(a:K VV)(u az)(M)(h:QO VV V u M)(r:bF K M u az):QO VV V az M:=
 ⟨ZO h.1 r.size,h.2.1,by rw[<-h.2.2];exact cell_of_block (r.keep VV (.inr a) h.1) 0⟩
def Nq {K}{VV V}(u u')(M)(es)(h:QO VV V u M)(d:Does K M u u' es):QO VV V u' (Grow M u u'):=
 ⟨ZO h.1 d.size,λa=>a.elim h.2.1 λx=>by have:=h.1;omega,by rw[<-h.2.2];exact cell_of_block (d.keep VV h.1 h.2.1) 0⟩
section
variable {C:iG}{st:Prop}{p:Rel st}
def FR.fill {P}{a b}{ops}{i d}{rest}{k}{v u}{ds}(h:FR C P p a b)(hm:a.mode=.run)(hf:a.fn=C.root)(hd:C.pv d=true)(r:d≠C.rt)(w:a.todo=.inRegion ops (i::rest)::k)(c:b.defers=ds)
 (hs:C.okF (.inRegion ops rest::k) (b.tmps.setIfInBounds d u)):
 FR C P p (a.at ((Act.mk a.tmps []).put (some d) v) (.inRegion ops rest::k)) (b.at ((Act.mk b.tmps ds).put (some d) u) ((.inRegion ops rest::k).map (qE C))):=by
 obtain⟨fn,tmps,todo,defers,mode,kind,ro⟩:=a;obtain⟨I,m,l,g,n,o,F⟩:=b;obtain⟨E,s,D,B,A,z,y,x,H,f,t⟩:=h;simp only at hm hf w E s D B A z x H f c hs;simp only[Frame.mk.injEq]at y;obtain⟨rfl,-,rfl,-,rfl,-,rfl⟩:=y;subst hm w B A z c;obtain⟨hx,G⟩:=D.cons;refine⟨E,⟨λj=>?_,by simpa[Frame.at,Act.put] using s.size⟩,aU.of hx G,rfl,rfl,rfl,rfl,λe=>?_,λ_=>hs,f,t⟩
 .simp only[Frame.at,Act.put]
  by_cases q:d=j
  .subst q;exact .inl ⟨hf,hd⟩
  .rw[getD_set_ne q,getD_set_ne q];exact s.get j
 .simp only[Frame.at,Act.put]
  rw[getD_set_ne r];exact x e
end
def sZ:prog.funcs[69]? =some f69:=func69
def jZ (n:Nat):Frame:={(default:Frame)with fn:=n,defers:=[],mode:=.panicking [goexitEntry]}
def KL {b:Frame}(hf:b.fn=69)(d:b.kind=.deferred)(T):QuitsD prog 2 0 (G {b.at ⟨T,[]⟩ []with mode:=.returning} [jZ prog.funcs.size]):=by
 refine QuitsD.ctl (g':=G (jZ prog.funcs.size) []) rfl (λw=>?_) ?_
 .have a:Func.results f69= #[]:=by kernel_rfl
  have c:(results f69 T).runT prog w #[]=(.ok (.tuple #[]) w,#[]):=by rw[Sem.runT_eq,results_none a,events_results_none a]
  simp only[G,stepG,unwind,Frame.at,hf,sZ,c,doReturn,d,jZ,goexitEntry,GStep.after];simp[seen]
 refine QuitsD.ctl (g':={G (jZ prog.funcs.size) []with status:=.finished}) rfl (λw=>?_) ⟨rfl,rfl⟩;simp[G,stepG,unwind,jZ,goexitEntry,Frame.catches];rfl
def M6 {i}{o}(a:(H3 f69)[i]? =some o)(hm:gI o=true):i=0\/i=6\/i=7:=by
 have b:i<8:=by rw[<-Qu];exact(ZK.1 a).1
 have:=ZU.1 MU i (Z9.2 b);rw[a]at this;simp only[ads,hm,adB,beq_iff_eq]at this;rcases this with((h|h)|h)|h
 .exact .inl h
 .exact .inr (.inl h)
 .exact .inr (.inr h)
 .cases h
def Xn {o}(h:mo 0 (some 19) o):uo o={o with op:=.load 87 (.tmp 4)}:=by
 have e:gI o=true:=by simp[gI,h.2.2,h.1,kN,flag]
 unfold uo;rw[if_pos e,h.1];rfl
def Xm {o}(h:mo 6 (some 25) o):uo o={o with op:=.indexAddr 87 (.tmp 19) (.tmp 20)}:=by
 have e:gI o=true:=by simp[gI,h.2.2,h.1,kN,flag]
 unfold uo;rw[if_pos e,h.1];rfl
def X9 {o}(h:mo 7 none o):uo o={o with op:=.store 91 (.tmp 25) (.tmp 24)}:=by
 have e:gI o=true:=by simp[gI,h.2.2,h.1,kN,flag]
 unfold uo;rw[if_pos e,h.1];rfl
def Aj {n y4 sl}{st}{p:Rel st}{a b}{e c}(hm:a.mode=.run)(E:oH (ou f69 n y4 sl) a)(hl:Live (ou f69 n y4 sl) (patch ae prog) p a e b c):
 e=[]/\c=[]/\a.fn=69/\a.roundOf=none/\a.defers=[]/\a.kind=.normal/\b.defers=[dcall 70 #[n]]/\b.kind=.deferred/\b.mode=.run/\b.roundOf=none/\b.fn=69/\
  b.tmps.getD 4 undef=y4/\b.tmps.size=26/\
  ∃rest pre,((a.todo=[.inRegion (H3 f69) (0::rest)]/\Gs (pre++0::rest)/\6∈rest)\/(a.todo=[.inRegion (H3 f69) (6::rest)]/\rest=[7]/\b.tmps.getD 19 undef=sl))/\b.todo=a.todo.map (qE (ou f69 n y4 sl)):=by
 obtain⟨ops,i,rest,k,o,f,u,C,j⟩:=E;have r:=hl.fr.plain;rw[f]at r;have t:ops.all (kM (ou f69 n y4 sl) (patch ae prog) a.fn)=true:=r.cons.1;have v:=kM.parts (adb.1 t o (ac5 u));have m:a.fn=69:=v.2.1 j
 have has:e=[]:=by
  apply Classical.byContradiction;intro w;have:=(hl.deep.1 w).2.2.1;rw[m]at this;exact absurd this (adj (show decide (¬69∈yB)=true by kernel_rfl))
 subst has
 have z:c=[]:=by
  cases c with
  |nil=>rfl
  |cons x xs=>exact hl.cs.elim
 subst z;obtain⟨hd,y,_⟩:=hl.deep.2 rfl;have q:=hl.fr.same;have s:b.todo=a.todo.map (qE (ou f69 n y4 sl)):=hl.fr.todo;have g:okW f69 n y4 sl a.todo b.tmps:=hl.fr.shape m;refine⟨rfl,rfl,m,hl.fr.ra,hl.fr.da,hl.fr.ka,hd,y,hl.fr.mode.trans hm,by rw[q];exact hl.fr.ra,hl.fr.fn.trans m,g.1.2.2,g.1.1,?_⟩;rw[f]at g;obtain⟨_,h|h|⟨l,h⟩|h|h|⟨l,h⟩|h|⟨l,pre,h,A,B,F⟩⟩:=g
 .cases h
 .cases h
 .simp only[ac0,Item.inRegion.injEq]at h
  obtain⟨⟨rfl,rfl⟩,rfl⟩:=h;have d:gI o=true:=j;rw[noMark _ Pn u]at d;cases d
 .cases h
 .cases h
 .simp only[ac0,Item.inRegion.injEq]at h
  obtain⟨⟨rfl,rfl⟩,rfl⟩:=h;have d:gI o=true:=j;rw[noMark _ Pm u]at d;cases d
 .cases h
 .simp only[ac0,Item.inRegion.injEq]at h
  obtain⟨⟨rfl,rfl⟩,rfl⟩:=h;rcases M6 u j with rfl|rfl|rfl
  .exact⟨rest,pre,.inl ⟨f,A,(ZW.1 B).resolve_left (by decide)⟩,s⟩
  .have D:=RA A
   subst D;exact⟨[7],pre,.inr ⟨f,rfl,F (by decide)⟩,s⟩
  .exact absurd B (Uo A)
end
namespace Z
open Go.RowKit
attribute [local go_sem ↓] Go.wp_at_zero Go.wp_at_succ
attribute [local go_sem] After.cell After.frozen After.const
abbrev SW (w:World)(B bb a b:Nat)(r n:Value)(w':World):Prop:=w'.cell? ⟨bb,0,none⟩=some (.pointer (some ⟨B,0,none⟩))/\w'.cell? ⟨a,0,none⟩=some r/\w'.cell? ⟨b,0,none⟩=some n/\adN w w'/\w.heap.size<=w'.heap.size
def Gj {w}{B bb a b}{r n}(e:w.cell? ⟨bb,0,none⟩=some (.pointer (some ⟨B,0,none⟩)))(d:w.cell? ⟨a,0,none⟩=some r)(c:w.cell? ⟨b,0,none⟩=some n):SW w B bb a b r n w.drew:=⟨e,d,c,(aab _ _).drew,ZL _⟩
def oD {w}{o}{B bb a b}{r n}(e:w.cell? ⟨bb,0,none⟩=some (.pointer (some ⟨B,0,none⟩)))(d:w.cell? ⟨a,0,none⟩=some r)(c:w.cell? ⟨b,0,none⟩=some n)(hl:bb<w.heap.size/\a<w.heap.size/\b<w.heap.size):SW w B bb a b r n (w.alloc o).drew:=
 have hb:adN w (w.alloc o).drew:=((aab _ _).alloc (ZL _) _).drew
 ⟨(hb.cell hl.1).trans e,(hb.cell hl.2.1).trans d,(hb.cell hl.2.2).trans c,hb,hb.size⟩
def vT {w w1 w2}{B bb a b}{r n}(h:SW w B bb a b r n w1)(hl:bb<w.heap.size/\a<w.heap.size/\b<w.heap.size)(hb:Below w.heap.size w1 w2):SW w B bb a b r n w2:=
 ⟨(hb.cell hl.1).trans h.1,(hb.cell hl.2.1).trans h.2.1,(hb.cell hl.2.2).trans h.2.2.1,h.2.2.2.1.trans hb,(h.2.2.2.1.trans hb).size⟩
def Kb {w w1 w2}{B bb a b}{r n}(h:SW w B bb a b r n w1)(hl:bb<w.heap.size/\a<w.heap.size/\b<w.heap.size)(hb:adN w1 w2):SW w B bb a b r n w2:=vT h hl (hb.mono h.2.2.2.2)
def Gl {w w1}{o}{B bb a b}{r n}(h:SW w B bb a b r n w1)(hl:bb<w.heap.size/\a<w.heap.size/\b<w.heap.size):SW w B bb a b r n (w1.alloc o):=vT h hl ((aab _ _).alloc h.2.2.2.2 _)
def zq {w w1:World}{o d}{B bb b c}{r n}(h:SW w B bb b c r n (w1.alloc d))(hl:bb<w.heap.size/\b<w.heap.size/\c<w.heap.size)(e:w.heap.size<=w1.heap.size):SW w B bb b c r n (w1.alloc o):=by
 refine vT h hl ⟨rfl,rfl,rfl,by simp,λk f=>?_⟩;have a:k<w1.heap.size:=by omega
 exact(aac w1 o k a).trans (aac w1 d k a).symm
def vU {w w1 w2}{B bb a b}{r n}(h:SW w B bb a b r n w1)(hb:adN w1 w2):w.heap.size<=w2.heap.size:=ZP h.2.2.2.2 hb.size
def Gi {w w1}{B bb a c b}{r n v0 v1 v2 v3}(h:SW w B bb a c r n w1)(hl:bb<w.heap.size/\a<w.heap.size/\c<w.heap.size)(hb:w.heap.size<=b):SW w B bb a c r n ((((w1.setCell ⟨b,0,none⟩ v0).setCell ⟨b,1,none⟩ v1).setCell ⟨b,2,none⟩ v2).setCell ⟨b,3,none⟩ v3):=
 vT h hl (((((aab _ _).setCell hb _).setCell hb _).setCell hb _).setCell hb _)
def oF {w w1}{B bb a b}{r n}{D}(h:SW w B bb a b r n w1)(hb:aW w B D):aW w1 B D:=aW.below hb h.2.2.2.1
def gV {w1 w3:World}{o}(hb:Below (w1.alloc o).heap.size (w1.alloc o) w3):w3.heap[w1.heap.size]? =some o:=(hb.block _ (by simp)).trans (aae _ _)
def fw {w1 w3:World}{o}(hb:Below (w1.alloc o).drew.heap.size (w1.alloc o).drew w3):w3.heap[w1.heap.size]? =some o:=(hb.block _ (by show w1.heap.size< (w1.alloc o).heap.size;simp)).trans (aae w1 o)
def lS {w1 w3}{o}{b:Nat}(hb:adN w1 w3)(h:w1.heap[b]? =some o):w3.heap[b]? =some o:=(hb.block _ (ZK.1 h).1).trans h
def ku {D}(a:D.ok){r}(c:r<4):(dL D r).length<=24:=by
 unfold dL
 by_cases b:r=0
 .rw[if_pos b];exact ZP (rD _ _) a.qF
 .rw[if_neg b]
  have:=(a.dC (r-1) (by omega)).1;exact ZP (aai _ _) (by simp;omega)
def mi {D}(a:D.ok){r}(b:r<4):(gq D r).length<=24:=ZP (by unfold gq kept;exact aai _ _) (ku a b)
def Mg (D)(r):∀i∈dL D r,if r=0 then i<D.n else i<D.dn (r-1):=by
 intro i a;unfold dL at a
 by_cases b:r=0
 .rw[if_pos b]at a⊢
  unfold bS at a;exact Z9.1 (adp.1 a).1
 .rw[if_neg b]at a⊢
  exact Z9.1 (adp.1 a).1
def yx (D)(r):∀i∈gq D r,if r=0 then i<D.n else i<D.dn (r-1):=λi a=>Mg D r i (by unfold gq kept at a;exact(adp.1 a).1)
def y8 (bb r)(D)(l)(v)(w)(d:r<4)(hb:aW w bb D)(a:D.ok)(c:Ints w v l.length (λj=>((l[j]?.getD 0:Nat):Int)))(hl:l.length<=24)
 (b:∀i∈l,if r=0 then i<D.n else i<D.dn (r-1)):
 adO 71 #[.pointer (some ⟨bb,0,none⟩),.int .i64 r,v] w λe w'=>e=.returned (.agg #[.int .i64 (dz D r l 0),.int .i64 (dz D r l 1),.int .i64 (dz D r l 2),.int .i64 (dz D r l 3)])/\adN w w':=Jh bb r D l v w d hb a c hl b
def iC {w:World}{a}{v}(h:w.cell? a=some v):a.block<w.heap.size:=by
 by_cases hl:a.block<w.heap.size
 .exact hl
 .have:w.heap[a.block]? =none:=Array.getElem?_eq_none_iff.2 (by omega)
  simp[World.cell?,this]at h
def Ol {w:World}{a b b5 c}{r n}{cs ds:Array Value}(g:w.cell? ⟨a,0,none⟩=some r)(f:w.cell? ⟨b,0,none⟩=some n)(e:∀j,w.cell? ⟨b5,j,none⟩=cs[j]?)(d:∀j,w.cell? ⟨c,j,none⟩=ds[j]?):w.drew.cell? ⟨a,0,none⟩=some r/\w.drew.cell? ⟨b,0,none⟩=some n/\(∀j,w.drew.cell? ⟨b5,j,none⟩=cs[j]?)/\(∀j,w.drew.cell? ⟨c,j,none⟩=ds[j]?):=⟨g,f,e,d⟩
def KB {w:World}{b}{t}{z0 z1 z2 z3}(v0 v1 v2 v3)(h:w.heap[b]? =some (.cells #[z0,z1,z2,z3] t (0,0))):((((w.setCell ⟨b,0,none⟩ v0).setCell ⟨b,1,none⟩ v1).setCell ⟨b,2,none⟩ v2).setCell ⟨b,3,none⟩ v3).heap[b]? =some (.cells #[v0,v1,v2,v3] t (0,0)):=aD v3 (aD v2 (aD v1 (aD v0 h)))
def Qm {w1 w2}{c d b5 i}{r n}{cs ds:Array Value}(h:w1.cell? ⟨c,0,none⟩=some r/\w1.cell? ⟨d,0,none⟩=some n/\(∀j,w1.cell? ⟨b5,j,none⟩=cs[j]?)/\(∀j,w1.cell? ⟨i,j,none⟩=ds[j]?))(hb:adN w1 w2)(a:0<cs.size)(k:0<ds.size):w2.cell? ⟨c,0,none⟩=some r/\w2.cell? ⟨d,0,none⟩=some n/\(∀j,w2.cell? ⟨b5,j,none⟩=cs[j]?)/\(∀j,w2.cell? ⟨i,j,none⟩=ds[j]?):=by
 have e:∀(cs:Array Value) b,0<cs.size->(∀j,w1.cell? ⟨b,j,none⟩=cs[j]?)->∀j,w2.cell? ⟨b,j,none⟩=cs[j]?:=λcs b a f j=>by
  have g:=f 0;rw[ZM a]at g;have hl:b<w1.heap.size:=iC g;exact(hb.cell (p:=⟨b,j,none⟩) hl).trans (f j)
 exact⟨keeps hb h.1,keeps hb h.2.1,e _ _ a h.2.2.1,e _ _ k h.2.2.2⟩
def D4 (D)(B bb g h r:Nat)(n)(x0 u)(a w)(A:adN a w)(p:r<4)(s:w.cell? ⟨bb,0,none⟩=some (.pointer (some ⟨B,0,none⟩)))(i:w.cell? ⟨g,0,none⟩=some (.int .i64 r))(q:w.cell? ⟨h,0,none⟩=some (.int .i64 n))(c:D.ok)(b5 m)(t7 t8 t9 t10 t11 t12 t13 t14 t15 t16 t17 t18)(f:w.heap[b5]? =some (.cells #[.int .i64 (dz D r (dL D r) 0),.int .i64 (dz D r (dL D r) 1),.int .i64 (dz D r (dL D r) 2),.int .i64 (dz D r (dL D r) 3)] 131 (0,0)))(d:w.heap[m]? =some (.cells #[.int .i64 (dz D r (gq D r) 0),.int .i64 (dz D r (gq D r) 1),.int .i64 (dz D r (gq D r) 2),.int .i64 (dz D r (gq D r) 3)] 131 (0,0))):
 (R3 f69).wp (patch ae prog) (bodyPost (patch ae prog) (fD f69) (fun|.returned v,w'=>o9 (eF (dz D r (dL D r)) (dz D r (gq D r)) n) r v w'/\adN a w'|_,_=>False)) ⟨#[x0,.pointer (some ⟨bb,0,none⟩),.pointer (some ⟨g,0,none⟩),.pointer (some ⟨h,0,none⟩),u,.pointer (some ⟨b5,0,none⟩),.pointer (some ⟨m,0,none⟩),t7,t8,t9,t10,t11,t12,t13,t14,t15,t16,t17,t18,undef,undef,undef,undef,undef,undef,undef],[]⟩ w:=by
 have t:Hid D.ok:=c;clear c;obtain⟨y,_⟩:=blk f;obtain⟨x,_⟩:=blk d;clear f d
 have C:Hid (∀k,k<4->0<=dz D r (dL D r) k/\dz D r (dL D r) k<=24):=λk _=>by
  have s:=Iz D r (dL D r) k;have i:=ku t.out p;omega
 have o:Hid (∀k,k<4->0<=dz D r (gq D r) k/\dz D r (gq D r) k<=24):=λk _=>by
  have s:=Iz D r (gq D r) k;have i:=mi t.out p;omega
 generalize z:(bodyPost (patch ae prog) (fD f69) (fun|.returned v,w'=>o9 (eF (dz D r (dL D r)) (dz D r (gq D r)) n) r v w'/\adN a w'|_,_=>False))=Q;simp only[R3,O3,H3,hands,qg,pZ,f69,flag,ac9];have b:(fD f69).results= #[.tmp 24,.tmp 20,.tmp 25]:=by kernel_rfl
 have F:g<w.heap.size:=iC i;have E:h<w.heap.size:=iC q
 go_region_held3(λw'=>w'.cell? ⟨g,0,none⟩=some (.int .i64 r)/\w'.cell? ⟨h,0,none⟩=some (.int .i64 n)/\(∀j,w'.cell? ⟨b5,j,none⟩= #[.int .i64 (dz D r (dL D r) 0),.int .i64 (dz D r (dL D r) 1),.int .i64 (dz D r (dL D r) 2),.int .i64 (dz D r (dL D r) 3)][j]?)/\(∀j,w'.cell? ⟨m,j,none⟩= #[.int .i64 (dz D r (gq D r) 0),.int .i64 (dz D r (gq D r) 1),.int .i64 (dz D r (gq D r) 2),.int .i64 (dz D r (gq D r) 3)][j]?)) (with_reducible (first|exact Ol i q y x|exact Qm (by assumption) (by assumption) (by simp) (by simp)))
  (first
   |(go_at_call 73;refine(K7 (dz D r (dL D r)) (dz D r (gq D r)) n C.out o.out _).mono ?_;rintro e w2 ⟨rfl,l⟩))
 all_goals
  subst z;exact⟨rfl,_,results_tmp3 b _ _ _,rfl,ai A.drew l⟩
def D5 (D)(B bb g h r:Nat)(n)(x0 u)(c w)(F:adN c w)(i:r<4)(s:w.cell? ⟨bb,0,none⟩=some (.pointer (some ⟨B,0,none⟩)))(q:w.cell? ⟨g,0,none⟩=some (.int .i64 r))(p:w.cell? ⟨h,0,none⟩=some (.int .i64 n))(hb:aW w B D)(j:D.ok)(b5)(t7 t8 t9 t10 t11 t12)(k:w.heap[b5]? =some (.cells #[.int .i64 (dz D r (dL D r) 0),.int .i64 (dz D r (dL D r) 1),.int .i64 (dz D r (dL D r) 2),.int .i64 (dz D r (dL D r) 3)] 131 (0,0))):
 (Code.seq (R2 f69) (R3 f69)).wp (patch ae prog) (bodyPost (patch ae prog) (fD f69) (fun|.returned v,w'=>o9 (eF (dz D r (dL D r)) (dz D r (gq D r)) n) r v w'/\adN c w'|_,_=>False)) ⟨#[x0,.pointer (some ⟨bb,0,none⟩),.pointer (some ⟨g,0,none⟩),.pointer (some ⟨h,0,none⟩),u,.pointer (some ⟨b5,0,none⟩),undef,t7,t8,t9,t10,t11,t12,undef,undef,undef,undef,undef,undef,undef,undef,undef,undef,undef,undef,undef],[]⟩ w:=by
 have b:Hid (aW w B D/\D.ok/\w.heap[b5]? =some (.cells #[.int .i64 (dz D r (dL D r) 0),.int .i64 (dz D r (dL D r) 1),.int .i64 (dz D r (dL D r) 2),.int .i64 (dz D r (dL D r) 3)] 131 (0,0))):=⟨hb,j,k⟩;have l:bb<w.heap.size/\g<w.heap.size/\h<w.heap.size:=⟨iC s,iC q,iC p⟩;clear hb j k;have t:=λW x (t7 t8 t9 t10 t11 t12 t13 t14 t15 t16 t17 t18:Value) (hs:SW w B bb g h (.int .i64 r) (.int .i64 n) W) (o:W.heap[x]? =some (.cells #[.int .i64 (dz D r (gq D r) 0),.int .i64 (dz D r (gq D r) 1),.int .i64 (dz D r (gq D r) 2),.int .i64 (dz D r (gq D r) 3)] 131 (0,0)))=>D4 D B bb g h r n x0 u c W (ai F hs.2.2.2.1) i hs.1 hs.2.1 hs.2.2.1 b.out.2.1 b5 x t7 t8 t9 t10 t11 t12 t13 t14 t15 t16 t17 t18 (lS hs.2.2.2.1 b.out.2.2) o
 generalize I:(bodyPost (patch ae prog) (fD f69) (fun|.returned v,w'=>o9 (eF (dz D r (dL D r)) (dz D r (gq D r)) n) r v w'/\adN c w'|_,_=>False))=Q at t⊢;generalize E:R3 f69=c3 at t⊢;refine wp_seq ?_;unfold R2 O2 qg pZ;simp only[f69,ac9]
 go_region_held3(λw'=>w'.cell? ⟨bb,0,none⟩=some (.pointer (some ⟨B,0,none⟩))/\w'.cell? ⟨g,0,none⟩=some (.int .i64 r)/\w'.cell? ⟨h,0,none⟩=some (.int .i64 n)/\adN w w'/\w.heap.size<=w'.heap.size) (with_reducible (first|exact Gj s q p|exact oD s q p l|exact Kb (by assumption) l (by assumption)|exact Gl (by assumption) l|exact zq (by assumption) l (by assumption)|exact Gi (by assumption) l (by omega)))
  (first
   |(go_at_call 48;refine(lK B r D _ i (oF (by assumption) b.out.1) b.out.2.1 (ZP (ku b.out.2.1 i) (by decide))).mono ?_;rintro e w2 ⟨v,rfl,a,f⟩;have C:=vU (by assumption) f;have hint:=dh a;clear a;try(first|have m:=fw f|have m:=gV f);try(obtain⟨H,G⟩:=blk m))
   |(go_at_call 71;refine(y8 B r D (gq D r) _ _ i (oF (by assumption) b.out.1) b.out.2.1 (by first|exact hint|exact hint.ext ((aab _ _).alloc (ZL _) _)) (mi b.out.2.1 i) (yx D r)).mono ?_;rintro e w3 ⟨rfl,d⟩;have A:=vU (by assumption) d;first|(have hp:=gV d;obtain⟨z,y⟩:=blk hp)|(have hp:=lS d m;obtain⟨z,y⟩:=blk hp)|skip))
 all_goals simp only[Exit.then]
 all_goals with_reducible refine t _ _ _ _ _ _ _ _ _ _ _ _ _ _ (by assumption) ?_
 all_goals with_reducible (first|exact aae _ _|exact KB _ _ _ _ hp)
def D6 (D)(B bb g h r:Nat)(n)(x0 t)(b w)(C:adN b w)(k:r<4)(q:w.cell? ⟨bb,0,none⟩=some (.pointer (some ⟨B,0,none⟩)))(p:w.cell? ⟨g,0,none⟩=some (.int .i64 r))(o:w.cell? ⟨h,0,none⟩=some (.int .i64 n))(hb:aW w B D)(i:D.ok):
 (Code.seq (R1 f69) (Code.seq (R2 f69) (R3 f69))).wp (patch ae prog) (bodyPost (patch ae prog) (fD f69) (fun|.returned v,w'=>o9 (eF (dz D r (dL D r)) (dz D r (gq D r)) n) r v w'/\adN b w'|_,_=>False)) ⟨#[x0,.pointer (some ⟨bb,0,none⟩),.pointer (some ⟨g,0,none⟩),.pointer (some ⟨h,0,none⟩),t,undef,undef,undef,undef,undef,undef,undef,undef,undef,undef,undef,undef,undef,undef,undef,undef,undef,undef,undef,undef,undef],[]⟩ w:=by
 have f:Hid (aW w B D/\D.ok):=⟨hb,i⟩;have j:bb<w.heap.size/\g<w.heap.size/\h<w.heap.size:=⟨iC q,iC p,iC o⟩;clear hb i;have s:=λW b5 (t7 t8 t9 t10 t11 t12:Value) (hs:SW w B bb g h (.int .i64 r) (.int .i64 n) W) (m:W.heap[b5]? =some (.cells #[.int .i64 (dz D r (dL D r) 0),.int .i64 (dz D r (dL D r) 1),.int .i64 (dz D r (dL D r) 2),.int .i64 (dz D r (dL D r) 3)] 131 (0,0)))=>D5 D B bb g h r n x0 t b W (ai C hs.2.2.2.1) k hs.1 hs.2.1 hs.2.2.1 (oF hs f.out.1) f.out.2 b5 t7 t8 t9 t10 t11 t12 m
 generalize G:(bodyPost (patch ae prog) (fD f69) (fun|.returned v,w'=>o9 (eF (dz D r (dL D r)) (dz D r (gq D r)) n) r v w'/\adN b w'|_,_=>False))=Q at s⊢;generalize A:Code.seq (R2 f69) (R3 f69)=c3 at s⊢;refine wp_seq ?_;unfold R1 O1 qg pZ;simp only[f69,ac9]
 go_region_held3(λw'=>w'.cell? ⟨bb,0,none⟩=some (.pointer (some ⟨B,0,none⟩))/\w'.cell? ⟨g,0,none⟩=some (.int .i64 r)/\w'.cell? ⟨h,0,none⟩=some (.int .i64 n)/\adN w w'/\w.heap.size<=w'.heap.size) (with_reducible (first|exact Gj q p o|exact oD q p o j|exact Kb (by assumption) j (by assumption)|exact Gl (by assumption) j|exact zq (by assumption) j (by assumption)|exact Gi (by assumption) j (by omega)))
  (first
   |(go_at_call 72;refine(uh B r D _ k (oF (by assumption) f.out.1) f.out.2).mono ?_;rintro e w2 ⟨v,rfl,a,d⟩;have z:=vU (by assumption) d;have hint:=dh a;clear a;try(first|have l:=fw d|have l:=gV d);try(obtain⟨F,E⟩:=blk l))
   |(go_at_call 71;refine(y8 B r D (dL D r) _ _ k (oF (by assumption) f.out.1) f.out.2 (by first|exact hint|exact hint.ext ((aab _ _).alloc (ZL _) _)) (ku f.out.2 k) (Mg D r)).mono ?_;rintro e w3 ⟨rfl,c⟩;have y:=vU (by assumption) c;first|(have hp:=gV c;obtain⟨x,u⟩:=blk hp)|(have hp:=lS c l;obtain⟨x,u⟩:=blk hp)|skip))
 all_goals simp only[Exit.then]
 all_goals with_reducible refine s _ _ _ _ _ _ _ _ (by assumption) ?_
 all_goals with_reducible (first|exact aae _ _|exact KB _ _ _ _ hp)
def ug (D)(B bb a b r:Nat)(n)(x0 c)(w)(hb:aW w B D)(d:D.ok)(e:r<4)(_:0<n)(i:w.cell? ⟨bb,0,none⟩=some (ptr B))(g:w.cell? ⟨a,0,none⟩=some (.int .i64 r))(f:w.cell? ⟨b,0,none⟩=some (.int .i64 n)):
 adO 69 #[x0,ptr bb,ptr a,ptr b,c] w fun|.returned v,w'=>o9 (eF (dz D r (dL D r)) (dz D r (gq D r)) n) r v w'/\adN w w'|_,_=>False:=by
 have j:(fD f69).ntmps=26:=by kernel_rfl
 have k:(#[x0,ptr bb,ptr a,ptr b,c]:Array Value)++Array.replicate ((fD f69).ntmps-(#[x0,ptr bb,ptr a,ptr b,c]:Array Value).size) undef= #[x0,.pointer (some ⟨bb,0,none⟩),.pointer (some ⟨a,0,none⟩),.pointer (some ⟨b,0,none⟩),c,undef,undef,undef,undef,undef,undef,undef,undef,undef,undef,undef,undef,undef,undef,undef,undef,undef,undef,undef,undef,undef]:=by
  rw[j];simp only[ptr,List.size_toArray,adt,List.length_nil,Nat.reduceAdd,Nat.reduceSub,Array.replicate_succ,Array.replicate_zero,List.push_toArray,List.append_toArray,List.cons_append,List.nil_append]
 refine calls_of_wp jq kr ?_;rw[k];have h:=D6 D B bb a b r n x0 c w w (aab _ _) e i g f hb d
 with_reducible exact h
end Z
section
open Go.RowKit
def jN:prog.funcs.size=340:=by kernel_rfl
def OB (L):(patch L prog).funcs[340]? =some (iH 31 "alarm"):=by have h:=EA L prog;rw[jN]at h;exact h
def xK (L):(patch L prog).funcs[341]? =some (gK 37 "alarm2"):=by have h:=Cy L prog;rw[jN]at h;exact h
def z8 (L):(patch L prog).funcs[342]? =some (iH 47 "alarm3"):=by have h:=Cx L prog;rw[jN]at h;exact h
def sF (P)(t)(v)(w):Sem.run P (Instr.panic (.iface t v)) w=.halt (.panic (.iface t v)) w:=by simp[Instr.panic,goPanic]
def zk (x:Array Value):Value:=x.getD 0 undef
def raised (t:TypeId)(v:Value):List PanicEntry:=[{v:=.iface t v,recovered:=false}]
def BI (L)(x)(w):Calls (patch L prog) 340 x w λe w'=>e=.panicked (raised 31 (zk x))/\w'=w:=by
 have hp:=sF (patch L prog);obtain⟨l⟩:=x;rcases l with _|⟨v,_|⟨u,l⟩⟩
 .refine calls_of_wp (OB L) rfl ?_
  simp only[iH,bg];go_wp2_with fail
  all_goals exact⟨rfl,rfl,rfl⟩
 .refine calls_of_wp (OB L) rfl ?_
  simp only[iH,bg];go_wp2_with fail
  all_goals exact⟨rfl,rfl,rfl⟩
 .refine calls_of_wp (OB L) rfl ?_
  simp only[iH,bg];have e:2-(Array.mk (v::u::l)).size=0:=by simp
  rw[e];simp only[Array.replicate_zero,ac4];go_wp2_with fail
  all_goals exact⟨rfl,rfl,rfl⟩
def zm (L)(x)(w):Calls (patch L prog) 342 x w λe w'=>e=.panicked (raised 47 (zk x))/\w'=w:=by
 have hp:=sF (patch L prog);obtain⟨l⟩:=x;rcases l with _|⟨v,_|⟨u,l⟩⟩
 .refine calls_of_wp (z8 L) rfl ?_
  simp only[iH,bg];go_wp2_with fail
  all_goals exact⟨rfl,rfl,rfl⟩
 .refine calls_of_wp (z8 L) rfl ?_
  simp only[iH,bg];go_wp2_with fail
  all_goals exact⟨rfl,rfl,rfl⟩
 .refine calls_of_wp (z8 L) rfl ?_
  simp only[iH,bg];have e:2-(Array.mk (v::u::l)).size=0:=by simp
  rw[e];simp only[Array.replicate_zero,ac4];go_wp2_with fail
  all_goals exact⟨rfl,rfl,rfl⟩
def OZ (P)(t)(v)(w):Sem.run P (Instr.box t v) w=.ok (.pointer (some ⟨w.heap.size,0,none⟩)) (w.alloc (.cells v.cells t)):=by
 simp[Instr.box,newVar,newRow,newObj,Sem.run]
def rV (L)(x)(w):Calls (patch L prog) 341 x w λe w'=>e=.panicked (raised 37 (.pointer (some ⟨w.heap.size,0,none⟩)))/\w'=w.alloc (.cells (zk x).cells 37):=by
 have hp:=sF (patch L prog);obtain⟨l⟩:=x;rcases l with _|⟨v,_|⟨u,_|⟨t,l⟩⟩⟩
 .refine calls_of_wp (xK L) rfl ?_
  simp only[gK,bg];go_wp2_with fail
  all_goals exact⟨rfl,rfl,rfl⟩
 .refine calls_of_wp (xK L) rfl ?_
  simp only[gK,bg];go_wp2_with fail
  all_goals first|exact⟨rfl,rfl,rfl⟩|(refine⟨rfl,rfl,?_⟩;cases v<;>first|rfl|(exfalso;simp_all))
 .refine calls_of_wp (xK L) rfl ?_
  simp only[gK,bg];go_wp2_with fail
  all_goals first|exact⟨rfl,rfl,rfl⟩|(refine⟨rfl,rfl,?_⟩;cases v<;>first|rfl|(exfalso;simp_all))
 .refine calls_of_wp (xK L) rfl ?_
  simp only[gK,bg];have e:3-(Array.mk (v::u::t::l)).size=0:=by simp
  rw[e];simp only[Array.replicate_zero,ac4];go_wp2_with fail
  all_goals first|exact⟨rfl,rfl,rfl⟩|(refine⟨rfl,rfl,?_⟩;cases v<;>first|rfl|(exfalso;simp_all))
end
section
open Go
section
variable {P Q:Program}{K:Nat->Prop}{st:Prop}{p:Rel st}{C:iG}
def RJ (R:Value->World->Prop)(A:List PanicEntry->World->Prop):Ending->World->Prop
 |.returned v,w=>R v w
 |.panicked ch,w=>A ch w
 |.outgrown,_=>False
def Nf {fr}{w'}{e}(hl:fr.leaving P w' e)(he:e≠.outgrown):∀(n:Nat) (a x:Frame) (cs:List Frame) (w2:World),runN P (n+1) (lone fr [stop P] w')≠.next (lone a (x::cs) w2):=by
 intro n a x cs w2 h
 have hs:∃c,step P (lone fr [stop P] w')=.next (lone c [] w')/\∃o,step P (lone c [] w')=.ended o w':=by
  cases e with
  |returned v=>exact⟨_,step_leave_returned hl,_,step_lone_ended rfl⟩
  |panicked ch=>exact⟨_,step_leave_panicked hl,ui ch w'⟩
  |outgrown=>exact absurd rfl he
 obtain⟨c,d,o,b⟩:=hs;simp only[runN,d]at h;cases n with
 |zero=>
  simp only[runN,Stepped.next.injEq]at h;simp[lone]at h
 |succ n=>
  simp only[runN,b]at h;cases h
def LW {R}{A}{J}{f}{x}{w1 w'}{ZJ}{fr}{e}{d}
 (m:Calls P f x w1 λe w'=>∃ch,e=.panicked ch/\(A ch w'->J))(has:ZJ≠[])(k:∀y∈ZJ,y.mode=.run/\y.defers=[]/\∃fn,P.funcs[y.fn]? =some fn)
 (l:runN P d (lone (Frame.enter P f x .normal) (ZJ++[stop P]) w1)=.next (lone fr [stop P] w'))(hl:fr.leaving P w' e)(hR:RJ R A e w'):J:=by
 obtain⟨w,w2,g,⟨ch,rfl,himp⟩,hc,_,a⟩:=m (ZJ++[stop P]);obtain⟨b,o⟩:∃n,runN P n (lone (Frame.enter P f x .normal) (ZJ++[stop P]) w1)=.next (lone g (ZJ++[stop P]) w2):=hc;have c:e≠.outgrown:=λh=>by rw[h]at hR;exact hR
 by_cases hd:b<=d
 .obtain⟨d',rfl⟩:∃d',d=b+d':=⟨d-b,by omega⟩
  rw[runN_add,o]at l;obtain⟨p,q,r,i⟩:=jU d' g ZJ w2 ⟨a.1,a.2.1,a.2.2,k⟩ _ l;simp only[lone,Machine.mk.injEq]at r;obtain⟨rfl,t,_⟩:=r;have s:({frame:=fr,callers:=[stop P],status:=.running,dying:=none}:Goroutine)={frame:=p,callers:=q,status:=.running,dying:=none}:=by simpa using t
  cases s;cases e with
  |returned v=>rw[hl.1]at i;cases i
  |outgrown=>exact absurd rfl c
  |panicked u=>
   rw[hl.1]at i;cases i;exact himp hR
 .exfalso
  obtain⟨j,rfl⟩:∃j,b=d+(j+1):=⟨b-d-1,by omega⟩;rw[runN_add,l]at o;cases ZJ with
  |nil=>exact has rfl
  |cons y ys=>exact Nf hl c j _ _ _ _ o
def zx (P:Program)(C:iG)(R:Value->World->Prop)(J:FuncId->Array Value->World->Prop)(X:Frame->List Frame->World->Prop)(a:Frame)(ZJ:List Frame)(w:World):Prop:=
 L6 P R a ZJ w\/(¬(a.mode=.returning/\ZJ=[])/\∀T,(∃a' as' w' es,stepG P true (df a (ZJ++[stop P])) (ay w T)=.go (df a' (as'++[stop P])) w' es/\(a'.mode=.run\/a'.mode=.returning)/\X a' as' w')\/
    ∃f x as' w' es,f∈C.sp/\stepG P true (df a (ZJ++[stop P])) (ay w T)=.go (df (Frame.enter P f x .normal) (as'++[stop P])) w' es/\J f x w'/\as'≠[]/\∀y∈as',y.mode=.run/\y.defers=[]/\∃fn,P.funcs[y.fn]? =some fn)
def bI (P:Program)(C:iG)(R:Value->World->Prop)(J:FuncId->Array Value->World->Prop)(a:Frame)(ZJ:List Frame)(w:World):Prop:=
 ∀X:Frame->List Frame->World->Prop,(∀a ZJ w,zx P C R J X a ZJ w->X a ZJ w)->X a ZJ w
def zx.mono {R}{J}{X Y}(b:∀a ZJ w,X a ZJ w->Y a ZJ w){a}{ZJ}{w}(h:zx P C R J X a ZJ w):zx P C R J Y a ZJ w:=
 h.imp id fun⟨d,c⟩=>⟨d,λT=>(c T).imp (fun⟨a',as',w',es,g,f,e⟩=>⟨a',as',w',es,g,f,b _ _ _ e⟩) id⟩
def bI.of {R}{J}{a}{ZJ}{w}(h:zx P C R J (bI P C R J) a ZJ w):bI P C R J a ZJ w:=λX b=>
 b _ _ _ (h.mono λ_ _ _ h=>h X b)
def bI.step {R}{J}{a}{ZJ}{w}(h:bI P C R J a ZJ w):zx P C R J (bI P C R J) a ZJ w:=
 h (λa ZJ w=>zx P C R J (bI P C R J) a ZJ w) λ_ _ _ b=>b.mono λ_ _ _ h=>bI.of h
def L9 (st:Prop)(C:iG)(P:Program)(K:Nat->Prop)(R:Value->World->Prop)(J:FuncId->Array Value->World->Prop)(s:qC):Prop:=Oy st C P K s/\¬bI P C R J s.a s.ZJ s.w
def Ot (st:Prop)(C:iG)(P:Program)(K:Nat->Prop)(R:Value->World->Prop)(J:FuncId->Array Value->World->Prop)(s:qC)(T:Nat->Question->Nat)(s':qC):Prop:=
 s.w.drawn<=s'.w.drawn/\L9 st C P K R J s'/\∀b,(∀j q,s.w.drawn<=j->j<s'.w.drawn->b j q=T j q)->∃es,Tf P s b=.go (df s'.a (s'.ZJ++[stop P])) (ay s'.w b) es
def UT (C:iG)(P:Program)(J:FuncId->Array Value->World->Prop)(s:qC)(T:Nat->Question->Nat):Prop:=
 ∀a,(∀j q,s.w.drawn<=j->a j q=T j q)->∃f x as' w' es,f∈C.sp/\Tf P s a=.go (df (Frame.enter P f x .normal) (as'++[stop P])) w' es/\¬J f x w'/\as'≠[]/\∀y∈as',y.mode=.run/\y.defers=[]/\∃fn,P.funcs[y.fn]? =some fn
def Jn (M:dM P)(hp:aH C P Q)(I:Twin P Q)(U:AB C st K)(F:∀o,C.mark o=false){R}{J}(hJ:∀f x w T,J f x (ay w T)->J f x w){s}(h:L9 st C P K R J s):
 Fin s\/∃T,Qr P s T\/UT C P J s T\/∃s',Ot st C P K R J s T s':=by
 classical
 obtain⟨⟨q,b,bs,u,hl,hw⟩,hT⟩:=h
 by_cases hf:Fin s
 .exact .inl hf
 refine .inr ?_;have O:s.a.mode=.returning->s.ZJ≠[]:=λh1 h2=>hf ⟨h1,h2⟩
 obtain⟨T,S⟩:=Classical.not_forall.1 λh=>hT (bI.of (.inr ⟨hf,h⟩))
 refine⟨T,?_⟩;have l:=hw.kv T (λj q=>T (s.w.drawn+(j-u.drawn)) q);have N:=WR.follow (w:=s.w) (u:=u) T;have hA:=pY (m:=true) (m':=true) (cs:=[stop P]) (ds:=[]) M hp I U hl (λ_ ⟨_,_,_,_,o,_,_,_,h⟩=>by rw[F o]at h;cases h) O l N;have H:=xe (m:=true) (cs:=[stop P]) M hp I U hl O l N;rcases hA with hA|⟨L,a',as',W,A,w',u',es,new,i,z,p,B,Y,hg,_⟩|⟨L,f,x,y,a',as',W,A,w',u',es,new,Z,n,i,z,X,r,_⟩
 .refine .inl λk c=>?_
  rcases H with⟨g,w',es,i,d1,_,z⟩|⟨o,w',es,i,d1,_,z⟩
  .have:=z k λj q x _=>c j q x
   rw[iY]at this;rcases hA with⟨o,w2,d,e⟩|⟨fr,ZJ,w2,d,e,hd⟩
   .cases i.symm.trans e
   .cases i.symm.trans e
    exact .inr ⟨fr,ZJ,_,_,this,hd⟩
  .have:=z k λj q x _=>c j q x
   rw[iY]at this;exact .inl ⟨_,_,_,this⟩
 .refine .inr (.inr ⟨⟨a',as',w'⟩,?_⟩)
  have t:L9 st C P K R J ⟨a',as',w'⟩:=⟨⟨L,W,A,u',p,B⟩,λD=>S (.inl ⟨a',as',w',es,i,p.mode,D⟩)⟩;rcases H with⟨g,w2,d,e,d1,_,v⟩|⟨o,w2,d,e,d1,_,v⟩
  .cases i.symm.trans e
   exact⟨d1,t,λk c=>⟨es,v k c⟩⟩
  .cases i.symm.trans e
 .refine .inr (.inl λk c=>?_)
  have E:¬J f x w':=λG=>S (.inr ⟨f,x,a'::as',w',es,n,by simpa using i,G,by simp,r.left⟩)
  rcases H with⟨g,w2,d,e,d1,_,v⟩|⟨o,w2,d,e,d1,_,v⟩
  .cases i.symm.trans e
   have V:=v k λj q x _=>c j q x
   rw[iY]at V;refine⟨f,x,a'::as',_,es,n,V,λG=>E (hJ _ _ _ _ G),by simp,r.left⟩
  .cases i.symm.trans e
def wV (hz:dM P)(hp:aH C P Q)(tw:Twin P Q)(hE:AB C st K)(ο:∀o,C.mark o=false){R}{A}{J}(hJ:∀f x w T,J f x (ay w T)->J f x w)
 (hA:∀ch w,A ch w->∃e∈ch,¬EJ e.v)(σ:∀f x w,f∈C.sp->Calls P f x w λe w'=>∃ch,e=.panicked ch/\(A ch w'->J f x w)){f}{args}{w}
 (hc:Oy st C P K ⟨Frame.enter P f args .normal,[],w⟩)(h:∀T,Calls P f args (ay w T) (RJ R A)):bI P C R J (Frame.enter P f args .normal) [] w:=by
 classical
 apply Classical.byContradiction;intro hT
 have z:∀s:qC,∃x:(Nat->Question->Nat)×qC,L9 st C P K R J s->Fin s\/Qr P s x.1\/UT C P J s x.1\/Ot st C P K R J s x.1 x.2:=by
  intro s
  by_cases hb:L9 st C P K R J s
  .rcases Jn hz hp tw hE ο hJ hb with l|⟨T,l|l|⟨s',l⟩⟩
   .exact⟨⟨λ_ _=>0,s⟩,λ_=>.inl l⟩
   .exact⟨⟨T,s⟩,λ_=>.inr (.inl l)⟩
   .exact⟨⟨T,s⟩,λ_=>.inr (.inr (.inl l))⟩
   .exact⟨⟨T,s'⟩,λ_=>.inr (.inr (.inr l))⟩
  .exact⟨⟨λ_ _=>0,s⟩,λh=>absurd h hb⟩
 obtain⟨F,hF⟩:=Classical.axiomOfChoice z
 let S:qC:=⟨Frame.enter P f args .normal,[],w⟩
 let c:Nat->qC:=iter (λs=>(F s).2) S
 let N:Nat->Prop:=λk=>Ot st C P K R J (c k) (F (c k)).1 (c (k+1))
 have G:∀k,(∀i,i<k->N i)->L9 st C P K R J (c k):=by
  intro k I;cases k with
  |zero=>exact⟨hc,hT⟩
  |succ k=>exact(I k (Z4 _)).2.1
 have W:∀k i,i<=k->(∀j,j<k->N j)->(c i).w.drawn<=(c k).w.drawn:=by
  intro k
  induction k with
  |zero=>intro i D _;obtain rfl:i=0:=by omega
         exact ZL _
  |succ k ih=>
   intro i D L
   by_cases ρ:i=k+1
   .rw[ρ];exact ZL _
   .exact ZP (ih i (by omega) λj hj=>L j (by omega)) (L k (Z4 _)).1
 let At:Nat->Nat->Prop:=λj k=>(∀i,i<k->N i/\(c (i+1)).w.drawn<=j)/\(N k->j< (c (k+1)).w.drawn)
 have τ:∀j k k',At j k->At j k'->k=k':=by
  intro j k k' l H;rcases Nat.lt_trichotomy k k' with Y|heq|Y
  .have:=H.1 k Y
   have:=l.2 this.1;omega
  .exact heq
  .have:=l.1 k' Y
   have:=H.2 this.1;omega
 let r:Nat->Question->Nat:=λj q=>if hx:∃k,At j k then(F (c (Classical.choose hx))).1 j q else 0
 have ζ:∀j q k,At j k->r j q=(F (c k)).1 j q:=by
  intro j q k I;have hx:∃k,At j k:=⟨k,I⟩;have e:=τ j _ _ (Classical.choose_spec hx) I;show(if hx:∃k,At j k then(F (c (Classical.choose hx))).1 j q else 0)=_
  rw[dif_pos hx,e]
 have ε:∀k j,(∀i,i<k->N i)->(c k).w.drawn<=j->(N k->j< (c (k+1)).w.drawn)->At j k:=by
  intro k j L hj I;exact⟨λi D=>⟨L i D,ZP (W k (i+1) (by omega) L) hj⟩,I⟩
 have M:∀k,(∀i,i<k->N i)->runN P k (lone S.a (S.ZJ++[stop P]) (ay S.w r))=.next (lone (c k).a ((c k).ZJ++[stop P]) (ay (c k).w r)):=by
  intro k
  induction k with
  |zero=>intro _;rfl
  |succ k ih=>
   intro L;have I:=L k (Z4 _);obtain⟨es,e1⟩:=I.2.2 r λj q x y=>ζ j q k (ε k j (λi D=>L i (by omega)) x λ_=>y)
   rw[runN_add,ih λi D=>L i (by omega)]
   have e2:step P (lone (c k).a ((c k).ZJ++[stop P]) (ay (c k).w r))=.next (lone (c (k+1)).a ((c (k+1)).ZJ++[stop P]) (ay (c (k+1)).w r)):=by
        refine step_lone_go ?_;have O:stepG P true (df (c k).a ((c k).ZJ++[stop P])) (ay (c k).w r)=_:=e1;rw[O];rfl
   simp only[runN,e2]
 obtain⟨e,w',fr,hR,t,ψ,g⟩:=h r [stop P];have U:e≠.outgrown:=λh=>by rw[h]at hR;exact hR
 obtain⟨n,V⟩:∃n,runN P n (lone S.a (S.ZJ++[stop P]) (ay S.w r))=.next (lone fr [stop P] w'):=by
  cases e with
  |returned v=>exact t
  |panicked ch=>exact t
  |outgrown=>exact absurd rfl U
 have key:(∀i,i<n->N i)\/∃k,k<n/\(∀i,i<k->N i)/\¬N k:=by
  have:∀m,m<=n->(∀i,i<m->N i)\/∃k,k<n/\(∀i,i<k->N i)/\¬N k:=by
   intro m
   induction m with
   |zero=>intro _;exact .inl λi D=>absurd D (ZV _)
   |succ m ih=>
    intro hm;rcases ih (by omega)with l|l
    .by_cases η:N m
     .refine .inl λi D=>?_
      rcases ac7.1 D with D|rfl
      .exact l i D
      .exact η
     .exact .inr ⟨m,by omega,l,η⟩
    .exact .inr l
  exact this n (ZL _)
 rcases key with p|⟨k,I,p,β⟩
 .have e1:=M n p
  rw[V]at e1
  have e2:fr=(c n).a/\[stop P]=(c n).ZJ++[stop P]/\w'=ay (c n).w r:=by
   simp only[lone,Stepped.next.injEq,Machine.mk.injEq]at e1;obtain⟨x1,x2,_⟩:=e1;have x3:({frame:=fr,callers:=[stop P],status:=.running,dying:=none}:Goroutine)={frame:=(c n).a,callers:=(c n).ZJ++[stop P],status:=.running,dying:=none}:=by simpa using x2
   simp only[Goroutine.mk.injEq]at x3;exact⟨x3.1,x3.2.1,x1⟩
  obtain⟨rfl,O,rfl⟩:=e2
  have e4:(c n).ZJ=[]:=by
   cases hs:(c n).ZJ with
   |nil=>rfl
   |cons x xs=>
    rw[hs]at O;have:=congrArg List.length O;simp at this
  obtain⟨⟨q,b,bs,u,hl,_⟩,κ⟩:=G n p;cases e with
  |outgrown=>exact U rfl
  |panicked ch=>
   have:=g.1;rcases hl.mode with l|l<;> · rw[l]at this;cases this
  |returned v=>
   obtain⟨X,δ,Z,φ,γ,α⟩:=g;exact κ (bI.of (.inl ⟨X,e4,⟨δ,Z⟩,φ,r,v,γ,α,hR⟩))
 .have e1:=M k p
  obtain⟨d,rfl⟩:∃d,n=k+(d+1):=⟨n-k-1,by omega⟩;rw[runN_add,e1]at V;obtain⟨⟨q,b,bs,u,hl,_⟩,_⟩:=G k p;have E:=λj q x=>ζ j q k (ε k j p x λhh=>absurd hh β)
  have hgo:∀{B:Frame} {as':List Frame} {w1:World} {es:Array Event},Tf P (c k) r=.go (df B (as'++[stop P])) w1 es->runN P d (lone B (as'++[stop P]) w1)=.next (lone fr [stop P] w'):=fun{B as' w1 es} H=>by
   have:step P (lone (c k).a ((c k).ZJ++[stop P]) (ay (c k).w r))=.next (lone B (as'++[stop P]) w1):=by
        refine step_lone_go ?_;have O:stepG P true (df (c k).a ((c k).ZJ++[stop P])) (ay (c k).w r)=_:=H;rw[O];rfl
   simpa only[runN,this] using V
  rcases hF (c k) (G k p)with l|l|l|l
  .have ξ:=l.1
   rw[l.2]at V;exact oW ξ hl.fr.da hl.fr.ka hl.fr.known d _ _ _ _ (by simp) V
  .have hx:=l r E
   rcases hx with⟨o,w1,es,H⟩|⟨B,as',w1,es,H,ω,μ,hd⟩
   .have:step P (lone (c k).a ((c k).ZJ++[stop P]) (ay (c k).w r))=.ended o w1:=by
     refine step_lone_ended ?_;have O:stepG P true (df (c k).a ((c k).ZJ++[stop P])) (ay (c k).w r)=_:=H;rw[O];rfl
    simp only[runN,this]at V;cases V
   .obtain⟨υ,χ,e4,z⟩:=jU d B as' w1 hd _ (hgo H)
    simp only[lone,Machine.mk.injEq]at e4;have x3:({frame:=fr,callers:=[stop P],status:=.running,dying:=none}:Goroutine)={frame:=υ,callers:=χ,status:=.running,dying:=none}:=by simpa using e4.2.1
    cases x3;cases e with
    |outgrown=>exact U rfl
    |returned v=>rw[g.1]at z;cases z
    |panicked ch=>
     rw[g.1]at z;cases z;obtain⟨en,h3,h4⟩:=hA _ _ hR;exact h4 (μ en h3)
  .obtain⟨f',x,as',w1,es,θ,H,ν,has,ι⟩:=l r E
   exact ν (LW (σ f' x w1 θ) has ι (hgo H) g hR)
  .exact β l
end
end
section
open Go Go.Conc Go.ConcN
section
variable {st:Prop}{P Q:Program}{K:Nat->Prop}{C C0:iG}{R:Value->World->Prop}{J:FuncId->Array Value->World->Prop}
def Down (P:Program)(C0:iG):Nat->qC->qC->Prop
 |0,s,s'=>s=s'
 |n+1,s,s'=>¬(s.a.mode=.returning/\s.ZJ=[])/\∃T s1 es,stepG P true (df s.a (s.ZJ++[stop P])) (ay s.w T)=.go (df s1.a (s1.ZJ++[stop P])) s1.w es/\(∀f x,f∈C0.sp->s1.a≠Frame.enter P f x .normal)/\Down P C0 n s1 s'
def Om (C:iG)(P Q:Program)(K:Nat->Prop)(Iv:Rel st->World->Prop)(s:qC)(m:Machine)(t:Trace):Prop:=
 ∃(p:Rel st) (b:Frame) (bs:List Frame) (gs:Array Goroutine) (u:World) (sl:Option (Nat×Nat)) (q:Nat->Nat) (S:Nat->Prop),m=crowd gs u sl/\gs[0]? =some (df b bs)/\Live C P p s.a s.ZJ b bs/\WR P.globals.size K p s.w u/\ni Q S gs u.heap.size t q/\(∀b c,p b c->¬S c)/\Iv p u
def Ends (Q:Program)(Post:Value->World->Prop)(m:Machine)(t:Trace):Prop:=
 ∃N last o w' a,runNT Q (N+1) m t=(.ended o w',a)/\runN Q N m=.next last/\step Q last=.ended o w'/\Conc.Good Q Post last o w' a
def Ends.run {Post}{m m'}{t a}{n}(h:Ends Q Post m' a)(b:runNT Q n m t=(.next m',a)):Ends Q Post m t:=by
 obtain⟨N,last,o,w',t2,f,e,d,c⟩:=h;refine⟨n+N,last,o,w',t2,?_,?_,d,c⟩
 .rw[Nat.add_assoc,runNT_add,b];exact f
 .rw[runN_add,<-runNT_fst Q n m t,b];exact e
def IX {S}{q:Rel st}{w' u'}{G}(hw:WR G K q w' u')(g:∀b c,q b c->¬S c){e}(he:vG K q e):UL S u'.heap.size e:=by
 rcases he with⟨c,b,hl,hp,hs,_⟩|⟨m,hm,rfl⟩
 .have hc:=(hw.lt hp).2
  obtain⟨loc,wr,h⟩:=e;simp only at hs hl;subst hs;rcases hl with rfl|⟨a,rfl,rfl⟩
  .refine⟨λx hx=>?_,by simp,by simp,?_⟩
   .rintro⟨a,d,f⟩
    simp only[MemAct.ofEvent,MemAct.touch?,ac2]at hx;subst hx;cases d
   .simp only[MemAct.ofEvent,MemAct.low];exact hc
  .refine⟨λx hx=>?_,by simp,by simp,?_⟩
   .rintro⟨a',d,f⟩
    simp only[MemAct.ofEvent,MemAct.touch?,ac2]at hx;subst hx;cases d;exact g _ _ hp f
   .simp only[MemAct.ofEvent,MemAct.low];exact hc
 .cases m<;>first
   |exact hm.elim
   |(refine⟨λx hx=>?_,by simp,by simp,?_⟩
     .simp[MemAct.ofEvent,MemAct.touch?]at hx
     .simp[MemAct.ofEvent,MemAct.low])
def WR.at {G}{q:Rel st}{w u}(h:WR G K q w u)(d):WR G K q w (u.at d):=⟨h.fit,h.rows,h.qp,h.low,h.BB⟩
def R5 {Iv:Rel st->World->Prop}(ζ:∀p u d,Iv p u->Iv p (u.at d))(τ:∀p q u u',Iv p u->dE K p q u u'->Iv q u')(hz:dM P)(hp:aH C P Q)(tw:Twin P Q)(χ:C.sd=false\/¬st)(Ψ:∀o,C.mark o=false)(ο:∀f,f∈C.sp->f∉C0.sp)(ξ:∀f x,(Frame.enter P f x .normal).fn=f)(Y1:∀f x,(Frame.enter P f x .normal).mode=.run)
 (Ξ:∀f x,f∈C0.sp->¬aU C P (Frame.enter P f x .normal).fn (Frame.enter P f x .normal).todo)(Y4:C.jh=true)(hdd:C.dd=[])(Ω:C.kd=.normal)(ψ:∀i,C.pv i=false)(Δ:Q.inits.idxOf? C.root=none)
 (X:∀fn,P.funcs[C.root]? =some fn->∃I,Q.funcs[C.root]? =some I/\I.results=fn.results){Post}(α:∀p v v' w T u,R v (ay w T)->VR p v v'->WR P.globals.size K p (ay w T) u->Iv p u->Post v' u)(Z:∀fn,P.funcs[C.root]? =some fn->∃k,fn.results= #[.tmp k])
 (η:∀f x y a ZJ b bs w u gs sl t q S p,f∈C.sp->bI P C0 R J (Frame.enter P f x .normal) (a::ZJ) w->(aF (VR p) x y/\Jw f x.size)->CR C P p (a::ZJ) (b::bs)->WR P.globals.size K p w u->ni Q S gs u.heap.size t q->
  gs[0]? =some (df (Frame.enter Q f y .normal) (b::bs))->(∀b c,p b c->¬S c)->Iv p u->∃N m' t' n s',runNT Q N (crowd gs u sl) t=(.next m',t')/\Down P C0 n ⟨Frame.enter P f x .normal,a::ZJ,w⟩ s'/\Om C P Q K Iv s' m' t')
 {a}{ZJ}{w}(ht:bI P C0 R J a ZJ w):∀m t,Om C P Q K Iv ⟨a,ZJ,w⟩ m t->Ends Q Post m t:=by
 classical
 let Y:qC->Prop:=λs=>∀n s',Down P C0 n s s'->bI P C0 R J s'.a s'.ZJ s'.w/\∀m t,Om C P Q K Iv s' m t->Ends Q Post m t
 suffices h:Y ⟨a,ZJ,w⟩from(h 0 _ rfl).2
 refine ht (λa ZJ w=>Y ⟨a,ZJ,w⟩) ?_;intro a ZJ w O;have hT:=bI.of (O.mono λa ZJ w h=>(h 0 ⟨a,ZJ,w⟩ rfl).1);intro n s' hd;cases n with
 |succ n=>
  obtain⟨Γ,T,s1,es,B,ω,hd⟩:=hd;rcases O with⟨h1,h2,_⟩|⟨_,O⟩
  .exact absurd ⟨h1,h2⟩ Γ
  .rcases O T with⟨a',as',w',WW,l,_,L⟩|⟨f,x,as',w',WW,hf,l,_,_⟩
   .rw[B]at l
    simp only[GStep.go.injEq,Goroutine.mk.injEq]at l;obtain⟨⟨e3,A,_⟩,e5,_⟩:=l;have e6:=adw A;obtain⟨a1,ZH,w1⟩:=s1;subst e3 e5 e6;exact L n s' hd
   .rw[B]at l
    simp at l;exact absurd l.1.1 (ω f x hf)
 |zero=>
  cases hd;refine⟨hT,?_⟩;rintro m t ⟨p,b,bs,gs,u,sl,q,S,rfl,h0,hl,hw,hF,hS,ε⟩;rcases O with⟨h1,h2,_,fn,T,v,f1,f2,f3⟩|⟨Θ,O⟩
  .
   subst h2;cases bs with
   |cons x xs=>exact hl.cs.elim
   |nil=>
   obtain⟨V4,Y3,V3⟩:=hl.deep.2 rfl;have σ:=V3 Y4;have Φ:=hl.fr.mode.trans h1;have kb:=Y3.trans Ω;have ρ:=hl.fr.fn.trans σ;rw[σ]at f1;obtain⟨I,g1,g2⟩:=X fn f1;have κ:results I b.tmps=results fn b.tmps:=(by unfold results;rw[g2]);obtain⟨k,hk⟩:=Z fn f1
   have hval:∀(P:Program) (x:Array Value) (w:World),(results fn x).runT P w #[]=(.ok (x.getD k undef) w,#[]):=λP x w=>by
        rw[Sem.runT_eq,results_tmp hk,events_results_tmp hk]
   have hv:v=a.tmps.getD k undef:=by
        rw[<-Sem.runT_fst _ _ _ #[],hval]at f2;cases f2;rfl
   refine WY (B':=u.heap.size) hF h0 rfl λd=>⟨b.tmps.getD k undef,u.at d,seen Q b.fn #[],?_,λe he=>?_,ZL _,α p v _ w T (u.at d) f3 (by rw[hv];exact(hl.fr.tmps.get k).resolve_left λh=>by rw[ψ k]at h;cases h.2) ((hw.at d).kv T (u.at d).tape) (ζ _ _ _ ε)⟩
   .have ν:Q.inits.idxOf? b.fn=none:=by rw[ρ];exact Δ
    have Zc:Q.funcs[b.fn]? =some I:=(by rw[ρ];exact g1);simp only[stepG,unwind,Φ,V4,hdd,Zc,κ,hval,doReturn,kb,ν,GStep.after];simp
   .exact absurd (jF e he) (by simp)
  .
   have hr:=λh1 h2=>Θ ⟨h1,h2⟩
   obtain⟨N,υ,a',u',ι,t',q',B',r1,r2,r3,⟨hB,r4⟩,r5⟩:=MQ (sl:=sl) (Stop:=λa' u' B'=>B'=u'.heap.size/\
    ((∃s1:qC,Y s1/\∃j b' F,a'=df b' F/\Live C P j s1.a s1.ZJ b' F/\WR P.globals.size K j s1.w u'/\(∀b c,j b c->¬S c)/\Iv j u')\/
      ∃f x y a2 D w2 b2 E j,f∈C.sp/\Y ⟨Frame.enter P f x .normal,a2::D,w2⟩/\a'=df (Frame.enter Q f y .normal) (b2::E)/\(aF (VR j) x y/\Jw f x.size)/\CR C P j (a2::D) (b2::E)/\WR P.globals.size K j w2 u'/\(∀b c,j b c->¬S c)/\Iv j u')) hF h0 rfl λd=>by
        have g:∀{j:Rel st} {u':World},dE K p j (u.at d) u'->∀b c,j b c->¬S c:=fun{j u'} G b c hb hs=>by
         by_cases μ:p b c
         .exact hS b c μ hs
         .have:=G.fresh b c hb μ
          have:=hF.sh c hs;have e:(u.at d).heap.size=u.heap.size:=rfl;omega
        obtain⟨T',hA⟩:=uj (m:=true) (m':=true) (cs:=[stop P]) (ds:=[]) hz hp tw χ hl (λ_ ⟨_,_,_,_,o,_,_,_,h⟩=>by rw[Ψ o]at h;cases h) hr (hw.at d);rcases hA with hA|⟨j,a2,D,b',F,w2,u',Zd,new,l,e3,U,r,φ,G,he⟩|⟨j,f,x,y,a2,D,b2,E,w2,u',Zd,new,Y0,M,l,e3,W,γ,r,φ,G,he⟩
        .exfalso
         rcases O T' with⟨a',as',w',es,B,z,_⟩|⟨f,x,as',w',es,hf,B,_⟩
         .rcases hA with⟨o,w3,θ,A⟩|⟨fr,Zg,w3,θ,A,ch,_,V,_⟩
          .rw[B]at A;cases A
          .rw[B]at A
           simp at A;rw[A.1.1,V]at z;rcases z with h|h<;>cases h
         .rcases hA with⟨o,w3,θ,A⟩|⟨fr,Zg,w3,θ,A,ch,_,V,_⟩
          .rw[B]at A;cases A
          .rw[B]at A
           simp at A;rw[<-A.1.1,Y1]at V;cases V
        .rw[List.append_nil]at e3
         refine⟨_,u',new,u'.heap.size,e3,G.size,λe β=>IX r (g G) (he e β),rfl,.inl ?_⟩;rcases O T' with⟨a',as',w',es,B,z,L⟩|⟨f,x,as',w',es,hf,B,_⟩
         .rw[B]at l
          simp only[GStep.go.injEq,Goroutine.mk.injEq]at l;obtain⟨⟨A,e5,_⟩,e6,_⟩:=l;have e7:=adw e5;subst A e6 e7;exact⟨⟨_,_,_⟩,L,j,b',F,by simp,U,r,g G,τ _ _ _ _ (ζ _ _ d ε) G⟩
         .exfalso
          rw[B]at l;simp at l;have:=U.fr.plain;rw[<-l.1.1]at this;exact Ξ f x hf this
        .rw[List.append_nil]at e3
         refine⟨_,u',new,u'.heap.size,e3,G.size,λe β=>IX r (g G) (he e β),rfl,.inr ?_⟩;rcases O T' with⟨a',as',w',es,B,z,L⟩|⟨f',x',as',w',es,hf,B,_⟩
         .rw[B]at l
          simp only[GStep.go.injEq,Goroutine.mk.injEq]at l;obtain⟨⟨A,e5,_⟩,e6,_⟩:=l;have e7:=adw e5;subst A e6 e7;exact⟨f,x,y,a2,D,_,b2,E,j,M,L,by simp,W,γ,r,g G,τ _ _ _ _ (ζ _ _ d ε) G⟩
         .exfalso
          rw[B]at l;simp at l;have:=congrArg Frame.fn l.1.1;rw[ξ,ξ]at this;rw[this]at hf;exact ο f M hf
   subst hB;rcases r4 with⟨s1,L,j,b',F,rfl,U,r,δ,H⟩|⟨f,x,y,a2,D,w2,b2,E,j,M,L,rfl,W,γ,r,δ,H⟩
   .exact((L 0 s1 rfl).2 _ _ ⟨j,b',F,υ,u',ι,q',S,rfl,r3,U,r,r5,δ,H⟩).run r1
   .obtain⟨N2,m2,t2,n2,s2,r6,r7,r8⟩:=η f x y a2 D b2 E w2 u' υ ι t' q' S j M (L 0 _ rfl).1 W γ r r5 r3 δ H
    exact(((L n2 s2 r7).2 _ _ r8).run r6).run r1
end
end
section
open Go
section
variable {P:Program}{C0:iG}{R:Value->World->Prop}{J:FuncId->Array Value->World->Prop}
def AP {a a'}{ZJ as'}{w w'}{es}(T)(h:bI P C0 R J a ZJ w)(hm:a.mode=.run)(g:∀f x,f∈C0.sp->a'≠Frame.enter P f x .normal)
 (hs:stepG P true (df a (ZJ++[stop P])) (ay w T)=.go (df a' (as'++[stop P])) w' es):bI P C0 R J a' as' w'/\(a'.mode=.run\/a'.mode=.returning):=by
 rcases h.step with c|⟨_,c⟩
 .rw[c.1]at hm;cases hm
 .rcases c T with⟨a2,e,w2,d,b,em,j⟩|⟨f,x,e,w2,d,hf,b,_⟩
  .rw[hs]at b
   simp only[GStep.go.injEq,Goroutine.mk.injEq]at b;obtain⟨⟨rfl,i,_⟩,rfl,_⟩:=b;rw[adw i];exact⟨j,em⟩
  .rw[hs]at b
   simp only[GStep.go.injEq,Goroutine.mk.injEq]at b;exact absurd b.1.1 (g f x hf)
def Ml {a a'}{ZJ as'}{w w'}{es}(T)(h:bI P C0 R J a ZJ w)(hm:a.mode=.run)(b:∀f x,f∈C0.sp->a'≠Frame.enter P f x .normal)
 (hs:stepG P true (df a (ZJ++[stop P])) (ay w T)=.go (df a' (as'++[stop P])) w' es):bI P C0 R J a' as' w':=(AP T h hm b hs).1
def oG (P:Program)(f:FuncId)(x:Array Value)(w:World):Prop:=
 ∃(k:Nat) (st:Nat->Frame) (wd:Nat->World),st 0=Frame.enter P f x .normal/\wd 0=w/\(∀d,d<k->(st d).mode=.run/\(∀f x,st (d+1)≠Frame.enter P f x .normal)/\∀main cs T,∃es,stepG P main (df (st d) cs) (ay (wd d) T)=.go (df (st (d+1)) cs) (ay (wd (d+1)) T) es)/\
  ∃ch,(st k).mode=.panicking ch/\(st k).defers=[]/\∃fn,P.funcs[(st k).fn]? =some fn
def oG.lZ {f}{x}{w}(h:oG P f x w)(ZJ):¬bI P C0 R J (Frame.enter P f x .normal) ZJ w:=by
 intro j;obtain⟨k,st,wd,g,a,b,ch,c,_⟩:=h
 have key:∀d,d<=k->bI P C0 R J (st d) ZJ (ay (wd d) w.tape)/\(1<=d->(st d).mode=.run\/(st d).mode=.returning):=by
  intro d
  induction d with
  |zero=>intro _;rw[g,a];exact⟨j,λh=>by omega⟩
  |succ d i=>
   intro hd;obtain⟨m1,m2,m3⟩:=b d (by omega);obtain⟨es,e⟩:=m3 true (ZJ++[stop P]) w.tape;have:=AP w.tape (i (by omega)).1 m1 (λf x _=>m2 f x) e;exact⟨this.1,λ_=>this.2⟩
 cases k with
 |zero=>rw[g]at c;cases c
 |succ k=>rcases(key (k+1) (ZL _)).2 (by omega)with h|h<;> · rw[c]at h;cases h
def oG.lost {f}{x}{w}(h:oG P f x w)(ZJ)(l:∀y∈ZJ,y.mode=.run/\y.defers=[]/\∃fn,P.funcs[y.fn]? =some fn){cs}{w'}{n}{fr}
 (i:runN P n (lone (Frame.enter P f x .normal) (ZJ++[stop P]) w)=.next (lone fr cs w')):fr.mode≠.returning:=by
 obtain⟨k,st,wd,A,j,c,ch,z,t,s⟩:=h
 have run:∀d,d<=k->runN P d (lone (Frame.enter P f x .normal) (ZJ++[stop P]) w)=.next (lone (st d) (ZJ++[stop P]) (ay (wd d) w.tape)):=by
  intro d
  induction d with
  |zero=>intro _;rw[A,j];rfl
  |succ d q=>
   intro hd;obtain⟨es,e⟩:=(c d (by omega)).2.2 true (ZJ++[stop P]) w.tape
   have o:step P (lone (st d) (ZJ++[stop P]) (ay (wd d) w.tape))=.next (lone (st (d+1)) (ZJ++[stop P]) (ay (wd (d+1)) w.tape)):=step_lone_go (by
        have D:stepG P true (df (st d) (ZJ++[stop P])) (ay (wd d) w.tape)=_:=e;rw[D];rfl)
   rw[runN_add,q (by omega)];simp only[runN,o]
 have same:∀{a b:Frame} {cs ds:List Frame} {u v:World},Stepped.next (lone a cs u)=Stepped.next (lone b ds v)->a=b:=fun{a b cs ds u v} e=>by
  simp only[Stepped.next.injEq]at e;simp only[lone,Machine.mk.injEq]at e;have p:({frame:=a,callers:=cs,status:=.running,dying:=none}:Goroutine)={frame:=b,callers:=ds,status:=.running,dying:=none}:=by simpa using e.2.1
  simp only[Goroutine.mk.injEq]at p;exact p.1
 intro g
 by_cases r:n<k
 .rw[run n (by omega)]at i
  have:=same i;rw[<-this,(c n r).1]at g;cases g
 .obtain⟨d,rfl⟩:∃d,n=k+d:=⟨n-k,by omega⟩
  rw[runN_add,run k (ZL _)]at i;obtain⟨m,E,C,o⟩:=jU d (st k) ZJ (ay (wd k) w.tape) ⟨z,t,s,l⟩ _ i
  have B:fr=m:=by
   have:=congrArg Stepped.next C;exact same this
  rw[B,o]at g;cases g
def Eg {a}{ZJ as'}{f}{x}{w w'}{es}(T)(h:bI P C0 R J a ZJ w)(hm:a.mode=.run)(hx:∀ZJ w,¬bI P C0 R J (Frame.enter P f x .normal) ZJ w)
 (k:∀f' c,Frame.enter P f' c .normal=Frame.enter P f x .normal->J f' c w'->J f x w')
 (hs:stepG P true (df a (ZJ++[stop P])) (ay w T)=.go (df (Frame.enter P f x .normal) (as'++[stop P])) w' es):J f x w':=by
 rcases h.step with d|⟨_,d⟩
 .rw[d.1]at hm;cases hm
 .rcases d T with⟨a2,i,w2,e,b,_,g⟩|⟨f',c,i,w2,e,hf,b,g,_⟩
  .rw[hs]at b
   simp only[GStep.go.injEq,Goroutine.mk.injEq]at b;obtain⟨⟨rfl,j,_⟩,rfl,_⟩:=b;exact absurd g (hx _ _)
  .rw[hs]at b
   simp only[GStep.go.injEq,Goroutine.mk.injEq]at b;obtain⟨⟨j,_,_⟩,rfl,_⟩:=b;exact k f' c j.symm g
def NP (i:∀f x ZJ w,f∈C0.sp->¬bI P C0 R J (Frame.enter P f x .normal) ZJ w)
 (h:∀f x ZJ cs w n fr w',f∈C0.sp->(∀y∈ZJ,y.mode=.run/\y.defers=[]/\∃fn,P.funcs[y.fn]? =some fn)->runN P n (lone (Frame.enter P f x .normal) (ZJ++[stop P]) w)=.next (lone fr cs w')->fr.mode≠.returning)
 {fr}{pre}{w'}(D:pre≠[])(p:fr.mode=.returning):
 ∀(n:Nat) (s:qC) (T:Nat->Question->Nat),bI P C0 R J s.a s.ZJ s.w->runN P (n+1) (lone s.a (s.ZJ++[stop P]) (ay s.w T))=.next (lone fr (pre++[stop P]) w')->Down P C0 (n+1) s ⟨fr,pre,w'⟩/\bI P C0 R J fr pre w':=by
 intro n
 induction n with
 |zero=>
  intro s T A c;rcases A.step with⟨z,u,⟨t,r⟩,fn,H,v,q,_⟩|⟨k,C⟩
  .exfalso
   rw[u]at c;exact oW z t r ⟨fn,q⟩ 0 _ _ _ _ (by simp) c
  .rcases C T with⟨a2,b,w2,d,g,_,l⟩|⟨f,x,b,w2,d,hf,g,_,_,j⟩
   .have m:step P (lone s.a (s.ZJ++[stop P]) (ay s.w T))=.next (lone a2 (b++[stop P]) w2):=step_lone_go (by
     have e:stepG P true (df s.a (s.ZJ++[stop P])) (ay s.w T)=_:=g;rw[e];rfl)
    simp only[runN,m,Stepped.next.injEq]at c;simp only[lone,Machine.mk.injEq]at c;obtain⟨rfl,F,_⟩:=c;have o:({frame:=a2,callers:=b++[stop P],status:=.running,dying:=none}:Goroutine)={frame:=fr,callers:=pre++[stop P],status:=.running,dying:=none}:=by simpa using F
    simp only[Goroutine.mk.injEq]at o;obtain⟨rfl,G,_⟩:=o;obtain rfl:=adw G;refine⟨⟨k,T,⟨a2,b,w2⟩,d,g,λf x hf he=>?_,rfl⟩,l⟩;simp only at he;rw[he]at l;exact i f x _ _ hf l
   .exfalso
    have m:step P (lone s.a (s.ZJ++[stop P]) (ay s.w T))=.next (lone (Frame.enter P f x .normal) (b++[stop P]) w2):=step_lone_go (by
     have e:stepG P true (df s.a (s.ZJ++[stop P])) (ay s.w T)=_:=g;rw[e];rfl)
    simp only[runN,m]at c;exact h f x b _ w2 0 fr w' hf j c p
 |succ n E=>
  intro s T A c;rcases A.step with⟨z,u,⟨t,r⟩,fn,H,v,q,_⟩|⟨k,C⟩
  .exfalso
   rw[u]at c;exact oW z t r ⟨fn,q⟩ (n+1) _ _ _ _ (by simp) c
  .rcases C T with⟨a2,b,w2,d,g,_,l⟩|⟨f,x,b,w2,d,hf,g,_,_,j⟩
   .have m:step P (lone s.a (s.ZJ++[stop P]) (ay s.w T))=.next (lone a2 (b++[stop P]) w2):=step_lone_go (by
     have e:stepG P true (df s.a (s.ZJ++[stop P])) (ay s.w T)=_:=g;rw[e];rfl)
    have B:runN P (n+1) (lone a2 (b++[stop P]) w2)=.next (lone fr (pre++[stop P]) w'):=by
     rw[show n+1+1=1+(n+1) by omega,runN_add]at c;simpa only[runN,m] using c
    obtain⟨d1,d2⟩:=E ⟨a2,b,w2⟩ w2.tape l B;refine⟨⟨k,T,⟨a2,b,w2⟩,d,g,λf x hf he=>?_,d1⟩,d2⟩;simp only at he;rw[he]at l;exact i f x _ _ hf l
   .exfalso
    have m:step P (lone s.a (s.ZJ++[stop P]) (ay s.w T))=.next (lone (Frame.enter P f x .normal) (b++[stop P]) w2):=step_lone_go (by
     have e:stepG P true (df s.a (s.ZJ++[stop P])) (ay s.w T)=_:=g;rw[e];rfl)
    rw[show n+1+1=1+(n+1) by omega,runN_add]at c;simp only[runN,m]at c;exact h f x b _ w2 (n+1) fr w' hf j c p
def FK:∀(n m:Nat) (s s1 s2:qC),Down P C0 n s s1->Down P C0 m s1 s2->Down P C0 (n+m) s s2
 |0,m,s,s1,s2,h,k=>by cases h;rw[Z8];exact k
 |n+1,m,s,s1,s2,⟨e,T,a,es,d,c,b⟩,k=>by
  rw[show n+1+m=(n+m)+1 by omega];exact⟨e,T,a,es,d,c,FK n m a s1 s2 b k⟩
def yO (l:∀f x ZJ w,f∈C0.sp->¬bI P C0 R J (Frame.enter P f x .normal) ZJ w)
 (k:∀f x ZJ cs w n fr w',f∈C0.sp->(∀y∈ZJ,y.mode=.run/\y.defers=[]/\∃fn,P.funcs[y.fn]? =some fn)->runN P n (lone (Frame.enter P f x .normal) (ZJ++[stop P]) w)=.next (lone fr cs w')->fr.mode≠.returning)
 {f}{args}{w}{a}{ZJ}{T}{Post:Value->World->Prop}(q:bI P C0 R J (Frame.enter P f args .normal) (a::ZJ) w)
 (hm:(Frame.enter P f args .normal).mode=.run)(j:∀v f x,f∈C0.sp->a.finish v≠Frame.enter P f x .normal)
 (hc:Calls P f args (ay w T) fun|.returned v,w'=>Post v w'|_,_=>False):
 ∃n v w',Post v w'/\Down P C0 n ⟨Frame.enter P f args .normal,a::ZJ,w⟩ ⟨a.finish v,ZJ,w'⟩:=by
 obtain⟨e,w',fr,hR,d,u,b⟩:=hc ((a::ZJ)++[stop P]);cases e with
 |panicked ch=>exact hR.elim
 |outgrown=>exact hR.elim
 |returned v=>
  obtain⟨n,m⟩:∃n,runN P n (lone (Frame.enter P f args .normal) ((a::ZJ)++[stop P]) (ay w T))=.next (lone fr ((a::ZJ)++[stop P]) w'):=d;cases n with
  |zero=>
   exfalso;simp only[runN,Stepped.next.injEq]at m;simp only[lone,Machine.mk.injEq]at m;have p:({frame:=Frame.enter P f args .normal,callers:=(a::ZJ)++[stop P],status:=.running,dying:=none}:Goroutine)={frame:=fr,callers:=(a::ZJ)++[stop P],status:=.running,dying:=none}:=by simpa using m.2.1
   simp only[Goroutine.mk.injEq]at p;have:=b.1;rw[<-p.1,hm]at this;cases this
  |succ n=>
   obtain⟨d1,d2⟩:=NP l k (by simp) b.1 n ⟨Frame.enter P f args .normal,a::ZJ,w⟩ T q m;have hs:=step_leave_returned (c:=a) (cs:=ZJ++[stop P]) b
   have g:∃es,stepG P true (df fr ((a::ZJ)++[stop P])) (ay w' w'.tape)=.go (df (a.finish v) (ZJ++[stop P])) w' es:=by
        obtain⟨o,hd,t,fn,hf,s⟩:=b;rcases i:(results fn fr.tmps).runT P w' #[]with⟨r,es⟩
        have:r=.ok v w':=(by rw[<-s,<-Sem.runT_fst P _ w' #[],i]);subst this;refine⟨seen P fr.fn es++ #[],?_⟩;show stepG P true (df fr (a::ZJ++[stop P])) w'=_
        simp only[stepG,unwind,o,hd,hf,i,doReturn,t,GStep.after,List.cons_append]
   obtain⟨es,g⟩:=g
   have d3:Down P C0 1 ⟨fr,a::ZJ,w'⟩ ⟨a.finish v,ZJ,w'⟩:=by
        refine⟨λh=>?_,w'.tape,⟨a.finish v,ZJ,w'⟩,es,g,λf x hf=>j v f x hf,rfl⟩;exact absurd h.2 (by simp)
   exact⟨n+1+1,v,w',hR,FK (n+1) 1 _ _ _ d1 d3⟩
end
end
