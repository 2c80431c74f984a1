/- Part 41 of the proof. -/
import Derived.Test.YtfpaamhppamcoaaGreatDoorSp40
set_option linter.all false
set_option maxRecDepth 100000
set_option maxHeartbeats 60000000
namespace Go.Proofs.YtfpaamhppamcoaaGreatDoor
open Go.Proofs.Tryz
namespace Z
open Go.RowKit
attribute [local go_sem ↓] Go.wp_at_zero Go.wp_at_succ
attribute [local go_sem] After.cell After.frozen After.const
def jJ (nm:ByteArray):Prop:=1<=nm.size/\nm.size<=20
def there (s:BS)(nm:ByteArray):Prop:=∃p,jw s.bs.length (mU s.bs) nm p true
def nK (s:BS)(nm:ByteArray):Prop:=∃p,jw s.bs.length (mU s.bs) nm p false
def aN (c:Nat->Int)(i:Nat):Nat:=(c i).toNat
def yL (s:BS)(c:Nat->Int)(b:Bool):Prop:=gX (eG s.D λi=>(aN c i:Int)) (og s.D λi=>(aN c i:Int)) 4 15=b
def maskOf (s:BS)(c:Nat->Int)(o:Option Nat):Prop:=gu (eG s.D λi=>(aN c i:Int)) (og s.D λi=>(aN c i:Int)) s.m.p=o
def AdmitNo (s:BS)(nm:ByteArray)(c:Nat->Int)(code:Int):Prop:=
 (¬jJ nm/\code=4)\/(jJ nm/\there s nm/\code=6)\/(jJ nm/\nK s nm/\qo c=false/\code=5)\/(jJ nm/\nK s nm/\qo c=true/\12<=s.bs.length/\code=7)\/
    (jJ nm/\nK s nm/\qo c=true/\s.bs.length<12/\yL s c false/\code=8)\/(jJ nm/\nK s nm/\qo c=true/\s.bs.length<12/\yL s c true/\maskOf s c none/\code=9)
structure sj (s:BS)(nm:ByteArray)(c:Nat->Int)(m p:Nat)(x:fH):Prop where
 name:jJ nm
 at_:jw s.bs.length (mU s.bs) nm p false
 may:qo c=true
 room:s.bs.length<12
 yL:yL s c true
 mask:maskOf s c (some m)
 nm:x.nm=nm
 given:∀q,q<4->Given s.D m q (aN c q) (x.T q)
def zD (s:BS)(nm:ByteArray)(c:Nat->Int)(r:Value)(s':BS)(w':World)(e:Nat->Nat):Prop:=
 (∃code,r=.tuple #[eH,.int .i64 code]/\s'=s/\AdmitNo s nm c code)\/(∃m p x,sj s nm c m p x/\s.jQ/\r=.tuple #[eH,.int .i64 11]/\s'=s.failed)\/
 ∃(m p:Nat) (x:fH) (d:Nat->Option Addr) (a:Nat->Nat) (z:Nat),sj s nm c m p x/\¬s.jQ/\s'=s.written (s.bs.take p++x::s.bs.drop p)/\r=.tuple #[.agg #[.slice (d 0) (aN c 0) (a 0),.slice (d 1) (aN c 1) (a 1),.slice (d 2) (aN c 2) (a 2),.slice (d 3) (aN c 3) (a 3)],.int .i64 0]/\
  (∀q,q<4->w'.ownsRow z 3 1 (.slice (d q) (aN c q) (a q)) (aN c q) (aT (x.T q)))/\∀b,z<=b->e b=0
def AdmitPost (w:World)(base bb:Nat)(s:BS)(K:Nat->Nat)(nm:ByteArray)(c:Nat->Int)(r:Value)(w':World):Prop:=∃s' a,zD s nm c r s' w' a/\Bd w' base bb s' a/\dJ w w' K a
theorem set5 {w:World}{b}{t}{z0 a z2 z3 z4}(v0 v1 v2 v3 v4)(h:w.heap[b]? =some (.cells #[z0,a,z2,z3,z4] t (0,0))):(((((w.setCell ⟨b,0,none⟩ v0).setCell ⟨b,1,none⟩ v1).setCell ⟨b,2,none⟩ v2).setCell ⟨b,3,none⟩ v3).setCell ⟨b,4,none⟩ v4).heap[b]? =some (.cells #[v0,v1,v2,v3,v4] t (0,0)):=aD v4 (aD v3 (aD v2 (aD v1 (aD v0 h))))
theorem Bd.keep {w w'}{base bb}{s}{K}(h:Bd w base bb s K)(hs:w.heap.size<=w'.heap.size)(a:∀b,b<w.heap.size->K b≠0->w'.heap[b]? =w.heap[b]?):Bd w' base bb s K:=let ⟨vc,vr,vb,vo,d,ys,h⟩:=h;⟨vc,vr,vb,vo,d,ys,h.keep hs a⟩
theorem rQ {w}{base bb}{s}{K}(b)(v0 v1 v2 v3)(h:Bd w base bb s K)(hb:K b=0):Bd ((((w.setCell ⟨b,0,none⟩ v0).setCell ⟨b,1,none⟩ v1).setCell ⟨b,2,none⟩ v2).setCell ⟨b,3,none⟩ v3) base bb s K:=by
 refine h.keep (by simp) λx _ hx=>?_
 have a:x≠b:=λe=>hx (by rw[e];exact hb)
 exact(aad _ _ _ _ a).trans ((aad _ _ _ _ a).trans ((aad _ _ _ _ a).trans (aad _ _ _ _ a)))
theorem lG {w w'}{K c}(b)(v0 v1 v2 v3)(h:dJ w w' K c)(hb:w.heap.size<=b):dJ w ((((w'.setCell ⟨b,0,none⟩ v0).setCell ⟨b,1,none⟩ v1).setCell ⟨b,2,none⟩ v2).setCell ⟨b,3,none⟩ v3) K c:=by
 refine⟨h.os,h.tape,h.output,by simpa using h.size,λx hx d=>?_,h.tag⟩;have a:x≠b:=λe=>by omega
 exact((aad _ _ _ _ a).trans ((aad _ _ _ _ a).trans ((aad _ _ _ _ a).trans (aad _ _ _ _ a)))).trans (h.block x hx d)
theorem intR_list {l}{n}(h:l.length=n):intR (λj=>((l[j]?.getD 0:Nat):Int)) n=aT l:=by
 subst h;refine List.ext_getElem? λj=>?_
 unfold intR aT
 by_cases a:j<l.length
 .simp[a]
 .simp[a]
theorem changeIns (base bb p m)(s)(K)(nm)(c)(a)(vc vr vb vo)(d)(ys)(A)(f)(T)(u)(w w4 t l:World)
 (j:PS w base bb s vc vr vb vo d ys K)(M:w.heap.size<=w4.heap.size)(hF:Below w.heap.size w t)(G:Below t.heap.size t l)(J:jJ nm)(v:s.bs.length<12)
 (e:∀q,q<4->t.ownsRow w4.heap.size 3 1 (.slice (A q) (aN c q) (f q)) (T q).length (aT (T q))/\mJ s.D m q (aN c q) (T q) (.slice (A q) (aN c q) (f q)))
 (k:l.ownsRow t.heap.size 98 5 u (s.bs.length+1) (aR (s.bs.take p)++[.string nm,.slice (A 0) (aN c 0) (f 0),.slice (A 1) (aN c 1) (f 1),.slice (A 2) (aN c 2) (f 2),.slice (A 3) (aN c 3) (f 3)]++aR (s.bs.drop p)))(hp:p<=s.bs.length)(y:s.no+4<=1000000000)
 (L:w.cell? ⟨0,0,none⟩=some (.iface 345 (.pointer (some a))))(F:0<base):
 Calls (patch ae prog) 56 #[.pointer (some ⟨bb,0,none⟩),u] l (RJ (ChangePost w l base bb s K u (s.bs.take p++⟨nm,A,f,T⟩::s.bs.drop p)) AA):=by
 have o:Below w.heap.size w l:=hF.trans (G.mono hF.size);have hlen:(s.bs.take p++(⟨nm,A,f,T⟩:fH)::s.bs.drop p).length=s.bs.length+1:=by simp;omega
 have r:∀q,q<4->(T q).length=aN c q:=λq g=>(e q g).2.1.1
 have hcs:aR (s.bs.take p++(⟨nm,A,f,T⟩:fH)::s.bs.drop p)=aR (s.bs.take p)++[.string nm,.slice (A 0) (aN c 0) (f 0),.slice (A 1) (aN c 1) (f 1),.slice (A 2) (aN c 2) (f 2),.slice (A 3) (aN c 3) (f 3)]++aR (s.bs.drop p):=by
  rw[iE,List.append_assoc];refine congrArg _ ?_;show fH.cells ⟨nm,A,f,T⟩++aR (s.bs.drop p)=_
  unfold fH.cells fH.sl;simp only;rw[r 0 (by omega),r 1 (by omega),r 2 (by omega),r 3 (by omega)]
 have n:∀q,q<4->(⟨nm,A,f,T⟩:fH).sl q=.slice (A q) (aN c q) (f q):=λq g=>by unfold fH.sl;simp only;rw[r q g]
 have E:base<=w.heap.size:=ZP j.left (Nat.le_of_lt j.lt);refine changeP_any base bb s vc vr vb vo u d ys K _ a w l j o (by rw[hlen,hcs];exact aB k hF.size) (NZ.of_own k (by omega)) (λx hx=>?_) (λx hx q g b hb=>?_) (λx hx=>?_) (by omega) y L F
 .rcases qZ hx with rfl|hx
  .intro q g
   rw[n q g];exact⟨aB (au (e q g).1 G) (by omega),(e q g).2.2⟩
  .exact((j.rows x hx)).below o
 .rcases qZ hx with rfl|hx
  .rw[n q g]at hb
   have:=((e q g).1.lt b hb).1;exact .inr (by omega)
  .exact .inl (j.tl x hx q g b hb)
 .rcases qZ hx with rfl|hx
  .refine⟨J.2,λq g=>?_⟩
   have C:=(e q g).2.1
   have z:∀i∈T q,i<=24:=λi B=>by
        have H:=frN_in s.D q i (C.2.2 i B).1
        by_cases I:q=0
        .rw[if_pos I]at H;have:=j.ok.d.few;omega
        .rw[if_neg I]at H;have:=(j.ok.d.dC (q-1) (by omega)).1;omega
   refine⟨?_,z⟩;have N:(T q).Nodup:=C.2.1.imp λh=>by omega
   have M:=nL (T q) (gq s.D q) N λi B=>(C.2.2 i B).1
   have O:=mi j.ok.d g;show(T q).length<=24
   omega
  .exact j.ok.small x hx
abbrev SA (W:World)(a:Nat)(cs:Array Value)(w':World):Prop:=(∀j,w'.cell? ⟨a,j,none⟩=cs[j]?)/\Below W.heap.size W w'
theorem SA_start {W w1}{a}{cs}(h:SA W a cs w1):SA W a cs w1.drew:=⟨h.1,h.2.drew⟩
theorem SA_call {W w1 w2}{a}{cs}(h:SA W a cs w1)(b:a<W.heap.size)(hb:Below w1.heap.size w1 w2):SA W a cs w2:=⟨λj=>(hb.cell (p:=⟨a,j,none⟩) (ZO b h.2.size)).trans (h.1 j),h.2.trans (hb.mono h.2.size)⟩
theorem SA_alloc {W w1}{o}{a}{cs}(h:SA W a cs w1)(b:a<W.heap.size):SA W a cs (w1.alloc o):=SA_call h b ((aab _ _).alloc (ZL _) _)
theorem SA_start_alloc {W w1}{o}{a}{cs}(h:SA W a cs w1)(b:a<W.heap.size):SA W a cs (w1.alloc o).drew:=SA_start (SA_alloc h b)
theorem SA_store {W w1}{a b}{cs}{v0 v1 v2 v3 v4}(h:SA W a cs w1)(d:a<W.heap.size)(hb:W.heap.size<=b):SA W a cs (((((w1.setCell ⟨b,0,none⟩ v0).setCell ⟨b,1,none⟩ v1).setCell ⟨b,2,none⟩ v2).setCell ⟨b,3,none⟩ v3).setCell ⟨b,4,none⟩ v4):=by
 have c:Below W.heap.size w1 (((((w1.setCell ⟨b,0,none⟩ v0).setCell ⟨b,1,none⟩ v1).setCell ⟨b,2,none⟩ v2).setCell ⟨b,3,none⟩ v3).setCell ⟨b,4,none⟩ v4):=(((((aab _ _).setCell hb _).setCell hb _).setCell hb _).setCell hb _).setCell hb _;exact⟨λj=>(c.cell (p:=⟨a,j,none⟩) d).trans (h.1 j),h.2.trans c⟩
theorem SA_size {W w1 w2}{a}{cs}(h:SA W a cs w1)(hb:Below w1.heap.size w1 w2):W.heap.size<=w2.heap.size:=ZP h.2.size hb.size
theorem SA_realloc {W w1:World}{o d}{c}{cs}(h:SA W c cs (w1.alloc d))(e:c<W.heap.size)(f:W.heap.size<=w1.heap.size):SA W c cs (w1.alloc o):=by
 have key:∀b,b<W.heap.size->(w1.alloc o).heap[b]? =(w1.alloc d).heap[b]?:=λb hb=>(aac w1 o b (by omega)).trans (aac w1 d b (by omega)).symm
 exact⟨λj=>(World.cell?_of_block (a:=⟨c,j,none⟩) (key c e)).trans (h.1 j),⟨h.2.os,h.2.tape,h.2.output,by simp;omega,λb hb=>(key b hb).trans (h.2.block b hb)⟩⟩
theorem LX (base bb)(s)(K)(nm)(c)(a)(w)(h:Bd w base bb s K)(hnm:nm.size<=281474976710656)(β:s.no+4<=1000000000)
 (hG:w.cell? ⟨0,0,none⟩=some (.iface 345 (.pointer (some a))))(hGb:0<base):
 Calls (patch ae prog) 21 #[.pointer (some ⟨bb,0,none⟩),.string nm,.agg #[.int .i64 (c 0),.int .i64 (c 1),.int .i64 (c 2),.int .i64 (c 3)]] w (RJ (AdmitPost w base bb s K nm c) AA):=by
 obtain⟨vc,vr,vb,vo,d,ys,hP⟩:=h;have HM:Hid (∀u,Calls (patch ae prog) 53 #[.agg #[.int .i64 (c 0),.int .i64 (c 1),.int .i64 (c 2),.int .i64 (c 3)]] u λe w'=>e=.returned (.bool (qo c))/\Below u.heap.size u w'):=λu=>mayBeWanted_any c u
 have HWt:Hid (∀u,Calls (patch ae prog) 43 #[.agg #[.int .i64 (c 0),.int .i64 (c 1),.int .i64 (c 2),.int .i64 (c 3)]] u λe w'=>e=.returned (.agg #[.int .i64 (c 0),.int .i64 (c 1),.int .i64 (c 2),.int .i64 (c 3)])/\Below u.heap.size u w'):=λu=>wantedOf_any c u
 obtain⟨va,vcap,rfl⟩:=aj hP.boxes;have HP:=av (aaa hP hG);have hbl:=hP.lt
 have HCH:Hid (∀u,Below w.heap.size w u->qo c=true->Calls (patch ae prog) 54 #[.pointer (some ⟨bb,0,none⟩),.agg #[.int .i64 (c 0),.int .i64 (c 1),.int .i64 (c 2),.int .i64 (c 3)]] u (RJ (ChoosePost u s.D (aN c) s.m.p) AA)):=λu hu E=>by
  have Θ:=HP.out.1.below hu;have ψ:=chooseB_any u bb s.D s.m.S s.m.C s.m.p (aN c) (LB u) Θ.berthF Θ.berthZ Θ.ok.d (lies_LB u) ⟨_,_,Θ.blk⟩
  have hin:inB c 4:=by
   unfold qo at E;simp only[ZQ,decide_eq_true_eq]at E;exact E.1
  have e:∀i,i<4->((aN c i:Nat):Int)=c i:=λi hi=>by unfold aN;have:=(hin i hi).1;omega
  rw[e 0 (by omega),e 1 (by omega),e 2 (by omega),e 3 (by omega)]at ψ;exact ψ
 clear hP hG;have l:Func.results f21= #[.cell 6 41,.tmp 7]:=by kernel_rfl
 go_enter (pf func21 (by rfl)),ntmps21
 go_wp2_with fail;obtain⟨W0,hW0⟩:∃W,W=(w.alloc (.cells #[.int .i64 (c 0),.int .i64 (c 1),.int .i64 (c 2),.int .i64 (c 3)] 29)).alloc (.cells #[.slice none 0 0,.slice none 0 0,.slice none 0 0,.slice none 0 0] 41):=⟨_,rfl⟩
 have H0:Hid (Below w.heap.size w W0/\W0.heap[w.heap.size]? =some (.cells #[.int .i64 (c 0),.int .i64 (c 1),.int .i64 (c 2),.int .i64 (c 3)] 29 (0,0))/\W0.heap[w.heap.size+1]? =some (.cells #[.slice none 0 0,.slice none 0 0,.slice none 0 0,.slice none 0 0] 41 (0,0))):=by
  rw[hW0];exact⟨((aab _ _).alloc (ZL _) _).alloc (by simp) _,aap _ _ _,aam _ _ _⟩
 rw[<-hW0];clear hW0;have P0:=HP.out.1.below H0.out.1;refine(findB_any s.D (LB W0) (mU s.bs) bb _ nm W0 (P0.cell 6) P0.boxM).mono ?_;rintro e w1 ⟨⟨p,t,rfl,hp⟩,Δ⟩;have H1:Hid (Below w.heap.size w w1/\w1.heap[w.heap.size]? =some (.cells #[.int .i64 (c 0),.int .i64 (c 1),.int .i64 (c 2),.int .i64 (c 3)] 29 (0,0))/\w1.heap[w.heap.size+1]? =some (.cells #[.slice none 0 0,.slice none 0 0,.slice none 0 0,.slice none 0 0] 41 (0,0))/\jw s.bs.length (mU s.bs) nm p t):=⟨ai H0.out.1 Δ,bJ Δ H0.out.2.1,bJ Δ H0.out.2.2,hp⟩;obtain⟨q0,q0f⟩:=blk H1.out.2.1;clear Δ hp P0 H0;go_wp2_with fail;refine(HWt.out _).mono ?_;rintro e w2 ⟨rfl,hb2⟩;have H2:Hid (Below w.heap.size w w2/\w2.heap[w.heap.size+1]? =some (.cells #[.slice none 0 0,.slice none 0 0,.slice none 0 0,.slice none 0 0] 41 (0,0))/\jw s.bs.length (mU s.bs) nm p t):=⟨ai H1.out.1 hb2,bJ hb2 H1.out.2.2.1,H1.out.2.2.2⟩;clear hb2 q0 q0f H1;go_wp2_with fail;obtain⟨W2,hW2⟩:∃W,W=w2.alloc (.cells #[.int .i64 (c 0),.int .i64 (c 1),.int .i64 (c 2),.int .i64 (c 3)] 37):=⟨_,rfl⟩
 have H3:Hid (Below w.heap.size w W2/\W2.heap[w.heap.size+1]? =some (.cells #[.slice none 0 0,.slice none 0 0,.slice none 0 0,.slice none 0 0] 41 (0,0))/\W2.heap[w2.heap.size]? =some (.cells #[.int .i64 (c 0),.int .i64 (c 1),.int .i64 (c 2),.int .i64 (c 3)] 37 (0,0))/\w.heap.size+2<=w2.heap.size):=by
  have hl:=(ZK.1 H2.out.2.1).1;rw[hW2];exact⟨H2.out.1.alloc H2.out.1.size _,(aac _ _ _ hl).trans H2.out.2.1,aae _ _,by omega⟩
 rw[<-hW2];clear hW2
 have θ:Hid (∀(W:World) (code:Int),Below w.heap.size w W->AdmitNo s nm c code->AdmitPost w base bb s K nm c (.tuple #[eH,.int .i64 code]) ((((W.setCell ⟨w.heap.size+1,0,none⟩ (.slice none 0 0)).setCell ⟨w.heap.size+1,1,none⟩ (.slice none 0 0)).setCell ⟨w.heap.size+1,2,none⟩ (.slice none 0 0)).setCell ⟨w.heap.size+1,3,none⟩ (.slice none 0 0))):=λW code hW β=>by
  have δ:Below w.heap.size w ((((W.setCell ⟨w.heap.size+1,0,none⟩ (.slice none 0 0)).setCell ⟨w.heap.size+1,1,none⟩ (.slice none 0 0)).setCell ⟨w.heap.size+1,2,none⟩ (.slice none 0 0)).setCell ⟨w.heap.size+1,3,none⟩ (.slice none 0 0)):=(((hW.setCell (by show w.heap.size<=w.heap.size+1;omega) _).setCell (by show w.heap.size<=w.heap.size+1;omega) _).setCell (by show w.heap.size<=w.heap.size+1;omega) _).setCell (by show w.heap.size<=w.heap.size+1;omega) _;exact⟨s,K,.inl ⟨code,rfl,rfl,β⟩,⟨_,_,_,_,_,_,HP.out.1.below δ⟩,dJ.fq δ⟩
 have X:Hid (∀W:World,W.heap[w.heap.size+1]? =some (.cells #[(.slice none 0 0),(.slice none 0 0),(.slice none 0 0),(.slice none 0 0)] 41 (0,0))->∀j,((((W.setCell ⟨w.heap.size+1,0,none⟩ (.slice none 0 0)).setCell ⟨w.heap.size+1,1,none⟩ (.slice none 0 0)).setCell ⟨w.heap.size+1,2,none⟩ (.slice none 0 0)).setCell ⟨w.heap.size+1,3,none⟩ (.slice none 0 0)).cell? ⟨w.heap.size+1,j,none⟩=(#[(.slice none 0 0),(.slice none 0 0),(.slice none 0 0),(.slice none 0 0)]:Array Value)[j]?):=λW hW j=>by
  have z3:=aD (i:=3) (.slice none 0 0) (aD (i:=2) (.slice none 0 0) (aD (i:=1) (.slice none 0 0) (aD (i:=0) (.slice none 0 0) hW)));simp only[ZN,ZR,ZS]at z3;exact(blk z3).1 j
 refine(isNameX_any nm W2).mono ?_;rintro e w3 ⟨rfl,hw⟩;obtain rfl:=hw.symm;obtain⟨y0,I⟩:=blk H3.out.2.1
 by_cases hn:jJ nm
 .have HN:=av hn
  rw[show(decide ((1:Int)<=nm.size)&&decide ((nm.size:Int)<=20))=true by unfold jJ at hn;simp;omega];clear hn;cases t
  .obtain⟨qc,Ξ⟩:=blk H3.out.2.2.1
   go_wp2_with fail;refine(HM.out W2).mono ?_;rintro e w4 ⟨rfl,δ⟩;have Z:Hid (Below w.heap.size w w4/\w4.heap[w.heap.size+1]? =some (.cells #[(.slice none 0 0),(.slice none 0 0),(.slice none 0 0),(.slice none 0 0)] 41 (0,0))/\w4.heap[w2.heap.size]? =some (.cells #[.int .i64 (c 0),.int .i64 (c 1),.int .i64 (c 2),.int .i64 (c 3)] 37 (0,0))):=⟨ai H3.out.1 δ,bJ δ H3.out.2.1,bJ δ H3.out.2.2.1⟩;clear δ qc Ξ y0 I;obtain⟨y0,I⟩:=blk Z.out.2.1;cases E:qo c
   .have HY:=av E
    clear E;go_wp2_with fail;have L:=X.out w4 Z.out.2.1;refine bodyPost_ret (v:=.tuple #[eH,.int .i64 5]) (by simp[results,l,go_sem,L,eH]) rfl ?_;exact θ.out w4 5 Z.out.1 (.inr (.inr (.inl ⟨HN.out,⟨p,H2.out.2.2⟩,HY.out,rfl⟩)))
   .have HY:=av E
    clear E;have ω:w4.cell? ⟨bb,6,none⟩=some (.slice va s.bs.length vcap):=(HP.out.1.below Z.out.1).cell 6
    by_cases Ω:12<=s.bs.length
    .have hr':(12:Int)<=s.bs.length:=by omega
     go_wp2_with fail;have L:=X.out w4 Z.out.2.1;refine bodyPost_ret (v:=.tuple #[eH,.int .i64 7]) (by simp[results,l,go_sem,L,eH]) rfl ?_;exact θ.out w4 7 Z.out.1 (.inr (.inr (.inr (.inl ⟨HN.out,⟨p,H2.out.2.2⟩,HY.out,Ω,rfl⟩))))
    .have hr':¬(12:Int)<=s.bs.length:=by omega
     obtain⟨qc,Ξ⟩:=blk Z.out.2.2;go_wp2_with fail;refine(HCH.out w4 Z.out.1 HY.out).mono ?_;intro e o he;cases e with
     |outgrown=>exact he.elim
     |panicked ch=>exact⟨rfl,he⟩
     |returned v=>
      obtain⟨Γ,ψ⟩:=he;have H5:Hid (Below w.heap.size w o/\o.heap[w.heap.size+1]? =some (.cells #[(.slice none 0 0),(.slice none 0 0),(.slice none 0 0),(.slice none 0 0)] 41 (0,0))/\w4.heap.size<=o.heap.size):=⟨ai Z.out.1 Γ,bJ Γ Z.out.2.1,Γ.size⟩;clear Γ qc Ξ y0 I;obtain⟨y0,I⟩:=blk H5.out.2.1;have HL5:=av (ZK.1 H5.out.2.1).1;rcases ψ with⟨U,rfl⟩|⟨U,β,rfl⟩|⟨m,A,f,T,U,hma,rfl,hgv⟩
      .have Y:=av U
       clear U;unfold eH;have HA:=av ((aac o (.cells #[(.slice none 0 0),(.slice none 0 0),(.slice none 0 0),(.slice none 0 0)] 41) _ HL5.out).trans H5.out.2.1);obtain⟨x0,ι⟩:=blk HA.out;go_wp2_with fail;have L:=X.out (o.alloc (.cells #[(.slice none 0 0),(.slice none 0 0),(.slice none 0 0),(.slice none 0 0)] 41)) HA.out;refine bodyPost_ret (v:=.tuple #[eH,.int .i64 8]) (by simp[results,l,go_sem,L,eH]) rfl ?_;exact θ.out (o.alloc _) 8 (H5.out.1.alloc H5.out.1.size _) (.inr (.inr (.inr (.inr (.inl ⟨HN.out,⟨p,H2.out.2.2⟩,HY.out,by omega,Y.out,rfl⟩)))))
      .have Y:=av (aaa U β)
       clear U β;unfold eH;have HA:=av ((aac o (.cells #[(.slice none 0 0),(.slice none 0 0),(.slice none 0 0),(.slice none 0 0)] 41) _ HL5.out).trans H5.out.2.1);obtain⟨x0,ι⟩:=blk HA.out;go_wp2_with fail;have L:=X.out (o.alloc (.cells #[(.slice none 0 0),(.slice none 0 0),(.slice none 0 0),(.slice none 0 0)] 41)) HA.out;refine bodyPost_ret (v:=.tuple #[eH,.int .i64 9]) (by simp[results,l,go_sem,L,eH]) rfl ?_;exact θ.out (o.alloc _) 9 (H5.out.1.alloc H5.out.1.size _) (.inr (.inr (.inr (.inr (.inr ⟨HN.out,⟨p,H2.out.2.2⟩,HY.out,by omega,Y.out.1,Y.out.2,rfl⟩)))))
      .have Y:Hid (yL s c true/\maskOf s c (some m)/\∀q,q<4->o.ownsRow w4.heap.size 3 1 (.slice (A q) (aN c q) (f q)) (T q).length (aT (T q))/\mJ s.D m q (aN c q) (T q) (.slice (A q) (aN c q) (f q))):=⟨U,hma,hgv⟩
       clear U hma hgv;go_wp2_with fail;obtain⟨O,ρ⟩:∃W,W=o.alloc (.cells #[.slice (A 0) (aN c 0) (f 0),.slice (A 1) (aN c 1) (f 1),.slice (A 2) (aN c 2) (f 2),.slice (A 3) (aN c 3) (f 3)] 41):=⟨_,rfl⟩
       have HS:SA O o.heap.size #[.slice (A 0) (aN c 0) (f 0),.slice (A 1) (aN c 1) (f 1),.slice (A 2) (aN c 2) (f 2),.slice (A 3) (aN c 3) (f 3)] O:=by
           refine⟨λj=>?_,aab _ _⟩;rw[ρ];exact(blk (aae _ _)).1 j
       have HW:Hid (Below w.heap.size w O/\O.heap[w.heap.size+1]? =some (.cells #[(.slice none 0 0),(.slice none 0 0),(.slice none 0 0),(.slice none 0 0)] 41 (0,0))/\O.heap.size=o.heap.size+1):=by
           rw[ρ];exact⟨H5.out.1.alloc H5.out.1.size _,(aac o _ _ HL5.out).trans H5.out.2.1,by simp⟩
       have hgl:o.heap.size<O.heap.size:=(by rw[HW.out.2.2];omega);have V:=av hgl;have HW5:Hid (∀q,q<4->O.ownsRow w4.heap.size 3 1 (.slice (A q) (aN c q) (f q)) (T q).length (aT (T q))):=λq g=>by rw[ρ];exact(Y.out.2.2 q g).1.alloc _
       rw[<-ρ];clear ρ hgl
       go_region_held3(λw'=>(∀j,w'.cell? ⟨o.heap.size,j,none⟩= #[.slice (A 0) (aN c 0) (f 0),.slice (A 1) (aN c 1) (f 1),.slice (A 2) (aN c 2) (f 2),.slice (A 3) (aN c 3) (f 3)][j]?)/\Below O.heap.size O w') (with_reducible (first|exact SA_start HS|exact SA_start_alloc HS V.out|exact SA_call (by assumption) V.out (by assumption)|exact SA_alloc (by assumption) V.out|exact SA_store (by assumption) V.out (ZL _)|exact SA_realloc (by assumption) V.out (by assumption)|exact SA_realloc (by assumption) V.out (ZL _)))
           (first
             |(go_at_call 55;refine(cloneS_any nm _ hnm).mono ?_;rintro e w6 ⟨rfl,ω⟩;have hz6:=SA_size (by assumption) ω;try(first|have g:=fw ω|have g:=gV ω);try(obtain⟨qa,qb⟩:=blk g)))
       .rename_i K1 τ hH
        simp only[Exit.then];refine τ _ _ ?_;clear τ;obtain⟨H,N⟩:∃W,W=w6.alloc (.cells #[.string nm,.slice (A 0) (aN c 0) (f 0),.slice (A 1) (aN c 1) (f 1),.slice (A 2) (aN c 2) (f 2),.slice (A 3) (aN c 3) (f 3)] 98):=⟨_,rfl⟩;have x:SA O o.heap.size #[.slice (A 0) (aN c 0) (f 0),.slice (A 1) (aN c 1) (f 1),.slice (A 2) (aN c 2) (f 2),.slice (A 3) (aN c 3) (f 3)] H:=(by rw[N];exact hH)
        have ξ:H.heap[w6.heap.size]? =some (.cells #[.string nm,.slice (A 0) (aN c 0) (f 0),.slice (A 1) (aN c 1) (f 1),.slice (A 2) (aN c 2) (f 2),.slice (A 3) (aN c 3) (f 3)] 98 (0,0)):=by
             rw[N];exact aae _ _
        rw[<-N];clear N hH
        have n:Hid (Below w.heap.size w H/\H.heap[w.heap.size+1]? =some (.cells #[(.slice none 0 0),(.slice none 0 0),(.slice none 0 0),(.slice none 0 0)] 41 (0,0))/\H.heap[w6.heap.size]? =some (.cells #[.string nm,.slice (A 0) (aN c 0) (f 0),.slice (A 1) (aN c 1) (f 1),.slice (A 2) (aN c 2) (f 2),.slice (A 3) (aN c 3) (f 3)] 98 (0,0))/\(∀j,H.cell? ⟨o.heap.size,j,none⟩= #[.slice (A 0) (aN c 0) (f 0),.slice (A 1) (aN c 1) (f 1),.slice (A 2) (aN c 2) (f 2),.slice (A 3) (aN c 3) (f 3)][j]?)/\(∀q,q<4->H.ownsRow w4.heap.size 3 1 (.slice (A q) (aN c q) (f q)) (T q).length (aT (T q))/\mJ s.D m q (aN c q) (T q) (.slice (A q) (aN c q) (f q)))/\w.heap.size<=o.heap.size/\o.heap.size<H.heap.size):=
             ⟨ai HW.out.1 x.2,bJ x.2 HW.out.2.1,ξ,x.1,λq g=>⟨au (HW5.out q g) x.2,(Y.out.2.2 q g).2⟩,H5.out.1.size,by have:=x.2.size;have:=V.out;omega⟩
        clear x ξ;have μ:p<=s.bs.length:=H2.out.2.2.1;obtain⟨x0,ι⟩:=blk n.out.2.2.1;go_wp2_with fail;clear x0 ι;refine(with_any base bb p s nm A (aN c) f vc vr _ vo d ys K H (HP.out.1.below n.out.1) μ).mono ?_;rintro e w7 ⟨v7,rfl,F,ο⟩;have H7:=av (aaa F ο);clear F ο;go_wp2_with fail;refine(changeIns base bb p m s K nm c a vc vr _ vo d ys A f T v7 w w4 H w7 HP.out.1 Z.out.1.size n.out.1 H7.out.2 HN.out (by omega) n.out.2.2.2.2.1 H7.out.1 μ β HP.out.2 hGb).mono ?_;intro e P he;cases e with
        |outgrown=>exact he.elim
        |panicked ch=>exact⟨rfl,he⟩
        |returned r=>
         obtain⟨s',K',R,ζ,ε,α,k,hz⟩:=he;have Ψ:w.heap.size+1<H.heap.size:=(ZK.1 n.out.2.1).1;have Φ:=H7.out.2.size;have M:P.heap[w.heap.size+1]? =some (.cells #[(.slice none 0 0),(.slice none 0 0),(.slice none 0 0),(.slice none 0 0)] 41 (0,0)):=(k _ (by omega) (by omega)).trans ((H7.out.2.block _ Ψ).trans n.out.2.1);have γ:∀j,P.cell? ⟨o.heap.size,j,none⟩= #[.slice (A 0) (aN c 0) (f 0),.slice (A 1) (aN c 1) (f 1),.slice (A 2) (aN c 2) (f 2),.slice (A 3) (aN c 3) (f 3)][j]?:=λj=>((World.cell?_of_block (a:=⟨o.heap.size,j,none⟩) (k _ n.out.2.2.2.2.2.1 (ZO n.out.2.2.2.2.2.2 Φ))).trans (H7.out.2.cell (p:=⟨o.heap.size,j,none⟩) n.out.2.2.2.2.2.2)).trans (n.out.2.2.2.1 j)
         have υ:K' (w.heap.size+1)=0:=by
              refine hz _ (by omega) (by omega) (λe=>?_) (λy hy q g e=>?_)
              .have:=(H7.out.1.lt _ e).1;omega
              .rcases qZ hy with rfl|hy
               .have:=((n.out.2.2.2.2.1 q g).1.lt (w.heap.size+1) (by rw[<-e];unfold fH.sl;simp only;cases A q<;>rfl)).1;have:=(ZK.1 Z.out.2.1).1;omega
               .have:=((HP.out.1.rows y hy q g).1.lt _ e).2;omega
         have J:=av (aaa R (aaa ζ (aaa ε (aaa M (aaa γ (aaa υ (aaa α hz)))))));obtain⟨y0,I⟩:=blk M;rcases R with⟨hf,rfl,rfl⟩|⟨hf,rfl,rfl⟩
         .have η:=av hf
          clear hf ζ ε α k hz M γ υ;go_wp2_with fail;have L:=X.out P J.out.2.2.2.1;refine bodyPost_ret (v:=.tuple #[eH,.int .i64 11]) (by simp[results,l,go_sem,L,eH]) rfl ?_;exact⟨s.failed,K',.inr (.inl ⟨m,p,⟨nm,A,f,T⟩,⟨HN.out,H2.out.2.2,HY.out,by omega,Y.out.1,Y.out.2.1,rfl,λq g=>(n.out.2.2.2.2.1 q g).2.1⟩,η.out,rfl,rfl⟩),rQ (w.heap.size+1) _ _ _ _ J.out.2.1 J.out.2.2.2.2.2.1,lG (w.heap.size+1) _ _ _ _ J.out.2.2.1 (by omega)⟩
         .have η:=av hf
          have ν:∀q,q<4->Ints P (.slice (A q) (aN c q) (f q)) (aN c q) (λj=>(((T q)[j]?.getD 0:Nat):Int))/\aN c q<=1000000:=λq g=>by
             have hr:=(n.out.2.2.2.2.1 q g);have hl:(T q).length=aN c q:=hr.2.1.1;have lw4:=Z.out.1.size;have h9:P.ownsRow w4.heap.size 3 1 (.slice (A q) (aN c q) (f q)) (T q).length (aT (T q)):=aJ (au hr.1 H7.out.2) λb hb=>k b (by have:=(hr.1.lt b hb).1;omega) (by have:=(hr.1.lt b hb).2;omega)
             have h8:=dh h9
             have h24:(T q).length<=24:=by
              have h3:(T q).Nodup:=hr.2.1.2.1.imp λh=>by omega
              have h4:=nL (T q) (gq s.D q) h3 λi hi=>(hr.2.1.2.2 i hi).1
              have h5:=mi HP.out.1.ok.d g;omega
             rw[hl]at h8;exact⟨h8,by omega⟩
          have HCP:=av ν;clear ν hf ζ ε α k hz M;go_wp2_with fail;refine(copyX_any A (aN c) f (λq j=>(((T q)[j]?.getD 0:Nat):Int)) P HCP.out).mono ?_;rintro e w10 ⟨B,z,rfl,κ,G⟩;have Q:w.heap.size+1<P.heap.size:=(ZK.1 J.out.2.2.2.1).1;have HQ:=av (aaa κ (aaa G (aaa (bJ G J.out.2.2.2.1) Q)));clear κ G y0 I γ Q;obtain⟨y0,I⟩:=blk HQ.out.2.2.1;go_wp2_with fail;have z3:=set4 (.slice (B 0) (aN c 0) (z 0)) (.slice (B 1) (aN c 1) (z 1)) (.slice (B 2) (aN c 2) (z 2)) (.slice (B 3) (aN c 3) (z 3)) HQ.out.2.2.1;obtain⟨L,_⟩:=blk z3;refine bodyPost_ret (v:=.tuple #[.agg #[.slice (B 0) (aN c 0) (z 0),.slice (B 1) (aN c 1) (z 1),.slice (B 2) (aN c 2) (z 2),.slice (B 3) (aN c 3) (z 3)],.int .i64 0]) (by simp[results,l,go_sem,L]) rfl ?_;have χ:=J.out.2.1.below HQ.out.2.1;have σ:=J.out.2.2.1.trans (dJ.fq (K:=K') HQ.out.2.1);refine⟨_,K',.inr (.inr ⟨m,p,⟨nm,A,f,T⟩,B,z,P.heap.size,⟨HN.out,H2.out.2.2,HY.out,by omega,Y.out.1,Y.out.2.1,rfl,λq g=>(n.out.2.2.2.2.1 q g).2.1⟩,η.out,rfl,rfl,λq g=>?_,λb hb=>?_⟩),rQ (w.heap.size+1) _ _ _ _ χ J.out.2.2.2.2.2.1,lG (w.heap.size+1) _ _ _ _ σ (by omega)⟩
          .have h1:=eQ (b:=w.heap.size+1) (x0:=.slice (B 0) (aN c 0) (z 0)) (x1:=.slice (B 1) (aN c 1) (z 1)) (x2:=.slice (B 2) (aN c 2) (z 2)) (x3:=.slice (B 3) (aN c 3) (z 3)) (HQ.out.1 q g) HQ.out.2.2.2
           have hl:(T q).length=aN c q:=(n.out.2.2.2.2.1 q g).2.1.1;rw[intR_list hl]at h1;exact h1
          .have φ:=J.out.2.1
           obtain⟨_,_,_,_,_,_,h9⟩:=φ
           by_cases h0:K' b=0
           .exact h0
           .have:=(h9.tk b h0).2;omega
       .rename_i K1 τ hH
        simp only[Exit.then];refine τ _ _ ?_;clear τ;obtain⟨H,N⟩:∃W,W=((((w6.setCell ⟨O.heap.size,0,none⟩ (.string nm)).setCell ⟨O.heap.size,1,none⟩ (.slice (A 0) (aN c 0) (f 0))).setCell ⟨O.heap.size,2,none⟩ (.slice (A 1) (aN c 1) (f 1))).setCell ⟨O.heap.size,3,none⟩ (.slice (A 2) (aN c 2) (f 2))).setCell ⟨O.heap.size,4,none⟩ (.slice (A 3) (aN c 3) (f 3)):=⟨_,rfl⟩;have x:SA O o.heap.size #[.slice (A 0) (aN c 0) (f 0),.slice (A 1) (aN c 1) (f 1),.slice (A 2) (aN c 2) (f 2),.slice (A 3) (aN c 3) (f 3)] H:=(by rw[N];exact hH)
        have ξ:H.heap[O.heap.size]? =some (.cells #[.string nm,.slice (A 0) (aN c 0) (f 0),.slice (A 1) (aN c 1) (f 1),.slice (A 2) (aN c 2) (f 2),.slice (A 3) (aN c 3) (f 3)] 98 (0,0)):=by
             rw[N];exact set5 _ _ _ _ _ g
        rw[<-N];clear N hH
        have n:Hid (Below w.heap.size w H/\H.heap[w.heap.size+1]? =some (.cells #[(.slice none 0 0),(.slice none 0 0),(.slice none 0 0),(.slice none 0 0)] 41 (0,0))/\H.heap[O.heap.size]? =some (.cells #[.string nm,.slice (A 0) (aN c 0) (f 0),.slice (A 1) (aN c 1) (f 1),.slice (A 2) (aN c 2) (f 2),.slice (A 3) (aN c 3) (f 3)] 98 (0,0))/\(∀j,H.cell? ⟨o.heap.size,j,none⟩= #[.slice (A 0) (aN c 0) (f 0),.slice (A 1) (aN c 1) (f 1),.slice (A 2) (aN c 2) (f 2),.slice (A 3) (aN c 3) (f 3)][j]?)/\(∀q,q<4->H.ownsRow w4.heap.size 3 1 (.slice (A q) (aN c q) (f q)) (T q).length (aT (T q))/\mJ s.D m q (aN c q) (T q) (.slice (A q) (aN c q) (f q)))/\w.heap.size<=o.heap.size/\o.heap.size<H.heap.size):=
             ⟨ai HW.out.1 x.2,bJ x.2 HW.out.2.1,ξ,x.1,λq g=>⟨au (HW5.out q g) x.2,(Y.out.2.2 q g).2⟩,H5.out.1.size,by have:=x.2.size;have:=V.out;omega⟩
        clear x ξ;have μ:p<=s.bs.length:=H2.out.2.2.1;obtain⟨x0,ι⟩:=blk n.out.2.2.1;go_wp2_with fail;clear x0 ι;refine(with_any base bb p s nm A (aN c) f vc vr _ vo d ys K H (HP.out.1.below n.out.1) μ).mono ?_;rintro e w7 ⟨v7,rfl,F,ο⟩;have H7:=av (aaa F ο);clear F ο;go_wp2_with fail;refine(changeIns base bb p m s K nm c a vc vr _ vo d ys A f T v7 w w4 H w7 HP.out.1 Z.out.1.size n.out.1 H7.out.2 HN.out (by omega) n.out.2.2.2.2.1 H7.out.1 μ β HP.out.2 hGb).mono ?_;intro e P he;cases e with
        |outgrown=>exact he.elim
        |panicked ch=>exact⟨rfl,he⟩
        |returned r=>
         obtain⟨s',K',R,ζ,ε,α,k,hz⟩:=he;have Ψ:w.heap.size+1<H.heap.size:=(ZK.1 n.out.2.1).1;have Φ:=H7.out.2.size;have M:P.heap[w.heap.size+1]? =some (.cells #[(.slice none 0 0),(.slice none 0 0),(.slice none 0 0),(.slice none 0 0)] 41 (0,0)):=(k _ (by omega) (by omega)).trans ((H7.out.2.block _ Ψ).trans n.out.2.1);have γ:∀j,P.cell? ⟨o.heap.size,j,none⟩= #[.slice (A 0) (aN c 0) (f 0),.slice (A 1) (aN c 1) (f 1),.slice (A 2) (aN c 2) (f 2),.slice (A 3) (aN c 3) (f 3)][j]?:=λj=>((World.cell?_of_block (a:=⟨o.heap.size,j,none⟩) (k _ n.out.2.2.2.2.2.1 (ZO n.out.2.2.2.2.2.2 Φ))).trans (H7.out.2.cell (p:=⟨o.heap.size,j,none⟩) n.out.2.2.2.2.2.2)).trans (n.out.2.2.2.1 j)
         have υ:K' (w.heap.size+1)=0:=by
              refine hz _ (by omega) (by omega) (λe=>?_) (λy hy q g e=>?_)
              .have:=(H7.out.1.lt _ e).1;omega
              .rcases qZ hy with rfl|hy
               .have:=((n.out.2.2.2.2.1 q g).1.lt (w.heap.size+1) (by rw[<-e];unfold fH.sl;simp only;cases A q<;>rfl)).1;have:=(ZK.1 Z.out.2.1).1;omega
               .have:=((HP.out.1.rows y hy q g).1.lt _ e).2;omega
         have J:=av (aaa R (aaa ζ (aaa ε (aaa M (aaa γ (aaa υ (aaa α hz)))))));obtain⟨y0,I⟩:=blk M;rcases R with⟨hf,rfl,rfl⟩|⟨hf,rfl,rfl⟩
         .have η:=av hf
          clear hf ζ ε α k hz M γ υ;go_wp2_with fail;have L:=X.out P J.out.2.2.2.1;refine bodyPost_ret (v:=.tuple #[eH,.int .i64 11]) (by simp[results,l,go_sem,L,eH]) rfl ?_;exact⟨s.failed,K',.inr (.inl ⟨m,p,⟨nm,A,f,T⟩,⟨HN.out,H2.out.2.2,HY.out,by omega,Y.out.1,Y.out.2.1,rfl,λq g=>(n.out.2.2.2.2.1 q g).2.1⟩,η.out,rfl,rfl⟩),rQ (w.heap.size+1) _ _ _ _ J.out.2.1 J.out.2.2.2.2.2.1,lG (w.heap.size+1) _ _ _ _ J.out.2.2.1 (by omega)⟩
         .have η:=av hf
          have ν:∀q,q<4->Ints P (.slice (A q) (aN c q) (f q)) (aN c q) (λj=>(((T q)[j]?.getD 0:Nat):Int))/\aN c q<=1000000:=λq g=>by
             have hr:=(n.out.2.2.2.2.1 q g);have hl:(T q).length=aN c q:=hr.2.1.1;have lw4:=Z.out.1.size;have h9:P.ownsRow w4.heap.size 3 1 (.slice (A q) (aN c q) (f q)) (T q).length (aT (T q)):=aJ (au hr.1 H7.out.2) λb hb=>k b (by have:=(hr.1.lt b hb).1;omega) (by have:=(hr.1.lt b hb).2;omega)
             have h8:=dh h9
             have h24:(T q).length<=24:=by
              have h3:(T q).Nodup:=hr.2.1.2.1.imp λh=>by omega
              have h4:=nL (T q) (gq s.D q) h3 λi hi=>(hr.2.1.2.2 i hi).1
              have h5:=mi HP.out.1.ok.d g;omega
             rw[hl]at h8;exact⟨h8,by omega⟩
          have HCP:=av ν;clear ν hf ζ ε α k hz M;go_wp2_with fail;refine(copyX_any A (aN c) f (λq j=>(((T q)[j]?.getD 0:Nat):Int)) P HCP.out).mono ?_;rintro e w10 ⟨B,z,rfl,κ,G⟩;have Q:w.heap.size+1<P.heap.size:=(ZK.1 J.out.2.2.2.1).1;have HQ:=av (aaa κ (aaa G (aaa (bJ G J.out.2.2.2.1) Q)));clear κ G y0 I γ Q;obtain⟨y0,I⟩:=blk HQ.out.2.2.1;go_wp2_with fail;have z3:=set4 (.slice (B 0) (aN c 0) (z 0)) (.slice (B 1) (aN c 1) (z 1)) (.slice (B 2) (aN c 2) (z 2)) (.slice (B 3) (aN c 3) (z 3)) HQ.out.2.2.1;obtain⟨L,_⟩:=blk z3;refine bodyPost_ret (v:=.tuple #[.agg #[.slice (B 0) (aN c 0) (z 0),.slice (B 1) (aN c 1) (z 1),.slice (B 2) (aN c 2) (z 2),.slice (B 3) (aN c 3) (z 3)],.int .i64 0]) (by simp[results,l,go_sem,L]) rfl ?_;have χ:=J.out.2.1.below HQ.out.2.1;have σ:=J.out.2.2.1.trans (dJ.fq (K:=K') HQ.out.2.1);refine⟨_,K',.inr (.inr ⟨m,p,⟨nm,A,f,T⟩,B,z,P.heap.size,⟨HN.out,H2.out.2.2,HY.out,by omega,Y.out.1,Y.out.2.1,rfl,λq g=>(n.out.2.2.2.2.1 q g).2.1⟩,η.out,rfl,rfl,λq g=>?_,λb hb=>?_⟩),rQ (w.heap.size+1) _ _ _ _ χ J.out.2.2.2.2.2.1,lG (w.heap.size+1) _ _ _ _ σ (by omega)⟩
          .have h1:=eQ (b:=w.heap.size+1) (x0:=.slice (B 0) (aN c 0) (z 0)) (x1:=.slice (B 1) (aN c 1) (z 1)) (x2:=.slice (B 2) (aN c 2) (z 2)) (x3:=.slice (B 3) (aN c 3) (z 3)) (HQ.out.1 q g) HQ.out.2.2.2
           have hl:(T q).length=aN c q:=(n.out.2.2.2.2.1 q g).2.1.1;rw[intR_list hl]at h1;exact h1
          .have φ:=J.out.2.1
           obtain⟨_,_,_,_,_,_,h9⟩:=φ
           by_cases h0:K' b=0
           .exact h0
           .have:=(h9.tk b h0).2;omega
  .go_wp2_with fail
   have L:=X.out W2 H3.out.2.1;refine bodyPost_ret (v:=.tuple #[eH,.int .i64 6]) (by simp[results,l,go_sem,L,eH]) rfl ?_;exact θ.out W2 6 H3.out.1 (.inr (.inl ⟨HN.out,⟨p,H2.out.2.2⟩,rfl⟩))
 .have HN:=av hn
  rw[show(decide ((1:Int)<=nm.size)&&decide ((nm.size:Int)<=20))=false by unfold jJ at hn;simp;omega];clear hn;go_wp2_with fail;have L:=X.out W2 H3.out.2.1;refine bodyPost_ret (v:=.tuple #[eH,.int .i64 4]) (by simp[results,l,go_sem,L,eH]) rfl ?_;exact θ.out W2 4 H3.out.1 (.inl ⟨HN.out,rfl⟩)
def qD (s:BS)(nm:ByteArray)(r:Value)(s':BS):Prop:=(nK s nm/\r=.int .i64 10/\s'=s)\/∃p,jw s.bs.length (mU s.bs) nm p true/\ChangeEnd s (s.bs.eraseIdx p) r s'
def ReleasePost (w:World)(base bb:Nat)(s:BS)(K:Nat->Nat)(nm:ByteArray)(r:Value)(w':World):Prop:=∃s' a,qD s nm r s'/\Bd w' base bb s' a/\dJ w w' K a
theorem release_any (base bb)(s)(K)(nm)(a)(w)(h:Bd w base bb s K)(v:s.no+4<=1000000000)
 (A:w.cell? ⟨0,0,none⟩=some (.iface 345 (.pointer (some a))))(y:0<base):
 Calls (patch ae prog) 24 #[.pointer (some ⟨bb,0,none⟩),.string nm] w (RJ (ReleasePost w base bb s K nm) AA):=by
 obtain⟨vc,vr,vb,vo,d,ys,u⟩:=h;have c:=av (aaa u A);have C:=u.lt;have hlen:=u.ok.many;clear u A
 go_enter (pf func24 (by rfl)),ntmps24
 go_wp2_with fail;refine(findB_any s.D (LB w) (mU s.bs) bb vb nm w (c.out.1.cell 6) c.out.1.boxM).mono ?_;rintro e w1 ⟨⟨p,t,rfl,hp⟩,m⟩;have H1:Hid (Below w.heap.size w w1/\jw s.bs.length (mU s.bs) nm p t):=⟨m,hp⟩;clear m hp;cases t
 .go_wp2_with fail
  go_ret;exact⟨s,K,.inl ⟨⟨p,H1.out.2⟩,rfl,rfl⟩,⟨_,_,_,_,_,_,c.out.1.below H1.out.1⟩,dJ.fq H1.out.1⟩
 .have j:p<s.bs.length:=(H1.out.2.2.2.2.1 rfl).1
  go_wp2_with fail;refine(without_any base bb p s vc vr vb vo d ys K w1 (c.out.1.below H1.out.1) j).mono ?_;rintro e w2 ⟨v2,rfl,f,k,l⟩;have z:=av (aaa f (aaa k l));clear f k l;have hl:(s.bs.eraseIdx p).length=s.bs.length-1:=List.length_eraseIdx_of_lt j;have i:Below w.heap.size w w2:=ai H1.out.1 z.out.2.2;go_wp2_with fail;refine(changeP_any base bb s vc vr vb vo v2 d ys K (s.bs.eraseIdx p) a w w2 c.out.1 i (by rw[hl];exact aB z.out.1 H1.out.1.size) z.out.2.1 (λx hx=>(c.out.1.rows x (List.mem_of_mem_eraseIdx hx)).below i) (λx hx q B b hb=>.inl (c.out.1.tl x (List.mem_of_mem_eraseIdx hx) q B b hb)) (λx hx=>c.out.1.ok.small x (List.mem_of_mem_eraseIdx hx)) (by omega) v c.out.2 y).mono ?_;intro e w3 he;cases e with
  |outgrown=>exact he.elim
  |panicked ch=>exact⟨rfl,he⟩
  |returned r=>
   obtain⟨s',E,g,o,n,_,_,_⟩:=he;have H3:=av (aaa g (aaa o n));clear g o n;go_wp2_with fail;go_ret;exact⟨s',E,.inr ⟨p,H1.out.2,H3.out.1⟩,H3.out.2.1,H3.out.2.2⟩
end Z
