/- Part 12 of the proof. -/
import Derived.Test.YtfpaamhppamcoaaGreatDoorPo11
set_option linter.all false
set_option maxRecDepth 100000
set_option maxHeartbeats 60000000
namespace Go.Proofs.YtfpaamhppamcoaaGreatDoor
open Go.Proofs.Tryz
namespace Z
open Go.RowKit
attribute [local go_sem ↓] Go.wp_at_zero Go.wp_at_succ
attribute [local go_sem] After.cell After.frozen After.const
def jJ (nm:ByteArray):Prop:=1<=nm.size/\nm.size<=20
def there (s:BS)(nm:ByteArray):Prop:=∃p,jw s.bs.length (mU s.bs) nm p true
def nK (s:BS)(nm:ByteArray):Prop:=∃p,jw s.bs.length (mU s.bs) nm p false
def aN (c:Nat->Int)(i:Nat):Nat:=(c i).toNat
def yL (s:BS)(c:Nat->Int)(b:Bool):Prop:=gX (eG s.D λi=>(aN c i:Int)) (og s.D λi=>(aN c i:Int)) 4 15=b
def Ii (s:BS)(c:Nat->Int)(o:Option Nat):Prop:=gu (eG s.D λi=>(aN c i:Int)) (og s.D λi=>(aN c i:Int)) s.m.p=o
def DU (s:BS)(nm:ByteArray)(c:Nat->Int)(code:Int):Prop:=
 (¬jJ nm/\code=4)\/(jJ nm/\there s nm/\code=6)\/(jJ nm/\nK s nm/\qo c=false/\code=5)\/(jJ nm/\nK s nm/\qo c=true/\12<=s.bs.length/\code=7)\/
    (jJ nm/\nK s nm/\qo c=true/\s.bs.length<12/\yL s c false/\code=8)\/(jJ nm/\nK s nm/\qo c=true/\s.bs.length<12/\yL s c true/\Ii s c none/\code=9)
structure sj (s:BS)(nm:ByteArray)(c:Nat->Int)(m p:Nat)(x:fH):Prop where
 name:jJ nm
 at_:jw s.bs.length (mU s.bs) nm p false
 may:qo c=true
 room:s.bs.length<12
 yL:yL s c true
 mask:Ii s c (some m)
 nm:x.nm=nm
 given:∀q,q<4->QQ s.D m q (aN c q) (x.T q)
def zD (s:BS)(nm:ByteArray)(c:Nat->Int)(r:Value)(s':BS)(w':World)(K':Nat->Nat):Prop:=
 (∃code,r=.tuple #[eH,.int .i64 code]/\s'=s/\DU s nm c code)\/(∃m p x,sj s nm c m p x/\s.jQ/\r=.tuple #[eH,.int .i64 11]/\s'=s.failed)\/
 ∃(m p:Nat) (x:fH) (d:Nat->Option Addr) (a:Nat->Nat) (z:Nat),sj s nm c m p x/\¬s.jQ/\s'=s.written (s.bs.take p++x::s.bs.drop p)/\r=.tuple #[.agg #[.slice (d 0) (aN c 0) (a 0),.slice (d 1) (aN c 1) (a 1),.slice (d 2) (aN c 2) (a 2),.slice (d 3) (aN c 3) (a 3)],.int .i64 0]/\
  (∀q,q<4->w'.ownsRow z 3 1 (.slice (d q) (aN c q) (a q)) (aN c q) (aT (x.T q)))/\∀b,z<=b->K' b=0
def tY (w:World)(base bb:Nat)(s:BS)(K:Nat->Nat)(nm:ByteArray)(c:Nat->Int)(r:Value)(w':World):Prop:=∃s' K',zD s nm c r s' w' K'/\Bd w' base bb s' K'/\dJ w w' K K'
def Wl {w:World}{b}{t}{z0 z1 z2 z3 z4}(v0 v1 v2 v3 v4)(h:w.heap[b]? =some (.cells #[z0,z1,z2,z3,z4] t (0,0))):(((((w.setCell ⟨b,0,none⟩ v0).setCell ⟨b,1,none⟩ v1).setCell ⟨b,2,none⟩ v2).setCell ⟨b,3,none⟩ v3).setCell ⟨b,4,none⟩ v4).heap[b]? =some (.cells #[v0,v1,v2,v3,v4] t (0,0)):=aD v4 (aD v3 (aD v2 (aD v1 (aD v0 h))))
def Bd.keep {w w'}{base bb}{s}{K}(h:Bd w base bb s K)(hs:w.heap.size<=w'.heap.size)(a:∀b,b<w.heap.size->K b≠0->w'.heap[b]? =w.heap[b]?):Bd w' base bb s K:=let ⟨vc,vr,vb,vo,d,ys,h⟩:=h;⟨vc,vr,vb,vo,d,ys,h.keep hs a⟩
def rQ {w}{base bb}{s}{K}(b)(v0 v1 v2 v3)(h:Bd w base bb s K)(hb:K b=0):Bd ((((w.setCell ⟨b,0,none⟩ v0).setCell ⟨b,1,none⟩ v1).setCell ⟨b,2,none⟩ v2).setCell ⟨b,3,none⟩ v3) base bb s K:=by
 refine h.keep (by simp) λx _ hx=>?_
 have a:x≠b:=λe=>hx (by rw[e];exact hb)
 exact(aad _ _ _ _ a).trans ((aad _ _ _ _ a).trans ((aad _ _ _ _ a).trans (aad _ _ _ _ a)))
def lG {w w'}{K K'}(b)(v0 v1 v2 v3)(h:dJ w w' K K')(hb:w.heap.size<=b):dJ w ((((w'.setCell ⟨b,0,none⟩ v0).setCell ⟨b,1,none⟩ v1).setCell ⟨b,2,none⟩ v2).setCell ⟨b,3,none⟩ v3) K K':=by
 refine⟨h.os,h.tape,h.output,by simpa using h.size,λx hx c=>?_,h.tag⟩;have a:x≠b:=λe=>by omega
 exact((aad _ _ _ _ a).trans ((aad _ _ _ _ a).trans ((aad _ _ _ _ a).trans (aad _ _ _ _ a)))).trans (h.block x hx c)
def Bf {l}{n}(h:l.length=n):Nu (λj=>((l[j]?.getD 0:Nat):Int)) n=aT l:=by
 subst h;refine List.ext_getElem? λj=>?_
 unfold Nu aT
 by_cases a:j<l.length
 .simp[a]
 .simp[a]
def Bw (base bb p m)(s)(K)(nm)(c)(a)(vc vr vb vo)(d)(ys)(A)(f)(T)(u)(w w4 t l:World)
 (j:PS w base bb s vc vr vb vo d ys K)(M:w.heap.size<=w4.heap.size)(hF:adN w t)(G:adN t l)(J:jJ nm)(v:s.bs.length<12)
 (e:∀q,q<4->t.ownsRow w4.heap.size 3 1 (.slice (A q) (aN c q) (f q)) (T q).length (aT (T q))/\mJ s.D m q (aN c q) (T q) (.slice (A q) (aN c q) (f q)))
 (k:l.ownsRow t.heap.size 98 5 u (s.bs.length+1) (aR (s.bs.take p)++[.string nm,.slice (A 0) (aN c 0) (f 0),.slice (A 1) (aN c 1) (f 1),.slice (A 2) (aN c 2) (f 2),.slice (A 3) (aN c 3) (f 3)]++aR (s.bs.drop p)))(hp:p<=s.bs.length)(y:s.no+4<=1000000000)
 (L:w.cell? ⟨0,0,none⟩=some (.iface 345 (.pointer (some a))))(F:0<base):
 adO 56 #[.pointer (some ⟨bb,0,none⟩),u] l (RJ (zC w l base bb s K u (s.bs.take p++⟨nm,A,f,T⟩::s.bs.drop p)) AA):=by
 have o:adN w l:=hF.trans (G.mono hF.size);have hlen:(s.bs.take p++(⟨nm,A,f,T⟩:fH)::s.bs.drop p).length=s.bs.length+1:=by simp;omega
 have r:∀q,q<4->(T q).length=aN c q:=λq g=>(e q g).2.1.1
 have hcs:aR (s.bs.take p++(⟨nm,A,f,T⟩:fH)::s.bs.drop p)=aR (s.bs.take p)++[.string nm,.slice (A 0) (aN c 0) (f 0),.slice (A 1) (aN c 1) (f 1),.slice (A 2) (aN c 2) (f 2),.slice (A 3) (aN c 3) (f 3)]++aR (s.bs.drop p):=by
  rw[iE,adu];refine congrArg _ ?_;show fH.cells ⟨nm,A,f,T⟩++aR (s.bs.drop p)=_
  unfold fH.cells fH.sl;simp only;rw[r 0 (by omega),r 1 (by omega),r 2 (by omega),r 3 (by omega)]
 have n:∀q,q<4->(⟨nm,A,f,T⟩:fH).sl q=.slice (A q) (aN c q) (f q):=λq g=>by unfold fH.sl;simp only;rw[r q g]
 have E:base<=w.heap.size:=ZP j.left (Nat.le_of_lt j.lt);refine uO base bb s vc vr vb vo u d ys K _ a w l j o (by rw[hlen,hcs];exact aB k hF.size) (NZ.Ic k (by omega)) (λx hx=>?_) (λx hx q g b hb=>?_) (λx hx=>?_) (by omega) y L F
 .rcases qZ hx with rfl|hx
  .intro q g
   rw[n q g];exact⟨aB (au (e q g).1 G) (by omega),(e q g).2.2⟩
  .exact((j.rows x hx)).below o
 .rcases qZ hx with rfl|hx
  .rw[n q g]at hb
   have:=((e q g).1.lt b hb).1;exact .inr (by omega)
  .exact .inl (j.tl x hx q g b hb)
 .rcases qZ hx with rfl|hx
  .refine⟨J.2,λq g=>?_⟩
   have C:=(e q g).2.1
   have z:∀i∈T q,i<=24:=λi B=>by
        have H:=yx s.D q i (C.2.2 i B).1
        by_cases I:q=0
        .rw[if_pos I]at H;have:=j.ok.d.qF;omega
        .rw[if_neg I]at H;have:=(j.ok.d.dC (q-1) (by omega)).1;omega
   refine⟨?_,z⟩;have N:(T q).Nodup:=C.2.1.imp λh=>by omega
   have M:=nL (T q) (gq s.D q) N λi B=>(C.2.2 i B).1
   have O:=mi j.ok.d g;show(T q).length<=24
   omega
  .exact j.ok.small x hx
abbrev SA (W:World)(a:Nat)(cs:Array Value)(w':World):Prop:=(∀j,w'.cell? ⟨a,j,none⟩=cs[j]?)/\adN W w'
def Gq {W w1}{a}{cs}(h:SA W a cs w1):SA W a cs w1.drew:=⟨h.1,h.2.drew⟩
def Kc {W w1 w2}{a}{cs}(h:SA W a cs w1)(b:a<W.heap.size)(hb:adN w1 w2):SA W a cs w2:=⟨λj=>(hb.cell (p:=⟨a,j,none⟩) (ZO b h.2.size)).trans (h.1 j),h.2.trans (hb.mono h.2.size)⟩
def Gr {W w1}{o}{a}{cs}(h:SA W a cs w1)(b:a<W.heap.size):SA W a cs (w1.alloc o):=Kc h b ((aab _ _).alloc (ZL _) _)
def zu {W w1}{o}{a}{cs}(h:SA W a cs w1)(b:a<W.heap.size):SA W a cs (w1.alloc o).drew:=Gq (Gr h b)
def Oj {W w1}{a b}{cs}{v0 v1 v2 v3 v4}(h:SA W a cs w1)(d:a<W.heap.size)(hb:W.heap.size<=b):SA W a cs (((((w1.setCell ⟨b,0,none⟩ v0).setCell ⟨b,1,none⟩ v1).setCell ⟨b,2,none⟩ v2).setCell ⟨b,3,none⟩ v3).setCell ⟨b,4,none⟩ v4):=by
 have c:Below W.heap.size w1 (((((w1.setCell ⟨b,0,none⟩ v0).setCell ⟨b,1,none⟩ v1).setCell ⟨b,2,none⟩ v2).setCell ⟨b,3,none⟩ v3).setCell ⟨b,4,none⟩ v4):=(((((aab _ _).setCell hb _).setCell hb _).setCell hb _).setCell hb _).setCell hb _;exact⟨λj=>(c.cell (p:=⟨a,j,none⟩) d).trans (h.1 j),h.2.trans c⟩
def Ql {W w1 w2}{a}{cs}(h:SA W a cs w1)(hb:adN w1 w2):W.heap.size<=w2.heap.size:=ZP h.2.size hb.size
def zw {W w1:World}{o d}{c}{cs}(h:SA W c cs (w1.alloc d))(e:c<W.heap.size)(f:W.heap.size<=w1.heap.size):SA W c cs (w1.alloc o):=by
 have key:∀b,b<W.heap.size->(w1.alloc o).heap[b]? =(w1.alloc d).heap[b]?:=λb hb=>(aac w1 o b (by omega)).trans (aac w1 d b (by omega)).symm
 exact⟨λj=>(adK (a:=⟨c,j,none⟩) (key c e)).trans (h.1 j),⟨h.2.os,h.2.tape,h.2.output,by simp;omega,λb hb=>(key b hb).trans (h.2.block b hb)⟩⟩
def LX (base bb)(s)(K)(nm)(c)(a)(w)(h:Bd w base bb s K)(YQ:nm.size<=281474976710656)(β:s.no+4<=1000000000)
 (hG:w.cell? ⟨0,0,none⟩=some (.iface 345 (.pointer (some a))))(XU:0<base):
 adO 21 #[.pointer (some ⟨bb,0,none⟩),.string nm,.agg #[.int .i64 (c 0),.int .i64 (c 1),.int .i64 (c 2),.int .i64 (c 3)]] w (RJ (tY w base bb s K nm c) AA):=by
 obtain⟨vc,vr,vb,vo,d,ys,hP⟩:=h;have HM:Hid (∀u,adO 53 #[.agg #[.int .i64 (c 0),.int .i64 (c 1),.int .i64 (c 2),.int .i64 (c 3)]] u λe w'=>e=.returned (.bool (qo c))/\adN u w'):=λu=>vz c u
 have Zp:Hid (∀u,adO 43 #[.agg #[.int .i64 (c 0),.int .i64 (c 1),.int .i64 (c 2),.int .i64 (c 3)]] u λe w'=>e=.returned (.agg #[.int .i64 (c 0),.int .i64 (c 1),.int .i64 (c 2),.int .i64 (c 3)])/\adN u w'):=λu=>qJ c u
 obtain⟨va,Wd,rfl⟩:=aj hP.boxes;have HP:=av (aaa hP hG);have Zz:=hP.lt
 have Zt:Hid (∀u,adN w u->qo c=true->adO 54 #[.pointer (some ⟨bb,0,none⟩),.agg #[.int .i64 (c 0),.int .i64 (c 1),.int .i64 (c 2),.int .i64 (c 3)]] u (RJ (zB u s.D (aN c) s.m.p) AA)):=λu hu E=>by
  have Θ:=HP.out.1.below hu;have ψ:=FQ u bb s.D s.m.S s.m.C s.m.p (aN c) (LB u) Θ.Si Θ.Jm Θ.ok.d (JN u) ⟨_,_,Θ.blk⟩
  have V2:QC c 4:=by
   unfold qo at E;simp only[ZQ,decide_eq_true_eq]at E;exact E.1
  have e:∀i,i<4->((aN c i:Nat):Int)=c i:=λi hi=>by unfold aN;have:=(V2 i hi).1;omega
  rw[e 0 (by omega),e 1 (by omega),e 2 (by omega),e 3 (by omega)]at ψ;exact ψ
 clear hP hG;have l:Func.results f21= #[.cell 6 41,.tmp 7]:=by kernel_rfl
 go_enter (pf func21 (by rfl)),ntmps21
 go_wp2_with fail;obtain⟨W0,WN⟩:∃W,W=(w.alloc (.cells #[.int .i64 (c 0),.int .i64 (c 1),.int .i64 (c 2),.int .i64 (c 3)] 29)).alloc (.cells #[.slice none 0 0,.slice none 0 0,.slice none 0 0,.slice none 0 0] 41):=⟨_,rfl⟩
 have H0:Hid (adN w W0/\W0.heap[w.heap.size]? =some (.cells #[.int .i64 (c 0),.int .i64 (c 1),.int .i64 (c 2),.int .i64 (c 3)] 29 (0,0))/\W0.heap[w.heap.size+1]? =some (.cells #[.slice none 0 0,.slice none 0 0,.slice none 0 0,.slice none 0 0] 41 (0,0))):=by
  rw[WN];exact⟨((aab _ _).alloc (ZL _) _).alloc (by simp) _,aap _ _ _,aam _ _ _⟩
 rw[<-WN];clear WN;have P0:=HP.out.1.below H0.out.1;refine(Bl s.D (LB W0) (mU s.bs) bb _ nm W0 (P0.cell 6) P0.DC).mono ?_;rintro e w1 ⟨⟨p,t,rfl,hp⟩,Δ⟩;have H1:Hid (adN w w1/\w1.heap[w.heap.size]? =some (.cells #[.int .i64 (c 0),.int .i64 (c 1),.int .i64 (c 2),.int .i64 (c 3)] 29 (0,0))/\w1.heap[w.heap.size+1]? =some (.cells #[.slice none 0 0,.slice none 0 0,.slice none 0 0,.slice none 0 0] 41 (0,0))/\jw s.bs.length (mU s.bs) nm p t):=⟨ai H0.out.1 Δ,bJ Δ H0.out.2.1,bJ Δ H0.out.2.2,hp⟩;obtain⟨q0,X'⟩:=blk H1.out.2.1;clear Δ hp P0 H0;go_wp2_with fail;refine(Zp.out _).mono ?_;rintro e w2 ⟨rfl,WL⟩;have H2:Hid (adN w w2/\w2.heap[w.heap.size+1]? =some (.cells #[.slice none 0 0,.slice none 0 0,.slice none 0 0,.slice none 0 0] 41 (0,0))/\jw s.bs.length (mU s.bs) nm p t):=⟨ai H1.out.1 WL,bJ WL H1.out.2.2.1,H1.out.2.2.2⟩;clear WL q0 X' H1;go_wp2_with fail;obtain⟨W2,WM⟩:∃W,W=w2.alloc (.cells #[.int .i64 (c 0),.int .i64 (c 1),.int .i64 (c 2),.int .i64 (c 3)] 37):=⟨_,rfl⟩
 have H3:Hid (adN w W2/\W2.heap[w.heap.size+1]? =some (.cells #[.slice none 0 0,.slice none 0 0,.slice none 0 0,.slice none 0 0] 41 (0,0))/\W2.heap[w2.heap.size]? =some (.cells #[.int .i64 (c 0),.int .i64 (c 1),.int .i64 (c 2),.int .i64 (c 3)] 37 (0,0))/\w.heap.size+2<=w2.heap.size):=by
  have hl:=(ZK.1 H2.out.2.1).1;rw[WM];exact⟨H2.out.1.alloc H2.out.1.size _,(aac _ _ _ hl).trans H2.out.2.1,aae _ _,by omega⟩
 rw[<-WM];clear WM
 have θ:Hid (∀(W:World) (code:Int),adN w W->DU s nm c code->tY w base bb s K nm c (.tuple #[eH,.int .i64 code]) ((((W.setCell ⟨w.heap.size+1,0,none⟩ (.slice none 0 0)).setCell ⟨w.heap.size+1,1,none⟩ (.slice none 0 0)).setCell ⟨w.heap.size+1,2,none⟩ (.slice none 0 0)).setCell ⟨w.heap.size+1,3,none⟩ (.slice none 0 0))):=λW code hW β=>by
  have δ:adN w ((((W.setCell ⟨w.heap.size+1,0,none⟩ (.slice none 0 0)).setCell ⟨w.heap.size+1,1,none⟩ (.slice none 0 0)).setCell ⟨w.heap.size+1,2,none⟩ (.slice none 0 0)).setCell ⟨w.heap.size+1,3,none⟩ (.slice none 0 0)):=(((hW.setCell (Nat.le_succ _) _).setCell (Nat.le_succ _) _).setCell (Nat.le_succ _) _).setCell (Nat.le_succ _) _;exact⟨s,K,.inl ⟨code,rfl,rfl,β⟩,⟨_,_,_,_,_,_,HP.out.1.below δ⟩,dJ.fq δ⟩
 have X:Hid (∀W:World,W.heap[w.heap.size+1]? =some (.cells #[(.slice none 0 0),(.slice none 0 0),(.slice none 0 0),(.slice none 0 0)] 41 (0,0))->∀j,((((W.setCell ⟨w.heap.size+1,0,none⟩ (.slice none 0 0)).setCell ⟨w.heap.size+1,1,none⟩ (.slice none 0 0)).setCell ⟨w.heap.size+1,2,none⟩ (.slice none 0 0)).setCell ⟨w.heap.size+1,3,none⟩ (.slice none 0 0)).cell? ⟨w.heap.size+1,j,none⟩=(#[(.slice none 0 0),(.slice none 0 0),(.slice none 0 0),(.slice none 0 0)]:Array Value)[j]?):=λW hW j=>by
  have z3:=aD (i:=3) (.slice none 0 0) (aD (i:=2) (.slice none 0 0) (aD (i:=1) (.slice none 0 0) (aD (i:=0) (.slice none 0 0) hW)));simp only[ZN,ZR,ZS]at z3;exact(blk z3).1 j
 refine(E7 nm W2).mono ?_;rintro e w3 ⟨rfl,hw⟩;obtain rfl:=hw.symm;obtain⟨y0,I⟩:=blk H3.out.2.1
 by_cases hn:jJ nm
 .have HN:=av hn
  rw[show(decide ((1:Int)<=nm.size)&&decide ((nm.size:Int)<=20))=true by unfold jJ at hn;simp;omega];clear hn;cases t
  .obtain⟨qc,Ξ⟩:=blk H3.out.2.2.1
   go_wp2_with fail;refine(HM.out W2).mono ?_;rintro e w4 ⟨rfl,δ⟩;have Z:Hid (adN w w4/\w4.heap[w.heap.size+1]? =some (.cells #[(.slice none 0 0),(.slice none 0 0),(.slice none 0 0),(.slice none 0 0)] 41 (0,0))/\w4.heap[w2.heap.size]? =some (.cells #[.int .i64 (c 0),.int .i64 (c 1),.int .i64 (c 2),.int .i64 (c 3)] 37 (0,0))):=⟨ai H3.out.1 δ,bJ δ H3.out.2.1,bJ δ H3.out.2.2.1⟩;clear δ qc Ξ y0 I;obtain⟨y0,I⟩:=blk Z.out.2.1;cases E:qo c
   .have HY:=av E
    clear E;go_wp2_with fail;have L:=X.out w4 Z.out.2.1;refine bodyPost_ret (v:=.tuple #[eH,.int .i64 5]) (by simp[results,l,go_sem,L,eH]) rfl ?_;exact θ.out w4 5 Z.out.1 (.inr (.inr (.inl ⟨HN.out,⟨p,H2.out.2.2⟩,HY.out,rfl⟩)))
   .have HY:=av E
    clear E;have ω:w4.cell? ⟨bb,6,none⟩=some (.slice va s.bs.length Wd):=(HP.out.1.below Z.out.1).cell 6
    by_cases Ω:12<=s.bs.length
    .have YO:(12:Int)<=s.bs.length:=by omega
     go_wp2_with fail;have L:=X.out w4 Z.out.2.1;refine bodyPost_ret (v:=.tuple #[eH,.int .i64 7]) (by simp[results,l,go_sem,L,eH]) rfl ?_;exact θ.out w4 7 Z.out.1 (.inr (.inr (.inr (.inl ⟨HN.out,⟨p,H2.out.2.2⟩,HY.out,Ω,rfl⟩))))
    .have YO:¬(12:Int)<=s.bs.length:=by omega
     obtain⟨qc,Ξ⟩:=blk Z.out.2.2;go_wp2_with fail;refine(Zt.out w4 Z.out.1 HY.out).mono ?_;intro e o he;cases e with
     |outgrown=>exact he.elim
     |panicked ch=>exact⟨rfl,he⟩
     |returned v=>
      obtain⟨Γ,ψ⟩:=he;have H5:Hid (adN w o/\o.heap[w.heap.size+1]? =some (.cells #[(.slice none 0 0),(.slice none 0 0),(.slice none 0 0),(.slice none 0 0)] 41 (0,0))/\w4.heap.size<=o.heap.size):=⟨ai Z.out.1 Γ,bJ Γ Z.out.2.1,Γ.size⟩;clear Γ qc Ξ y0 I;obtain⟨y0,I⟩:=blk H5.out.2.1;have Xg:=av (ZK.1 H5.out.2.1).1;rcases ψ with⟨U,rfl⟩|⟨U,β,rfl⟩|⟨m,A,f,T,U,XG,rfl,XI⟩
      .have Y:=av U
       clear U;unfold eH;have HA:=av ((aac o (.cells #[(.slice none 0 0),(.slice none 0 0),(.slice none 0 0),(.slice none 0 0)] 41) _ Xg.out).trans H5.out.2.1);obtain⟨x0,ι⟩:=blk HA.out;go_wp2_with fail;have L:=X.out (o.alloc (.cells #[(.slice none 0 0),(.slice none 0 0),(.slice none 0 0),(.slice none 0 0)] 41)) HA.out;refine bodyPost_ret (v:=.tuple #[eH,.int .i64 8]) (by simp[results,l,go_sem,L,eH]) rfl ?_;exact θ.out (o.alloc _) 8 (H5.out.1.alloc H5.out.1.size _) (.inr (.inr (.inr (.inr (.inl ⟨HN.out,⟨p,H2.out.2.2⟩,HY.out,by omega,Y.out,rfl⟩)))))
      .have Y:=av (aaa U β)
       clear U β;unfold eH;have HA:=av ((aac o (.cells #[(.slice none 0 0),(.slice none 0 0),(.slice none 0 0),(.slice none 0 0)] 41) _ Xg.out).trans H5.out.2.1);obtain⟨x0,ι⟩:=blk HA.out;go_wp2_with fail;have L:=X.out (o.alloc (.cells #[(.slice none 0 0),(.slice none 0 0),(.slice none 0 0),(.slice none 0 0)] 41)) HA.out;refine bodyPost_ret (v:=.tuple #[eH,.int .i64 9]) (by simp[results,l,go_sem,L,eH]) rfl ?_;exact θ.out (o.alloc _) 9 (H5.out.1.alloc H5.out.1.size _) (.inr (.inr (.inr (.inr (.inr ⟨HN.out,⟨p,H2.out.2.2⟩,HY.out,by omega,Y.out.1,Y.out.2,rfl⟩)))))
      .have Y:Hid (yL s c true/\Ii s c (some m)/\∀q,q<4->o.ownsRow w4.heap.size 3 1 (.slice (A q) (aN c q) (f q)) (T q).length (aT (T q))/\mJ s.D m q (aN c q) (T q) (.slice (A q) (aN c q) (f q))):=⟨U,XG,XI⟩
       clear U XG XI;go_wp2_with fail;obtain⟨O,ρ⟩:∃W,W=o.alloc (.cells #[.slice (A 0) (aN c 0) (f 0),.slice (A 1) (aN c 1) (f 1),.slice (A 2) (aN c 2) (f 2),.slice (A 3) (aN c 3) (f 3)] 41):=⟨_,rfl⟩
       have HS:SA O o.heap.size #[.slice (A 0) (aN c 0) (f 0),.slice (A 1) (aN c 1) (f 1),.slice (A 2) (aN c 2) (f 2),.slice (A 3) (aN c 3) (f 3)] O:=by
           refine⟨λj=>?_,aab _ _⟩;rw[ρ];exact(blk (aae _ _)).1 j
       have HW:Hid (adN w O/\O.heap[w.heap.size+1]? =some (.cells #[(.slice none 0 0),(.slice none 0 0),(.slice none 0 0),(.slice none 0 0)] 41 (0,0))/\O.heap.size=o.heap.size+1):=by
           rw[ρ];exact⟨H5.out.1.alloc H5.out.1.size _,(aac o _ _ Xg.out).trans H5.out.2.1,by simp⟩
       have XJ:o.heap.size<O.heap.size:=(by rw[HW.out.2.2];omega);have V:=av XJ;have X7:Hid (∀q,q<4->O.ownsRow w4.heap.size 3 1 (.slice (A q) (aN c q) (f q)) (T q).length (aT (T q))):=λq g=>by rw[ρ];exact(Y.out.2.2 q g).1.alloc _
       rw[<-ρ];clear ρ XJ
       go_region_held3(λw'=>(∀j,w'.cell? ⟨o.heap.size,j,none⟩= #[.slice (A 0) (aN c 0) (f 0),.slice (A 1) (aN c 1) (f 1),.slice (A 2) (aN c 2) (f 2),.slice (A 3) (aN c 3) (f 3)][j]?)/\adN O w') (with_reducible (first|exact Gq HS|exact zu HS V.out|exact Kc (by assumption) V.out (by assumption)|exact Gr (by assumption) V.out|exact Oj (by assumption) V.out (ZL _)|exact zw (by assumption) V.out (by assumption)|exact zw (by assumption) V.out (ZL _)))
           (first
             |(go_at_call 55;refine(Ja nm _ YQ).mono ?_;rintro e w6 ⟨rfl,ω⟩;have Zw:=Ql (by assumption) ω;try(first|have g:=fw ω|have g:=gV ω);try(obtain⟨qa,qb⟩:=blk g)))
       .rename_i K1 τ hH
        simp only[Exit.then];refine τ _ _ ?_;clear τ;obtain⟨H,N⟩:∃W,W=w6.alloc (.cells #[.string nm,.slice (A 0) (aN c 0) (f 0),.slice (A 1) (aN c 1) (f 1),.slice (A 2) (aN c 2) (f 2),.slice (A 3) (aN c 3) (f 3)] 98):=⟨_,rfl⟩;have x:SA O o.heap.size #[.slice (A 0) (aN c 0) (f 0),.slice (A 1) (aN c 1) (f 1),.slice (A 2) (aN c 2) (f 2),.slice (A 3) (aN c 3) (f 3)] H:=(by rw[N];exact hH)
        have ξ:H.heap[w6.heap.size]? =some (.cells #[.string nm,.slice (A 0) (aN c 0) (f 0),.slice (A 1) (aN c 1) (f 1),.slice (A 2) (aN c 2) (f 2),.slice (A 3) (aN c 3) (f 3)] 98 (0,0)):=by
             rw[N];exact aae _ _
        rw[<-N];clear N hH
        have n:Hid (adN w H/\H.heap[w.heap.size+1]? =some (.cells #[(.slice none 0 0),(.slice none 0 0),(.slice none 0 0),(.slice none 0 0)] 41 (0,0))/\H.heap[w6.heap.size]? =some (.cells #[.string nm,.slice (A 0) (aN c 0) (f 0),.slice (A 1) (aN c 1) (f 1),.slice (A 2) (aN c 2) (f 2),.slice (A 3) (aN c 3) (f 3)] 98 (0,0))/\(∀j,H.cell? ⟨o.heap.size,j,none⟩= #[.slice (A 0) (aN c 0) (f 0),.slice (A 1) (aN c 1) (f 1),.slice (A 2) (aN c 2) (f 2),.slice (A 3) (aN c 3) (f 3)][j]?)/\(∀q,q<4->H.ownsRow w4.heap.size 3 1 (.slice (A q) (aN c q) (f q)) (T q).length (aT (T q))/\mJ s.D m q (aN c q) (T q) (.slice (A q) (aN c q) (f q)))/\w.heap.size<=o.heap.size/\o.heap.size<H.heap.size):=
             ⟨ai HW.out.1 x.2,bJ x.2 HW.out.2.1,ξ,x.1,λq g=>⟨au (X7.out q g) x.2,(Y.out.2.2 q g).2⟩,H5.out.1.size,by have:=x.2.size;have:=V.out;omega⟩
        clear x ξ;have μ:p<=s.bs.length:=H2.out.2.2.1;obtain⟨x0,ι⟩:=blk n.out.2.2.1;go_wp2_with fail;clear x0 ι;refine(D8 base bb p s nm A (aN c) f vc vr _ vo d ys K H (HP.out.1.below n.out.1) μ).mono ?_;rintro e w7 ⟨v7,rfl,F,ο⟩;have H7:=av (aaa F ο);clear F ο;go_wp2_with fail;refine(Bw base bb p m s K nm c a vc vr _ vo d ys A f T v7 w w4 H w7 HP.out.1 Z.out.1.size n.out.1 H7.out.2 HN.out (by omega) n.out.2.2.2.2.1 H7.out.1 μ β HP.out.2 XU).mono ?_;intro e P he;cases e with
        |outgrown=>exact he.elim
        |panicked ch=>exact⟨rfl,he⟩
        |returned r=>
         obtain⟨s',K',R,ζ,ε,α,k,hz⟩:=he;have Ψ:w.heap.size+1<H.heap.size:=(ZK.1 n.out.2.1).1;have Φ:=H7.out.2.size;have M:P.heap[w.heap.size+1]? =some (.cells #[(.slice none 0 0),(.slice none 0 0),(.slice none 0 0),(.slice none 0 0)] 41 (0,0)):=(k _ (by omega) (by omega)).trans ((H7.out.2.block _ Ψ).trans n.out.2.1);have γ:∀j,P.cell? ⟨o.heap.size,j,none⟩= #[.slice (A 0) (aN c 0) (f 0),.slice (A 1) (aN c 1) (f 1),.slice (A 2) (aN c 2) (f 2),.slice (A 3) (aN c 3) (f 3)][j]?:=λj=>((adK (a:=⟨o.heap.size,j,none⟩) (k _ n.out.2.2.2.2.2.1 (ZO n.out.2.2.2.2.2.2 Φ))).trans (H7.out.2.cell (p:=⟨o.heap.size,j,none⟩) n.out.2.2.2.2.2.2)).trans (n.out.2.2.2.1 j)
         have υ:K' (w.heap.size+1)=0:=by
              refine hz _ (by omega) (by omega) (λe=>?_) (λy hy q g e=>?_)
              .have:=(H7.out.1.lt _ e).1;omega
              .rcases qZ hy with rfl|hy
               .have:=((n.out.2.2.2.2.1 q g).1.lt (w.heap.size+1) (by rw[<-e];unfold fH.sl;simp only;cases A q<;>rfl)).1;have:=(ZK.1 Z.out.2.1).1;omega
               .have:=((HP.out.1.rows y hy q g).1.lt _ e).2;omega
         have J:=av (aaa R (aaa ζ (aaa ε (aaa M (aaa γ (aaa υ (aaa α hz)))))));obtain⟨y0,I⟩:=blk M;rcases R with⟨hf,rfl,rfl⟩|⟨hf,rfl,rfl⟩
         .have η:=av hf
          clear hf ζ ε α k hz M γ υ;go_wp2_with fail;have L:=X.out P J.out.2.2.2.1;refine bodyPost_ret (v:=.tuple #[eH,.int .i64 11]) (by simp[results,l,go_sem,L,eH]) rfl ?_;exact⟨s.failed,K',.inr (.inl ⟨m,p,⟨nm,A,f,T⟩,⟨HN.out,H2.out.2.2,HY.out,by omega,Y.out.1,Y.out.2.1,rfl,λq g=>(n.out.2.2.2.2.1 q g).2.1⟩,η.out,rfl,rfl⟩),rQ (w.heap.size+1) _ _ _ _ J.out.2.1 J.out.2.2.2.2.2.1,lG (w.heap.size+1) _ _ _ _ J.out.2.2.1 (by omega)⟩
         .have η:=av hf
          have ν:∀q,q<4->Ints P (.slice (A q) (aN c q) (f q)) (aN c q) (λj=>(((T q)[j]?.getD 0:Nat):Int))/\aN c q<=1000000:=λq g=>by
             have hr:=(n.out.2.2.2.2.1 q g);have hl:(T q).length=aN c q:=hr.2.1.1;have Ym:=Z.out.1.size;have h9:P.ownsRow w4.heap.size 3 1 (.slice (A q) (aN c q) (f q)) (T q).length (aT (T q)):=aJ (au hr.1 H7.out.2) λb hb=>k b (by have:=(hr.1.lt b hb).1;omega) (by have:=(hr.1.lt b hb).2;omega)
             have h8:=dh h9
             have Y':(T q).length<=24:=by
              have h3:(T q).Nodup:=hr.2.1.2.1.imp λh=>by omega
              have h4:=nL (T q) (gq s.D q) h3 λi hi=>(hr.2.1.2.2 i hi).1
              have h5:=mi HP.out.1.ok.d g;omega
             rw[hl]at h8;exact⟨h8,by omega⟩
          have Xh:=av ν;clear ν hf ζ ε α k hz M;go_wp2_with fail;refine(Bv A (aN c) f (λq j=>(((T q)[j]?.getD 0:Nat):Int)) P Xh.out).mono ?_;rintro e Xk ⟨B,z,rfl,κ,G⟩;have Q:w.heap.size+1<P.heap.size:=(ZK.1 J.out.2.2.2.1).1;have HQ:=av (aaa κ (aaa G (aaa (bJ G J.out.2.2.2.1) Q)));clear κ G y0 I γ Q;obtain⟨y0,I⟩:=blk HQ.out.2.2.1;go_wp2_with fail;have z3:=KB (.slice (B 0) (aN c 0) (z 0)) (.slice (B 1) (aN c 1) (z 1)) (.slice (B 2) (aN c 2) (z 2)) (.slice (B 3) (aN c 3) (z 3)) HQ.out.2.2.1;obtain⟨L,_⟩:=blk z3;refine bodyPost_ret (v:=.tuple #[.agg #[.slice (B 0) (aN c 0) (z 0),.slice (B 1) (aN c 1) (z 1),.slice (B 2) (aN c 2) (z 2),.slice (B 3) (aN c 3) (z 3)],.int .i64 0]) (by simp[results,l,go_sem,L]) rfl ?_;have χ:=J.out.2.1.below HQ.out.2.1;have σ:=J.out.2.2.1.trans (dJ.fq (K:=K') HQ.out.2.1);refine⟨_,K',.inr (.inr ⟨m,p,⟨nm,A,f,T⟩,B,z,P.heap.size,⟨HN.out,H2.out.2.2,HY.out,by omega,Y.out.1,Y.out.2.1,rfl,λq g=>(n.out.2.2.2.2.1 q g).2.1⟩,η.out,rfl,rfl,λq g=>?_,λb hb=>?_⟩),rQ (w.heap.size+1) _ _ _ _ χ J.out.2.2.2.2.2.1,lG (w.heap.size+1) _ _ _ _ σ (by omega)⟩
          .have h1:=eQ (b:=w.heap.size+1) (x0:=.slice (B 0) (aN c 0) (z 0)) (x1:=.slice (B 1) (aN c 1) (z 1)) (x2:=.slice (B 2) (aN c 2) (z 2)) (x3:=.slice (B 3) (aN c 3) (z 3)) (HQ.out.1 q g) HQ.out.2.2.2
           have hl:(T q).length=aN c q:=(n.out.2.2.2.2.1 q g).2.1.1;rw[Bf hl]at h1;exact h1
          .have φ:=J.out.2.1
           obtain⟨_,_,_,_,_,_,h9⟩:=φ
           by_cases h0:K' b=0
           .exact h0
           .have:=(h9.tk b h0).2;omega
       .rename_i K1 τ hH
        simp only[Exit.then];refine τ _ _ ?_;clear τ;obtain⟨H,N⟩:∃W,W=((((w6.setCell ⟨O.heap.size,0,none⟩ (.string nm)).setCell ⟨O.heap.size,1,none⟩ (.slice (A 0) (aN c 0) (f 0))).setCell ⟨O.heap.size,2,none⟩ (.slice (A 1) (aN c 1) (f 1))).setCell ⟨O.heap.size,3,none⟩ (.slice (A 2) (aN c 2) (f 2))).setCell ⟨O.heap.size,4,none⟩ (.slice (A 3) (aN c 3) (f 3)):=⟨_,rfl⟩;have x:SA O o.heap.size #[.slice (A 0) (aN c 0) (f 0),.slice (A 1) (aN c 1) (f 1),.slice (A 2) (aN c 2) (f 2),.slice (A 3) (aN c 3) (f 3)] H:=(by rw[N];exact hH)
        have ξ:H.heap[O.heap.size]? =some (.cells #[.string nm,.slice (A 0) (aN c 0) (f 0),.slice (A 1) (aN c 1) (f 1),.slice (A 2) (aN c 2) (f 2),.slice (A 3) (aN c 3) (f 3)] 98 (0,0)):=by
             rw[N];exact Wl _ _ _ _ _ g
        rw[<-N];clear N hH
        have n:Hid (adN w H/\H.heap[w.heap.size+1]? =some (.cells #[(.slice none 0 0),(.slice none 0 0),(.slice none 0 0),(.slice none 0 0)] 41 (0,0))/\H.heap[O.heap.size]? =some (.cells #[.string nm,.slice (A 0) (aN c 0) (f 0),.slice (A 1) (aN c 1) (f 1),.slice (A 2) (aN c 2) (f 2),.slice (A 3) (aN c 3) (f 3)] 98 (0,0))/\(∀j,H.cell? ⟨o.heap.size,j,none⟩= #[.slice (A 0) (aN c 0) (f 0),.slice (A 1) (aN c 1) (f 1),.slice (A 2) (aN c 2) (f 2),.slice (A 3) (aN c 3) (f 3)][j]?)/\(∀q,q<4->H.ownsRow w4.heap.size 3 1 (.slice (A q) (aN c q) (f q)) (T q).length (aT (T q))/\mJ s.D m q (aN c q) (T q) (.slice (A q) (aN c q) (f q)))/\w.heap.size<=o.heap.size/\o.heap.size<H.heap.size):=
             ⟨ai HW.out.1 x.2,bJ x.2 HW.out.2.1,ξ,x.1,λq g=>⟨au (X7.out q g) x.2,(Y.out.2.2 q g).2⟩,H5.out.1.size,by have:=x.2.size;have:=V.out;omega⟩
        clear x ξ;have μ:p<=s.bs.length:=H2.out.2.2.1;obtain⟨x0,ι⟩:=blk n.out.2.2.1;go_wp2_with fail;clear x0 ι;refine(D8 base bb p s nm A (aN c) f vc vr _ vo d ys K H (HP.out.1.below n.out.1) μ).mono ?_;rintro e w7 ⟨v7,rfl,F,ο⟩;have H7:=av (aaa F ο);clear F ο;go_wp2_with fail;refine(Bw base bb p m s K nm c a vc vr _ vo d ys A f T v7 w w4 H w7 HP.out.1 Z.out.1.size n.out.1 H7.out.2 HN.out (by omega) n.out.2.2.2.2.1 H7.out.1 μ β HP.out.2 XU).mono ?_;intro e P he;cases e with
        |outgrown=>exact he.elim
        |panicked ch=>exact⟨rfl,he⟩
        |returned r=>
         obtain⟨s',K',R,ζ,ε,α,k,hz⟩:=he;have Ψ:w.heap.size+1<H.heap.size:=(ZK.1 n.out.2.1).1;have Φ:=H7.out.2.size;have M:P.heap[w.heap.size+1]? =some (.cells #[(.slice none 0 0),(.slice none 0 0),(.slice none 0 0),(.slice none 0 0)] 41 (0,0)):=(k _ (by omega) (by omega)).trans ((H7.out.2.block _ Ψ).trans n.out.2.1);have γ:∀j,P.cell? ⟨o.heap.size,j,none⟩= #[.slice (A 0) (aN c 0) (f 0),.slice (A 1) (aN c 1) (f 1),.slice (A 2) (aN c 2) (f 2),.slice (A 3) (aN c 3) (f 3)][j]?:=λj=>((adK (a:=⟨o.heap.size,j,none⟩) (k _ n.out.2.2.2.2.2.1 (ZO n.out.2.2.2.2.2.2 Φ))).trans (H7.out.2.cell (p:=⟨o.heap.size,j,none⟩) n.out.2.2.2.2.2.2)).trans (n.out.2.2.2.1 j)
         have υ:K' (w.heap.size+1)=0:=by
              refine hz _ (by omega) (by omega) (λe=>?_) (λy hy q g e=>?_)
              .have:=(H7.out.1.lt _ e).1;omega
              .rcases qZ hy with rfl|hy
               .have:=((n.out.2.2.2.2.1 q g).1.lt (w.heap.size+1) (by rw[<-e];unfold fH.sl;simp only;cases A q<;>rfl)).1;have:=(ZK.1 Z.out.2.1).1;omega
               .have:=((HP.out.1.rows y hy q g).1.lt _ e).2;omega
         have J:=av (aaa R (aaa ζ (aaa ε (aaa M (aaa γ (aaa υ (aaa α hz)))))));obtain⟨y0,I⟩:=blk M;rcases R with⟨hf,rfl,rfl⟩|⟨hf,rfl,rfl⟩
         .have η:=av hf
          clear hf ζ ε α k hz M γ υ;go_wp2_with fail;have L:=X.out P J.out.2.2.2.1;refine bodyPost_ret (v:=.tuple #[eH,.int .i64 11]) (by simp[results,l,go_sem,L,eH]) rfl ?_;exact⟨s.failed,K',.inr (.inl ⟨m,p,⟨nm,A,f,T⟩,⟨HN.out,H2.out.2.2,HY.out,by omega,Y.out.1,Y.out.2.1,rfl,λq g=>(n.out.2.2.2.2.1 q g).2.1⟩,η.out,rfl,rfl⟩),rQ (w.heap.size+1) _ _ _ _ J.out.2.1 J.out.2.2.2.2.2.1,lG (w.heap.size+1) _ _ _ _ J.out.2.2.1 (by omega)⟩
         .have η:=av hf
          have ν:∀q,q<4->Ints P (.slice (A q) (aN c q) (f q)) (aN c q) (λj=>(((T q)[j]?.getD 0:Nat):Int))/\aN c q<=1000000:=λq g=>by
             have hr:=(n.out.2.2.2.2.1 q g);have hl:(T q).length=aN c q:=hr.2.1.1;have Ym:=Z.out.1.size;have h9:P.ownsRow w4.heap.size 3 1 (.slice (A q) (aN c q) (f q)) (T q).length (aT (T q)):=aJ (au hr.1 H7.out.2) λb hb=>k b (by have:=(hr.1.lt b hb).1;omega) (by have:=(hr.1.lt b hb).2;omega)
             have h8:=dh h9
             have Y':(T q).length<=24:=by
              have h3:(T q).Nodup:=hr.2.1.2.1.imp λh=>by omega
              have h4:=nL (T q) (gq s.D q) h3 λi hi=>(hr.2.1.2.2 i hi).1
              have h5:=mi HP.out.1.ok.d g;omega
             rw[hl]at h8;exact⟨h8,by omega⟩
          have Xh:=av ν;clear ν hf ζ ε α k hz M;go_wp2_with fail;refine(Bv A (aN c) f (λq j=>(((T q)[j]?.getD 0:Nat):Int)) P Xh.out).mono ?_;rintro e Xk ⟨B,z,rfl,κ,G⟩;have Q:w.heap.size+1<P.heap.size:=(ZK.1 J.out.2.2.2.1).1;have HQ:=av (aaa κ (aaa G (aaa (bJ G J.out.2.2.2.1) Q)));clear κ G y0 I γ Q;obtain⟨y0,I⟩:=blk HQ.out.2.2.1;go_wp2_with fail;have z3:=KB (.slice (B 0) (aN c 0) (z 0)) (.slice (B 1) (aN c 1) (z 1)) (.slice (B 2) (aN c 2) (z 2)) (.slice (B 3) (aN c 3) (z 3)) HQ.out.2.2.1;obtain⟨L,_⟩:=blk z3;refine bodyPost_ret (v:=.tuple #[.agg #[.slice (B 0) (aN c 0) (z 0),.slice (B 1) (aN c 1) (z 1),.slice (B 2) (aN c 2) (z 2),.slice (B 3) (aN c 3) (z 3)],.int .i64 0]) (by simp[results,l,go_sem,L]) rfl ?_;have χ:=J.out.2.1.below HQ.out.2.1;have σ:=J.out.2.2.1.trans (dJ.fq (K:=K') HQ.out.2.1);refine⟨_,K',.inr (.inr ⟨m,p,⟨nm,A,f,T⟩,B,z,P.heap.size,⟨HN.out,H2.out.2.2,HY.out,by omega,Y.out.1,Y.out.2.1,rfl,λq g=>(n.out.2.2.2.2.1 q g).2.1⟩,η.out,rfl,rfl,λq g=>?_,λb hb=>?_⟩),rQ (w.heap.size+1) _ _ _ _ χ J.out.2.2.2.2.2.1,lG (w.heap.size+1) _ _ _ _ σ (by omega)⟩
          .have h1:=eQ (b:=w.heap.size+1) (x0:=.slice (B 0) (aN c 0) (z 0)) (x1:=.slice (B 1) (aN c 1) (z 1)) (x2:=.slice (B 2) (aN c 2) (z 2)) (x3:=.slice (B 3) (aN c 3) (z 3)) (HQ.out.1 q g) HQ.out.2.2.2
           have hl:(T q).length=aN c q:=(n.out.2.2.2.2.1 q g).2.1.1;rw[Bf hl]at h1;exact h1
          .have φ:=J.out.2.1
           obtain⟨_,_,_,_,_,_,h9⟩:=φ
           by_cases h0:K' b=0
           .exact h0
           .have:=(h9.tk b h0).2;omega
  .go_wp2_with fail
   have L:=X.out W2 H3.out.2.1;refine bodyPost_ret (v:=.tuple #[eH,.int .i64 6]) (by simp[results,l,go_sem,L,eH]) rfl ?_;exact θ.out W2 6 H3.out.1 (.inr (.inl ⟨HN.out,⟨p,H2.out.2.2⟩,rfl⟩))
 .have HN:=av hn
  rw[show(decide ((1:Int)<=nm.size)&&decide ((nm.size:Int)<=20))=false by unfold jJ at hn;simp;omega];clear hn;go_wp2_with fail;have L:=X.out W2 H3.out.2.1;refine bodyPost_ret (v:=.tuple #[eH,.int .i64 4]) (by simp[results,l,go_sem,L,eH]) rfl ?_;exact θ.out W2 4 H3.out.1 (.inl ⟨HN.out,rfl⟩)
def qD (s:BS)(nm:ByteArray)(r:Value)(s':BS):Prop:=(nK s nm/\r=.int .i64 10/\s'=s)\/∃p,jw s.bs.length (mU s.bs) nm p true/\o5 s (s.bs.eraseIdx p) r s'
def uY (w:World)(base bb:Nat)(s:BS)(K:Nat->Nat)(nm:ByteArray)(r:Value)(w':World):Prop:=∃s' K',qD s nm r s'/\Bd w' base bb s' K'/\dJ w w' K K'
def Ev (base bb)(s)(K)(nm)(a)(w)(h:Bd w base bb s K)(v:s.no+4<=1000000000)
 (A:w.cell? ⟨0,0,none⟩=some (.iface 345 (.pointer (some a))))(y:0<base):
 adO 24 #[.pointer (some ⟨bb,0,none⟩),.string nm] w (RJ (uY w base bb s K nm) AA):=by
 obtain⟨vc,vr,vb,vo,d,ys,u⟩:=h;have c:=av (aaa u A);have C:=u.lt;have hlen:=u.ok.many;clear u A
 go_enter (pf func24 (by rfl)),ntmps24
 go_wp2_with fail;refine(Bl s.D (LB w) (mU s.bs) bb vb nm w (c.out.1.cell 6) c.out.1.DC).mono ?_;rintro e w1 ⟨⟨p,t,rfl,hp⟩,m⟩;have H1:Hid (adN w w1/\jw s.bs.length (mU s.bs) nm p t):=⟨m,hp⟩;clear m hp;cases t
 .go_wp2_with fail
  go_ret;exact⟨s,K,.inl ⟨⟨p,H1.out.2⟩,rfl,rfl⟩,⟨_,_,_,_,_,_,c.out.1.below H1.out.1⟩,dJ.fq H1.out.1⟩
 .have j:p<s.bs.length:=(H1.out.2.2.2.2.1 rfl).1
  go_wp2_with fail;refine(D7 base bb p s vc vr vb vo d ys K w1 (c.out.1.below H1.out.1) j).mono ?_;rintro e w2 ⟨v2,rfl,f,k,l⟩;have z:=av (aaa f (aaa k l));clear f k l;have hl:(s.bs.eraseIdx p).length=s.bs.length-1:=List.length_eraseIdx_of_lt j;have i:adN w w2:=ai H1.out.1 z.out.2.2;go_wp2_with fail;refine(uO base bb s vc vr vb vo v2 d ys K (s.bs.eraseIdx p) a w w2 c.out.1 i (by rw[hl];exact aB z.out.1 H1.out.1.size) z.out.2.1 (λx hx=>(c.out.1.rows x (List.mem_of_mem_eraseIdx hx)).below i) (λx hx q B b hb=>.inl (c.out.1.tl x (List.mem_of_mem_eraseIdx hx) q B b hb)) (λx hx=>c.out.1.ok.small x (List.mem_of_mem_eraseIdx hx)) (by omega) v c.out.2 y).mono ?_;intro e w3 he;cases e with
  |outgrown=>exact he.elim
  |panicked ch=>exact⟨rfl,he⟩
  |returned r=>
   obtain⟨s',K',g,o,n,_,_,_⟩:=he;have H3:=av (aaa g (aaa o n));clear g o n;go_wp2_with fail;go_ret;exact⟨s',K',.inr ⟨p,H1.out.2,H3.out.1⟩,H3.out.2.1,H3.out.2.2⟩
def jL (x)(w):adO 64 #[.int .i64 x] w λe w'=>e=.returned (.bool (decide (0<=x/\x<3)))/\w'=w:=by
 by_cases b:0<=x
 .by_cases a:x<3
  .go_enter (pf func64 (by rfl)),ntmps64
   go_wp2_with fail;go_ret;exact⟨by simp[b,a],rfl⟩
  .go_enter (pf func64 (by rfl)),ntmps64
   go_wp2_with fail;go_ret;exact⟨by simp[b,a],rfl⟩
 .go_enter (pf func64 (by rfl)),ntmps64
  go_wp2_with fail;go_ret;exact⟨by simp;omega,rfl⟩
def AZ {w:World}{base ty a}{v}{n}{xs}(h:w.ownsRow base ty a v n xs){g j}(c:v.ownBlock=some g)(k:j<n*a)(u):(w.setCell ⟨g,j,none⟩ u).ownsRow base ty a v n (xs.set j u):=by
 refine⟨by rw[List.length_set];exact h.1,?_⟩;rcases h.2 with⟨rfl,_⟩|⟨g',cap,cur,rfl,f,b,e,hc,hs,d⟩
 .cases c
 .cases c
  refine .inr ⟨g',cap,cur.setIfInBounds j u,rfl,f,aD (i:=j) u b,e,hc,by simpa using hs,?_⟩;rw[Array.toList_setIfInBounds,List.take_set,d]
def Da (bb)(A B)(hy)(w)(hA:¬(0<=A/\A<3)):adO 36 #[.pointer (some ⟨bb,0,none⟩),.int .i64 A,.int .i64 B,.bool hy] w λe w'=>e=.returned (.int .i64 2)/\w'=w:=by
 have a:=av hA;clear hA
 go_enter (pf func36 (by rfl)),ntmps36
 go_wp2_with(go_at_call 64;refine(jL _ _).mono ?_;rintro e w1 ⟨he,hw⟩;rw[adg a.out]at he;obtain rfl:=he;obtain rfl:=hw.symm);go_ret;exact⟨rfl,rfl⟩
def Fj (bb k n cap)(ao)(B)(hy)(w:World)(f:k<3)(g:w.cell? ⟨bb,3+k,none⟩=some (.slice ao n cap))(a:¬(0<=B/\B< (n:Int))):adO 36 #[.pointer (some ⟨bb,0,none⟩),.int .i64 k,.int .i64 B,.bool hy] w λe w'=>e=.returned (.int .i64 3)/\w'=w:=by
 have h:=av a;have b:B<0\/¬B<0/\(n:Int)<=B:=by omega
 clear a;rcases b with a|⟨a,c⟩
 all_goals have d:Hid (0<=(k:Int)/\(k:Int)<3):=⟨by omega,by omega⟩
 all_goals(obtain rfl|rfl|rfl:k=0\/k=1\/k=2:=by omega)
 all_goals(
  go_enter (pf func36 (by rfl)),ntmps36
  go_wp2_with(go_at_call 64;refine(jL _ _).mono ?_;rintro e w1 ⟨he,hw⟩;obtain rfl:=he;obtain rfl:=hw.symm)
  all_goals(
   go_ret;exact⟨rfl,rfl⟩))
def Fh (bb k i g n cap)(hy b0)(w:World)(f:k<3)(h:i<n)(hc:n<=cap)(j:w.cell? ⟨bb,3+k,none⟩=some (.slice (some ⟨g,0,none⟩) n cap))(b:w.cell? ⟨g,i*2+1,none⟩=some (.bool b0))(hf:w.frozen? ⟨g,i*2+1,none⟩=false):
 adO 36 #[.pointer (some ⟨bb,0,none⟩),.int .i64 k,.int .i64 i,.bool hy] w λe w'=>e=.returned (.int .i64 0)/\w'=w.setCell ⟨g,i*2+1,none⟩ (.bool hy):=by
 have a:(i:Int)<n:=by omega
 have d:¬(i:Int)<0:=by omega
 have l:Hid (0<=(i:Int)/\(i:Int)<n):=⟨by omega,a⟩;have c:Hid (0<=(k:Int)/\(k:Int)<3):=⟨by omega,by omega⟩;obtain rfl|rfl|rfl:k=0\/k=1\/k=2:=by omega
 all_goals(
  go_enter (pf func36 (by rfl)),ntmps36
  go_wp2_with(go_at_call 64;refine(jL _ _).mono ?_;rintro e w1 ⟨he,hw⟩;obtain rfl:=he;obtain rfl:=hw.symm)
  all_goals(
   go_ret;exact⟨rfl,rfl⟩))
def jV (a:Nat->Int)(b:Nat->Bool)(j:Nat):Value:=if j%2=0 then .int .i64 (a (j/2))else .bool (b (j/2))
def yR (a)(b)(i):jV a b (i*2)=.int .i64 (a i):=by unfold jV;rw[if_pos (by omega),show i*2/2=i by omega]
def yQ (b)(a)(i):jV b a (i*2+1)=.bool (a i):=by unfold jV;rw[if_neg (by omega),show(i*2+1)/2=i by omega]
def Lr (a)(b)(j):NB (jV a b j):=by
 unfold jV;split
 .exact .inl ⟨_,_,rfl⟩
 .exact .inr ⟨_,rfl⟩
def yP (n:Nat)(a:Nat->Int)(b:Nat->Bool):List Value:=(List.range (n*2)).map (jV a b)
def rZ (w:World)(b o n:Nat)(a:Nat->Int)(c:Nat->Bool):Prop:=∀i,i<n->w.cell? ⟨b,o+i*2,none⟩=some (.int .i64 (a i))/\w.cell? ⟨b,o+i*2+1,none⟩=some (.bool (c i))
def rZ.flat {w}{b o n}{a}{c}(h:rZ w b o n a c){j}(g:j<n*2):w.cell? ⟨b,o+j,none⟩=some (jV a c j):=by
 obtain⟨f,d⟩:=h (j/2) (by omega);rcases(show j=j/2*2\/j=j/2*2+1 by omega)with e|e
 .rw[e,yR];exact f
 .rw[e,yQ];exact d
def rZ.keep {w w'}{b o n}{d}{e}(h:rZ w b o n d e)(hc:∀a v,w.cell? a=some v->w'.cell? a=some v):rZ w' b o n d e:=λi c=>⟨hc _ _ (h i c).1,hc _ _ (h i c).2⟩
def PQ {n}{b}{c}{j}{u}(h:(yP n b c)[j]? =some u):j<n*2/\u=jV b c j:=by
 have a:j<n*2:=by
  have:=(ZZ.1 h).1;simpa[yP] using this
 refine⟨a,?_⟩;simp[yP,a]at h;exact h.symm
def JU:((patch ae prog).info? 75).map (λi=>(i.zero,i.size,i.bytes))=some (some (.agg #[.int .i64 0,.bool false]),2,16):=by kernel_rfl
def Zk:∀u∈(Value.agg #[.int .i64 0,.bool false]).cells.toList,NB u:=λu hu=>by
 simp[Value.cells]at hu;rcases hu with rfl|rfl
 .exact .inl ⟨_,_,rfl⟩
 .exact .inr ⟨_,rfl⟩
def Dx (b o n cap)(xs)(w)(t:n<=16)(hl:xs.length=n*2)(hx:∀j u,xs[j]? =some u->w.cell? ⟨b,o+j,none⟩=some u)(p:∀u∈xs,NB u):
 adO 66 #[.slice (some ⟨b,o,none⟩) n cap] w λe w'=>∃v,e=.returned v/\w'.ownsRow w.heap.size 75 2 v n xs/\Flat w' v/\adN w w':=by
 have heq:=fun(W:World)=>Lib.run_eql_slice_nil (P:=(patch ae prog)) W 33 75 (some ⟨b,o,none⟩) n cap 0 0 ((ax ae prog 33).trans underlying33)
 obtain⟨i,r,l,h,g⟩:=info_parts JU;have hu:=((ax ae prog 33).trans underlying33);have d:∀j u,xs[j]? =some u->(w.alloc (.cells #[] 75)).cell? ((⟨b,o,none⟩:Addr).add j)=some u:=λj u m=>by rw[Addr.add_lit,World.cell?_alloc_past _ _ _ (aan (hx j u m))];exact hx j u m
 have s:Hid (∀j u,xs[j]? =some u->(w.alloc (.cells #[] 75)).cell? ((⟨b,o,none⟩:Addr).add j)=some u):=d;have H1:Hid (∀u∈xs,NB u):=p;clear hx d p
 go_enter (pf func66 (by rfl)),ntmps66
 go_wp2_with(at_builtin;go_loud(refine eX rfl _ _ _ rfl w.heap.size 75 i _ 2 16 hu r l h g (by rfl) (by omega) Zk w.heap.size (by rfl) (aae _ _) (ZL _) ⟨b,o,none⟩ n cap xs (by rfl) hl s.out H1.out (by unfold maxLen;omega) (by omega) ?_);intro v' w1 f a c);go_ret;exact⟨_,rfl,f,c,((aab _ _).alloc (ZL _) _).grown a (by simp) (λk q=>by cases q;exact ZL _)⟩
def Iq (x)(w):adO 65 #[.int .i64 x] w λe w'=>e=.returned (.bool (decide (0<=x/\x<4)))/\w'=w:=by
 by_cases b:0<=x
 .by_cases a:x<4
  .go_enter (pf func65 (by rfl)),ntmps65
   go_wp2_with(first|(go_at_call 102;go_enter (pf func102 (by rfl)),ntmps102)|(go_at_call 65;go_enter (pf func65 (by rfl)),ntmps65));go_ret;exact⟨by simp[b,a],rfl⟩
  .go_enter (pf func65 (by rfl)),ntmps65
   go_wp2_with(first|(go_at_call 102;go_enter (pf func102 (by rfl)),ntmps102)|(go_at_call 65;go_enter (pf func65 (by rfl)),ntmps65));go_ret;exact⟨by simp[b,a],rfl⟩
 .go_enter (pf func65 (by rfl)),ntmps65
  go_wp2_with(first|(go_at_call 102;go_enter (pf func102 (by rfl)),ntmps102)|(go_at_call 65;go_enter (pf func65 (by rfl)),ntmps65));go_ret;exact⟨by simp;omega,rfl⟩
def O9 (m:Int)(bb k b o n cap:Nat)(h)(B)(cs)(T)(w)(Q:k<3)(D:m=k)(K:n<=16)(I:n<=cap)(hd:rZ w b o n h B)(d:∀i,i<n->0<=h i/\h i<4)(f:w.heap[bb]? =some (.cells cs T (0,0)))(hcs:5<cs.size):
 adO 35 #[.pointer (some ⟨bb,0,none⟩),.int .i64 m,.slice (some ⟨b,o,none⟩) n cap] w λe w'=>e=.returned (.int .i64 0)/\∃v A,adN w A/\A.ownsRow w.heap.size 75 2 v n (yP n h B)/\Flat A v/\w'.heap=(A.setCell ⟨bb,3+k,none⟩ v).heap/\w'.os=w.os/\w'.tape=w.tape/\w'.output=w.output:=by
 have J:¬(16:Int)<n:=by omega
 have C:=av (aaa hd (aaa d f));have E:bb<w.heap.size:=(ZK.1 f).1;clear hd d f;have r:(k=0/\m=0)\/(k=1/\m=1)\/(k=2/\m=2):=by omega
 clear D;rcases r with⟨rfl,rfl⟩|⟨rfl,rfl⟩|⟨rfl,rfl⟩
 all_goals(
  go_enter (pf func35 (by rfl)),ntmps35
  go_wp2_with(go_at_call 64;refine(jL _ _).mono ?_;rintro e w1 ⟨he,hw⟩;obtain rfl:=he;obtain rfl:=hw.symm)
  go_loopw [17] (λi wr=>∃j:Nat,j<=n/\i=.int .i64 j/\adN w wr) (λi _=>n-(intOf i).toNat)
  case atStart=>exact⟨0,by omega,rfl,aab _ _⟩
  case round=>
   obtain⟨j,R,rfl,hb⟩:=hrel;have x:=av hb;have z:w.heap.size<=wr.heap.size:=hb.size
   by_cases p:j<n
   .obtain⟨c0,S⟩:=C.out.1.keep (λa v hc=>keeps hb hc) j p
    have jn:(j:Int)<n:=(by omega);clear hb;have M:=av (C.out.2.1 j p);go_wp2_with(go_at_call 65;refine(Iq _ _).mono ?_;rintro e w1 ⟨he,hw⟩;rw[ady M.out]at he;obtain rfl:=he;obtain rfl:=hw.symm);go_roundw
    case rel=>exact⟨j+1,by omega,by go_num,x.out.alloc z _⟩
    case measure=>simp[intOf];omega
   .have:j=n:=by omega
    subst this;clear hb
    have hx:=av (show∀q u,(yP j h B)[q]? =some u->wr.drew.cell? ⟨b,o+q,none⟩=some u from λq u H=>by
     obtain⟨L,rfl⟩:=PQ H;exact(C.out.1.keep (λa v hc=>keeps x.out hc)).flat L)
    go_wp2_with fail
    go_region_law(go_simp;go_at_call 66;refine(Dx b o j cap (yP j h B) wr.drew K (by simp[yP]) hx.out (λu hu=>by obtain⟨q,_,rfl⟩:=adz.1 hu;exact Lr _ _ _)).mono ?_;rintro e w1 ⟨v,rfl,c,s,g⟩;obtain⟨P,G,rfl⟩:=aj c;have kb:=(g.block bb (by show bb<wr.heap.size;omega)).trans ((x.out.block bb E).trans C.out.2.2);obtain⟨y,O⟩:=blk kb;have y3:=(y 3).trans (ZM (show 3<cs.size from Nat.lt_trans (by decide) hcs));have y4:=(y 4).trans (ZM (show 4<cs.size from Nat.lt_trans (by decide) hcs));have N:=(y 5).trans (ZM hcs);clear y;have F:=av (aaa c (aaa s g));clear c s g kb;dsimp only)
    all_goals(
     have z:=x.out.size;have t:adN w w1:=x.out.drew.trans (F.out.2.2.mono z);have l:=av (aaa t (aaa (aB F.out.1 z) F.out.2.1));clear t;go_wp2_with fail;go_ret;exact⟨rfl,_,w1,l.out.1,l.out.2.1,l.out.2.2,rfl,l.out.1.os,l.out.1.tape,l.out.1.output⟩))
def BS.fJ (s:BS)(k i:Nat)(h:Bool):BS:={s with dH:=λk' a=>if k'=k/\a=i then h else s.dH k' a}
def BS.reg (s:BS)(k n:Nat)(a:Nat->Int)(b:Nat->Bool):BS:={s with dn:=λk'=>if k'=k then n else s.dn k',dN:=λk'=>if k'=k then a else s.dN k',dH:=λk'=>if k'=k then b else s.dH k'}
def J3 {s}{k j}(h:j<s.dn k*2):(rO s k)[j]? =some (iB s k j):=by simp[rO,h]
def my (s)(k):(rO s k).length=s.dn k*2:=by simp[rO]
def J2 (s)(k i)(h):(rO s k).set (i*2+1) (.bool h)=rO (s.fJ k i h) k:=by
 refine List.ext_getElem? λj=>?_
 rw[List.getElem?_set]
 by_cases b:j<s.dn k*2
 .rw[J3 (s:=s.fJ k i h) (k:=k) b,my]
  by_cases he:i*2+1=j
  .rw[if_pos he,if_pos (by omega),<-he]
   unfold iB BS.fJ;simp only;rw[if_neg (by omega),if_pos ⟨trivial,by omega⟩]
  .rw[if_neg he,J3 b]
   unfold iB BS.fJ;simp only
   by_cases a:j%2=0
   .rw[if_pos a,if_pos a]
   .rw[if_neg a,if_neg a,if_neg (by omega)]
 .rw[List.getElem?_eq_none (l:=rO (s.fJ k i h) k) (by rw[my];exact Nat.le_of_not_lt b)]
  by_cases he:i*2+1=j
  .rw[if_pos he,if_neg (by rw[my];omega)]
  .rw[if_neg he,List.getElem?_eq_none (by rw[my];omega)]
def Bo (s){k k' i}(h)(a:k'≠k):rO (s.fJ k i h) k'=rO s k':=by
 unfold rO;refine List.map_congr_left λj _=>?_
 unfold iB BS.fJ;simp only;rw[if_neg (c:=k'=k/\j/2=i) (λh=>a h.1)]
def J4 (s:BS)(k n)(a)(b):rO (s.reg k n a b) k=yP n a b:=by
 unfold rO yP;have e:(s.reg k n a b).dn k=n:=by unfold BS.reg;simp
 rw[e];refine List.map_congr_left λj _=>?_
 unfold iB jV BS.reg;simp
def vO (s){k k' n}{a}{b}(c:k'≠k):rO (s.reg k n a b) k'=rO s k'/\(s.reg k n a b).dn k'=s.dn k':=by
 have e:(s.reg k n a b).dn k'=s.dn k':=by unfold BS.reg;simp[c]
 refine⟨?_,e⟩;unfold rO;rw[e];refine List.map_congr_left λj _=>?_
 unfold iB BS.reg;simp[c]
def Ld {s:BS}{k i}{h}(hs:s.ok):(s.fJ k i h).ok:=⟨hs.M8,⟨hs.d.qF,hs.d.nodes,hs.d.res,hs.d.dC⟩,hs.many,hs.small,hs.no,hs.ah⟩
def Q7 {s:BS}{k n}{a}{f}(hs:s.ok)(c:n<=16)(e:∀i,i<n->0<=a i/\a i<4):(s.reg k n a f).ok:=by
 refine⟨hs.M8,⟨hs.d.qF,hs.d.nodes,hs.d.res,λk' b=>?_⟩,hs.many,hs.small,hs.no,hs.ah⟩;show(if k'=k then n else s.dn k')<=16/\∀i,i< (if k'=k then n else s.dn k')->0<=(if k'=k then a else s.dN k') i/\(if k'=k then a else s.dN k') i<4
 by_cases h:k'=k
 .simp only[if_pos h];exact⟨c,e⟩
 .simp only[if_neg h];exact hs.d.dC k' b
section
variable {w w':World}{base bb:Nat}{s:BS}{vc vr vb vo:Value}{d:Nat->Value}{ys:List Value}{K:Nat->Nat}
def PS.Q5 (h:PS w base bb s vc vr vb vo d ys K){k i g}(n:k<3)(o:i<s.dn k)(m:(d k).ownBlock=some g)(b):PS (w.setCell ⟨g,i*2+1,none⟩ (.bool b)) base bb (s.fJ k i b) vc vr vb vo d ys K:=by
 have l:=h.td k n g m;have a:∀x,K x≠4+k->(w.setCell ⟨g,i*2+1,none⟩ (.bool b)).heap[x]? =w.heap[x]?:=λx hx=>aad _ _ _ _ λe=>hx (by rw[e];exact l)
 have f:∀{x},K x=2->(w.setCell ⟨g,i*2+1,none⟩ (.bool b)).heap[x]? =w.heap[x]?:=λhx=>a _ (by omega)
 refine⟨(a bb (by rw[h.tb];omega)).trans h.blk,aJ h.dA λx hx=>f (h.tc x hx),aJ h.res λx hx=>f (h.tr x hx),λk' c=>?_,aJ h.boxes λx hx=>f (h.tx x hx),λx hx q j=>⟨aJ (h.rows x hx q j).1 λy hy=>f (h.tl x hx q j y hy),(h.rows x hx q j).2⟩,
  aJ h.ops λx hx=>a x (by rw[h.tq x hx];omega),h.tb,h.tc,h.tr,h.tx,h.tl,h.td,h.tq,λx hx=>by simpa using h.tk x hx,Ld h.ok⟩
 by_cases e:k'=k
 .subst e
  rw[<-J2];exact AZ (h.dC k' c) m (by omega) _
 .rw[Bo s b e]
  exact aJ (h.dC k' c) λx hx=>a x (by rw[h.td k' c x hx];omega)
def PS.OX (h:PS w base bb s vc vr vb vo d ys K){m}(hb:adN w m){k n}{v}{u}{A}(J:k<3)(D:n<=16)(E:∀i,i<n->0<=u i/\u i<4)(B:m.ownsRow w.heap.size 75 2 v n (yP n u A))
 (hw:w'.heap=(m.setCell ⟨bb,3+k,none⟩ v).heap):PS w' base bb (s.reg k n u A) vc vr vb vo (λk'=>if k'=k then v else d k') ys (retag K w.heap.size v (4+k) []):=by
 have old:∀b,b<w.heap.size->retag K w.heap.size v (4+k) [] b=K b:=λb h=>if_pos h
 have p:∀{b},K b≠0->b<w.heap.size:=λhx=>(h.tk _ hx).2
 have o:∀x,x≠bb->w'.heap[x]? =m.heap[x]?:=λx hx=>by rw[hw];exact aad _ _ _ _ hx
 have j:∀{x},K x≠0->K x≠1->w'.heap[x]? =w.heap[x]?:=fun{x} G z=>(o x (λe=>z (by rw[e];exact h.tb))).trans (hb.block x (p G))
 have r:bb<w.heap.size:=h.lt;have g:∀b,v.ownBlock=some b->w.heap.size<=b/\b<m.heap.size:=B.lt;have a:∀{x t},K x=t->t≠0->retag K w.heap.size v (4+k) [] x=t:=fun{x t} e I=>(old x (p (by omega))).trans e
 refine⟨?_,aJ h.dA λx hx=>j (by rw[h.tc x hx];omega) (by rw[h.tc x hx];omega),aJ h.res λx hx=>j (by rw[h.tr x hx];omega) (by rw[h.tr x hx];omega),λk' c=>?_,aJ h.boxes λx hx=>j (by rw[h.tx x hx];omega) (by rw[h.tx x hx];omega),λx hx q l=>⟨aJ (h.rows x hx q l).1 λy hy=>j (by rw[h.tl x hx q l y hy];omega) (by rw[h.tl x hx q l y hy];omega),(h.rows x hx q l).2⟩,
  aJ h.ops λx hx=>j (by rw[h.tq x hx];omega) (by rw[h.tq x hx];omega),a h.tb (by omega),λx hx=>a (h.tc x hx) (by omega),λx hx=>a (h.tr x hx) (by omega),λx hx=>a (h.tx x hx) (by omega),λx hx q l y hy=>a (h.tl x hx q l y hy) (by omega),λk' c b f=>?_,λx hx=>a (h.tq x hx) (by omega),λb hx=>?_,Q7 h.ok D E⟩
 .have z:=(hb.block bb r).trans h.blk
  have F:=aD (i:=3+k) v z;rw[hw];refine F.trans ?_;obtain rfl|rfl|rfl:k=0\/k=1\/k=2:=by omega
  all_goals rfl
 .by_cases e:k'=k
  .subst e
   rw[J4,if_pos rfl];have H:(s.reg k' n u A).dn k'=n:=(by unfold BS.reg;simp);rw[H];exact aB (aJ B λx hx=>o x (by have:=(g x hx).1;omega)) (ZP h.left (Nat.le_of_lt r))
  .rw[(vO s e).1,(vO s e).2,if_neg e]
   exact aJ (h.dC k' c) λx hx=>j (by rw[h.td k' c x hx];omega) (by rw[h.td k' c x hx];omega)
 .by_cases e:k'=k
  .subst e
   rw[if_pos rfl]at f;have:=(g b f).1;unfold retag;rw[if_neg (by omega),if_pos f]
  .rw[if_neg e]at f
   exact a (h.td k' c b f) (by omega)
 .have C:w.heap.size<=w'.heap.size/\m.heap.size<=w'.heap.size:=by rw[hw];have:=hb.size;simp;omega
  unfold retag at hx;split at hx
  .have:=h.tk b hx;exact⟨this.1,by omega⟩
  .split at hx
   .have:=g b (by assumption);have:=h.left;exact⟨by omega,by omega⟩
   .simp at hx
end
def BN (s:BS)(A B:Int)(hy:Bool)(r:Int)(s':BS):Prop:=(¬(0<=A/\A<3)/\r=2/\s'=s)\/((0<=A/\A<3)/\¬(0<=B/\B<s.dn A.toNat)/\r=3/\s'=s)\/((0<=A/\A<3)/\(0<=B/\B<s.dn A.toNat)/\r=0/\s'=s.fJ A.toNat B.toNat hy)
def IB (A B)(hy)(base bb)(s)(K)(w)(h:Bd w base bb s K):
 adO 36 #[.pointer (some ⟨bb,0,none⟩),.int .i64 A,.int .i64 B,.bool hy] w λe w'=>∃r s',e=.returned (.int .i64 r)/\BN s A B hy r s'/\Bd w' base bb s' K/\dJ w w' K K:=by
 obtain⟨vc,vr,vb,vo,d,ys,f⟩:=h
 by_cases hA:0<=A/\A<3
 .obtain⟨k,rfl⟩:∃k:Nat,A=k:=⟨A.toNat,by omega⟩
  have j:k<3:=by omega
  obtain⟨ao,cap,e,v,x,u,_⟩:=dV (f.dC k j)
  have hc:w.cell? ⟨bb,3+k,none⟩=some (.slice ao (s.dn k) cap):=by
   rw[f.cell,<-e];obtain rfl|rfl|rfl:k=0\/k=1\/k=2:=by omega
   all_goals rfl
  by_cases o:0<=B/\B< (s.dn k:Int)
  .obtain⟨i,rfl⟩:∃i:Nat,B=i:=⟨B.toNat,by omega⟩
   have m:i<s.dn k:=(by omega);obtain⟨g,rfl,_,_,t⟩:=u (by omega);have a:(d k).ownBlock=some g:=(by rw[e];rfl);have l:=(yN t m).2;rw[Z8,Nat.mul_comm 2 i]at l
   have c:w.frozen? ⟨g,i*2+1,none⟩=false:=by
        rcases(f.dC k j).2 with⟨h,_⟩|⟨g',p,cur,h,_,q,_⟩
        .rw[e]at h;cases h
        .rw[e]at h;cases h;exact(blk q).2 _
   refine(Fh bb k i g (s.dn k) cap hy _ w j m v hc l c).mono ?_;rintro n w' ⟨rfl,rfl⟩;refine⟨0,s.fJ k i hy,rfl,.inr (.inr ⟨by omega,by rw[acX];omega,rfl,rfl⟩),⟨_,_,_,_,_,_,f.Q5 j m a hy⟩,⟨rfl,rfl,rfl,by simp,λb _ hb=>?_,λ_ _=>rfl⟩⟩;refine aad _ _ _ _ λe=>?_
   have:=f.td k j g a;have n:b=g:=e;rw[n]at hb;omega
  .refine(Fj bb k (s.dn k) cap ao B hy w j hc o).mono ?_
   rintro n w' ⟨rfl,rfl⟩;exact⟨3,s,rfl,.inr (.inl ⟨by omega,by rw[acX];exact o,rfl,rfl⟩),⟨_,_,_,_,_,_,f⟩,dJ.refl _ _⟩
 .refine(Da bb A B hy w hA).mono ?_
  rintro e w' ⟨rfl,rfl⟩;exact⟨2,s,rfl,.inl ⟨hA,rfl,rfl⟩,⟨_,_,_,_,_,_,f⟩,dJ.refl _ _⟩
def Dw (w):adO 66 #[.slice none 0 0] w λe w'=>e=.returned (.slice none 0 0)/\w'=w:=by
 have heq:=fun(W:World)=>Lib.run_eql_slice_nil (P:=(patch ae prog)) W 33 75 none 0 0 0 0 ((ax ae prog 33).trans underlying33)
 go_enter (pf func66 (by rfl)),ntmps66
 go_wp2_with fail;go_ret;exact⟨rfl,rfl⟩
def MH (a:Int)(bb k:Nat)(cs)(T)(w)(i:k<3)(f:a=k)(c:w.heap[bb]? =some (.cells cs T (0,0)))(hcs:5<cs.size):
 adO 35 #[.pointer (some ⟨bb,0,none⟩),.int .i64 a,.slice none 0 0] w λe w'=>e=.returned (.int .i64 0)/\w'.heap=(w.setCell ⟨bb,3+k,none⟩ (.slice none 0 0)).heap/\w'.os=w.os/\w'.tape=w.tape/\w'.output=w.output:=by
 obtain⟨d,h⟩:=blk c;have y3:=(d 3).trans (ZM (show 3<cs.size from Nat.lt_trans (by decide) hcs));have y4:=(d 4).trans (ZM (show 4<cs.size from Nat.lt_trans (by decide) hcs));have g:=(d 5).trans (ZM hcs);clear d;have b:(k=0/\a=0)\/(k=1/\a=1)\/(k=2/\a=2):=by omega
 clear f c;rcases b with⟨rfl,rfl⟩|⟨rfl,rfl⟩|⟨rfl,rfl⟩
 all_goals(
  go_enter (pf func35 (by rfl)),ntmps35
  go_wp2_with(go_at_call 64;refine(jL _ _).mono ?_;rintro e w1 ⟨he,hw⟩;obtain rfl:=he;obtain rfl:=hw.symm);refine wp_loop_rounds 1 ?_;rw[aal];go_wp2_with fail
  go_region_law(go_simp;go_at_call 66;refine(Dw w.drew).mono ?_;rintro e w1 ⟨rfl,hw⟩;obtain rfl:=hw.symm;dsimp only)
  all_goals(
   go_wp2_with fail;go_ret;exact⟨rfl,rfl,rfl,rfl,rfl⟩))
def UN (w:World)(v:Value)(n:Nat)(a:Nat->Int)(c:Nat->Bool):Prop:=(v=.slice none 0 0/\n=0)\/∃b o cap,v=.slice (some ⟨b,o,none⟩) n cap/\n<=cap/\rZ w b o n a c
def Cu (base bb k n:Nat)(c)(m)(v)(s)(K)(w)(h:Bd w base bb s K)(q:k<3)(t:n<=16)(x:∀i,i<n->0<=c i/\c i<4)(y:UN w v n c m):
 adO 35 #[.pointer (some ⟨bb,0,none⟩),.int .i64 k,v] w λe w'=>e=.returned (.int .i64 0)/\∃K',Bd w' base bb (s.reg k n c m) K'/\dJ w w' K K':=by
 obtain⟨vc,vr,vb,vo,d,ys,p⟩:=h
 have fin:∀(u:Value) (f w':World),adN w f->f.ownsRow w.heap.size 75 2 u n (yP n c m)->w'.heap=(f.setCell ⟨bb,3+k,none⟩ u).heap->w'.os=w.os->w'.tape=w.tape->w'.output=w.output->∃K',Bd w' base bb (s.reg k n c m) K'/\dJ w w' K K':=λu f w' hb hu hw l j g=>by
  refine⟨_,⟨_,_,_,_,_,_,p.OX hb q t x hu hw⟩,l,j,g,by rw[hw];simpa using hb.size,λb a r=>?_,λb a=>if_pos a⟩;rw[hw];refine(aad _ _ _ _ λe=>?_).trans (hb.block b a);have z:b=bb:=e;rw[z,p.tb]at r;omega
 rcases y with⟨rfl,rfl⟩|⟨b,o,cap,rfl,hc,hd⟩
 .refine(MH k bb k _ _ w q rfl p.blk (by simp[Q9])).mono ?_
  rintro e w' ⟨rfl,hw,l,j,g⟩;exact⟨rfl,fin _ w w' (aab _ _) (aag _ _ _ _) hw l j g⟩
 .refine(O9 k bb k b o n cap c m _ _ w q rfl t hc hd x p.blk (by simp[Q9])).mono ?_
  rintro e w' ⟨rfl,u,f,hb,hu,_,hw,l,j,g⟩;exact⟨rfl,fin u f w' hb hu hw l j g⟩
def BS.IP (s:BS)(n:Int):BS:={s with fl:=decide (0<=n),ah:=n}
def IM (base bb)(n)(s)(K)(w)(h:Bd w base bb s K)(l:In64 n):
 adO 16 #[.pointer (some ⟨bb,0,none⟩),.int .i64 n] w λe w'=>e=.returned (.tuple #[])/\Bd w' base bb (s.IP n) K/\dJ w w' K K:=by
 obtain⟨vc,vr,vb,vo,d,ys,a⟩:=h;refine(FC bb n _ _ w (a.cell 8) (a.cell 9) (a.thaw 8) (a.thaw 9)).mono ?_;rintro e w' ⟨rfl,rfl⟩;have f:∀x,x≠bb->((w.setCell ⟨bb,8,none⟩ (.bool (decide (0<=n)))).setCell ⟨bb,9,none⟩ (.int .i64 n)).heap[x]? =w.heap[x]?:=λx hx=>(aad _ _ _ _ hx).trans (aad _ _ _ _ hx)
 have c:∀{x t},K x=t->t≠1->((w.setCell ⟨bb,8,none⟩ (.bool (decide (0<=n)))).setCell ⟨bb,9,none⟩ (.int .i64 n)).heap[x]? =w.heap[x]?:=fun{x t} hx m=>f x λe=>by rw[e,a.tb]at hx;omega
 refine⟨rfl,⟨vc,vr,vb,vo,d,ys,?_⟩,rfl,rfl,rfl,by simp,λb _ hb=>f b λe=>by rw[e,a.tb]at hb;omega,λ_ _=>rfl⟩
 refine⟨?_,aJ a.dA λx hx=>c (a.tc x hx) (by omega),aJ a.res λx hx=>c (a.tr x hx) (by omega),λk j=>aJ (a.dC k j) λx hx=>c (a.td k j x hx) (by omega),aJ a.boxes λx hx=>c (a.tx x hx) (by omega),
  λx hx q g=>⟨aJ (a.rows x hx q g).1 λy hy=>c (a.tl x hx q g y hy) (by omega),(a.rows x hx q g).2⟩,aJ a.ops λx hx=>c (a.tq x hx) (by omega),a.tb,a.tc,a.tr,a.tx,a.tl,a.td,a.tq,λb hb=>by simpa using a.tk b hb,⟨a.ok.M8,⟨a.ok.d.qF,a.ok.d.nodes,a.ok.d.res,a.ok.d.dC⟩,a.ok.many,a.ok.small,a.ok.no,l,λh=>by simpa[BS.IP] using h⟩⟩
 have:=aD (i:=9) (.int .i64 n) (aD (i:=8) (.bool (decide (0<=n))) a.blk);unfold Q9 at this;simp only[ZN,ZS,ZR]at this;exact this
def On (w:World)(v:Value)(n:Nat)(X:Nat->Int)(H:Nat->Bool):Prop:=∃ao cap,v=.slice ao n cap/\n<=cap/\(∀i,i<n->In64 (X i))/\(0<n->∃b o,ao=some ⟨b,o,none⟩/\rZ w b o n X H)
def On.below {w w'}{v}{n}{X}{H}(h:On w v n X H)(hb:adN w w'):On w' v n X H:=by
 obtain⟨ao,cap,e,g,f,d⟩:=h;exact⟨ao,cap,e,g,f,λc=>let ⟨b,o,e,hd⟩:=d c;⟨b,o,e,hd.keep λa v hc=>keeps hb hc⟩⟩
def il (X:Nat->Int)(i:Nat):Int:=(aK (X i) 4:Nat)
def NQ (n)(N)(H):yP (n+1) N H=yP n N H++[.int .i64 (N n),.bool (H n)]:=by
 unfold yP;rw[show(n+1)*2=n*2+1+1 by omega,Z6,Z6];simp[yR,yQ]
def uL (n)(X)(H)(v)(w)(D:On w v n X H)(M:n<=1099511627776):
 adO 41 #[v] w λe w'=>∃v',e=.returned v'/\w'.ownsRow w.heap.size 75 2 v' (min n 16) (yP (min n 16) (il X) H)/\adN w w':=by
 obtain⟨ao,cap,rfl,O,A,z⟩:=D;obtain⟨i0,F,s,r,p⟩:=info_parts JU;have hu:=((ax ae prog 33).trans underlying33);have B:=av (aaa A z);clear A z
 go_enter (pf func41 (by rfl)),ntmps41
 go_wp2_with fail
 go_loopw [3,4] (λv i wr=>∃j:Nat,j<=min n 16/\i=.int .i64 j/\wr.ownsRow w.heap.size 75 2 v j (yP j (il X) H)/\adN w wr) (λ_ i _=>min n 16-(intOf i).toNat)
 case atStart=>exact⟨0,by omega,rfl,aag _ _ _ _,aab _ _⟩
 case round=>
  obtain⟨j,N,rfl,a,hb⟩:=hrel;obtain⟨vo,vc,rfl⟩:=aj a;have d:=av (aaa a hb);have y:w.heap.size<=wr.heap.size:=hb.size;clear a hb
  by_cases f:j<n
  .by_cases I:j<16
   .have jn:(j:Int)<n:=by omega
    have m:(j:Int)<16:=(by omega);obtain⟨b,o,rfl,hd⟩:=B.out.2 (by omega);have L:wr.drew.cell? ⟨b,o+j*2,none⟩=some (.int .i64 (X j)):=keeps d.out.2 (hd j f).1;have K:wr.drew.cell? ⟨b,o+j*2+1,none⟩=some (.bool (H j)):=keeps d.out.2 (hd j f).2;have G:=B.out.1 j f;clear hd;go_wp2_with fail
    have J:Hid (∀g u,[Value.int .i64 (il X j),.bool (H j)][g]? =some u->(wr.drew.alloc (.cells #[.int .i64 (il X j),.bool (H j)] 75)).cell? ((⟨wr.heap.size,0,none⟩:Addr).add g)=some u):=λg u t=>by
     rw[Addr.add_lit,Z8];have:=(blk (aae wr.drew (.cells #[.int .i64 (il X j),.bool (H j)] 75))).1 g;rw[show wr.drew.heap.size=wr.heap.size from rfl]at this;rw[this];simpa using t
    have h:Hid ((wr.drew.alloc (.cells #[.int .i64 (il X j),.bool (H j)] 75)).ownsRow w.heap.size 75 2 (.slice vo j vc) j (yP j (il X) H)/\w.heap.size<=(wr.drew.alloc (.cells #[.int .i64 (il X j),.bool (H j)] 75)).heap.size/\adN w (wr.drew.alloc (.cells #[.int .i64 (il X j),.bool (H j)] 75))):=
     ⟨(au d.out.1 (aab _ _).drew).alloc _,by simp;exact Nat.le_succ_of_le y,d.out.2.drew.alloc y _⟩
    go_region_law(first
     |(go_simp;go_at_call 39;refine(dG (X j) 4 _ G (by omega)).mono ?_;rintro e w1 ⟨rfl,hw⟩;obtain rfl:=hw.symm;dsimp only)
     |(refine ib rfl _ _ 33 rfl w.heap.size 75 i0 _ 2 16 hu F s r p rfl (by omega) (.slice vo j vc) j (yP j (il X) H) rfl h.out.1 ⟨wr.heap.size,0,none⟩ 1 1 [.int .i64 (il X j),.bool (H j)] rfl rfl J.out (by intro u hu;simp at hu;rcases hu with rfl|rfl<;>rfl) (by omega) (by unfold maxLen;omega) (by omega) h.out.2.1 ?_;intro v' w2 a c x;obtain⟨l,k,rfl⟩:=aj a;have C:Hid (w2.ownsRow w.heap.size 75 2 (.slice l (j+1) k) (j+1) (yP (j+1) (il X) H)/\adN w w2):=⟨by rw[NQ];exact a,h.out.2.2.grown c h.out.2.1 (λq E=>(d.out.1.lt q E).1)⟩;clear a c x))
    all_goals
     go_wp2_with fail;go_roundw
     case rel=>exact⟨j+1,by omega,by go_num,C.out.1,C.out.2⟩
     case measure=>simp[intOf];omega
   .have jn:(j:Int)<n:=by omega
    have m:¬(j:Int)<16:=(by omega);have e:j=min n 16:=(by omega);go_wp2_with fail
    all_goals(
     go_ret;rw[<-e];exact⟨_,rfl,d.out.1,d.out.2⟩)
  .have jn:¬(j:Int)<n:=by omega
   have e:j=min n 16:=(by omega);go_wp2_with fail
   all_goals(
        go_ret;rw[<-e];exact⟨_,rfl,d.out.1,d.out.2⟩)
def dD (r:Nat->Int)(i:Nat):Nat:=if aK (r 0) 25=0/\aK (r 1) 17=0/\aK (r 2) 17=0/\aK (r 3) 17=0 then(if i=0 then 1 else 0)else(if i=0 then aK (r 0) 25 else aK (r i) 17)
def EO (r)(w)(F:∀i,i<4->In64 (r i)):
 adO 11 #[.agg #[.int .i64 (r 0),.int .i64 (r 1),.int .i64 (r 2),.int .i64 (r 3)]] w λe w'=>e=.returned (.agg #[.int .i64 (dD r 0:Nat),.int .i64 (dD r 1:Nat),.int .i64 (dD r 2:Nat),.int .i64 (dD r 3:Nat)])/\adN w w':=by
 have y:Hid (∀u,adO 39 #[.int .i64 (r 0),.int .i64 25] u λe w'=>e=.returned (.int .i64 (aK (r 0) 25:Nat))/\w'=u):=λu=>dG (r 0) 25 u (F 0 (by omega)) (by omega)
 have f:Hid (∀i,0<i->i<4->∀u,adO 39 #[.int .i64 (r i),.int .i64 17] u λe w'=>e=.returned (.int .i64 (aK (r i) 17:Nat))/\w'=u):=λi _ Z u=>dG (r i) 17 u (F i Z) (by omega)
 obtain⟨d,J⟩:∃p,p=aK (r 0) 25:=⟨_,rfl⟩;obtain⟨a,I⟩:∃p,p=aK (r 1) 17:=⟨_,rfl⟩;obtain⟨p2,H⟩:∃p,p=aK (r 2) 17:=⟨_,rfl⟩;obtain⟨p3,G⟩:∃p,p=aK (r 3) 17:=⟨_,rfl⟩
 have HN:Hid (∀i,dD r i=if d=0/\a=0/\p2=0/\p3=0 then(if i=0 then 1 else 0)else(if i=0 then d else if i=1 then a else if i=2 then p2 else if i=3 then p3 else aK (r i) 17)):=λi=>by
  rw[J,I,H,G];unfold dD
  congr 1
  by_cases B:i=0
  .rw[if_pos B,if_pos B]
  .rw[if_neg B,if_neg B]
   by_cases N:i=1
   .subst N;rfl
   .rw[if_neg N]
    by_cases M:i=2
    .subst M;rfl
    .rw[if_neg M]
     by_cases L:i=3
     .subst L;rfl
     .rw[if_neg L]
 have P0:Hid (∀u,adO 39 #[.int .i64 (r 0),.int .i64 25] u λe w'=>e=.returned (.int .i64 d)/\w'=u):=by rw[J];exact y
 have P1:Hid (∀u,adO 39 #[.int .i64 (r 1),.int .i64 17] u λe w'=>e=.returned (.int .i64 a)/\w'=u):=by rw[I];exact f.out 1 (by omega) (by omega)
 have P2:Hid (∀u,adO 39 #[.int .i64 (r 2),.int .i64 17] u λe w'=>e=.returned (.int .i64 p2)/\w'=u):=by rw[H];exact f.out 2 (by omega) (by omega)
 have P3:Hid (∀u,adO 39 #[.int .i64 (r 3),.int .i64 17] u λe w'=>e=.returned (.int .i64 p3)/\w'=u):=by rw[G];exact f.out 3 (by omega) (by omega)
 clear J I H G y f F;have g:Func.results f11= #[.cell 2 29]:=by kernel_rfl
 obtain⟨b0,X⟩:∃b,decide (0<d)=b:=⟨_,rfl⟩;obtain⟨b1,V⟩:∃b,decide (0<a)=b:=⟨_,rfl⟩;obtain⟨b2,U⟩:∃b,decide (0<p2)=b:=⟨_,rfl⟩;obtain⟨b3,n3⟩:∃b,decide (0<p3)=b:=⟨_,rfl⟩;have K:=av (aaa X (aaa V (aaa U n3)));cases b0<;>cases b1<;>cases b2<;>cases b3
 all_goals
  go_enter (pf func11 (by rfl)),ntmps11
  go_wp2_with(go_at_call 39;refine(P0.out _).mono ?_;rintro e w1 ⟨rfl,c⟩;obtain rfl:=c.symm);obtain⟨W,hW⟩:∃W,W=((w.alloc (.cells #[.int .i64 (r 0),.int .i64 (r 1),.int .i64 (r 2),.int .i64 (r 3)] 29)).alloc (.cells #[.int .i64 0,.int .i64 0,.int .i64 0,.int .i64 0] 29)).alloc (.cells #[.int .i64 d,.int .i64 0,.int .i64 0,.int .i64 0] 29):=⟨_,rfl⟩
  have s:Hid (adN w W/\W.heap[w.heap.size]? =some (.cells #[.int .i64 (r 0),.int .i64 (r 1),.int .i64 (r 2),.int .i64 (r 3)] 29 (0,0))/\W.heap[w.heap.size+1]? =some (.cells #[.int .i64 0,.int .i64 0,.int .i64 0,.int .i64 0] 29 (0,0))/\W.heap[w.heap.size+1+1]? =some (.cells #[.int .i64 d,.int .i64 0,.int .i64 0,.int .i64 0] 29 (0,0))):=by
   rw[hW];refine⟨(((aab _ _).alloc (ZL _) _).alloc (by simp) _).alloc (by simp;omega) _,?_,?_,?_⟩
   .exact(aac _ _ _ (by simp;omega)).trans (aap _ _ _)
   .exact(aac _ _ _ (by simp)).trans (aam _ _ _)
   .have:=aae ((w.alloc (.cells #[.int .i64 (r 0),.int .i64 (r 1),.int .i64 (r 2),.int .i64 (r 3)] 29)).alloc (.cells #[.int .i64 0,.int .i64 0,.int .i64 0,.int .i64 0] 29)) (.cells #[.int .i64 d,.int .i64 0,.int .i64 0,.int .i64 0] 29)
    simpa using this
  rw[<-hW];clear hW;refine wp_loop_rounds 4 ?_;rw[aal];obtain⟨t,x⟩:=blk s.out.2.1;obtain⟨l,m⟩:=blk s.out.2.2.2;have k1:=aD (i:=1) (.int .i64 a) s.out.2.2.2;simp only[ZN,ZR,ZS]at k1;obtain⟨j,k⟩:=blk k1;have C:=av k1;clear k1;go_wp2_with(go_at_call 39;refine(P1.out _).mono ?_;rintro e w1 ⟨rfl,c⟩;obtain rfl:=c.symm)
  have q:Hid (adN w (W.setCell ⟨w.heap.size+1+1,1,none⟩ (.int .i64 a))/\((W.setCell ⟨w.heap.size+1+1,1,none⟩ (.int .i64 a))).heap[w.heap.size]? =some (.cells #[.int .i64 (r 0),.int .i64 (r 1),.int .i64 (r 2),.int .i64 (r 3)] 29 (0,0))/\((W.setCell ⟨w.heap.size+1+1,1,none⟩ (.int .i64 a))).heap[w.heap.size+1]? =some (.cells #[.int .i64 0,.int .i64 0,.int .i64 0,.int .i64 0] 29 (0,0))/\((W.setCell ⟨w.heap.size+1+1,1,none⟩ (.int .i64 a))).heap[w.heap.size+1+1]? =some (.cells #[.int .i64 d,.int .i64 a,.int .i64 0,.int .i64 0] 29 (0,0))):=
   ⟨s.out.1.setCell (by show w.heap.size<=w.heap.size+1+1;omega) _,(aad _ _ _ _ (by show w.heap.size≠w.heap.size+1+1;omega)).trans s.out.2.1,(aad _ _ _ _ (by show w.heap.size+1≠w.heap.size+1+1;omega)).trans s.out.2.2.1,C.out⟩
  clear t x l m j k C;rw[aal];obtain⟨t,x⟩:=blk q.out.2.1;obtain⟨l,m⟩:=blk q.out.2.2.2;have A:=aD (i:=2) (.int .i64 p2) q.out.2.2.2;simp only[ZN,ZR,ZS]at A;obtain⟨j,k⟩:=blk A;have P:=av A;clear A;go_wp2_with(go_at_call 39;refine(P2.out _).mono ?_;rintro e w1 ⟨rfl,c⟩;obtain rfl:=c.symm)
  have o:Hid (adN w ((W.setCell ⟨w.heap.size+1+1,1,none⟩ (.int .i64 a)).setCell ⟨w.heap.size+1+1,2,none⟩ (.int .i64 p2))/\(((W.setCell ⟨w.heap.size+1+1,1,none⟩ (.int .i64 a)).setCell ⟨w.heap.size+1+1,2,none⟩ (.int .i64 p2))).heap[w.heap.size]? =some (.cells #[.int .i64 (r 0),.int .i64 (r 1),.int .i64 (r 2),.int .i64 (r 3)] 29 (0,0))/\(((W.setCell ⟨w.heap.size+1+1,1,none⟩ (.int .i64 a)).setCell ⟨w.heap.size+1+1,2,none⟩ (.int .i64 p2))).heap[w.heap.size+1]? =some (.cells #[.int .i64 0,.int .i64 0,.int .i64 0,.int .i64 0] 29 (0,0))/\(((W.setCell ⟨w.heap.size+1+1,1,none⟩ (.int .i64 a)).setCell ⟨w.heap.size+1+1,2,none⟩ (.int .i64 p2))).heap[w.heap.size+1+1]? =some (.cells #[.int .i64 d,.int .i64 a,.int .i64 p2,.int .i64 0] 29 (0,0))):=
   ⟨q.out.1.setCell (by show w.heap.size<=w.heap.size+1+1;omega) _,(aad _ _ _ _ (by show w.heap.size≠w.heap.size+1+1;omega)).trans q.out.2.1,(aad _ _ _ _ (by show w.heap.size+1≠w.heap.size+1+1;omega)).trans q.out.2.2.1,P.out⟩
  clear t x l m j k P;rw[aal];obtain⟨t,x⟩:=blk o.out.2.1;obtain⟨l,m⟩:=blk o.out.2.2.2;have z:=aD (i:=3) (.int .i64 p3) o.out.2.2.2;simp only[ZN,ZR,ZS]at z;obtain⟨j,k⟩:=blk z;have O:=av z;clear z;go_wp2_with(go_at_call 39;refine(P3.out _).mono ?_;rintro e w1 ⟨rfl,c⟩;obtain rfl:=c.symm)
  have n:Hid (adN w (((W.setCell ⟨w.heap.size+1+1,1,none⟩ (.int .i64 a)).setCell ⟨w.heap.size+1+1,2,none⟩ (.int .i64 p2)).setCell ⟨w.heap.size+1+1,3,none⟩ (.int .i64 p3))/\((((W.setCell ⟨w.heap.size+1+1,1,none⟩ (.int .i64 a)).setCell ⟨w.heap.size+1+1,2,none⟩ (.int .i64 p2)).setCell ⟨w.heap.size+1+1,3,none⟩ (.int .i64 p3))).heap[w.heap.size]? =some (.cells #[.int .i64 (r 0),.int .i64 (r 1),.int .i64 (r 2),.int .i64 (r 3)] 29 (0,0))/\((((W.setCell ⟨w.heap.size+1+1,1,none⟩ (.int .i64 a)).setCell ⟨w.heap.size+1+1,2,none⟩ (.int .i64 p2)).setCell ⟨w.heap.size+1+1,3,none⟩ (.int .i64 p3))).heap[w.heap.size+1]? =some (.cells #[.int .i64 0,.int .i64 0,.int .i64 0,.int .i64 0] 29 (0,0))/\((((W.setCell ⟨w.heap.size+1+1,1,none⟩ (.int .i64 a)).setCell ⟨w.heap.size+1+1,2,none⟩ (.int .i64 p2)).setCell ⟨w.heap.size+1+1,3,none⟩ (.int .i64 p3))).heap[w.heap.size+1+1]? =some (.cells #[.int .i64 d,.int .i64 a,.int .i64 p2,.int .i64 p3] 29 (0,0))):=
   ⟨o.out.1.setCell (by show w.heap.size<=w.heap.size+1+1;omega) _,(aad _ _ _ _ (by show w.heap.size≠w.heap.size+1+1;omega)).trans o.out.2.1,(aad _ _ _ _ (by show w.heap.size+1≠w.heap.size+1+1;omega)).trans o.out.2.2.1,O.out⟩
  clear t x l m j k O;rw[aal];obtain⟨l,m⟩:=blk n.out.2.2.2;obtain⟨Q,R⟩:=blk n.out.2.2.1;have E:=aD (i:=0) (.int .i64 1) n.out.2.2.2;simp only[ZN,ZR,ZS]at E;obtain⟨j,k⟩:=blk E;have k1:=(aad _ (⟨w.heap.size+1+1,0,none⟩:Addr) (.int .i64 1) (w.heap.size+1) (by show w.heap.size+1≠w.heap.size+1+1;omega)).trans n.out.2.2.1;obtain⟨S,T⟩:=blk k1;have C:=av k1;clear E k1;go_wp2_with fail;clear l m Q R j k S T;have h:=HN.out;have Y:=K.out;simp only[decide_eq_true_eq,decide_eq_false_iff_not]at Y
  first
  |(
   have hc:¬(d=0/\a=0/\p2=0/\p3=0):=(by omega);have z3:=aD (i:=3) (.int .i64 p3) (aD (i:=2) (.int .i64 p2) (aD (i:=1) (.int .i64 a) (aD (i:=0) (.int .i64 d) n.out.2.2.1)));simp only[ZN,ZR,ZS]at z3;obtain⟨D,_⟩:=blk z3;refine bodyPost_ret (v:=.agg #[.int .i64 d,.int .i64 a,.int .i64 p2,.int .i64 p3]) (by simp[results,g,go_sem,D]) rfl ?_;refine⟨?_,(((n.out.1.setCell (Nat.le_succ _) _).setCell (Nat.le_succ _) _).setCell (Nat.le_succ _) _).setCell (Nat.le_succ _) _⟩;rw[h 0,h 1,h 2,h 3,if_neg hc,if_neg hc,if_neg hc,if_neg hc];rfl)
  |(
   have hc:d=0/\a=0/\p2=0/\p3=0:=(by omega);have z3:=aD (i:=3) (.int .i64 p3) (aD (i:=2) (.int .i64 p2) (aD (i:=1) (.int .i64 a) (aD (i:=0) (.int .i64 1) C.out)));simp only[ZN,ZR,ZS]at z3;obtain⟨D,_⟩:=blk z3;refine bodyPost_ret (v:=.agg #[.int .i64 1,.int .i64 a,.int .i64 p2,.int .i64 p3]) (by simp[results,g,go_sem,D]) rfl ?_;refine⟨?_,((((n.out.1.setCell (by show w.heap.size<=w.heap.size+1+1;omega) (.int .i64 1)).setCell (Nat.le_succ _) _).setCell (Nat.le_succ _) _).setCell (Nat.le_succ _) _).setCell (Nat.le_succ _) _⟩;rw[h 0,h 1,h 2,h 3,if_pos hc,if_pos hc,if_pos hc,if_pos hc,hc.2.1,hc.2.2.1,hc.2.2.2];rfl)
def mV (a:Int):ByteArray:=⟨#[UInt8.ofNat (97+aK a 16)]⟩
def Kl:(patch ae prog).underlying 165=some (.slice 5):=by kernel_rfl
def Mh:(patch ae prog).underlying 5=some (.int .u8):=by kernel_rfl
def GM:(patch ae prog).underlying 9=some .string:=by kernel_rfl
def FX (w)(b p)(h:w.cell? ⟨b,0,none⟩=some (.int .u8 (97+(p:Int)))):Sem.run (patch ae prog) (convert 165 9 (.slice (some ⟨b,0,none⟩) 1 1)) w=.ok (.string ⟨#[UInt8.ofNat (97+p)]⟩) w:=by
 rw[run_convert_bytes_string w _ _ _ _ _ _ Kl Mh GM]
 have hl:=run_loadCells_list (P:=(patch ae prog)) w ⟨b,0,none⟩ [.int .u8 (97+(p:Int))] (λj v a=>by
  match j with
  |0=>simp at a;subst a;exact h
  |j+1=>simp at a)
 rw[run_bytesToString w _ 1 1 [97+(p:Int)] hl];have e:(97+(p:Int)).toNat=97+p:=by omega
 simp only[List.foldl_cons,List.foldl_nil,e];rfl
def EP (a)(w)(f:In64 a):adO 67 #[.int .i64 a] w λe w'=>e=.returned (.string (mV a))/\adN w w':=by
 have c:=ik a (show 0<16 by omega);have d:Hid (∀u,adO 39 #[.int .i64 a,.int .i64 16] u λe w'=>e=.returned (.int .i64 (aK a 16:Nat))/\w'=u):=λu=>dG a 16 u f (by omega)
 unfold mV;generalize aK a 16=p at c d⊢
 go_enter (pf func67 (by rfl)),ntmps67
 go_wp2_with(go_at_call 39;refine(d.out _).mono ?_;rintro e w1 ⟨rfl,b⟩;obtain rfl:=b.symm);rw[FX _ w.heap.size p ((blk (aae w _)).1 0)];go_wp2_with fail;go_ret;exact⟨by simp,(aab _ _).alloc (ZL _) _⟩
structure eU where
 kind:Int
 A:Int
 B:Int
 r:Nat->Int
 ao:Option Addr
 n:Nat
 cap:Nat
 X:Nat->Int
 H:Nat->Bool
 yes:Bool
def eU.cells (t:eU):Array Value:= #[.int .i64 t.kind,.int .i64 t.A,.int .i64 t.B,.int .i64 (t.r 0),.int .i64 (t.r 1),.int .i64 (t.r 2),.int .i64 (t.r 3),.slice t.ao t.n t.cap,.bool t.yes]
structure eU.at (t:eU)(w:World):Prop where
 kind:In64 t.kind
 A:In64 t.A
 B:In64 t.B
 r:∀i,i<4->In64 (t.r i)
 dC:On w (.slice t.ao t.n t.cap) t.n t.X t.H
 qF:t.n<=1099511627776
def eU.at.below {t:eU}{w w'}(h:t.at w)(hb:adN w w'):t.at w':=⟨h.kind,h.A,h.B,h.r,h.dC.below hb,h.qF⟩
def Gu (s:BS)(nm:ByteArray)(c:Nat->Int)(s':BS):Prop:=(s'=s/\∃code,DU s nm c code)\/(∃m p x,sj s nm c m p x/\s.jQ/\s'=s.failed)\/∃m p x,sj s nm c m p x/\¬s.jQ/\s'=s.written (s.bs.take p++x::s.bs.drop p)
def zD.did {s s'}{nm}{c}{r}{w'}{K'}(h:zD s nm c r s' w' K'):Gu s nm c s'/\∃(A:Nat->Option Addr) (N C:Nat->Nat) (code:Int),r=.tuple #[.agg #[.slice (A 0) (N 0) (C 0),.slice (A 1) (N 1) (C 1),.slice (A 2) (N 2) (C 2),.slice (A 3) (N 3) (C 3)],.int .i64 code]:=by
 rcases h with⟨code,rfl,b,a⟩|⟨m,p,x,b,a,rfl,d⟩|⟨m,p,x,f,e,z,b,a,d,rfl,_⟩
 .exact⟨.inl ⟨b,code,a⟩,λ_=>none,λ_=>0,λ_=>0,code,rfl⟩
 .exact⟨.inr (.inl ⟨m,p,x,b,a,d⟩),λ_=>none,λ_=>0,λ_=>0,11,rfl⟩
 .exact⟨.inr (.inr ⟨m,p,x,b,a,d⟩),f,aN c,e,0,rfl⟩
def M3 (t:eU)(i:Nat):Int:=(dD t.r i:Nat)
def vR (s:BS)(t:eU)(s':BS):Prop:=
 (aK t.kind 5=0/\Gu s (mV t.A) (M3 t) s')\/(aK t.kind 5=1/\∃r,qD s (mV t.A) r s')\/(aK t.kind 5=2/\s'=s.reg (aK t.A 3) (min t.n 16) (il t.X) t.H)\/
    (aK t.kind 5=3/\∃r,BN s (aK t.A 3:Nat) (aK t.B 16:Nat) t.yes r s')\/(aK t.kind 5=4/\s'=s.IP ((aK t.A 12:Nat)-1))
def Ih (a):(mV a).size=1:=rfl
def ER (a):(mV a).size<=281474976710656:=by rw[Ih];omega
def Bd.fresh {w}{base bb}{s}{K}(h:Bd w base bb s K){b}(hb:w.heap.size<=b):K b=0:=by
 obtain⟨_,_,_,_,_,_,h⟩:=h
 by_cases a:K b=0
 .exact a
 .have:=(h.tk b a).2;omega
def dJ.kept {u w'}{K K'}{b}{o}(h:dJ u w' K K')(hb:K b=0)(a:u.heap[b]? =some o):w'.heap[b]? =some o/\K' b=0:=
 have hl:=(ZK.1 a).1
 ⟨(h.block b hl (.inl hb)).trans a,(h.tag b hl).trans hb⟩
def M0 (X)(i):0<=il X i/\il X i<4:=by
 unfold il;have:=ik (X i) (show 0<4 by omega);omega
def NS {w}{base n}{v}{N}{H}(h:w.ownsRow base 75 2 v n (yP n N H)):UN w v n N H:=by
 rcases h.2 with⟨rfl,e⟩|⟨g,cap,cur,rfl,k,d,c,hc,hs,b⟩
 .exact .inl ⟨rfl,e⟩
 .have key:∀j,j<n*2->w.cell? ⟨g,0+j,none⟩=some (jV N H j):=λj a=>by
   rw[(blk d).1,Z8,<-adF];have:(cur.toList.take (n*2))[j]? =(yP n N H)[j]?:=(by rw[b]);rw[Z5,if_pos a]at this;rw[this];simp[yP,a]
  exact .inr ⟨g,0,cap,rfl,c,λi f=>⟨by rw[key (i*2) (by omega),yR],by rw[Nat.add_assoc,key (i*2+1) (by omega),yQ]⟩⟩
def Jf {u w'}{K K'}{b}{cs}{T}(h:dJ u w' K K')(hb:K b=0)(a:u.heap[b]? =some (.cells cs T (0,0))):∀j,w'.cell? ⟨b,j,none⟩=cs[j]?:=(blk (h.kept hb a).1).1
def Ll {w w4}{base bb}{s'}{K K'}{o}(h:Bd w4 base bb s' K')(a:dJ w w4 K K'):Bd (w4.alloc o) base bb s' K'/\dJ w (w4.alloc o) K K':=
 have hb:adN w4 (w4.alloc o):=(aab _ _).alloc (ZL _) _
 ⟨h.below hb,a.trans (dJ.fq hb)⟩
def FB {w w4}{base bb b}{s'}{K K'}{v0 v1 v2 v3}(h:Bd w4 base bb s' K')(hb:K' b=0)(a:dJ w w4 K K')(hl:w.heap.size<=b):Bd ((((w4.setCell ⟨b,0,none⟩ v0).setCell ⟨b,1,none⟩ v1).setCell ⟨b,2,none⟩ v2).setCell ⟨b,3,none⟩ v3) base bb s' K'/\dJ w ((((w4.setCell ⟨b,0,none⟩ v0).setCell ⟨b,1,none⟩ v1).setCell ⟨b,2,none⟩ v2).setCell ⟨b,3,none⟩ v3) K K':=
 ⟨rQ _ _ _ _ _ h hb,lG _ _ _ _ _ a hl⟩
def Hl {s s'}{nm}{r}(h:qD s nm r s'):∃z,r=.int .i64 z:=by
 rcases h with⟨_,rfl,_⟩|⟨p,_,⟨_,rfl,_⟩|⟨_,rfl,_⟩⟩
 all_goals exact⟨_,rfl⟩
def Od (w:World)(base bb:Nat)(s:BS)(K:Nat->Nat)(t:eU)(r:Value)(w':World):Prop:=(∃z,r=.int .i64 z)/\∃s' K',vR s t s'/\Bd w' base bb s' K'/\dJ w w' K K'
def R9 (base bb)(s)(K)(t)(a)(w)(h:Bd w base bb s K)(T:t.at w)(M:s.no+4<=1000000000)
 (S:w.cell? ⟨0,0,none⟩=some (.iface 345 (.pointer (some a))))(J:0<base):
 adO 40 #[.pointer (some ⟨bb,0,none⟩),.agg #[.int .i64 t.kind,.int .i64 t.A,.int .i64 t.B,.int .i64 (t.r 0),.int .i64 (t.r 1),.int .i64 (t.r 2),.int .i64 (t.r 3),.slice t.ao t.n t.cap,.bool t.yes]] w (RJ (Od w base bb s K t) AA):=by
 have p:=av (aaa h (aaa T (aaa S J)));have HK:=av (dG t.kind 5 · T.kind (by omega));have Q:Hid (∀u,adN w u->adO 21 #[.pointer (some ⟨bb,0,none⟩),.string (mV t.A),.agg #[.int .i64 (dD t.r 0:Nat),.int .i64 (dD t.r 1:Nat),.int .i64 (dD t.r 2:Nat),.int .i64 (dD t.r 3:Nat)]] u (RJ (tY u base bb s K (mV t.A) (M3 t)) AA)):=λu hu=>LX base bb s K (mV t.A) (M3 t) a u (h.below hu) (ER _) M (keeps hu S) J
 have P:Hid (∀u,adN w u->adO 24 #[.pointer (some ⟨bb,0,none⟩),.string (mV t.A)] u (RJ (uY u base bb s K (mV t.A)) AA)):=λu hu=>Ev base bb s K (mV t.A) a u (h.below hu) M (keeps hu S) J
 clear h T S
 go_enter (pf func40 (by rfl)),ntmps40
 go_wp2_with fail;obtain⟨W,hW⟩:∃W,W=w.alloc (.cells #[.int .i64 t.kind,.int .i64 t.A,.int .i64 t.B,.int .i64 (t.r 0),.int .i64 (t.r 1),.int .i64 (t.r 2),.int .i64 (t.r 3),.slice t.ao t.n t.cap,.bool t.yes] 84):=⟨_,rfl⟩
 have x:Hid (adN w W/\W.heap[w.heap.size]? =some (.cells #[.int .i64 t.kind,.int .i64 t.A,.int .i64 t.B,.int .i64 (t.r 0),.int .i64 (t.r 1),.int .i64 (t.r 2),.int .i64 (t.r 3),.slice t.ao t.n t.cap,.bool t.yes] 84 (0,0))):=by
  rw[hW];exact⟨(aab _ _).alloc (ZL _) _,aae _ _⟩
 rw[<-hW];clear hW;refine(HK.out W).mono ?_;rintro e w1 ⟨rfl,hw⟩;obtain rfl:=hw.symm;obtain⟨R,C⟩:=blk x.out.2;have O:=ik t.kind (show 0<5 by omega);obtain l|l|l|l|l:aK t.kind 5=0\/aK t.kind 5=1\/aK t.kind 5=2\/aK t.kind 5=3\/aK t.kind 5=4:=by omega
 .have m:=av l
  rw[l];clear l O;go_wp2_with fail;refine(EO t.r W p.out.2.1.r).mono ?_;rintro e w2 ⟨rfl,k⟩;have q:=av (aaa (ai x.out.1 k) (bJ k x.out.2));clear k R C;go_wp2_with fail;obtain⟨W2,D⟩:∃W,W=w2.alloc (.cells #[.int .i64 (dD t.r 0:Nat),.int .i64 (dD t.r 1:Nat),.int .i64 (dD t.r 2:Nat),.int .i64 (dD t.r 3:Nat)] 29):=⟨_,rfl⟩
  have L:Hid (adN w W2):=by
   rw[D];exact q.out.1.alloc q.out.1.size _
  have H3:Hid (adN w W2.drew/\W2.drew.heap[w.heap.size]? =some (.cells #[.int .i64 t.kind,.int .i64 t.A,.int .i64 t.B,.int .i64 (t.r 0),.int .i64 (t.r 1),.int .i64 (t.r 2),.int .i64 (t.r 3),.slice t.ao t.n t.cap,.bool t.yes] 84 (0,0))/\W2.drew.heap[w2.heap.size]? =some (.cells #[.int .i64 (dD t.r 0:Nat),.int .i64 (dD t.r 1:Nat),.int .i64 (dD t.r 2:Nat),.int .i64 (dD t.r 3:Nat)] 29 (0,0))):=by
   rw[D];exact⟨(q.out.1.alloc q.out.1.size _).drew,(aac _ _ _ (ZK.1 q.out.2).1).trans q.out.2,aae _ _⟩
  rw[<-D];clear D
  have F:Hid (adN w (W2.alloc (.cells #[.slice none 0 0,.slice none 0 0,.slice none 0 0,.slice none 0 0] 41)).drew/\(W2.alloc (.cells #[.slice none 0 0,.slice none 0 0,.slice none 0 0,.slice none 0 0] 41)).drew.heap[w.heap.size]? =some (.cells #[.int .i64 t.kind,.int .i64 t.A,.int .i64 t.B,.int .i64 (t.r 0),.int .i64 (t.r 1),.int .i64 (t.r 2),.int .i64 (t.r 3),.slice t.ao t.n t.cap,.bool t.yes] 84 (0,0))/\(W2.alloc (.cells #[.slice none 0 0,.slice none 0 0,.slice none 0 0,.slice none 0 0] 41)).drew.heap[w2.heap.size]? =some (.cells #[.int .i64 (dD t.r 0:Nat),.int .i64 (dD t.r 1:Nat),.int .i64 (dD t.r 2:Nat),.int .i64 (dD t.r 3:Nat)] 29 (0,0))):=
   ⟨(L.out.alloc L.out.size _).drew,(aac _ _ _ (ZK.1 H3.out.2.1).1).trans H3.out.2.1,(aac _ _ _ (ZK.1 H3.out.2.2).1).trans H3.out.2.2⟩
  have HF:Hid (∀b,w.heap.size<=b->K b=0):=λb hb=>p.out.1.fresh hb
  obtain⟨x0,η⟩:=blk H3.out.2.1;obtain⟨y0,ε⟩:=blk H3.out.2.2;obtain⟨x1,ζ⟩:=blk F.out.2.1;obtain⟨y1,δ⟩:=blk F.out.2.2
  go_region_law(first
   |(go_simp;go_at_call 67;refine(EP t.A _ p.out.2.1.A).mono ?_;rintro e w3 ⟨rfl,v⟩;have g:Hid (adN w w3/\w3.heap[w2.heap.size]? =some (.cells #[.int .i64 (dD t.r 0:Nat),.int .i64 (dD t.r 1:Nat),.int .i64 (dD t.r 2:Nat),.int .i64 (dD t.r 3:Nat)] 29 (0,0))):=(by first|exact⟨ai H3.out.1 v,bJ v H3.out.2.2⟩|exact⟨ai F.out.1 v,bJ v F.out.2.2⟩);obtain⟨z0,γ⟩:=blk g.out.2;obtain⟨z1,β⟩:=blk ((aac w3 (.cells #[.slice none 0 0,.slice none 0 0,.slice none 0 0,.slice none 0 0] 41) _ (ZK.1 g.out.2).1).trans g.out.2);try(have Y:=av (fw v));clear v;dsimp only)
   |(go_simp;go_at_call 21;refine(Q.out _ (by first|exact g.out.1|exact g.out.1.alloc g.out.1.size _)).mono ?_;intro e w4 he;rcases e with r|ch|_;rotate_left;(first|exact⟨rfl,he⟩|(simp only[Exit.then,Exit.inBlock];exact⟨rfl,he⟩));(exact he.elim);(obtain⟨s',K',f,d,c⟩:=he);(obtain⟨z,A',N',C',code,rfl⟩:=f.did);try(first|have E:=av (c.kept (HF.out _ g.out.1.size) (aae w3 _))|have E:=av (c.kept (HF.out _ (by have:=H3.out.1.size;exact this)) Y.out));try(obtain⟨p0,θ⟩:=blk E.out.1);have o:=av (aaa z (aaa d c));clear z d c f;dsimp only))
  all_goals
   go_wp2_with fail;go_ret
   try(have o:=av (aaa z (aaa d c)))
   refine⟨⟨_,rfl⟩,s',K',.inl ⟨m.out,o.out.1⟩,?_⟩;have I:=o.out.2.1;have G:=o.out.2.2
   first
        |with_reducible exact Ll I (dJ.trans (dJ.fq g.out.1) G)
        |with_reducible exact FB I E.out.2 (dJ.trans (dJ.fq (Below.alloc g.out.1 g.out.1.size _)) G) g.out.1.size
        |with_reducible exact FB I E.out.2 (dJ.trans (dJ.fq g.out.1) G) L.out.size
 .have m:=av l
  rw[l];clear l O;go_wp2_with fail;refine(EP t.A W p.out.2.1.A).mono ?_;rintro e w2 ⟨rfl,k⟩;have q:=av (ai x.out.1 k);clear k R C;go_wp2_with fail;refine(P.out w2 q.out).mono ?_;intro e w4 he;cases e with
  |outgrown=>exact he.elim
  |panicked ch=>exact⟨rfl,he⟩
  |returned r=>
   obtain⟨s',K',f,d,c⟩:=he;have o:=av (aaa f (aaa d c));clear f d c;go_wp2_with fail;go_ret;exact⟨Hl o.out.1,s',K',.inr (.inl ⟨m.out,r,o.out.1⟩),o.out.2.1,(dJ.fq q.out).trans o.out.2.2⟩
 .have m:=av l
  rw[l];clear l O;go_wp2_with fail;refine(uL t.n t.X t.H _ W (p.out.2.1.dC.below x.out.1) p.out.2.1.qF).mono ?_;rintro e w2 ⟨v2,rfl,y,k⟩;obtain⟨va,vc,rfl⟩:=aj y;have q:=av (aaa (ai x.out.1 k) (aaa (bJ k x.out.2) y));clear k y R C;obtain⟨R,C⟩:=blk q.out.2.1;go_wp2_with fail;refine(dG t.A 3 w2 p.out.2.1.A (by omega)).mono ?_;rintro e w3 ⟨rfl,hw⟩;obtain rfl:=hw.symm;have h3:=ik t.A (show 0<3 by omega);go_wp2_with fail;refine(Cu base bb (aK t.A 3) (min t.n 16) (il t.X) t.H _ s K w2 (p.out.1.below q.out.1) h3 (by omega) (λi _=>M0 t.X i) (NS q.out.2.2)).mono ?_;rintro e w4 ⟨rfl,K',d,c⟩;have o:=av (aaa d c);clear d c;go_wp2_with fail;go_ret;exact⟨⟨_,rfl⟩,_,K',.inr (.inr (.inl ⟨m.out,rfl⟩)),o.out.1,(dJ.fq q.out.1).trans o.out.2⟩
 .have m:=av l
  rw[l];clear l O;have α:Hid (∀u,adO 39 #[.int .i64 t.A,.int .i64 3] u λe w'=>e=.returned (.int .i64 (aK t.A 3:Nat))/\w'=u):=λu=>dG t.A 3 u p.out.2.1.A (by omega)
  have Z:Hid (∀u,adO 39 #[.int .i64 t.B,.int .i64 16] u λe w'=>e=.returned (.int .i64 (aK t.B 16:Nat))/\w'=u):=λu=>dG t.B 16 u p.out.2.1.B (by omega)
  have q1:=(blk (show W.drew.heap[w.heap.size]? =_ from x.out.2)).1;go_wp2_with fail;have V:∀j,W.drew.cell? ⟨w.heap.size,j,none⟩=(#[.int .i64 t.kind,.int .i64 t.A,.int .i64 t.B,.int .i64 (t.r 0),.int .i64 (t.r 1),.int .i64 (t.r 2),.int .i64 (t.r 3),.slice t.ao t.n t.cap,.bool t.yes]:Array Value)[j]?:=q1
  go_region_held3(λw'=>∀j,w'.cell? ⟨w.heap.size,j,none⟩=(#[.int .i64 t.kind,.int .i64 t.A,.int .i64 t.B,.int .i64 (t.r 0),.int .i64 (t.r 1),.int .i64 (t.r 2),.int .i64 (t.r 3),.slice t.ao t.n t.cap,.bool t.yes]:Array Value)[j]?) (first|exact V|exact U)
   (first
        |(go_at_call 39;first|(with_reducible refine(α.out _).mono ?_;rintro e w3 ⟨rfl,hw⟩;obtain rfl:=hw.symm)|(with_reducible refine(Z.out _).mono ?_;rintro e w3 ⟨rfl,hw⟩;obtain rfl:=hw.symm))
        |(go_at_call 36;refine(IB _ _ t.yes base bb s K W.drew (p.out.1.below x.out.1.drew)).mono ?_;rintro e w4 ⟨r,s',rfl,f,d,c⟩;have U:=Jf c (p.out.1.fresh (ZL _)) (show W.drew.heap[w.heap.size]? =_ from x.out.2);have o:=av (aaa f (aaa d c));clear f d c))
  rename_i K1 N ι hH;simp only[Exit.then];refine N _ _ ?_;clear N;go_wp2_with fail;go_ret;exact⟨⟨_,rfl⟩,s',K,.inr (.inr (.inr (.inl ⟨m.out,r,o.out.1⟩))),o.out.2.1,(dJ.fq x.out.1.drew).trans o.out.2.2⟩
 .have m:=av l
  rw[l];clear l O;have μ:=ik t.A (show 0<12 by omega);have κ:IntKind.i64.wrap ((aK t.A 12:Nat)-1:Int)=(aK t.A 12:Nat)-1:=by rw[IntKind.wrap_i64];omega
  go_wp2_with fail;refine(dG t.A 12 W p.out.2.1.A (by omega)).mono ?_;rintro e w3 ⟨rfl,hw⟩;obtain rfl:=hw.symm;go_wp2_with fail;refine(IM base bb ((aK t.A 12:Nat)-1) s K W (p.out.1.below x.out.1) (by unfold In64;omega)).mono ?_;rintro e w4 ⟨rfl,d,c⟩;have o:=av (aaa d c);clear d c;go_wp2_with fail;go_ret;exact⟨⟨_,rfl⟩,_,K,.inr (.inr (.inr (.inr ⟨m.out,rfl⟩))),o.out.1,(dJ.fq x.out.1).trans o.out.2⟩
def JC {n r}{R}(h:o7 n R r)(e:n<=24):r<=24:=by
 have key:∀i,i<r->(i:Int)<=R i:=by
  intro i
  induction i with
  |zero=>intro a;have:=(h 0 a).1;omega
  |succ i c=>
   intro a;have d:=c (by omega);have b:=(h (i+1) a).2.2 (by omega);rw[acW]at b;omega
 by_cases f:r=0
 .omega
 .have d:=key (r-1) (by omega)
  have b:=(h (r-1) (by omega)).2.1;omega
structure kX (w:World)(base:Nat)(m:cz)(vc vr:Value):Prop where
 ok:m.ok
 dA:w.ownsRow base 81 3 vc m.n (oq m)
 res:w.ownsRow base 3 1 vr m.r (vk m)
def kX.below {w w'}{base}{m}{vc vr}(h:kX w base m vc vr)(hb:adN w w'):kX w' base m vc vr:=⟨h.ok,au h.dA hb,au h.res hb⟩
def kX.qF {w}{base}{m}{vc vr}(h:kX w base m vc vr):1<=m.n/\m.n<=24/\m.r<=24:=⟨h.ok.1,h.ok.2.1,JC h.ok.2.2.2.1 h.ok.2.1⟩
def QI (a:Option Addr):Nat:=match a with
 |some x=>x.block
 |none=>0
def cz.lie (m:cz)(a:Option Addr)(b:Nat)(ra:Option Addr)(rc:Nat):cz:=⟨a,QI a,0,m.n,b,m.S,m.N,m.C,ra,QI ra,0,m.r,rc,m.R,m.p⟩
def kX.at {w}{base}{m}{o ra}{k rc}(h:kX w base m (.slice o m.n k) (.slice ra m.r rc)):(m.lie o k ra rc).At w:=by
 obtain⟨f1,f2,f3⟩:=h.qF;obtain⟨ao,cap,e,t,_,s,_⟩:=dV h.dA;cases e;obtain⟨u,l,e,k1,_,j,_⟩:=dV h.res;cases e;obtain⟨g,q,_,_,f⟩:=s (by omega);subst q;refine⟨t,by show m.n*24<=_;omega,λ_=>rfl,λi c=>vP f c,k1,by show m.r*8<=_;omega,λp=>?_,λi c=>?_⟩
 .obtain⟨g',a,_⟩:=j p
  subst a;rfl
 .have d:i<m.r:=c
  clear c;obtain⟨g',a,_,_,b⟩:=j (by omega);subst a;show w.cell? ⟨g',0+i,none⟩=some (.int .i64 (m.R i))
  exact b i _ (by simp[vk,d])
def Lv (m)(l ra)(C rc base)(w)(h:kX w base m (.slice l m.n C) (.slice ra m.r rc)):
 adO 61 #[.agg #[.slice l m.n C,.slice ra m.r rc,.int .i64 m.p]] w λe w'=>∃D b d c,e=.returned (.agg #[.slice D m.n b,.slice d m.r c,.int .i64 m.p])/\
  kX w' w.heap.size m (.slice D m.n b) (.slice d m.r c)/\adN w w':=by
 obtain⟨f1,f2,f3⟩:=h.qF;obtain⟨ao,cap,e,B,_,N,_⟩:=dV h.dA;cases e;obtain⟨Z,P,e,k1,_,K,_⟩:=dV h.res;cases e;obtain⟨g,Y,G,_,z⟩:=N (by omega);subst Y
 have Q:Hid (∀W,adN w W->(∀j u,(oq m)[j]? =some u->W.cell? ⟨g,0+j,none⟩=some u)/\Ints W (.slice ra m.r rc) m.r m.R):=λW hW=>⟨λj u L=>keeps hW (z j u L),ra,rc,rfl,k1,by omega,λV=>by
  obtain⟨g',H,M,_,y⟩:=K V;exact⟨g',0,H,λi X=>keeps hW (y i _ (by simp[vk,X]))⟩⟩
 have F:=av h.ok;have hf:=av (aaa f1 (aaa f2 f3));clear h B N k1 K z G f1 f2 f3
 go_enter (pf func61 (by rfl)),ntmps61
 go_wp2_with fail;refine(uN g 0 m.n C (oq m) _ (by have:=hf.out;omega) (by simp[oq]) (Q.out _ (((aab _ _).alloc (ZL _) _).alloc (by simp) _)).1 (λu hu=>?_)).mono ?_
 .obtain⟨j,L,rfl⟩:=adz.1 hu
  exact .inl ⟨_,_,rfl⟩
 rintro e w1 ⟨vc,rfl,B,_,k⟩;obtain⟨l,b,rfl⟩:=aj B;have q:adN w w1:=(((aab _ _).alloc (ZL _) _).alloc (by simp) _).trans (k.mono (by simp;omega))
 have o:w1.heap[w.heap.size]? =some (.cells #[.slice (some ⟨g,0,none⟩) m.n C,.slice ra m.r rc,.int .i64 m.p] 25 (0,0)):=by
  rw[k.block _ (by simp;omega)];exact aap _ _ _
 have k1:w1.heap[w.heap.size+1]? =some (.cells #[.slice none 0 0,.slice none 0 0,.int .i64 0] 25 (0,0)):=by
  rw[k.block _ (by simp)];exact aam _ _ _
 have H1:Hid (w1.ownsRow (w.heap.size+2) 81 3 (.slice l m.n b) m.n (oq m)/\adN w w1/\w1.heap[w.heap.size]? =some (.cells #[.slice (some ⟨g,0,none⟩) m.n C,.slice ra m.r rc,.int .i64 m.p] 25 (0,0))/\
  w1.heap[w.heap.size+1]? =some (.cells #[.slice none 0 0,.slice none 0 0,.int .i64 0] 25 (0,0))/\w.heap.size+1<w1.heap.size):=⟨by simpa using B,q,o,k1,by have:=k.size;simp at this;omega⟩
 obtain⟨J,t⟩:=blk o;clear k B q o k1;go_wp2_with fail;refine(jW ra m.r rc m.R _ (Q.out _ (H1.out.2.1.setCell (ZL _) _)).2 (by have:=hf.out;omega)).mono ?_;rintro e w2 ⟨d,c,rfl,O,f⟩;have A:=au (aaf H1.out.1 (a:=⟨w.heap.size,0,none⟩) (by show w.heap.size<w.heap.size+2;omega) (.slice l m.n b)) f;have o:=(f.block w.heap.size (by have:=H1.out.2.2.2.2;simp;omega)).trans (aD (.slice l m.n b) H1.out.2.2.1);have k1:=(f.block (w.heap.size+1) (by have:=H1.out.2.2.2.2;simp;omega)).trans (dP (.slice l m.n b) H1.out.2.2.2.1 (by simp));simp only[ZN,ZR]at o
 have I:Hid (w2.ownsRow (w.heap.size+2) 3 1 (.slice d m.r c) m.r (vk m)/\w2.ownsRow (w.heap.size+2) 81 3 (.slice l m.n b) m.n (oq m)/\adN w w2):=
  ⟨aB O (by have:=H1.out.2.2.2.2;simp;omega),A,(H1.out.2.1.setCell (ZL _) _).trans (f.mono (by have:=H1.out.2.2.2.2;simp;omega))⟩
 clear f O A J t;obtain⟨J,t⟩:=blk o;obtain⟨q1,U⟩:=blk k1;have s:=aD (i:=1) (.slice d m.r c) o;have x:=dP (a:=⟨w.heap.size,1,none⟩) (.slice d m.r c) k1 (by simp);simp only[ZN,ZR,ZS]at s;obtain⟨r0,T⟩:=blk s;obtain⟨E,S⟩:=blk x;clear o k1 s x;go_wp2_with fail;obtain⟨z0,z1,z2⟩:=KC (.slice l m.n b) (.slice d m.r c) (.int .i64 m.p) (E 0) (E 1) (E 2);refine bodyPost_ret (v:=.agg #[.slice l m.n b,.slice d m.r c,.int .i64 m.p]) ?_ rfl ⟨_,_,_,_,rfl,⟨F.out,?_,?_⟩,?_⟩
 .simp[results,results61,go_sem,z0,z1,z2]
 .exact aB (aaf (aaf (aaf (aaf I.out.2.1 (by show w.heap.size<w.heap.size+2;omega) _) (by show w.heap.size+1<w.heap.size+2;omega) _) (by show w.heap.size+1<w.heap.size+2;omega) _) (by show w.heap.size+1<w.heap.size+2;omega) _) (by omega)
 .exact aB (aaf (aaf (aaf (aaf I.out.1 (by show w.heap.size<w.heap.size+2;omega) _) (by show w.heap.size+1<w.heap.size+2;omega) _) (by show w.heap.size+1<w.heap.size+2;omega) _) (by show w.heap.size+1<w.heap.size+2;omega) _) (by omega)
 .exact(((I.out.2.2.setCell (ZL _) _).setCell (Nat.le_succ _) _).setCell (Nat.le_succ _) _).setCell (Nat.le_succ _) _
def BS.new (m:cz):BS:=⟨m,λ_=>0,λ_ _=>0,λ_ _=>false,[],0,false,0⟩
def BS.Rs {m}(h:m.ok):(BS.new m).ok:=
 ⟨h,⟨h.2.1,λi a=>⟨((h.2.2.1 i a).1).2.2.1,((h.2.2.1 i a).1).2.2.2.1⟩,JC h.2.2.2.1 h.2.1,λk _=>⟨adl _,λi a=>absurd a (ZV _)⟩⟩,adl _,λx hx=>(by cases hx),adl _,⟨(by show In64 0;unfold In64;omega),λh=>(by cases h)⟩⟩
def Sj {w}{base}{m}{vc vr}(h:kX w base m vc vr)(hb:base<=w.heap.size):∃K,Bd (w.alloc (.cells #[vc,vr,.int .i64 m.p,.slice none 0 0,.slice none 0 0,.slice none 0 0,.slice none 0 0,.slice none 0 0,.bool false,.int .i64 0] 95)) base w.heap.size (BS.new m) K:=by
 have d:∀b,vc.ownBlock=some b->base<=b/\b<w.heap.size:=λb hb=>h.dA.lt b hb
 have c:∀b,vr.ownBlock=some b->base<=b/\b<w.heap.size:=λb hb=>h.res.lt b hb
 refine⟨λb=>if b=w.heap.size then 1 else if vc.ownBlock=some b\/vr.ownBlock=some b then 2 else 0,vc,vr,.slice none 0 0,.slice none 0 0,λ_=>.slice none 0 0,[],?_⟩;refine⟨aae _ _,h.dA.alloc _,h.res.alloc _,λk _=>aag _ _ _ _,aag _ _ _ _,λx hx=>(by cases hx),aag _ _ _ _,if_pos rfl,λb hb=>?_,λb hb=>?_,λb hb=>(by cases hb),λx hx=>(by cases hx),λk _ b hb=>(by cases hb),λb hb=>(by cases hb),λb f=>?_,BS.Rs h.ok⟩
 .have:=(d b hb).2
  show(if b=w.heap.size then 1 else _)=2
  rw[if_neg (by omega),if_pos (.inl hb)]
 .have:=(c b hb).2
  show(if b=w.heap.size then 1 else _)=2
  rw[if_neg (by omega),if_pos (.inr hb)]
 .rw[aao]
  by_cases e:b=w.heap.size
  .subst e;exact⟨hb,by omega⟩
  .by_cases a:vc.ownBlock=some b\/vr.ownBlock=some b
   .rcases a with a|a
    .have:=d b a;omega
    .have:=c b a;omega
   .exact absurd (by rw[if_neg e,if_neg a]) f
def GY (m)(d ra)(c rc base)(w)(h:kX w base m (.slice d m.n c) (.slice ra m.r rc)):
 adO 33 #[.agg #[.slice d m.n c,.slice ra m.r rc,.int .i64 m.p]] w λe w'=>∃bb K,e=.returned (.tuple #[.pointer (some ⟨bb,0,none⟩),.int .i64 0])/\Bd w' w.heap.size bb (BS.new m) K/\adN w w':=by
 have q:Hid (m.ok/\(m.lie d c ra rc).At w/\kX w base m (.slice d m.n c) (.slice ra m.r rc)):=⟨h.ok,h.at,h⟩;clear h
 go_enter (pf func33 (by rfl)),ntmps33
 go_wp2_with fail;refine(AM (m.lie d c ra rc) _ (q.out.2.1.ext ((aab _ _).alloc (ZL _) _))).mono ?_;rintro e w1 ⟨he,b⟩;obtain rfl:=he.fP q.out.1;clear he;have a:adN w w1:=ai ((aab _ _).alloc (ZL _) _) b
 have t:w1.heap[w.heap.size]? =some (.cells #[.slice d m.n c,.slice ra m.r rc,.int .i64 m.p] 25 (0,0)):=by
  rw[b.block _ (by simp)];exact aae _ _
 obtain⟨y,v⟩:=blk t;have s:Hid (adN w w1):=a;clear b t a;go_wp2_with fail;refine(Lv m d ra c rc base _ (q.out.2.2.below s.out)).mono ?_;rintro e w2 ⟨o,l,k,j,rfl,u,g⟩;have i:Hid (kX w2 w1.heap.size m (.slice o m.n l) (.slice k m.r j)/\adN w w2):=⟨u,ai s.out g⟩;clear u g;go_wp2_with fail;go_ret2;have hs:w.heap.size<=w1.heap.size:=s.out.size;have f:w.heap.size<=w2.heap.size:=i.out.2.size;obtain⟨K,x⟩:=Sj (w:=w2) (base:=w.heap.size) ⟨i.out.1.ok,aB i.out.1.dA hs,aB i.out.1.res hs⟩ f;exact⟨_,K,rfl,x,i.out.2.alloc f _⟩
def pN (X:Nat->Int)(i:Nat):Int:=(aK (X i) 24:Nat)
def pJ (X:Nat->Int)(i:Nat):Int:=(aK (X i) 24%4:Nat)
def pF (X:Nat->Int)(i:Nat):Int:=(aK (X i) 24%4/2:Nat)
def Qz (X:Nat->Int)(p:Int)(j:Nat)(R:List Nat):cz:=⟨none,0,0,j,0,pF X,pJ X,pN X,none,0,0,R.length,0,λi=>(R[i]?.getD 0:Nat),p⟩
def Lu (X)(p)(j)(R d):oq (Qz X p (j+1) d)=oq (Qz X p j R)++[.int .i64 (pF X j),.int .i64 (pJ X j),.int .i64 (pN X j)]:=by
 show(List.range ((j+1)*3)).map (bW (pF X) (pJ X) (pN X))=(List.range (j*3)).map (bW (pF X) (pJ X) (pN X))++_
 rw[show(j+1)*3=j*3+1+1+1 by omega,Z6,Z6,Z6];have c:=Bu (pF X) (pJ X) (pN X) j;have b:=Bt (pF X) (pJ X) (pN X) j;have a:=Br (pF X) (pJ X) (pN X) j;simp[c,b,a]
def O8 (X)(p)(j)(R):vk (Qz X p j R)=aT R:=by
 show(List.range R.length).map (λi=>Value.int .i64 ((R[i]?.getD 0:Nat):Int))=aT R
 refine List.ext_getElem (by simp[aT]) λi b c=>?_
 have a:i<R.length:=by simpa using b
 simp[aT,a]
def MZ (a b):¬(((a:Nat):Int)=(b:Nat)/\((a%4:Nat):Int)≠((b%4:Nat):Int))/\(((a%4:Nat):Int)≠((b%4:Nat):Int)\/((a%4/2:Nat):Int)=((b%4/2:Nat):Int)):=by omega
def jm (R:List Nat)(n:Nat):Prop:=R.Pairwise (· < ·)/\∀x∈R,x<n
def jm.snoc {R}{n}(h:jm R n):jm (R++[n]) (n+1):=
 ⟨List.pairwise_append.2 ⟨h.1,List.pairwise_singleton _ _,λa c b hb=>by rw[adi.1 hb];exact h.2 a c⟩,λx hx=>by
  rcases abz.1 hx with hx|hx
  .exact Nat.lt_succ_of_lt (h.2 x hx)
  .rw[adi.1 hx];exact Z4 n⟩
def jm.up {R}{n m}(h:jm R n)(hm:n<=m):jm R m:=⟨h.1,λx hx=>ZO (h.2 x hx) hm⟩
def Ru {X}{p}{j}{R}(c:1<=j)(b:j<=24)(hp:0<=p/\p<=3)(hR:jm R j):(Qz X p j R).ok:=by
 refine⟨c,b,λi a=>⟨⟨?_,?_,?_,?_,?_,?_⟩,λk f=>?_⟩,λi a=>?_,hp.1,hp.2⟩
 .show 0<=((aK (X i) 24%4/2:Nat):Int);omega
 .show((aK (X i) 24%4/2:Nat):Int)<4;omega
 .show 0<=((aK (X i) 24%4:Nat):Int);omega
 .show((aK (X i) 24%4:Nat):Int)<4;omega
 .show 0<=((aK (X i) 24:Nat):Int);omega
 .have:=ik (X i) (show 0<24 by omega)
  show((aK (X i) 24:Nat):Int)<24;omega
 .exact MZ _ _
 .have a:i<R.length:=a
  have e:R[i]?.getD 0=R[i]:=by rw[ZT a];rfl
  show 0<=((R[i]?.getD 0:Nat):Int)/\((R[i]?.getD 0:Nat):Int)< (j:Nat)/\(0<i->((R[i-1]?.getD 0:Nat):Int)< ((R[i]?.getD 0:Nat):Int))
  rw[e];have g:=hR.2 _ (acY a);refine⟨by omega,by omega,λh=>?_⟩;have d:R[i-1]?.getD 0=R[i-1]:=by rw[ZT (by omega)];rfl
  rw[d];have:=adk.1 hR.1 (i-1) i (by omega) a (by omega);omega
structure fZ (w:World)(raw:Array Value)(X:Nat->Int)(p:Int)(j:Nat)(R:List Nat)(vc vr:Value)(wr:World):Prop where
 b0:wr.heap[w.heap.size]? =some (.cells raw 25 (0,0))
 b1:wr.heap[w.heap.size+1]? =some (.cells #[.slice none 0 0,.slice none 0 0,.int .i64 0] 25 (0,0))
 b2:wr.heap[w.heap.size+1+1]? =some (.cells #[vc,vr,.int .i64 p] 25 (0,0))
 dA:wr.ownsRow (w.heap.size+3) 81 3 vc j (oq (Qz X p j R))
 res:wr.ownsRow (w.heap.size+3) 3 1 vr R.length (aT R)
 below:adN w wr
 size:w.heap.size+3<=wr.heap.size
def kR (w:World)(a b c):(((w.alloc a).alloc b).alloc c).heap[w.heap.size]? =some a:=by
 rw[aac _ _ _ (by simp;omega),aac _ _ _ (by simp)];exact aae _ _
def kQ (w:World)(a b c):(((w.alloc a).alloc b).alloc c).heap[w.heap.size+1]? =some b:=by
 rw[aac _ _ _ (by simp),show w.heap.size+1=(w.alloc a).heap.size by simp];exact aae _ _
def kP (w:World)(a b c):(((w.alloc a).alloc b).alloc c).heap[w.heap.size+1+1]? =some c:=by
 rw[show w.heap.size+1+1=((w.alloc a).alloc b).heap.size by simp];exact aae _ _
def sM {w:World}{base e size n}{v}{xs}(h:w.ownsRow base e size v n xs){b}(hb:v.ownBlock=some b):∃cur,w.heap[b]? =some (.cells cur e (0,0)):=by
 rcases h.2 with⟨rfl,_⟩|⟨g,cap,cur,rfl,_,a,_⟩
 .cases hb
 .cases hb;exact⟨_,a⟩
section
variable {w wr w2:World}{raw:Array Value}{X:Nat->Int}{p:Int}{j:Nat}{R:List Nat}{vc vr v':Value}
def fZ.alloc (h:fZ w raw X p j R vc vr wr)(o):fZ w raw X p j R vc vr (wr.alloc o):=
 have k:∀{b a},wr.heap[b]? =some a->(wr.alloc o).heap[b]? =some a:=λhb=>(aac _ _ _ (ZK.1 hb).1).trans hb
 ⟨k h.b0,k h.b1,k h.b2,h.dA.alloc _,h.res.alloc _,h.below.alloc h.below.size _,by have:=h.size;rw[aao];omega⟩
def fZ.apart (h:fZ w raw X p j R vc vr wr){b}(e:vc.ownBlock=some b):vr.ownBlock≠some b:=λd=>by
 obtain⟨g,f⟩:=sM h.dA e;obtain⟨c2,a⟩:=sM h.res d;rw[f]at a;have:=adn a
 injection this with _ c _
 revert c
 decide
def fZ.UD (h:fZ w raw X p j R vc vr wr)(c:wr.grownBy w2 vc.ownBlock)(a:w2.ownsRow (w.heap.size+3) 81 3 v' (j+1) (oq (Qz X p j R)++[.int .i64 (pF X j),.int .i64 (pJ X j),.int .i64 (pN X j)])):fZ w raw X p (j+1) R v' vr (w2.setCell ⟨w.heap.size+1+1,0,none⟩ v'):=by
 have hs:=h.size;have hb:∀b,vc.ownBlock=some b->w.heap.size+3<=b:=λb e=>(h.dA.lt b e).1
 have k:∀b,b<w.heap.size+3->w2.heap[b]? =wr.heap[b]?:=λb f=>c.block b (by omega) (λe=>by have:=hb b e.symm;omega)
 have B:adN w w2:=h.below.grown c (by omega) (λq d=>by have:=hb q d;omega);refine⟨?_,?_,?_,?_,?_,B.setCell (by show w.heap.size<=w.heap.size+1+1;omega) _,?_⟩
 .exact dP _ ((k _ (by omega)).trans h.b0) (by show w.heap.size≠w.heap.size+1+1;omega)
 .exact dP _ ((k _ (by omega)).trans h.b1) (by show w.heap.size+1≠w.heap.size+1+1;omega)
 .have:=aD (i:=0) v' ((k _ (by omega)).trans h.b2)
  simpa only[ZN,ZR] using this
 .rw[Lu X p j R R]
  exact aaf a (by show w.heap.size+1+1<w.heap.size+3;omega) _
 .exact aaf (aJ h.res λb e=>c.block b (h.res.lt b e).2 (λg=>h.apart g.symm e)) (by show w.heap.size+1+1<w.heap.size+3;omega) _
 .have:=c.size
  simp;omega
def Be (l)(x):aT (l++[x])=aT l++[.int .i64 x]:=by simp[aT]
def fZ.Wm {x:Nat}(h:fZ w raw X p j R vc vr wr)(c:wr.grownBy w2 vr.ownBlock)(a:w2.ownsRow (w.heap.size+3) 3 1 v' (R.length+1) (aT R++[.int .i64 x])):fZ w raw X p j (R++[x]) vc v' (w2.setCell ⟨w.heap.size+1+1,1,none⟩ v'):=by
 have hs:=h.size;have hb:∀b,vr.ownBlock=some b->w.heap.size+3<=b:=λb e=>(h.res.lt b e).1
 have k:∀b,b<w.heap.size+3->w2.heap[b]? =wr.heap[b]?:=λb f=>c.block b (by omega) (λe=>by have:=hb b e.symm;omega)
 have B:adN w w2:=h.below.grown c (by omega) (λq d=>by have:=hb q d;omega);refine⟨?_,?_,?_,?_,?_,B.setCell (by show w.heap.size<=w.heap.size+1+1;omega) _,?_⟩
 .exact dP _ ((k _ (by omega)).trans h.b0) (by show w.heap.size≠w.heap.size+1+1;omega)
 .exact dP _ ((k _ (by omega)).trans h.b1) (by show w.heap.size+1≠w.heap.size+1+1;omega)
 .have:=aD (i:=1) v' ((k _ (by omega)).trans h.b2)
  simpa only[ZN,ZR,ZS] using this
 .exact aaf (aJ h.dA λb e=>c.block b (h.dA.lt b e).2 (λg=>h.apart e g.symm)) (by show w.heap.size+1+1<w.heap.size+3;omega) _
 .rw[Be,Z7]
  exact aaf a (by show w.heap.size+1+1<w.heap.size+3;omega) _
 .have:=c.size
  simp;omega
def yY (w:World)(a b c)(t):∀j u,[a,b,c][j]? =some u->(w.alloc (.cells #[a,b,c] t)).cell? ((⟨w.heap.size,0,none⟩:Addr).add j)=some u:=λj u d=>by
 rw[Addr.add_lit,Z8,(blk (aae w (.cells #[a,b,c] t))).1 j];simpa using d
def fZ.fin (h:fZ w raw X p j R vc vr wr)(b:1<=j)(a:j<=24)(hp:0<=p/\p<=3)(hR:jm R j):kX (((wr.setCell ⟨w.heap.size+1,0,none⟩ vc).setCell ⟨w.heap.size+1,1,none⟩ vr).setCell ⟨w.heap.size+1,2,none⟩ (.int .i64 p)) w.heap.size (Qz X p j R) vc vr/\adN w (((wr.setCell ⟨w.heap.size+1,0,none⟩ vc).setCell ⟨w.heap.size+1,1,none⟩ vr).setCell ⟨w.heap.size+1,2,none⟩ (.int .i64 p)):=by
 have k:∀i,(⟨w.heap.size+1,i,none⟩:Addr).block<w.heap.size+3:=λ_=>by show w.heap.size+1<w.heap.size+3;omega
 have l:∀i,w.heap.size<=(⟨w.heap.size+1,i,none⟩:Addr).block:=λ_=>by show w.heap.size<=w.heap.size+1;omega
 refine⟨⟨Ru b a hp hR,aB (aaf (aaf (aaf h.dA (k 0) _) (k 1) _) (k 2) _) (by omega),?_⟩,((h.below.setCell (l 0) _).setCell (l 1) _).setCell (l 2) _⟩;rw[O8];exact aB (aaf (aaf (aaf h.res (k 0) _) (k 1) _) (k 2) _) (by omega)
def fZ.other (h:fZ w raw X p 0 R vc vr wr):fZ w raw (λ_=>0) p 0 R vc vr wr:=⟨h.b0,h.b1,h.b2,h.dA,h.res,h.below,h.size⟩
def jm.zero (h:jm R 0):R=[]:=by
 cases R with
 |nil=>rfl
 |cons a l=>exact absurd (h.2 a (ZX ..)) (ZV _)
end
def CV (M:cz)(w)(hM:M.At w)(V:∀i,i<M.n->In64 (M.S i)/\In64 (M.C i))(hp:In64 M.p):
 adO 8 #[M.val] w λe w'=>∃m ca cc ra rc,e=.returned (.agg #[.slice ca m.n cc,.slice ra m.r rc,.int .i64 m.p])/\kX w' w.heap.size m (.slice ca m.n cc) (.slice ra m.r rc)/\adN w w':=by
 obtain⟨ao,b,o,n,cap,S,N,X,ro,rb,rp,r,gD,R0,p⟩:=M;obtain⟨qW,Ig,addr,dA,ο,Hg,mQ,ints⟩:=hM;simp only[cz.val]at*;obtain⟨i0,Y,T,Q,P⟩:=info_parts Tryz.info22;obtain⟨i1,ι,ζ,ε,δ⟩:=info_parts Tryz.gQ;have hu:=((ax ae prog 22).trans underlying22);have η:=((ax ae prog 23).trans underlying23);have K:=av (aaa dA (aaa V addr));clear dA ints V addr mQ;have φ:=ik p (show 0<4 by omega)
 go_enter (pf func8 (by rfl)),ntmps8
 go_wp2_with fail;refine(dG p 4 _ hp (by omega)).mono ?_;rintro e w1 ⟨rfl,hw⟩;obtain rfl:=hw.symm;go_wp2_with fail
 go_loopw [4,5] (λc i wr=>∃(j:Nat) (R:List Nat) (vc vr:Value),j<=min n 24/\R.length<=4/\jm R j/\c=.int .i64 R.length/\i=.int .i64 j/\fZ w #[.slice ao n cap,.slice ro r gD,.int .i64 p] X (aK p 4:Nat) j R vc vr wr) (λ_ i _=>min n 24-(intOf i).toNat)
 case atStart=>
  exact⟨0,[],_,_,by omega,by simp,⟨.nil,λx hx=>by cases hx⟩,rfl,rfl,kR _ _ _ _,kQ _ _ _ _,kP _ _ _ _,aag _ _ _ _,aag _ _ _ _,(((aab _ _).alloc (ZL _) _).alloc (by simp) _).alloc (by simp;omega) _,by simp⟩
 case round=>
  obtain⟨j,R,vc,vr,hj,z,t,rfl,rfl,k⟩:=hrel;obtain⟨D,l,rfl⟩:=aj k.dA;obtain⟨ra,rcc,rfl⟩:=aj k.res;have I:=av k;have H:=av (aaa z t);have hz:w.heap.size+1+1<wr.heap.size:=by have:=k.size;omega
  obtain⟨q0,α⟩:=blk k.b0
  by_cases y:j<n
  .by_cases χ:j<24
   .have jn:(j:Int)<n:=by omega
    have γ:(j:Int)<24:=(by omega);have c0:=keeps k.below (K.out.1 j y).1;have c1:=keeps k.below (K.out.1 j y).2.1;have c2:=keeps k.below (K.out.1 j y).2.2;obtain rfl:=K.out.2.2 (by omega);have hS:=(K.out.2.1 j y).1;have hX:=(K.out.2.1 j y).2;clear k z t;go_wp2_with fail;obtain⟨J,G⟩:∃W,W=wr.alloc (.cells #[.int .i64 (S j),.int .i64 (N j),.int .i64 (X j)] 81):=⟨_,rfl⟩
    have H1:Hid (fZ w #[.slice (some ⟨b,o,none⟩) n cap,.slice ro r gD,.int .i64 p] X (aK p 4:Nat) j R (.slice D j l) (.slice ra R.length rcc) J/\J.heap[wr.heap.size]? =some (.cells #[.int .i64 (S j),.int .i64 (N j),.int .i64 (X j)] 81 (0,0))/\J.heap.size=wr.heap.size+1):=by
     rw[G];exact⟨I.out.alloc _,aae _ _,aao _ _⟩
    rw[<-G];clear G;refine(dG (X j) 24 J hX (by omega)).mono ?_;rintro e w1 ⟨rfl,hw⟩;obtain rfl:=hw.symm;have e4:((aK (X j) 24:Nat):Int).tmod 4=((aK (X j) 24%4:Nat):Int):=(by rw[Int.tmod_eq_emod_of_nonneg (by omega)];omega);have e2:((aK (X j) 24%4:Nat):Int).tdiv 2=((aK (X j) 24%4/2:Nat):Int):=(by rw[Int.tdiv_eq_ediv_of_nonneg (by omega)];omega);obtain⟨m2,E⟩:=blk H1.out.1.b2;clear q0 α c0 c1 c2;have HA:Hid (fZ w #[.slice (some ⟨b,o,none⟩) n cap,.slice ro r gD,.int .i64 p] X (aK p 4:Nat) j R (.slice D j l) (.slice ra R.length rcc) (J.alloc (.cells #[.int .i64 (pF X j),.int .i64 (pJ X j),.int .i64 (pN X j)] 81))):=H1.out.1.alloc _;have κ:=av hS;go_wp2_with(at_builtin;refine adJ _ rfl _ _ _ rfl (w.heap.size+3) 81 i0 _ 3 24 hu Y T Q P rfl (by omega) _ j (oq (Qz X (aK p 4:Nat) j R)) rfl HA.out.dA ⟨J.heap.size,0,none⟩ 1 1 [.int .i64 (pF X j),.int .i64 (pJ X j),.int .i64 (pN X j)] rfl rfl (yY _ _ _ _ _) (by intro u hu;simp at hu;rcases hu with rfl|rfl|rfl<;>rfl) (by unfold maxLen;omega) (by omega) HA.out.size ?_;intro v' w2 f d _;obtain⟨s,q,rfl⟩:=aj f;have Z:=av (HA.out.UD d f);have hK:=av (d.block wr.heap.size (by have:=H1.out.2.2;simp;omega) (λe=>by have:=(I.out.dA.lt _ e.symm).2;omega));have μ:=av ((dP (a:=⟨w.heap.size+1+1,0,none⟩) (.slice s (j+1) q) (hK.out.trans ((aac _ _ _ (by have:=H1.out.2.2;omega)).trans H1.out.2.1)) (by show wr.heap.size≠w.heap.size+1+1;omega)));obtain⟨d0,ν⟩:=blk μ.out;obtain⟨m3,L⟩:=blk ((d.block (w.heap.size+1+1) (by have:=H1.out.2.2;rw[aao];omega) (λe=>by have:=(I.out.dA.lt _ e.symm).1;omega)).trans HA.out.b2);clear f d);obtain⟨W2,F⟩:∃W,W=w2.setCell ⟨w.heap.size+1+1,0,none⟩ (.slice s (j+1) q):=⟨_,rfl⟩;have H3:=av (show fZ w #[.slice (some ⟨b,o,none⟩) n cap,.slice ro r gD,.int .i64 p] X (aK p 4:Nat) (j+1) R (.slice s (j+1) q) (.slice ra R.length rcc) W2 from F▸Z.out);rw[<-F];clear F d0 ν m3 L;refine(dG (S j) 6 W2 κ.out (by omega)).mono ?_;rintro e w3 ⟨rfl,hw⟩;obtain rfl:=hw.symm;obtain⟨m4,β⟩:=blk H3.out.b2
    by_cases θ:aK (S j) 6=0
    .rw[θ]
     by_cases υ:R.length<4
     .have r4:(R.length:Int)<4:=by omega
      have B:Hid (fZ w #[.slice (some ⟨b,o,none⟩) n cap,.slice ro r gD,.int .i64 p] X (aK p 4:Nat) (j+1) R (.slice s (j+1) q) (.slice ra R.length rcc) (W2.alloc (.cells #[.int .i64 j] 3))):=H3.out.alloc _;go_wp2_with(at_builtin;refine adJ _ rfl _ _ _ rfl (w.heap.size+3) 3 i1 _ 1 8 η ι ζ ε δ rfl (by omega) _ R.length (aT R) rfl B.out.res ⟨W2.heap.size,0,none⟩ 1 1 [.int .i64 j] rfl rfl (adM _ _ _) (by intro u hu;simp at hu;subst hu;rfl) (by unfold maxLen;omega) (by omega) B.out.size ?_;intro v' w4 f d _;obtain⟨σ,ρ,rfl⟩:=aj f;have H4:=av (B.out.Wm d f);obtain⟨m5,τ⟩:=blk ((d.block (w.heap.size+1+1) (by have:=H3.out.size;rw[aao];omega) (λe=>by have:=(H3.out.res.lt _ e.symm).1;omega)).trans B.out.b2);clear f d);go_roundw
      case rel=>exact⟨j+1,R++[j],_,_,by omega,by simp only[Z7,adt,List.length_nil];omega,H.out.2.snoc,by simp,by go_num,H4.out⟩
      case measure=>simp[intOf];omega
     .have r4:¬(R.length:Int)<4:=by omega
      go_wp2_with fail;go_roundw
      case rel=>exact⟨j+1,R,_,_,by omega,H.out.1,H.out.2.up (by omega),rfl,by go_num,H3.out⟩
      case measure=>simp[intOf];omega
    .have s6:((aK (S j) 6:Nat):Int)≠0:=by omega
     have ξ:(((aK (S j) 6:Nat):Int)==0)=false:=acZ.2 s6;go_wp2_with fail;go_roundw
     case rel=>exact⟨j+1,R,_,_,by omega,H.out.1,H.out.2.up (by omega),rfl,by go_num,H3.out⟩
     case measure=>simp[intOf];omega
   .have jn:(j:Int)<n:=by omega
    have γ:¬(j:Int)<24:=(by omega);obtain⟨m2,E⟩:=blk k.b2;obtain⟨m1,O⟩:=blk k.b1;have U:j≠0:=(by omega);clear k z t;go_wp2_with fail;obtain⟨z0,z1,z2⟩:=KC (.slice D j l) (.slice ra R.length rcc) (.int .i64 (aK p 4:Nat)) (m1 0) (m1 1) (m1 2);obtain⟨g,h⟩:=I.out.fin (by omega) (by omega) (by omega) H.out.2;refine bodyPost_ret (v:=.agg #[.slice D j l,.slice ra R.length rcc,.int .i64 (aK p 4:Nat)]) ?_ rfl ⟨_,_,_,_,_,rfl,g,h⟩;simp[results,results8,go_sem,z0,z1,z2]
  .have jn:¬(j:Int)<n:=by omega
   by_cases U:j=0
   .subst U
    obtain rfl:=t.zero;have A:Hid (fZ w #[.slice ao n cap,.slice ro r gD,.int .i64 p] (λ_=>0) (aK p 4:Nat) 0 [] (.slice D 0 l) (.slice ra 0 rcc) (wr.alloc (.cells #[.int .i64 0,.int .i64 0,.int .i64 0] 81))):=(I.out.other).alloc _;obtain⟨m2,E⟩:=blk k.b2;clear k z t;go_wp2_with(at_builtin;refine adJ _ rfl _ _ _ rfl (w.heap.size+3) 81 i0 _ 3 24 hu Y T Q P rfl (by omega) _ 0 [] rfl A.out.dA ⟨wr.heap.size,0,none⟩ 1 1 [.int .i64 0,.int .i64 0,.int .i64 0] rfl rfl (yY _ _ _ _ _) (by intro u hu;simp at hu;subst hu;rfl) (by unfold maxLen;omega) (by omega) A.out.size ?_;intro v' w2 f d _;obtain⟨s,q,rfl⟩:=aj f;have Z:=av (A.out.UD d f);obtain⟨m3,L⟩:=blk ((d.block (w.heap.size+1+1) (by rw[aao];omega) (λe=>by have:=(I.out.dA.lt _ e.symm).1;omega)).trans A.out.b2);obtain⟨m4,β⟩:=blk Z.out.b2;obtain⟨m1,O⟩:=blk Z.out.b1;clear f d);obtain⟨z0,z1,z2⟩:=KC (.slice s 1 q) (.slice ra 0 rcc) (.int .i64 (aK p 4:Nat)) (m1 0) (m1 1) (m1 2);obtain⟨g,h⟩:=Z.out.fin (by omega) (by omega) (by omega) (show jm [] 1 from⟨.nil,λx hx=>by cases hx⟩);refine bodyPost_ret (v:=.agg #[.slice s 1 q,.slice ra 0 rcc,.int .i64 (aK p 4:Nat)]) ?_ rfl ⟨_,_,_,_,_,rfl,g,h⟩;simp[results,results8,go_sem,z0,z1,z2]
   .obtain⟨m2,E⟩:=blk k.b2
    obtain⟨m1,O⟩:=blk k.b1;clear k z t;go_wp2_with fail;obtain⟨z0,z1,z2⟩:=KC (.slice D j l) (.slice ra R.length rcc) (.int .i64 (aK p 4:Nat)) (m1 0) (m1 1) (m1 2);obtain⟨g,h⟩:=I.out.fin (by omega) (by omega) (by omega) H.out.2;refine bodyPost_ret (v:=.agg #[.slice D j l,.slice ra R.length rcc,.int .i64 (aK p 4:Nat)]) ?_ rfl ⟨_,_,_,_,_,rfl,g,h⟩;simp[results,results8,go_sem,z0,z1,z2]
end Z
