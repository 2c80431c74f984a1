/- Part 46 of the proof. -/
import Derived.Test.YtfpaamhppamcoaaGreatDoorSp45
set_option linter.all false
set_option maxRecDepth 100000
set_option maxHeartbeats 60000000
namespace Go.Proofs.YtfpaamhppamcoaaGreatDoor
open Go.Proofs.Tryz
namespace Z
open Go.RowKit
attribute [local go_sem ↓] Go.wp_at_zero Go.wp_at_succ
attribute [local go_sem] After.cell After.frozen After.const
def GrO (w:World)(K:Nat->Nat)(z:Nat)(A:Nat->Option Addr)(C:Nat->Nat)(L:Nat->List Nat):Prop:=∀q,q<4->w.ownsRow z 3 1 (.slice (A q) (L q).length (C q)) (L q).length (aT (L q))/\∀b,(Value.slice (A q) (L q).length (C q)).ownBlock=some b->K b=0
theorem GrO.grant {w:World}{K:Nat->Nat}{z:Nat}{A:Nat->Option Addr}{C:Nat->Nat}{L:Nat->List Nat}(h:GrO w K z A C L):aav w A C L:=λq a=>IntsL.own (h q a).1
theorem GrO.aau {w w':World}{K e:Nat->Nat}{z:Nat}{A:Nat->Option Addr}{C:Nat->Nat}{L:Nat->List Nat}(h:GrO w K z A C L)(c:dJ w w' K e):GrO w' e z A C L:=λq f=>by
 obtain⟨a,d⟩:=h q f;exact⟨aJ a λb hb=>c.block b (a.lt b hb).2 (.inl (d b hb)),λb hb=>by rw[c.tag b (a.lt b hb).2];exact d b hb⟩
theorem GrO.below {w w':World}{K:Nat->Nat}{z:Nat}{A:Nat->Option Addr}{C:Nat->Nat}{L:Nat->List Nat}(h:GrO w K z A C L)(hb:Below w.heap.size w w'):GrO w' K z A C L:=h.aau (dJ.fq hb)
structure SameB (s s':BS):Prop where
 m:s'.m=s.m
 dn:s'.dn=s.dn
 dN:s'.dN=s.dN
 dH:s'.dH=s.dH
 bs:s'.bs=s.bs
theorem SameB.D {s s':BS}(h:SameB s s'):s'.D=s.D:=by
 unfold BS.D;rw[h.m,h.dn,h.dN,h.dH,h.bs]
theorem SameB.fine {s s':BS}(h:SameB s s')(hf:s.fine):s'.fine:=hf.ZJ h.bs h.m
theorem rj_imp {P Q:Value->World->Prop}{A:List PanicEntry->World->Prop}{e:Ending}{w:World}(h:RJ P A e w)(a:∀v,P v w->Q v w):RJ Q A e w:=by
 rcases e with v|ch|_
 .exact a v h
 .exact h
 .exact h
theorem admitAll_call (base bb:Nat)(nm:ByteArray)(s:BS)(K:Nat->Nat)(a:Addr)(u:World)(h:Bd u base bb s K)(c:s.fine)(hf:¬s.jQ)(l:∀x∈s.bs,x.nm≠nm)(A:jJ nm)(hl:s.bs.length<12)(f:s.m.p=0)(o:¬∀q,q<4->gq s.D q=[])(n:s.no+4<=1000000000)
 (G:u.cell? ⟨0,0,none⟩=some (.iface 345 (.pointer (some a))))(t:0<base):
 Calls (patch ae prog) 21 #[.pointer (some ⟨bb,0,none⟩),.string nm,.agg #[.int .i64 ((gq s.D 0).length:Nat),.int .i64 ((gq s.D 1).length:Nat),.int .i64 ((gq s.D 2).length:Nat),.int .i64 ((gq s.D 3).length:Nat)]] u
  (RJ (λv w'=>∃(p:Nat) (x:fH) (k:Nat->Option Addr) (j:Nat->Nat) (z:Nat) (i:Nat->Nat),p<=s.bs.length/\x.nm=nm/\(∀q,q<4->x.T q=gq s.D q)/\(s.ins p x).fine/\v=.tuple #[gVal k j (gq s.D),.int .i64 0]/\Bd w' base bb (s.written (s.ins p x).bs) i/\dJ u w' K i/\GrO w' i z k j (gq s.D)) AA):=by
 have hd:s.D.ok:=h.ow.2.d;refine(LX base bb s K nm (frC s.D) a u h (by have:=A.2;omega) n G t).mono λe w' he=>rj_imp he λv C=>?_
 obtain⟨s',i,g,hb,E⟩:=C;obtain⟨m,p,x,k,j,z,hy,F,rfl,rfl,w,B⟩:=admit_all g hf hd l A hl f o;exact⟨p,x,k,j,z,i,hy.at_.1,hy.nm,F,hy.fine c hd,rfl,hb,E,λq y=>⟨w q y,λb r=>B b ((w q y).lt b r).1⟩⟩
theorem admitOne_call (base bb:Nat)(nm:ByteArray)(s:BS)(K:Nat->Nat)(a:Addr)(u:World)(h:Bd u base bb s K)(f:∀x∈s.bs,x.nm≠nm)(l:jJ nm)(j:gq s.D 0=[])(g:s.no+4<=1000000000)
 (o:u.cell? ⟨0,0,none⟩=some (.iface 345 (.pointer (some a))))(k:0<base):
 Calls (patch ae prog) 21 #[.pointer (some ⟨bb,0,none⟩),.string nm,.agg #[.int .i64 1,.int .i64 0,.int .i64 0,.int .i64 0]] u
  (RJ (λv w'=>∃c:Nat->Nat,v=.tuple #[eH,.int .i64 (if 12<=s.bs.length then 7 else 8)]/\Bd w' base bb s c/\dJ u w' K c) AA):=by
 have hd:s.D.ok:=h.ow.2.d;refine(LX base bb s K nm (λi=>if i=0 then 1 else 0) a u h (by have:=l.2;omega) g o k).mono λe w' he=>rj_imp he λv m=>?_
 obtain⟨s',c,b,hb,n⟩:=m;obtain⟨rfl,rfl⟩:=admit_one b ⟨rfl,rfl,rfl,rfl⟩ hd f l j;exact⟨c,rfl,hb,n⟩
theorem releaseAll_call (base bb p:Nat)(x:fH)(s s1:BS)(K:Nat->Nat)(a:Addr)(u:World)(h:Bd u base bb s1 K)(hb:s1.bs=(s.ins p x).bs)(hp:p<=s.bs.length)(hf:¬s1.jQ)(j:s1.fine)(d:s1.no+4<=1000000000)
 (l:u.cell? ⟨0,0,none⟩=some (.iface 345 (.pointer (some a))))(g:0<base):
 Calls (patch ae prog) 24 #[.pointer (some ⟨bb,0,none⟩),.string x.nm] u
  (RJ (λv w'=>∃c:Nat->Nat,v=.int .i64 0/\Bd w' base bb (s1.written s.bs) c/\dJ u w' K c) AA):=by
 refine(release_any base bb s1 K x.nm a u h d l g).mono λe w' he=>rj_imp he λv i=>?_
 obtain⟨s',c,b,f,k⟩:=i;obtain⟨rfl,rfl⟩:=release_ins b hb hp hf j;exact⟨c,rfl,f,k⟩
def Kp (w:World)(K:Nat->Nat)(l:List (Nat×Obj)):Prop:=∀p∈l,w.heap[p.1]? =some p.2/\K p.1=0
theorem Kp.aau {w w':World}{K a:Nat->Nat}{l:List (Nat×Obj)}(h:Kp w K l)(b:dJ w w' K a):Kp w' a l:=λp hp=>b.kept (h p hp).2 (h p hp).1
theorem Kp.alloc {w:World}{K:Nat->Nat}{l:List (Nat×Obj)}{o:Obj}(h:Kp w K l)(hf:K w.heap.size=0):Kp (w.alloc o) K ((w.heap.size,o)::l):=λp hp=>by
 rcases ZW.1 hp with rfl|hp
 .exact⟨aae _ _,hf⟩
 .exact h.aau (dJ.fq ((aab _ _).alloc (ZL _) _)) p hp
theorem Kp.head {w:World}{K:Nat->Nat}{b:Nat}{o:Obj}{l:List (Nat×Obj)}(h:Kp w K ((b,o)::l)):w.heap[b]? =some o:=(h _ ZX).1
theorem Kp.tail {w:World}{K:Nat->Nat}{p:Nat×Obj}{l:List (Nat×Obj)}(h:Kp w K (p::l)):Kp w K l:=λq a=>h q (List.mem_cons_of_mem _ a)
theorem dJ.alloc {w w':World}{K a:Nat->Nat}(h:dJ w w' K a)(o:Obj):dJ w (w'.alloc o) K a:=h.trans (dJ.fq ((aab _ _).alloc (ZL _) _))
theorem Bd.alloc {w:World}{base bb:Nat}{s:BS}{K:Nat->Nat}(h:Bd w base bb s K)(o:Obj):Bd (w.alloc o) base bb s K:=h.below ((aab _ _).alloc (ZL _) _)
theorem GrO.alloc {w:World}{K:Nat->Nat}{z:Nat}{A:Nat->Option Addr}{C:Nat->Nat}{L:Nat->List Nat}(h:GrO w K z A C L)(o:Obj):GrO (w.alloc o) K z A C L:=h.aau (dJ.fq ((aab _ _).alloc (ZL _) _))
theorem glob_onto {w w':World}{base bb:Nat}{s:BS}{K d:Nat->Nat}{g:Addr}{v:Value}(hb:Bd w base bb s K)(hl:g.block<base)(h:w.cell? g=some v)(a:dJ w w' K d):w'.cell? g=some v:=by
 have e:=aan h;exact((a.below (B:=g.block+1) (by omega) λb c=>hb.zero (by omega)).cell (by omega)).trans h
def y5 (A:Nat->Option Addr)(C:Nat->Nat)(L:Nat->List Nat):Obj:=.cells #[.slice (A 0) (L 0).length (C 0),.slice (A 1) (L 1).length (C 1),.slice (A 2) (L 2).length (C 2),.slice (A 3) (L 3).length (C 3)] 41 (0,0)
def nObj (L:Nat->List Nat):Obj:=.cells #[.int .i64 ((L 0).length:Nat),.int .i64 ((L 1).length:Nat),.int .i64 ((L 2).length:Nat),.int .i64 ((L 3).length:Nat)] 29 (0,0)
def zObj:Obj:=.cells #[.slice none 0 0,.slice none 0 0,.slice none 0 0,.slice none 0 0] 41 (0,0)
def newOne:ByteArray:=⟨#[110,101,119,32,111,110,101]⟩
def oneMore:ByteArray:=⟨#[111,110,101,32,109,111,114,101]⟩
theorem zeroG_grant (w:World):aav w (λ_=>none) (λ_=>0) (λ_=>[]):=λ_ _=>⟨none,0,rfl,ZL _,by simp,λh=>absurd h (Nat.lt_irrefl _)⟩
theorem SameB.refl (s:BS):SameB s s:=⟨rfl,rfl,rfl,rfl,rfl⟩
theorem spend_any (base bb z:Nat)(s:BS)(K:Nat->Nat)(A:Nat->Option Addr)(C:Nat->Nat)(want:Int)(a:Addr)(w:World)(h:Bd w base bb s K)(ν:GrO w K z A C (gq s.D))(hi:s.inv)(ξ:s.fl=false)(ε:s.m.p=0)(hl:s.bs.length<12)(Γ:¬∀q,q<4->gq s.D q=[])(Q:s.no+20<=1000000000)
 (hw:want=if 11<=s.bs.length then 7 else 8)
 (hG:w.cell? ⟨0,0,none⟩=some (.iface 345 (.pointer (some a))))(γ:0<base):
 Calls (patch ae prog) 30 #[.pointer (some ⟨bb,0,none⟩),gVal A C (gq s.D),.int .i64 want] w (RJ (λv _=>v=.bool true) AA):=by
 obtain⟨L,hL⟩:∃L,L=gq s.D:=⟨_,rfl⟩;rw[<-hL]at ν⊢;have HG:Hid (∀wr t,dJ w wr K t->wr.cell? ⟨0,0,none⟩=some (.iface 345 (.pointer (some a)))):=λwr t ho=>glob_onto h γ hG ho
 have hz:∀i,K (w.heap.size+i)=0:=λi=>h.fresh (by omega)
 have H0:Hid (Bd ((w.alloc (y5 A C L)).alloc (nObj L)) base bb s K/\GrO ((w.alloc (y5 A C L)).alloc (nObj L)) K z A C L/\Kp ((w.alloc (y5 A C L)).alloc (nObj L)) K [(w.heap.size+1,nObj L),(w.heap.size,y5 A C L)]/\dJ w ((w.alloc (y5 A C L)).alloc (nObj L)) K K):=by
  refine⟨(h.alloc _).alloc _,(ν.alloc _).alloc _,?_,((dJ.refl _ _).alloc _).alloc _⟩;have h1:Kp (w.alloc (y5 A C L)) K [(w.heap.size,y5 A C L)]:=Kp.alloc (λp hp=>by cases hp) (hz 0);have h2:=h1.alloc (o:=nObj L) (by rw[aao];exact hz 1);rw[aao]at h2;exact h2
 have O:=av (aaa hi (aaa ε (aaa hl (aaa Γ (aaa Q (aaa hL hw))))));clear h ν hG hL hi ε hl Γ Q hw hz;unfold gVal
 go_enter (pf func30 (by rfl)),ntmps30
 go_wp2_with fail;obtain⟨W,hW⟩:∃W,W=(w.alloc (y5 A C L)).alloc (nObj L):=⟨_,rfl⟩;rw[<-hW]at H0;unfold y5 nObj at hW;rw[<-hW];clear hW
 go_loopw [8] (λi wr=>∃(j:Nat) (s':BS) (t:Nat->Nat),j<=2/\i=.int .i64 j/\SameB s s'/\s'.fl=false/\s'.no<=s.no+8*j/\Bd wr base bb s' t/\GrO wr t z A C L/\Kp wr t [(w.heap.size+1,nObj L),(w.heap.size,y5 A C L)]/\dJ w wr K t) (λi _=>2-(intOf i).toNat)
 case atStart=>exact⟨0,s,K,by omega,rfl,.refl s,ξ,by omega,H0.out.1,H0.out.2.1,H0.out.2.2.1,H0.out.2.2.2⟩
 case round=>
  obtain⟨j,s',t,hj,rfl,κ,η,Q,Ψ,Θ,Δ,υ⟩:=hrel;have ζ:gq s'.D=L:=by rw[κ.D,O.out.2.2.2.2.2.1]
  have d:=av (aaa Ψ (aaa Θ (aaa Δ (aaa υ (aaa κ (aaa η (aaa ζ (aaa Q ξ))))))));clear Ψ Θ Δ υ κ η Q ζ ξ
  by_cases hlt:j<2
  .have jn:(j:Int)<2:=by omega
   have Z:s'.bs=s.bs:=d.out.2.2.2.2.1.bs
   have HA:Hid (Calls (patch ae prog) 21 #[.pointer (some ⟨bb,0,none⟩),.string newOne,.agg #[.int .i64 ((L 0).length:Nat),.int .i64 ((L 1).length:Nat),.int .i64 ((L 2).length:Nat),.int .i64 ((L 3).length:Nat)]] wr
    (RJ (λv w'=>∃(p:Nat) (x:fH) (A':Nat->Option Addr) (C':Nat->Nat) (z:Nat) (f:Nat->Nat),p<=s'.bs.length/\x.nm=newOne/\(∀q,q<4->x.T q=L q)/\(s'.ins p x).fine/\v=.tuple #[gVal A' C' L,.int .i64 0]/\Bd w' base bb (s'.written (s'.ins p x).bs) f/\dJ wr w' t f/\GrO w' f z A' C' L) AA)):=by
        have:=admitAll_call base bb newOne s' t a wr d.out.1 (d.out.2.2.2.2.1.fine O.out.1.fine) (λk=>by have:=k.1;rw[d.out.2.2.2.2.2.1]at this;cases this) (λx hx e=>by rw[Z]at hx;have:=O.out.1.nm x hx;rw[e]at this;cases this) ⟨by decide,by decide⟩ (by rw[Z];exact O.out.2.2.1) (by rw[d.out.2.2.2.2.1.m];exact O.out.2.1) (by rw[d.out.2.2.2.2.2.2.1,O.out.2.2.2.2.2.1];exact O.out.2.2.2.1) (by have:=d.out.2.2.2.2.2.2.2.1;have:=O.out.2.2.2.2.1;omega) (HG.out _ _ d.out.2.2.2.1) γ;rw[d.out.2.2.2.2.2.2.1]at this;exact this
   have q7:=blk d.out.2.2.1.head;obtain⟨q7,q7f⟩:=q7;clear q7f;go_wp2_with fail;refine HA.out.mono ?_;intro e w1 he;rcases e with r|ch|_
   rotate_left
   .exact⟨rfl,he⟩
   .exact he.elim
   obtain⟨p,x,H,G,z1,f,hp,ω,hT,Φ,rfl,ρ,ψ,Ξ⟩:=he;obtain⟨s1,μ⟩:∃s1,s1=s'.written (s'.ins p x).bs:=⟨_,rfl⟩;rw[<-μ]at ρ
   have g:Hid (p<=s'.bs.length/\x.nm=newOne/\(∀q,q<4->gq s1.D q=[])/\s1.fine/\s1.bs=(s'.ins p x).bs/\s1.fl=false/\s1.no=s'.no+4/\(s1.written s'.bs).D=s'.D/\s1.m=s'.m/\s1.dn=s'.dn/\s1.dN=s'.dN/\s1.dH=s'.dH):=by
        subst μ;exact⟨hp,ω,λq I=>frN_gone (s:=s') (p:=p) (x:=x) (by rw[hT q I,d.out.2.2.2.2.2.2.1]),Φ.ZJ rfl rfl,rfl,d.out.2.2.2.2.2.1,rfl,rfl,rfl,rfl,rfl,rfl⟩
   have H1:=av (aaa ρ (aaa ψ Ξ));clear hp ω hT Φ ρ ψ Ξ μ HA q7;unfold gVal;go_wp2_with fail;obtain⟨W1,β⟩:∃W,W=w1.alloc (y5 H G L):=⟨_,rfl⟩
   have H2:Hid (Bd W1 base bb s1 f/\dJ wr W1 t f/\GrO W1 f z1 H G L/\GrO W1 f z A C L/\Kp W1 f [(w1.heap.size,y5 H G L),(w.heap.size+1,nObj L),(w.heap.size,y5 A C L)]):=by
        rw[β];exact⟨H1.out.1.alloc _,H1.out.2.1.alloc _,H1.out.2.2.alloc _,(d.out.2.1.aau H1.out.2.1).alloc _,(d.out.2.2.1.aau H1.out.2.1).alloc (H1.out.1.fresh (ZL _))⟩
   unfold y5 at β;rw[<-β];clear β H1;refine(freeG_any base bb s1 f W1 H2.out.1).mono ?_;rintro e w2 ⟨F,E,rfl,Y,J⟩;obtain⟨l,σ⟩:∃l,l=gq s1.D:=⟨_,rfl⟩;rw[<-σ]at Y⊢
   have H3:Hid (Bd w2 base bb s1 f/\dJ wr w2 t f/\GrO w2 f z1 H G L/\GrO w2 f z A C L/\Kp w2 f [(w1.heap.size,y5 H G L),(w.heap.size+1,nObj L),(w.heap.size,y5 A C L)]/\GrO w2 f W1.heap.size F E l/\∀q,q<4->l q=[]):=
        ⟨H2.out.1.below J,H2.out.2.1.trans (dJ.fq J),H2.out.2.2.1.below J,H2.out.2.2.2.1.below J,H2.out.2.2.2.2.aau (dJ.fq J),λq I=>⟨Y q I,λb hb=>H2.out.1.fresh ((Y q I).lt b hb).1⟩,λq I=>by rw[σ];exact g.out.2.2.1 q I⟩
   clear Y J σ H2;unfold gVal;go_wp2_with fail;obtain⟨W2,α⟩:∃W,W=w2.alloc (y5 F E l):=⟨_,rfl⟩
   have H4:Hid (Bd W2 base bb s1 f/\dJ wr W2 t f/\GrO W2 f z1 H G L/\GrO W2 f z A C L/\Kp W2 f [(w2.heap.size,y5 F E l),(w1.heap.size,y5 H G L),(w.heap.size+1,nObj L),(w.heap.size,y5 A C L)]/\GrO W2 f W1.heap.size F E l):=by
        rw[α];exact⟨H3.out.1.alloc _,H3.out.2.1.alloc _,H3.out.2.2.1.alloc _,H3.out.2.2.2.1.alloc _,H3.out.2.2.2.2.1.alloc (H3.out.1.fresh (ZL _)),H3.out.2.2.2.2.2.1.alloc _⟩
   unfold y5 at α;rw[<-α];clear α
   have R:(if 12<=s1.bs.length then(7:Int)else 8)=want:=by
        have e:s1.bs.length=s.bs.length+1:=by
         rw[g.out.2.2.2.2.1,<-Z];have:=g.out.1;show(s'.bs.take p++x::s'.bs.drop p).length=_
         simp;omega
        rw[e,O.out.2.2.2.2.2.2]
        by_cases h11:11<=s.bs.length
        .rw[if_pos h11,if_pos (by omega)]
        .rw[if_neg h11,if_neg (by omega)]
   refine(admitOne_call base bb oneMore s1 f a W2 H4.out.1 (λy hy e=>by
        rw[g.out.2.2.2.2.1]at hy;rcases qZ hy with rfl|hy
        .rw[g.out.2.1]at e;exact absurd e (by decide)
        .rw[Z]at hy;have:=O.out.1.nm y hy;rw[e]at this;cases this) ⟨by decide,by decide⟩ (g.out.2.2.1 0 (by omega)) (by rw[g.out.2.2.2.2.2.2.1];have:=d.out.2.2.2.2.2.2.2.1;have:=O.out.2.2.2.2.1;omega) (HG.out _ _ (d.out.2.2.2.1.trans H4.out.2.1)) γ).mono ?_
   intro e w3 he;rcases e with r|ch|_
   rotate_left
   .exact⟨rfl,he⟩
   .exact he.elim
   obtain⟨V,rfl,hb3,χ⟩:=he;rw[R];have H5:=av (aaa hb3 χ);clear hb3 χ R;obtain⟨S,N⟩:∃W,W=w3.alloc zObj:=⟨_,rfl⟩
   have P:Hid (Bd S base bb s1 V/\dJ wr S t V/\GrO S V z1 H G L/\GrO S V z A C L/\Kp S V [(w3.heap.size,zObj),(w2.heap.size,y5 F E l),(w1.heap.size,y5 H G L),(w.heap.size+1,nObj L),(w.heap.size,y5 A C L)]/\GrO S V W1.heap.size F E l):=by
        rw[N];exact⟨H5.out.1.alloc _,(H4.out.2.1.trans H5.out.2).alloc _,(H4.out.2.2.1.aau H5.out.2).alloc _,(H4.out.2.2.2.1.aau H5.out.2).alloc _,(H4.out.2.2.2.2.1.aau H5.out.2).alloc (H5.out.1.fresh (ZL _)),(H4.out.2.2.2.2.2.aau H5.out.2).alloc _⟩
   unfold zObj at N;obtain⟨q4,_⟩:=blk (show S.heap[w.heap.size]? =some (.cells #[.slice (A 0) (L 0).length (C 0),.slice (A 1) (L 1).length (C 1),.slice (A 2) (L 2).length (C 2),.slice (A 3) (L 3).length (C 3)] 41 (0,0))from P.out.2.2.2.2.1.tail.tail.tail.tail.head);obtain⟨q9,_⟩:=blk (show S.heap[w1.heap.size]? =some (.cells #[.slice (H 0) (L 0).length (G 0),.slice (H 1) (L 1).length (G 1),.slice (H 2) (L 2).length (G 2),.slice (H 3) (L 3).length (G 3)] 41 (0,0))from P.out.2.2.2.2.1.tail.tail.head);rw[N]at q4 q9;unfold eH;go_wp2_with fail;rw[<-N];rw[<-N]at q4 q9;clear N;refine(aaq H A G C L L S P.out.2.2.1.grant P.out.2.2.2.1.grant).mono ?_;rintro e w4 ⟨c,hb4⟩;obtain rfl:=c.fP λ_ _=>rfl
   have H7:=av hb4;clear c hb4 q4 q9;obtain⟨ι,_⟩:=blk (show w4.heap[w2.heap.size]? =some (.cells #[.slice (F 0) (l 0).length (E 0),.slice (F 1) (l 1).length (E 1),.slice (F 2) (l 2).length (E 2),.slice (F 3) (l 3).length (E 3)] 41 (0,0))from(P.out.2.2.2.2.1.aau (dJ.fq H7.out)).tail.head);go_wp2_with fail;refine(empty_any F E l w4 (P.out.2.2.2.2.2.below H7.out).grant).mono ?_;rintro e w5 ⟨c,hb5⟩;obtain rfl:=c.fP H3.out.2.2.2.2.2.2;have H8:=av (ai H7.out hb5);clear c hb5 ι;obtain⟨q12,_⟩:=blk (show w5.heap[w3.heap.size]? =some (.cells #[.slice none 0 0,.slice none 0 0,.slice none 0 0,.slice none 0 0] 41 (0,0))from(P.out.2.2.2.2.1.aau (dJ.fq H8.out)).head);go_wp2_with fail;refine(empty_any (λ_=>none) (λ_=>0) (λ_=>[]) w5 (zeroG_grant _)).mono ?_;rintro e w6 ⟨c,hb6⟩;obtain rfl:=c.fP λ_ _=>rfl
   have H9:=av (ai H8.out hb6);clear c hb6 q12;have hww:(want==want)=true:=beq_self_eq_true _
   have θ:Hid (Calls (patch ae prog) 24 #[.pointer (some ⟨bb,0,none⟩),.string newOne] w6 (RJ (λv w'=>∃n:Nat->Nat,v=.int .i64 0/\Bd w' base bb (s1.written s'.bs) n/\dJ w6 w' V n) AA)):=by
        have h:=releaseAll_call base bb p x s' s1 V a w6 (P.out.1.below H9.out) g.out.2.2.2.2.1 g.out.1 (λk=>by have:=k.1;rw[g.out.2.2.2.2.2.1]at this;cases this) g.out.2.2.2.1 (by rw[g.out.2.2.2.2.2.2.1];have:=d.out.2.2.2.2.2.2.2.1;have:=O.out.2.2.2.2.1;omega) (HG.out _ _ ((d.out.2.2.2.1.trans P.out.2.1).trans (dJ.fq H9.out))) γ;rw[g.out.2.1]at h;exact h
   go_wp2_with fail;refine θ.out.mono ?_;intro e w7 he;rcases e with r|ch|_
   rotate_left
   .exact⟨rfl,he⟩
   .exact he.elim
   obtain⟨n,rfl,hb7,φ⟩:=he;have U:Hid (Bd w7 base bb (s1.written s'.bs) n/\dJ S w7 V n):=⟨hb7,(dJ.fq H9.out).trans φ⟩;clear hb7 φ θ hww;go_wp2_with fail;refine(freeG_any base bb (s1.written s'.bs) n w7 U.out.1).mono ?_;rintro e w8 ⟨A8,C8,rfl,X,ο⟩;have hD8:gq (s1.written s'.bs).D=L:=(by rw[g.out.2.2.2.2.2.2.2.1];exact d.out.2.2.2.2.2.2.1);rw[hD8]at X⊢
   have B:Hid (Bd w8 base bb (s1.written s'.bs) n/\dJ S w8 V n/\GrO w8 n w7.heap.size A8 C8 L/\w2.heap.size<w7.heap.size):=
        ⟨U.out.1.below ο,U.out.2.trans (dJ.fq ο),λq I=>⟨X q I,λb hb=>U.out.1.fresh ((X q I).lt b hb).1⟩,ZO (ZK.1 P.out.2.2.2.2.1.tail.head).1 U.out.2.size⟩
   clear X ο hD8;have H12:=av (P.out.2.2.2.2.1.aau B.out.2.1);obtain⟨ι,τ⟩:=blk (show w8.heap[w2.heap.size]? =some (.cells #[.slice (F 0) (l 0).length (E 0),.slice (F 1) (l 1).length (E 1),.slice (F 2) (l 2).length (E 2),.slice (F 3) (l 3).length (E 3)] 41 (0,0))from H12.out.tail.head);obtain⟨W8,M⟩:∃W,W=((((w8.setCell ⟨w2.heap.size,0,none⟩ (.slice (A8 0) (L 0).length (C8 0))).setCell ⟨w2.heap.size,1,none⟩ (.slice (A8 1) (L 1).length (C8 1))).setCell ⟨w2.heap.size,2,none⟩ (.slice (A8 2) (L 2).length (C8 2))).setCell ⟨w2.heap.size,3,none⟩ (.slice (A8 3) (L 3).length (C8 3))):=⟨_,rfl⟩
   have u:Hid (Bd W8 base bb (s1.written s'.bs) n/\dJ wr W8 t n/\GrO W8 n w7.heap.size A8 C8 L/\Kp W8 n [(w.heap.size+1,nObj L),(w.heap.size,y5 A C L)]):=by
        have hk:n w2.heap.size=0:=(H12.out.tail _ ZX).2
        have oth:∀b,b≠w2.heap.size->W8.heap[b]? =w8.heap[b]?:=λb hb=>by
         rw[M];exact(aad _ _ _ _ hb).trans ((aad _ _ _ _ hb).trans ((aad _ _ _ _ hb).trans (aad _ _ _ _ hb)))
        have ho:dJ wr W8 t n:=(by rw[M];exact lG _ _ _ _ _ (P.out.2.1.trans B.out.2.1) H3.out.2.1.size);refine⟨?_,ho,λq I=>⟨aJ (B.out.2.2.1 q I).1 λb hb=>oth b ?_,(B.out.2.2.1 q I).2⟩,d.out.2.2.1.aau ho⟩
        .rw[M];exact rQ _ _ _ _ _ B.out.1 hk
        .have:=((B.out.2.2.1 q I).1.lt b hb).1
         have:=B.out.2.2.2;omega
   obtain⟨q4,_⟩:=blk (show W8.heap[w.heap.size]? =some (.cells #[.slice (A 0) (L 0).length (C 0),.slice (A 1) (L 1).length (C 1),.slice (A 2) (L 2).length (C 2),.slice (A 3) (L 3).length (C 3)] 41 (0,0))from u.out.2.2.2.tail.head);rw[M]at q4;unfold gVal;go_wp2_with fail;rw[<-M];clear M q4 ι τ;refine(aaq A8 A C8 C L L W8 u.out.2.2.1.grant (d.out.2.1.aau u.out.2.1).grant).mono ?_;rintro e w9 ⟨c,Ω⟩;obtain rfl:=c.fP λ_ _=>rfl
   have δ:=av Ω;clear c Ω;go_wp2_with fail;go_roundw
   case rel=>
        have hs:=d.out.2.2.2.2.1;refine⟨j+1,s1.written s'.bs,n,by omega,by go_num,⟨g.out.2.2.2.2.2.2.2.2.1.trans hs.m,g.out.2.2.2.2.2.2.2.2.2.1.trans hs.dn,g.out.2.2.2.2.2.2.2.2.2.2.1.trans hs.dN,g.out.2.2.2.2.2.2.2.2.2.2.2.trans hs.dH,hs.bs⟩,g.out.2.2.2.2.2.1,?_,u.out.1.below δ.out,(d.out.2.1.aau u.out.2.1).below δ.out,u.out.2.2.2.aau (dJ.fq δ.out),(d.out.2.2.2.1.trans u.out.2.1).trans (dJ.fq δ.out)⟩;have h1:=g.out.2.2.2.2.2.2.1;have h2:=d.out.2.2.2.2.2.2.2.1;show s1.no+4<=_
        omega
   case measure=>simp[intOf];omega
  .have jn:¬(j:Int)<2:=by omega
   go_wp2_with fail;go_ret;rfl
theorem mayB_one {c:Nat->Int}(hc:c 0=1/\c 1=0/\c 2=0/\c 3=0):qo c=true:=mayB_of (λi a=>by
 unfold A7;obtain rfl|rfl|rfl|rfl:i=0\/i=1\/i=2\/i=3:=by omega
 .rw[hc.1];decide
 .rw[hc.2.1];decide
 .rw[hc.2.2.1];decide
 .rw[hc.2.2.2];decide) ⟨0,by omega,by rw[hc.1];decide⟩
theorem admit_zero {s s':BS}{nm:ByteArray}{r:Value}{w':World}{f:Nat->Nat}(h:zD s nm (λ_=>0) r s' w' f)(b:∀x∈s.bs,x.nm≠nm)(d:jJ nm):r=.tuple #[eH,.int .i64 5]:=by
 have hm:qo (λ_=>0)=false:=by decide
 have no:∀{P:Prop},qo (λ_=>0)=true->P:=λe=>by rw[hm]at e;cases e
 rcases h with⟨code,rfl,_,c⟩|⟨_,_,_,hy,_⟩|⟨_,_,_,_,_,_,hy,_⟩
 .rcases c with⟨a,_⟩|⟨_,a,_⟩|⟨_,_,_,rfl⟩|⟨_,_,a,_⟩|⟨_,_,a,_⟩|⟨_,_,a,_⟩
  .exact absurd d a
  .exact absurd a (aaw b)
  .rfl
  .exact no a
  .exact no a
  .exact no a
 .exact no hy.may
 .exact no hy.may
theorem admit_full {s s':BS}{nm:ByteArray}{r:Value}{w':World}{f:Nat->Nat}{c:Nat->Int}(h:zD s nm c r s' w' f)(hm:qo c=true)(b:∀x∈s.bs,x.nm≠nm)(e:jJ nm)(hl:s.bs.length=12):r=.tuple #[eH,.int .i64 7]:=by
 rcases h with⟨code,rfl,_,d⟩|⟨_,_,_,hy,_⟩|⟨_,_,_,_,_,_,hy,_⟩
 .rcases d with⟨a,_⟩|⟨_,a,_⟩|⟨_,_,a,_⟩|⟨_,_,_,_,rfl⟩|⟨_,_,_,a,_⟩|⟨_,_,_,a,_⟩
  .exact absurd e a
  .exact absurd a (aaw b)
  .rw[hm]at a;cases a
  .rfl
  .omega
  .omega
 .have:=hy.room;omega
 .have:=hy.room;omega
def cz.p0 (m:cz):cz:={m with p:=0}
theorem kX.p0 {w:World}{base:Nat}{m:cz}{vc vr:Value}(h:kX w base m vc vr):kX w base m.p0 vc vr:=⟨⟨h.ok.1,h.ok.2.1,h.ok.2.2.1,h.ok.2.2.2.1,(show(0:Int)<=0 by decide),(show(0:Int)<=3 by decide)⟩,h.dA,h.res⟩
theorem BS.inv.failAt {s:BS}(h:s.inv)(n:Int):(s.failAt n).inv:=⟨BS.D_ok h.d rfl rfl rfl rfl,h.fine.ZJ rfl rfl,h.many,h.nm⟩
theorem long_name {s:BS}(h:s.inv){nm:ByteArray}(a:2<=nm.size):∀x∈s.bs,x.nm≠nm:=λx hx e=>by have:=h.nm x hx;rw[e]at this;omega
theorem spent_any (M:cz)(so:Option Addr)(n cap:Nat)(T:Nat->eU)(a:Addr)(w:World)(hM:M.At w)(V:∀i,i<M.n->In64 (M.S i)/\In64 (M.C i))(hp:In64 M.p)(hT:ScrS w so n cap T)
 (hG:w.cell? ⟨0,0,none⟩=some (.iface 345 (.pointer (some a)))):
 Calls (patch ae prog) 6 #[M.val,.slice so n cap] w (RJ (λv _=>v=.bool true) AA):=by
 have HT:=av (aaa hT hG);have ζ:Hid (∀u,Below w.heap.size w u->Calls (patch ae prog) 8 #[M.val] u λe w'=>∃m P O ra rc,e=.returned (.agg #[.slice P m.n O,.slice ra m.r rc,.int .i64 m.p])/\kX w' u.heap.size m (.slice P m.n O) (.slice ra m.r rc)/\Below u.heap.size u w'):=λu hu=>machineK_any M u (hM.ext hu) V hp
 clear hM V hp hT hG;unfold cz.val at*
 go_enter (pf func6 (by rfl)),ntmps6
 go_wp2_with fail;have N:Hid (Below w.heap.size w (w.alloc (.cells #[.slice M.ao M.n M.cap,.slice M.ro M.r M.gD,.int .i64 M.p] 25))):=(aab _ _).alloc (ZL _) _;refine(ζ.out _ N.out).mono ?_;rintro e w1 ⟨m,P,O,ra,rc,rfl,y,Z⟩;have H1:=av (aaa y (ai N.out Z));clear y Z N;go_wp2_with fail;obtain⟨W1,J⟩:∃W,W=w1.alloc (.cells #[.slice P m.n O,.slice ra m.r rc,.int .i64 0] 25):=⟨_,rfl⟩
 have R:Hid (Below w.heap.size w W1/\kX W1 (w.heap.size+1) m.p0 (.slice P m.n O) (.slice ra m.r rc)):=by
  rw[J];have hb:Below w1.heap.size w1 (w1.alloc (.cells #[.slice P m.n O,.slice ra m.r rc,.int .i64 0] 25)):=(aab _ _).alloc (ZL _) _;refine⟨ai H1.out.2 hb,?_⟩;have:=(H1.out.1.below hb).p0;simpa using this
 rw[<-J];clear J;refine(played_any m.p0 P ra so O rc _ n cap T a W1 R.out.2 (HT.out.1.below R.out.1) (keeps R.out.1 HT.out.2)).mono ?_;intro e w2 he;rcases e with r'|ch|_
 rotate_left
 .exact⟨rfl,he⟩
 .exact he.elim
 obtain⟨base,bb,Q,K,rfl,g,f,d,Y⟩:=he
 have H3:Hid (Below w.heap.size w w2/\Bd w2 base bb Q K/\Q.inv/\Q.m.p=0/\Q.no<=400000000/\w.heap.size<=base):=
  ⟨ai R.out.1 Y,f,d.inv R.out.2.ok,by rw[d.keeps.1];rfl,by have:=d.keeps.2;have:=HT.out.1.many;omega,ZP R.out.1.size g⟩
 clear f d Y g;go_wp2_with fail;refine(failAt_any base bb (-1) Q K w2 H3.out.2.1 (by unfold In64;omega)).mono ?_;rintro e w3 ⟨rfl,f,U⟩;obtain⟨s,hs⟩:∃s,s=Q.failAt (-1):=⟨_,rfl⟩;rw[<-hs]at f;have t:0<base:=by have h1:=aan HT.out.2;have h2:=H3.out.2.2.2.2.2;exact ZO h1 h2
 have k:Hid (Bd w3 base bb s K/\s.inv/\s.m.p=0/\s.no<=400000000/\s.fl=false/\w3.cell? ⟨0,0,none⟩=some (.iface 345 (.pointer (some a)))):=
  ⟨f,by rw[hs];exact H3.out.2.2.1.failAt _,by rw[hs];exact H3.out.2.2.2.1,by rw[hs];exact H3.out.2.2.2.2.1,by rw[hs];rfl,glob_onto H3.out.2.1 t (keeps H3.out.1 HT.out.2) U⟩
 clear f U hs;go_wp2_with fail;refine(boxes_any base bb s K w3 k.out.1).mono ?_;rintro e w4 ⟨v4,l,rfl,X,α,I⟩;obtain⟨lo,lc,rfl⟩:=aj X.row;have hlen:l.length=s.bs.length:=α.1.symm;rw[hlen];have H5:Hid (Bd w4 base bb s K/\Below w3.heap.size w3 w4):=⟨k.out.1.below I,I⟩;clear X α I hlen;go_wp2_with fail;refine(freeG_any base bb s K w4 H5.out.1).mono ?_;rintro e F ⟨A,C,rfl,G,H⟩;obtain⟨L,hL⟩:∃L,L=gq s.D:=⟨_,rfl⟩
 have H6:Hid (Bd F base bb s K/\GrO F K w4.heap.size A C L/\Below w3.heap.size w3 F):=by
  rw[hL];exact⟨H5.out.1.below H,λq hq=>⟨G q hq,λb hb=>H5.out.1.fresh ((G q hq).lt b hb).1⟩,ai H5.out.2 H⟩
 clear G H;rw[<-hL];have HL:=av hL;clear hL;unfold gVal;go_wp2_with fail;obtain⟨W5,x⟩:∃W,W=F.alloc (y5 A C L):=⟨_,rfl⟩
 have H7:Hid (Bd W5 base bb s K/\GrO W5 K w4.heap.size A C L/\Below w3.heap.size w3 W5/\W5.heap[F.heap.size]? =some (y5 A C L)):=by
  rw[x];exact⟨H6.out.1.alloc _,H6.out.2.1.alloc _,H6.out.2.2.alloc H6.out.2.2.size _,aae _ _⟩
 unfold y5 at x;rw[<-x];clear x;refine(empty_any A C L W5 H7.out.2.1.grant).mono ?_;rintro e o ⟨⟨r,rfl,hr⟩,j⟩
 have E:Hid (Bd o base bb s K/\GrO o K w4.heap.size A C L/\o.heap[F.heap.size]? =some (y5 A C L)/\o.cell? ⟨0,0,none⟩=some (.iface 345 (.pointer (some a)))):=
  ⟨H7.out.1.below j,H7.out.2.1.below j,bJ j H7.out.2.2.2,keeps j (keeps H7.out.2.2.1 k.out.2.2.2.2.2)⟩
 have Hr:=av hr;clear hr j;have μ:=k.out.2.2.2.1;have δ:=k.out.2.1.many;cases r with
 |true=>
  go_wp2_with fail;refine(LX base bb s K newOne (λ_=>0) a o E.out.1 (by decide) (by omega) E.out.2.2.2 t).mono ?_;intro e w7 he;rcases e with r'|ch|_
  rotate_left
  .exact⟨rfl,he⟩
  .exact he.elim
  obtain⟨s',K',c,hb,ho⟩:=he;obtain rfl:=admit_zero c (long_name k.out.2.1 (by decide)) ⟨by decide,by decide⟩;clear c hb ho;unfold eH;go_wp2_with fail;go_ret;rfl
 |false=>
  have β:¬∀q,q<4->L q=[]:=λh=>by have:=Hr.out.2 h;cases this
  by_cases ε:s.bs.length=12
  .have z:((s.bs.length:Nat):Int)=12:=by omega
   have η:=av ε;go_wp2_with fail;refine(LX base bb s K newOne (λi=>if i=0 then 1 else 0) a o E.out.1 (by decide) (by omega) E.out.2.2.2 t).mono ?_;intro e w7 he;rcases e with r'|ch|_
   rotate_left
   .exact⟨rfl,he⟩
   .exact he.elim
   obtain⟨s',K',c,hb,ho⟩:=he;obtain rfl:=admit_full c (mayB_one ⟨rfl,rfl,rfl,rfl⟩) (long_name k.out.2.1 (by decide)) ⟨by decide,by decide⟩ η.out;clear c hb ho;unfold eH;go_wp2_with fail;go_ret;rfl
  .have z:¬((s.bs.length:Nat):Int)=12:=by omega
   have θ:(((s.bs.length:Nat):Int)==12)=false:=beq_eq_false_iff_ne.2 z;have γ:¬∀q,q<4->gq s.D q=[]:=(by rw[<-HL.out];exact β)
   have HS:Hid (∀want:Int,(want=if 11<=s.bs.length then 7 else 8)->Calls (patch ae prog) 30 #[.pointer (some ⟨bb,0,none⟩),.agg #[.slice (A 0) (L 0).length (C 0),.slice (A 1) (L 1).length (C 1),.slice (A 2) (L 2).length (C 2),.slice (A 3) (L 3).length (C 3)],.int .i64 want] o (RJ (λv _=>v=.bool true) AA)):=λwant hw=>by
        have hg:=E.out.2.1;have:=spend_any base bb w4.heap.size s K A C want a o E.out.1 (by rw[<-HL.out];exact hg) k.out.2.1 k.out.2.2.2.2.1 k.out.2.2.1 (by omega) γ (by omega) hw E.out.2.2.2 t;rw[<-HL.out]at this;exact this
   obtain⟨q5,κ⟩:=blk (show o.heap[F.heap.size]? =some (.cells #[.slice (A 0) (L 0).length (C 0),.slice (A 1) (L 1).length (C 1),.slice (A 2) (L 2).length (C 2),.slice (A 3) (L 3).length (C 3)] 41 (0,0))from E.out.2.2.1)
   by_cases ν:s.bs.length=11
   .have B:((s.bs.length:Nat):Int)=11:=by omega
    go_wp2_with fail;refine(HS.out 7 (by rw[if_pos (by omega)])).mono ?_;intro e w7 he;rcases e with r'|ch|_
    rotate_left
    .exact⟨rfl,he⟩
    .exact he.elim
    obtain rfl:=he;go_wp2_with fail;go_ret;rfl
   .have B:¬((s.bs.length:Nat):Int)=11:=by omega
    have ι:(((s.bs.length:Nat):Int)==11)=false:=beq_eq_false_iff_ne.2 B;go_wp2_with fail;refine(HS.out 8 (by rw[if_neg (by omega)])).mono ?_;intro e w7 he;rcases e with r'|ch|_
    rotate_left
    .exact⟨rfl,he⟩
    .exact he.elim
    obtain rfl:=he;go_wp2_with fail;go_ret;rfl
end Z
