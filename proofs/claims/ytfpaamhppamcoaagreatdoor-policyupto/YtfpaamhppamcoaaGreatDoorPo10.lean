/- Part 10 of the proof. -/
import Derived.Test.YtfpaamhppamcoaaGreatDoorPo9
import Derived.Shelf.SlSortCmp.QuietGrown
import Derived.Shelf.SlicesQ.Load
set_option linter.all false
set_option maxRecDepth 100000
set_option maxHeartbeats 60000000
namespace Go.Proofs.YtfpaamhppamcoaaGreatDoor
open Go.Proofs.Tryz
namespace Z
open Go.RowKit
attribute [local go_sem ↓] Go.wp_at_zero Go.wp_at_succ
attribute [local go_sem] After.cell After.frozen After.const
structure kZ (w:World)(Z:Nat->Prop)(B:Nat)(D:BD)(S C:Nat->Int)(sI:Int):Prop where
 ow:bM w Z B D
 UD:∃v,w.cell? ⟨B,0,none⟩=some v/\dO w v D.n S D.N C
 MJ:w.cell? ⟨B,2,none⟩=some (.int .i64 sI)
def kZ.below {w w'}{Z}{B}{D}{S C}{sI}(h:kZ w Z B D S C sI)(hb:adN w w'):kZ w' Z B D S C sI:=by
 obtain⟨v,b,a⟩:=h.UD;exact⟨bM.below h.ow hb,⟨v,keeps hb b,a.below hb⟩,keeps hb h.MJ⟩
abbrev SX (w:World)(B:Nat)(vc:Value)(cs:Array Value)(w':World):Prop:=w'.cell? ⟨B,0,none⟩=some vc/\(∀j,w'.cell? ⟨w.heap.size,j,none⟩=cs[j]?)/\adN w w'/\w.heap.size+2<=w'.heap.size
def Qh {w w1 w2}{B}{vc}{cs}(h:SX w B vc cs w1)(a:B<w.heap.size)(hb:Below (w.heap.size+2) w1 w2):SX w B vc cs w2:=
 ⟨(hb.cell (p:=⟨B,0,none⟩) (by show B<_;omega)).trans h.1,λj=>(hb.cell (p:=⟨w.heap.size,j,none⟩) (by show w.heap.size<_;omega)).trans (h.2.1 j),h.2.2.1.trans (hb.mono (by omega)),ZP h.2.2.2 hb.size⟩
def Oh {w w1}{B}{vc}{cs}{D}(h:SX w B vc cs w1)(hb:aW w B D):aW w1 B D:=aW.below hb h.2.2.1
def Su {w w1}{B}{vc}{cs}{n}{S N C}(h:SX w B vc cs w1)(hb:dO w vc n S N C):dO w1 vc n S N C:=dO.below hb h.2.2.1
def Lf (D)(r):(gq D r).Nodup:=by
 unfold gq kept dL;refine adx _ ?_;split
 .unfold bS
  exact adx _ List.nodup_range
 .exact adx _ List.nodup_range
def FT (D)(k m)(S C)(vc f)(w)(c:D.ok)(hm:m<16)(hc:dO w vc D.n S D.N C)(hl:Ints w f (gq D 0).length (λj=>(((gq D 0)[j]?.getD 0:Nat):Int)))(d:k<=((gq D 0).filter (bE m (bG D 0))).length):
 adO 137 #[vc,f,.int .u64 m,.int .i64 k] w λe w'=>∃b a tk,e=.returned (.slice b tk.length a)/\w'.ownsRow w.heap.size 3 1 (.slice b tk.length a) tk.length (aT tk)/\tk.length=k/\tk.Pairwise (· < ·)/\(∀i∈tk,i∈gq D 0/\bE m (bG D 0) i=true)/\adN w w'/\NZ (.slice b tk.length a):=by
 have e:bG D 0=D.N:=by funext i;unfold bG;rw[if_pos rfl]
 have hlen:=mi c (r:=0) (by omega);rw[e]at d⊢;refine(Je D.n k m S D.N C vc f (gq D 0) w hm (by have:=aai (bE m D.N) (gq D 0);omega) hc c.nodes hl (λi h=>by simpa using yx D 0 i h) (Lf D 0) hlen d).mono ?_;rintro e w' ⟨v,tk,rfl,g,l⟩;obtain⟨b,a,rfl⟩:=aj g;exact⟨b,a,tk,rfl,g,l⟩
def bZ.nodes {w}{Z}{v}{D}{k}(h:bZ w Z v (D.dn k) (FN D k)):Jt w v (D.dn k) 2 0 (D.dN k):=by
 obtain⟨ao,cap,e,j,g,f,_⟩:=h;refine⟨ao,cap,e,j,g,λa=>?_⟩;obtain⟨b,o,l,d⟩:=f a;exact⟨b,o,l,λi c=>by have:=(d i c).1;rw[Nat.add_zero,Nat.mul_comm i 2];exact this⟩
def Cg {p}{k}{l}(h:l.Pairwise (· < ·)):(takeN p k l).Pairwise (· < ·):=by
 unfold takeN;exact(h.filter p).sublist (List.take_sublist _ _)
def Kt {p}{k}{l}{i}(h:i∈takeN p k l):i∈l/\p i=true:=by
 unfold takeN at h;exact adp.1 (List.mem_of_mem_take h)
def II (D)(r):(gq D r).Pairwise (· < ·):=by
 unfold gq kept dL;refine adx _ ?_;split
 .unfold bS
  exact adx _ List.pairwise_lt_range
 .exact adx _ List.pairwise_lt_range
def QQ (D:BD)(m r k:Nat)(tk:List Nat):Prop:=tk.length=k/\tk.Pairwise (· < ·)/\∀i∈tk,i∈gq D r/\bE m (bG D r) i=true
def mJ (D:BD)(m r k:Nat)(tk:List Nat)(v:Value):Prop:=QQ D m r k tk/\NZ v
def jX (D)(r k m)(v f)(w)(c:D.ok)(p:0<r/\r<4)(hm:m<16)(o:Jt w v (D.dn (r-1)) 2 0 (D.dN (r-1)))(hl:Ints w f (gq D r).length (λj=>(((gq D r)[j]?.getD 0:Nat):Int)))(q:k<=((gq D r).filter (bE m (bG D r))).length):
 adO 138 #[v,f,.int .u64 m,.int .i64 k] w λe w'=>∃b a tk,e=.returned (.slice b k a)/\w'.ownsRow w.heap.size 3 1 (.slice b k a) tk.length (aT tk)/\mJ D m r k tk (.slice b k a)/\adN w w':=by
 have e:bG D r=D.dN (r-1):=by funext i;unfold bG;rw[if_neg (by omega)]
 have hlen:=mi c (r:=r) p.2;have hle:((gq D r).filter (bE m (bG D r))).length<=(gq D r).length:=aai _ _;refine(Ay (D.dn (r-1)) k m (D.dN (r-1)) v f (gq D r) w hm (by omega) o (c.dC (r-1) (by omega)).2 hl (λi h=>by have:=yx D r i h;rw[if_neg (by omega)]at this;exact this) (by omega)).mono ?_;rintro t w' ⟨v',rfl,l,s,n⟩
 have d:(takeN (bE m (D.dN (r-1))) k (gq D r)).length=k:=by
  unfold takeN;rw[adh,<-e];omega
 obtain⟨b,a,g⟩:=aj l;subst g;refine⟨b,a,takeN (bE m (D.dN (r-1))) k (gq D r),by rw[d],?_,⟨⟨d,Cg (II D r),λi h=>?_⟩,by rw[d]at n;exact n⟩,s⟩
 .rw[d]at l
  rw[d];exact l
 .rw[e]
  exact Kt h
def qB (w:World)(D:BD)(m:Nat)(c:Nat->Nat)(e:Ending)(w':World):Prop:=∃(A:Nat->Option Addr) (a:Nat->Nat) (T:Nat->List Nat),e=.returned (.agg #[.slice (A 0) (c 0) (a 0),.slice (A 1) (c 1) (a 1),.slice (A 2) (c 2) (a 2),.slice (A 3) (c 3) (a 3)])/\(∀q,q<4->w'.ownsRow w.heap.size 3 1 (.slice (A q) (c q) (a q)) (T q).length (aT (T q))/\mJ D m q (c q) (T q) (.slice (A q) (c q) (a q)))/\adN w w'
def Ha {W:World}{base n tb}{v}{xs}(h:W.ownsRow base 3 1 v n xs)(hb:tb<base):v.ownBlock≠some tb:=λe=>by have:=(h.lt tb e).1;omega
def jy {X b W2}{base n tb r}{v x}{xs}(h:X.ownsRow base 3 1 v n xs)(d:adN X b)(c:adN b W2)(a:v.ownBlock≠some tb):(W2.setCell ⟨tb,r,none⟩ x).ownsRow base 3 1 v n xs:=ownsRow_setCell_other (au (au h d) c) a x
def eQ {X:World}{base n b}{v x0 x1 x2 x3}{xs}(h:X.ownsRow base 3 1 v n xs)(hb:b<base):((((X.setCell ⟨b,0,none⟩ x0).setCell ⟨b,1,none⟩ x1).setCell ⟨b,2,none⟩ x2).setCell ⟨b,3,none⟩ x3).ownsRow base 3 1 v n xs:=aS (aS (aS (aS h hb) hb) hb) hb
def Qw:Code->Code
 |.seq _ (.seq _ r)=>r
 |c=>c
def Px (a c b)(W):Sem.run (patch ae prog) (Instr.index 34 (.agg #[a,c,b]) (.int .i64 0)) W=.ok a W:=by kernel_rfl
def Pw (c a b)(W):Sem.run (patch ae prog) (Instr.index 34 (.agg #[c,a,b]) (.int .i64 1)) W=.ok a W:=by kernel_rfl
def Pv (c b a)(W):Sem.run (patch ae prog) (Instr.index 34 (.agg #[c,b,a]) (.int .i64 2)) W=.ok a W:=by kernel_rfl
def nk (w U)(B m tb)(D)(S C)(sI)(c)(vc)(s)(d)(tk)(x2 t11 t12 t13 t14 t15 t16 t17 t18 t19 t20 t21 t22)(hb:kZ w (λ_=>True) B D S C sI)(κ:D.ok)(hm:m<16)(hc:∀i,i<4->c i<=((gq D i).filter (bE m (bG D i))).length)
 (X:SX w B vc #[.int .i64 (c 0),.int .i64 (c 1),.int .i64 (c 2),.int .i64 (c 3)] U)(hg:U.heap[tb]? =some (.cells #[.slice s (c 0) d,.slice none 0 0,.slice none 0 0,.slice none 0 0] 41 (0,0)))(φ:w.heap.size+2<=tb)(hr:U.heap[w.heap.size+1]? =some (.cells #[.slice none 0 0,.slice none 0 0,.slice none 0 0,.slice none 0 0] 41 (0,0)))(ρ:mJ D m 0 (c 0) tk (.slice s (c 0) d))(ho:U.ownsRow (w.heap.size+2) 3 1 (.slice s (c 0) d) tk.length (aT tk))(ο:∀a,s=some a->a.block≠tb):
 (Qw ((Func.body f85).getD .skip)).wp (patch ae prog) (bodyPost (patch ae prog) f85 (qB w D m c)) ⟨#[.pointer (some ⟨B,0,none⟩),.int .u64 m,x2,undef,undef,.pointer (some ⟨w.heap.size,0,none⟩),.pointer (some ⟨w.heap.size+1,0,none⟩),.pointer (some ⟨tb,0,none⟩),undef,undef,undef,t11,t12,t13,t14,t15,t16,t17,t18,t19,t20,t21,t22,undef,undef,undef,undef,undef,undef,undef,undef,undef,undef,undef,undef,undef,undef,undef,undef,undef,undef,undef,undef,undef,undef,undef,undef,undef],[]⟩ U:=by
 have E:Hid (kZ w (λ_=>True) B D S C sI/\D.ok):=⟨hb,κ⟩;obtain⟨d0,e0,l0⟩:=hb.ow.dC 0 (by omega);obtain⟨d1,e1,l1⟩:=hb.ow.dC 1 (by omega);obtain⟨d2,L,l2⟩:=hb.ow.dC 2 (by omega);have q3:=keeps X.2.2.1 e0;have q4:=keeps X.2.2.1 e1;have q5:=keeps X.2.2.1 L;have υ:Hid (∀U,adN w U->bZ U (λ_=>True) d0 (D.dn 0) (FN D 0)):=λU h=>by obtain⟨v',g1,g2⟩:=(aW.below hb.ow h).dC 0 (by omega);rw[keeps h e0]at g1;cases g1;exact g2
 have τ:Hid (∀U,adN w U->bZ U (λ_=>True) d1 (D.dn 1) (FN D 1)):=λU h=>by obtain⟨v',g1,g2⟩:=(aW.below hb.ow h).dC 1 (by omega);rw[keeps h e1]at g1;cases g1;exact g2
 have σ:Hid (∀U,adN w U->bZ U (λ_=>True) d2 (D.dn 2) (FN D 2)):=λU h=>by obtain⟨v',g1,g2⟩:=(aW.below hb.ow h).dC 2 (by omega);rw[keeps h L]at g1;cases g1;exact g2
 have V:=av hc;have Y:Func.results f85= #[.cell 6 41]:=by kernel_rfl
 generalize hQ:bodyPost (patch ae prog) f85 (qB w D m c)=Q;simp only[Qw,f85,ac9];have G:Hid (adN w U/\U.heap[tb]? =some (.cells #[.slice s (c 0) d,.slice none 0 0,.slice none 0 0,.slice none 0 0] 41 (0,0))/\(∀j,U.cell? ⟨w.heap.size,j,none⟩= #[.int .i64 (c 0),.int .i64 (c 1),.int .i64 (c 2),.int .i64 (c 3)][j]?)/\w.heap.size<U.heap.size/\U.heap[w.heap.size+1]? =some (.cells #[.slice none 0 0,.slice none 0 0,.slice none 0 0,.slice none 0 0] 41 (0,0))):=⟨X.2.2.1,hg,X.2.1,by have:=X.2.2.2;omega,hr⟩;have i0:=Px d0 d1 d2;have i1:=Pw d0 d1 d2;have i2:=Pv d0 d1 d2;go_wp2_with fail;refine wp_loop_rounds 4 ?_;rw[aal];go_wp2_with fail;refine(lK B 1 D _ (by omega) (aW.below E.out.1.ow G.out.1) E.out.2 (ZP (ku E.out.2 (by omega)) (by decide))).mono ?_;rintro e w1 ⟨v1,rfl,R,J⟩;have A:=av (aaa (dh R) (aaa (ai G.out.1 J) (aaa ((J.block tb (ZK.1 G.out.2.1).1).trans G.out.2.1) (aaa (λj=>(J.cell (p:=⟨w.heap.size,j,none⟩) G.out.2.2.2.1).trans (G.out.2.2.1 j)) J))));have s1:=A.out.2.2.2.1 1;go_wp2_with fail;refine(jX D 1 (c 1) m d0 v1 w1 E.out.2 (by omega) hm (bZ.nodes (υ.out w1 A.out.2.1)) A.out.1 (V.out 1 (by omega))).mono ?_;rintro e u1 ⟨o,k,ι,rfl,ξ,γ,ζ⟩;have T:=av (aaa ξ (aaa γ ζ));have K1:=av ((ζ.block tb (ZK.1 A.out.2.2.1).1).trans A.out.2.2.1);obtain⟨b1,ω⟩:=blk K1.out;go_wp2_with fail
 have H1:Hid (adN w (u1.setCell ⟨tb,1,none⟩ (.slice o (c 1) k))/\(u1.setCell ⟨tb,1,none⟩ (.slice o (c 1) k)).heap[tb]? =some (.cells #[.slice s (c 0) d,.slice o (c 1) k,.slice none 0 0,.slice none 0 0] 41 (0,0))/\(∀j,(u1.setCell ⟨tb,1,none⟩ (.slice o (c 1) k)).cell? ⟨w.heap.size,j,none⟩= #[.int .i64 (c 0),.int .i64 (c 1),.int .i64 (c 2),.int .i64 (c 3)][j]?)/\w.heap.size< (u1.setCell ⟨tb,1,none⟩ (.slice o (c 1) k)).heap.size/\(u1.setCell ⟨tb,1,none⟩ (.slice o (c 1) k)).heap[w.heap.size+1]? =some (.cells #[.slice none 0 0,.slice none 0 0,.slice none 0 0,.slice none 0 0] 41 (0,0))):=by
  have bb:=ai A.out.2.1 T.out.2.2;refine⟨bb.setCell (by show w.heap.size<=tb;omega) _,?_,λj=>?_,?_,?_⟩
  .have:=aD (i:=1) (.slice o (c 1) k) K1.out
   simpa only[ZN,ZS,ZR] using this
  .refine Eq.trans ?_ (A.out.2.2.2.1 j)
   rw[adL _ _ _ _ (by intro e;have L:=congrArg Addr.block e;simp only at L;omega)];exact T.out.2.2.cell (p:=⟨w.heap.size,j,none⟩) (by have:=G.out.2.2.2.1;have:=A.out.2.2.2.2.size;show w.heap.size<_;omega)
  .have:=bb.size;have:=G.out.2.2.2.1;have:=A.out.2.2.2.2.size;have:=T.out.2.2.size;simp;omega
  .have hl:=(ZK.1 G.out.2.2.2.2).1
   have Z:=A.out.2.2.2.2.size;exact(aad _ _ _ _ (by show w.heap.size+1≠tb;omega)).trans ((T.out.2.2.block _ (by omega)).trans ((A.out.2.2.2.2.block _ hl).trans G.out.2.2.2.2))
 rw[aal];go_wp2_with fail;refine(lK B 2 D _ (by omega) (aW.below E.out.1.ow H1.out.1) E.out.2 (ZP (ku E.out.2 (by omega)) (by decide))).mono ?_;rintro e w2 ⟨v2,rfl,P,I⟩;have z:=av (aaa (dh P) (aaa (ai H1.out.1 I) (aaa ((I.block tb (ZK.1 H1.out.2.1).1).trans H1.out.2.1) (aaa (λj=>(I.cell (p:=⟨w.heap.size,j,none⟩) H1.out.2.2.2.1).trans (H1.out.2.2.1 j)) I))));have s2:=z.out.2.2.2.1 2;go_wp2_with fail;refine(jX D 2 (c 2) m d1 v2 w2 E.out.2 (by omega) hm (bZ.nodes (τ.out w2 z.out.2.1)) z.out.1 (V.out 2 (by omega))).mono ?_;rintro e u2 ⟨n,g,θ,rfl,ν,β,ε⟩;have M:=av (aaa ν (aaa β ε));have K2:=av ((ε.block tb (ZK.1 z.out.2.2.1).1).trans z.out.2.2.1);obtain⟨b2,ψ⟩:=blk K2.out;go_wp2_with fail
 have F:Hid (adN w (u2.setCell ⟨tb,2,none⟩ (.slice n (c 2) g))/\(u2.setCell ⟨tb,2,none⟩ (.slice n (c 2) g)).heap[tb]? =some (.cells #[.slice s (c 0) d,.slice o (c 1) k,.slice n (c 2) g,.slice none 0 0] 41 (0,0))/\(∀j,(u2.setCell ⟨tb,2,none⟩ (.slice n (c 2) g)).cell? ⟨w.heap.size,j,none⟩= #[.int .i64 (c 0),.int .i64 (c 1),.int .i64 (c 2),.int .i64 (c 3)][j]?)/\w.heap.size< (u2.setCell ⟨tb,2,none⟩ (.slice n (c 2) g)).heap.size/\(u2.setCell ⟨tb,2,none⟩ (.slice n (c 2) g)).heap[w.heap.size+1]? =some (.cells #[.slice none 0 0,.slice none 0 0,.slice none 0 0,.slice none 0 0] 41 (0,0))):=by
  have bb:=ai z.out.2.1 M.out.2.2;refine⟨bb.setCell (by show w.heap.size<=tb;omega) _,?_,λj=>?_,?_,?_⟩
  .have:=aD (i:=2) (.slice n (c 2) g) K2.out
   simpa only[ZN,ZS,ZR] using this
  .refine Eq.trans ?_ (z.out.2.2.2.1 j)
   rw[adL _ _ _ _ (by intro e;have L:=congrArg Addr.block e;simp only at L;omega)];exact M.out.2.2.cell (p:=⟨w.heap.size,j,none⟩) (by have:=H1.out.2.2.2.1;have:=z.out.2.2.2.2.size;show w.heap.size<_;omega)
  .have:=bb.size;have:=H1.out.2.2.2.1;have:=z.out.2.2.2.2.size;have:=M.out.2.2.size;simp;omega
  .have hl:=(ZK.1 H1.out.2.2.2.2).1
   have Z:=z.out.2.2.2.2.size;exact(aad _ _ _ _ (by show w.heap.size+1≠tb;omega)).trans ((M.out.2.2.block _ (by omega)).trans ((z.out.2.2.2.2.block _ hl).trans H1.out.2.2.2.2))
 rw[aal];go_wp2_with fail;refine(lK B 3 D _ (by omega) (aW.below E.out.1.ow F.out.1) E.out.2 (ZP (ku E.out.2 (by omega)) (by decide))).mono ?_;rintro e w3 ⟨v3,rfl,O,H⟩;have t:=av (aaa (dh O) (aaa (ai F.out.1 H) (aaa ((H.block tb (ZK.1 F.out.2.1).1).trans F.out.2.1) (aaa (λj=>(H.cell (p:=⟨w.heap.size,j,none⟩) F.out.2.2.2.1).trans (F.out.2.2.1 j)) H))));have s3:=t.out.2.2.2.1 3;go_wp2_with fail;refine(jX D 3 (c 3) m d2 v3 w3 E.out.2 (by omega) hm (bZ.nodes (σ.out w3 t.out.2.1)) t.out.1 (V.out 3 (by omega))).mono ?_;rintro e u3 ⟨l,f,η,rfl,μ,α,δ⟩;have K:=av (aaa μ (aaa α δ));have K3:=av ((δ.block tb (ZK.1 t.out.2.2.1).1).trans t.out.2.2.1);obtain⟨b3,χ⟩:=blk K3.out;go_wp2_with fail
 have H3:Hid (adN w (u3.setCell ⟨tb,3,none⟩ (.slice l (c 3) f))/\(u3.setCell ⟨tb,3,none⟩ (.slice l (c 3) f)).heap[tb]? =some (.cells #[.slice s (c 0) d,.slice o (c 1) k,.slice n (c 2) g,.slice l (c 3) f] 41 (0,0))/\(∀j,(u3.setCell ⟨tb,3,none⟩ (.slice l (c 3) f)).cell? ⟨w.heap.size,j,none⟩= #[.int .i64 (c 0),.int .i64 (c 1),.int .i64 (c 2),.int .i64 (c 3)][j]?)/\w.heap.size< (u3.setCell ⟨tb,3,none⟩ (.slice l (c 3) f)).heap.size/\(u3.setCell ⟨tb,3,none⟩ (.slice l (c 3) f)).heap[w.heap.size+1]? =some (.cells #[.slice none 0 0,.slice none 0 0,.slice none 0 0,.slice none 0 0] 41 (0,0))):=by
  have bb:=ai t.out.2.1 K.out.2.2;refine⟨bb.setCell (by show w.heap.size<=tb;omega) _,?_,λj=>?_,?_,?_⟩
  .have:=aD (i:=3) (.slice l (c 3) f) K3.out
   simpa only[ZN,ZS,ZR] using this
  .refine Eq.trans ?_ (t.out.2.2.2.1 j)
   rw[adL _ _ _ _ (by intro e;have L:=congrArg Addr.block e;simp only at L;omega)];exact K.out.2.2.cell (p:=⟨w.heap.size,j,none⟩) (by have:=F.out.2.2.2.1;have:=t.out.2.2.2.2.size;show w.heap.size<_;omega)
  .have:=bb.size;have:=F.out.2.2.2.1;have:=t.out.2.2.2.2.size;have:=K.out.2.2.size;simp;omega
  .have hl:=(ZK.1 F.out.2.2.2.2).1
   have Z:=t.out.2.2.2.2.size;exact(aad _ _ _ _ (by show w.heap.size+1≠tb;omega)).trans ((K.out.2.2.block _ (by omega)).trans ((t.out.2.2.2.2.block _ hl).trans F.out.2.2.2.2))
 obtain⟨y,yf⟩:=blk H3.out.2.2.2.2;rw[aal];go_wp2_with fail;subst hQ;have z3:=aD (i:=3) (.slice l (c 3) f) (aD (i:=2) (.slice n (c 2) g) (aD (i:=1) (.slice o (c 1) k) (aD (i:=0) (.slice s (c 0) d) H3.out.2.2.2.2)));simp at z3;obtain⟨zz,_⟩:=blk z3;refine bodyPost_ret (v:=.agg #[.slice s (c 0) d,.slice o (c 1) k,.slice n (c 2) g,.slice l (c 3) f]) (by simp[results,Y,go_sem,zz]) rfl ?_;have N:∀{W:World} {cs:Array Value},W.heap[tb]? =some (.cells cs 41 (0,0))->tb+1<=W.heap.size:=λh=>(ZK.1 h).1
 have r1:=aB T.out.1 (N A.out.2.2.1);have r2:=aB M.out.1 (N z.out.2.2.1);have r3:=aB K.out.1 (N t.out.2.2.1)
 have n0:(Value.slice s (c 0) d).ownBlock≠some tb:=λe=>by
  cases s with
  |none=>cases e
  |some a=>exact ο a rfl (adn e)
 have f0:=eQ (b:=w.heap.size+1) (x0:=.slice s (c 0) d) (x1:=.slice o (c 1) k) (x2:=.slice n (c 2) g) (x3:=.slice l (c 3) f) (jy (r:=3) (x:=.slice l (c 3) f) (jy (r:=2) (x:=.slice n (c 2) g) (jy (r:=1) (x:=.slice o (c 1) k) ho A.out.2.2.2.2 T.out.2.2 n0) z.out.2.2.2.2 M.out.2.2 n0) t.out.2.2.2.2 K.out.2.2 n0) (by omega);have f1:=eQ (b:=w.heap.size+1) (x0:=.slice s (c 0) d) (x1:=.slice o (c 1) k) (x2:=.slice n (c 2) g) (x3:=.slice l (c 3) f) (jy (r:=3) (x:=.slice l (c 3) f) (jy (r:=2) (x:=.slice n (c 2) g) (aS (b:=tb) (i:=1) (u:=.slice o (c 1) k) r1 (Z4 _)) z.out.2.2.2.2 M.out.2.2 (Ha r1 (Z4 _))) t.out.2.2.2.2 K.out.2.2 (Ha r1 (Z4 _))) (by omega);have f2:=eQ (b:=w.heap.size+1) (x0:=.slice s (c 0) d) (x1:=.slice o (c 1) k) (x2:=.slice n (c 2) g) (x3:=.slice l (c 3) f) (jy (r:=3) (x:=.slice l (c 3) f) (aS (b:=tb) (i:=2) (u:=.slice n (c 2) g) r2 (Z4 _)) t.out.2.2.2.2 K.out.2.2 (Ha r2 (Z4 _))) (by omega);have f3:=eQ (b:=w.heap.size+1) (x0:=.slice s (c 0) d) (x1:=.slice o (c 1) k) (x2:=.slice n (c 2) g) (x3:=.slice l (c 3) f) (aS (b:=tb) (i:=3) (u:=.slice l (c 3) f) r3 (Z4 _)) (by omega);refine⟨λq=>match q with|0=>s|1=>o|2=>n|_=>l,λq=>match q with|0=>d|1=>k|2=>g|_=>f,λq=>match q with|0=>tk|1=>ι|2=>θ|_=>η,rfl,λq hq=>?_,?_⟩
 .obtain rfl|rfl|rfl|rfl:q=0\/q=1\/q=2\/q=3:=by omega
  .exact⟨aB f0 (by omega),ρ⟩
  .exact⟨aB f1 (by omega),T.out.2.1⟩
  .exact⟨aB f2 (by omega),M.out.2.1⟩
  .exact⟨aB f3 (by omega),K.out.2.1⟩
 .exact(((H3.out.1.setCell (Nat.le_succ _) _).setCell (Nat.le_succ _) _).setCell (Nat.le_succ _) _).setCell (Nat.le_succ _) _
abbrev SY (w:World)(B:Nat)(vc:Value)(cs:Array Value)(o:Obj)(w':World):Prop:=w'.cell? ⟨B,0,none⟩=some vc/\(∀j,w'.cell? ⟨w.heap.size,j,none⟩=cs[j]?)/\adN w w'/\w.heap.size+2<=w'.heap.size/\w'.heap[w.heap.size+1]? =some o
def BL {w w'}{B}{vc}{cs}{o}(h:SY w B vc cs o w'):SX w B vc cs w':=⟨h.1,h.2.1,h.2.2.1,h.2.2.2.1⟩
def Gg {w W}{B}{vc}{cs}{o}(h:SY w B vc cs o W):SY w B vc cs o W.drew:=⟨h.1,h.2.1,h.2.2.1.drew,h.2.2.2⟩
def vS {w w1 w2}{B}{vc}{cs}{o}(h:SY w B vc cs o w1)(a:B<w.heap.size)(hb:Below (w.heap.size+2) w1 w2):SY w B vc cs o w2:=by
 have g:=Qh (BL h) a hb;exact⟨g.1,g.2.1,g.2.2.1,g.2.2.2,(hb.block _ (by omega)).trans h.2.2.2.2⟩
def Qg {w w1 w2}{B}{vc}{cs}{o}(h:SY w B vc cs o w1)(a:B<w.heap.size)(hb:adN w1 w2):SY w B vc cs o w2:=vS h a (hb.mono h.2.2.2.1)
def Gh {w w1}{a}{B}{vc}{cs}{o}(h:SY w B vc cs o w1)(b:B<w.heap.size):SY w B vc cs o (w1.alloc a):=vS h b ((aab _ _).alloc h.2.2.2.1 _)
def zo {w W}{a}{B}{vc}{cs}{o}(h:SY w B vc cs o W)(b:B<w.heap.size):SY w B vc cs o (W.alloc a).drew:=Gg (Gh h b)
def Jq {w w1:World}{b c}{B}{vc}{cs}{o}(h:SY w B vc cs o (w1.alloc c))(d:B<w.heap.size)(e:w.heap.size+2<=w1.heap.size):SY w B vc cs o (w1.alloc b):=by
 refine vS h d ⟨rfl,rfl,rfl,by simp,λk f=>?_⟩;have a:k<w1.heap.size:=by omega
 exact(aac w1 b k a).trans (aac w1 c k a).symm
def Og {w w1}{B b}{vc v0 v1 v2 v3}{cs}{o}(h:SY w B vc cs o w1)(a:B<w.heap.size)(hb:w.heap.size+2<=b):SY w B vc cs o ((((w1.setCell ⟨b,0,none⟩ v0).setCell ⟨b,1,none⟩ v1).setCell ⟨b,2,none⟩ v2).setCell ⟨b,3,none⟩ v3):=
 vS h a (((((aab _ _).setCell hb _).setCell hb _).setCell hb _).setCell hb _)
def Ka {w w1 w2}{B}{vc}{cs}{o}(h:SY w B vc cs o w1)(hb:adN w1 w2):w.heap.size+2<=w2.heap.size:=ZP h.2.2.2.1 hb.size
def GJ (w)(B m)(D)(S C)(sI)(c)(hb:kZ w (λ_=>True) B D S C sI)(u:D.ok)(hm:m<16)(hc:∀i,i<4->c i<=((gq D i).filter (bE m (bG D i))).length):
 adO 85 #[ptr B,.int .u64 m,.agg #[.int .i64 (c 0),.int .i64 (c 1),.int .i64 (c 2),.int .i64 (c 3)]] w (qB w D m c):=by
 have l:Hid (kZ w (λ_=>True) B D S C sI/\D.ok):=⟨hb,u⟩;obtain⟨vc,G,y⟩:=hb.UD;have k:B<w.heap.size:=iC G;have L:=av y;clear hb u y;unfold ptr
 go_enter (pf func85 (by rfl)),ntmps85
 go_wp2_with fail;obtain⟨W,hW⟩:∃W,W=(w.alloc (.cells #[.int .i64 (c 0),.int .i64 (c 1),.int .i64 (c 2),.int .i64 (c 3)] 37)).alloc (.cells #[.slice none 0 0,.slice none 0 0,.slice none 0 0,.slice none 0 0] 41):=⟨_,rfl⟩
 have I:SY w B vc #[.int .i64 (c 0),.int .i64 (c 1),.int .i64 (c 2),.int .i64 (c 3)] (.cells #[.slice none 0 0,.slice none 0 0,.slice none 0 0,.slice none 0 0] 41 (0,0)) W:=by
  have hA:adN w W:=by rw[hW];exact((aab _ _).alloc (ZL _) _).alloc (by simp) _
  refine⟨keeps hA G,?_,hA,by rw[hW];simp,?_⟩
  .rw[hW]
   exact(blk (aap _ _ _)).1
  .rw[hW]
   have:=aae (w.alloc (.cells #[.int .i64 (c 0),.int .i64 (c 1),.int .i64 (c 2),.int .i64 (c 3)] 37)) (.cells #[.slice none 0 0,.slice none 0 0,.slice none 0 0,.slice none 0 0] 41);simpa using this
 have x:c 0<=((gq D 0).filter (bE m (bG D 0))).length:=hc 0 (by omega);have J:=av x;rw[<-hW];clear x hW G
 go_region_held3(λw'=>w'.cell? ⟨B,0,none⟩=some vc/\(∀j,w'.cell? ⟨w.heap.size,j,none⟩= #[.int .i64 (c 0),.int .i64 (c 1),.int .i64 (c 2),.int .i64 (c 3)][j]?)/\adN w w'/\w.heap.size+2<=w'.heap.size/\w'.heap[w.heap.size+1]? =some (.cells #[.slice none 0 0,.slice none 0 0,.slice none 0 0,.slice none 0 0] 41 (0,0))) (with_reducible (first|exact Gg I|exact zo I k|exact Qg (by assumption) k (by assumption)|exact Gh (by assumption) k|exact Jq (by assumption) k (by assumption)|exact Og (by assumption) k (by omega)))
  (first
   |(go_at_call 48;refine(lK B 0 D _ (by omega) (Oh (BL (by assumption)) l.out.1.ow) l.out.2 (ZP (ku l.out.2 (by omega)) (by decide))).mono ?_;rintro e w2 ⟨v,rfl,n,t⟩;have p:=Ka (by assumption) t;have hint:=dh n;clear n;try(first|have E:=fw t|have E:=gV t);try(obtain⟨P,O⟩:=blk E))
   |(go_at_call 137;refine(FT D (c 0) m S C vc _ _ l.out.2 hm (Su (BL (by assumption)) L.out) (by first|exact hint|exact hint.ext ((aab _ _).alloc (ZL _) _)) J.out).mono ?_;rintro e w3 ⟨F,h,tk,rfl,b,d,r,q,s,g⟩;have H:=Ka (by assumption) s;first|(have hp:=gV s;obtain⟨N,M⟩:=blk hp)|(have hp:=lS s E;obtain⟨N,M⟩:=blk hp)|skip))
 .rename_i K A o
  simp only[Exit.then];rw[d]at b g;refine A _ _ (nk w _ B m w3.heap.size D S C sI c vc F h tk _ _ _ _ _ _ _ _ _ _ _ _ _ l.out.1 l.out.2 hm hc (BL o) (aae _ _) H o.2.2.2.2 ⟨⟨d,r,q⟩,g⟩ ?_ ?_)
  .rw[d]
   exact aB (au b ((aab _ _).alloc (ZL _) _)) p
  .intro a z e
   subst z;have:=(b.lt a.block rfl).2;omega
 .rename_i K A o
  simp only[Exit.then];rw[d]at b g;have f:w2.heap.size< (w2.alloc (Obj.cells #[Value.slice none 0 0,Value.slice none 0 0,Value.slice none 0 0,Value.slice none 0 0] 41 (0,0))).heap.size:=by simp
  refine A _ _ (nk w _ B m w2.heap.size D S C sI c vc F h tk _ _ _ _ _ _ _ _ _ _ _ _ _ l.out.1 l.out.2 hm hc (BL o) ?_ p o.2.2.2.2 ⟨⟨d,r,q⟩,g⟩ ?_ ?_)
  .exact KB _ _ _ _ hp
  .rw[d]
   exact aB (eQ b f) (by omega)
  .intro a z e
   subst z;have:=(b.lt a.block rfl).1;omega
 .rename_i K A o
  simp only[Exit.then];rw[d]at b g;have f:W.heap.size<w2.heap.size:=(ZK.1 E).1;refine A _ _ (nk w _ B m W.heap.size D S C sI c vc F h tk _ _ _ _ _ _ _ _ _ _ _ _ _ l.out.1 l.out.2 hm hc (BL o) ?_ I.2.2.2.1 o.2.2.2.2 ⟨⟨d,r,q⟩,g⟩ ?_ ?_)
  .exact KB _ _ _ _ hp
  .rw[d]
   exact aB (eQ b f) p
  .intro a z e
   subst z;have:=(b.lt a.block rfl).1;omega
structure tV (w:World)(Vl:Nat)(L:Nat->Int)(F:Nat->Nat->Bool):Prop where
 row:∃row:Array Value,w.heap[Vl]? =some (.cells row 91 (0,0))/\row.size=68/\(∀i,i<4->row[17*i]? =some (.int .i64 (L i)))/\∀i,i<4->∀m,m<16->row[17*i+1+m]? =some (.bool (F i m))
def tV.below {w w'}{b}{L}{F}(h:tV w b L F)(hb:adN w w'):tV w' b L F:=by
 obtain⟨row,a,c⟩:=h.row;exact⟨⟨row,(hb.block _ (ZK.1 a).1).trans a,c⟩⟩
def tV.part {w}{i}{L}{F}(h:tV w i L F){k}(d:k<4):∃cs:List Value,cs.length=17/\cs[0]? =some (.int .i64 (L k))/\(∀m,m<16->cs[1+m]? =some (.bool (F k m)))/\w.rangeAt i (k*17) cs/\cs.toArray.all (·.oneCell')=true:=by
 obtain⟨row,l,o,g,f⟩:=h.row;refine⟨(row.toList.drop (k*17)).take 17,by simp;omega,?_,λm hm=>?_,λj v b=>?_,?_⟩
 .rw[Z5,if_pos (by omega),List.getElem?_drop]
  have:=g k d;rw[show 17*k=k*17+0 by omega]at this;simpa using this
 .rw[Z5,if_pos (by omega),List.getElem?_drop]
  have:=f k d m hm;rw[show 17*k+1+m=k*17+(1+m) by omega]at this;simpa using this
 .have a:j<17:=by have:=(ZZ.1 b).1;simp at this;omega
  rw[Z5,if_pos a,List.getElem?_drop]at b;simpa[World.cell?,l] using b
 .rw[adb]
  intro v b;obtain⟨j,a⟩:=List.getElem?_of_mem (show v∈(row.toList.drop (k*17)).take 17 by simpa using b);have c:j<17:=by have:=(ZZ.1 a).1;simp at this;omega
  rw[Z5,if_pos c,List.getElem?_drop]at a
  by_cases n:j=0
  .subst n
   have:=g k d;rw[show 17*k=k*17+0 by omega]at this;have e:some v=some (Value.int .i64 (L k)):=by rw[<-a];simpa using this
   cases e;rfl
  .have:=f k d (j-1) (by omega)
   rw[show 17*k+1+(j-1)=k*17+j by omega]at this;have e:some v=some (Value.bool (F k (j-1))):=by rw[<-a];simpa using this
   cases e;rfl
def Mq (wr)(zs cs)(t):∃a,(wr.alloc (.cells zs t)).setRow wr.heap.size cs=a/\a.heap[wr.heap.size]? =some (.cells cs t (0,0))/\adN wr a:=by
 have c:(wr.alloc (.cells zs t)).heap[wr.heap.size]? =some (.cells zs t (0,0)):=aae _ _;have d:=setRow_heap (wr.alloc (.cells zs t)) wr.heap.size zs cs t (0,0) c;exact⟨_,rfl,d,rfl,rfl,rfl,by simp,λk b=>(setRow_other _ _ _ _ (by omega)).trans (aac _ _ _ b)⟩
def BF (cs)(z)(_:cs.size=17)(b:cs[0]? =some (.int .i64 z))(w):adO 132 #[.agg cs] w λe w'=>e=.returned (.bool (!(z==0)))/\adN w w':=by
 have a:∀W:World,W.heap[w.heap.size]? =some (.cells cs 91 (0,0))->W.cell? ⟨w.heap.size,0,none⟩=some (.int .i64 z):=λW h=>by rw[(blk h).1,b]
 have c:=a _ (aae w (.cells cs 91))
 go_enter (pf func132 (by rfl)),ntmps132
 go_wp2_with fail;go_ret;exact⟨rfl,(aab _ _).alloc (ZL _) _⟩
def gX (L:Nat->Int)(F:Nat->Nat->Bool)(k m:Nat):Bool:=(List.range k).all λi=>L i==0||F i m
def Lj (L)(F)(k m):gX L F (k+1) m=(gX L F k m&&(L k==0||F k m)):=by
 unfold gX;rw[Z6,List.all_append];simp
def Pz {L}{F}{k m}(a:k<4)(h:(L k==0||F k m)=false):gX L F 4 m=false:=by
 unfold gX;rw[List.all_eq_false];exact⟨k,Z9.2 a,by rw[h];simp⟩
def rG (L)(F)(s m:Nat)(w)(u:tV w s L F)(hm:m<16):adO 83 #[ko s,.int .u64 m] w λe w'=>e=.returned (.bool (gX L F 4 m))/\adN w w':=by
 have A:=av u;clear u;unfold ko
 go_enter (pf func83 (by rfl)),ntmps83
 go_wp2_with fail
 go_loopw [9] (λi wr=>∃k:Nat,k<=4/\i=.int .i64 k/\gX L F k m=true/\adN w wr) (λi _=>4-(intOf i).toNat)
 case atStart=>exact⟨0,by omega,rfl,rfl,aab _ _⟩
 case round=>
  obtain⟨k,H,rfl,hf,hb⟩:=hrel;have n:=av (aaa hf hb);have G:w.heap.size<=wr.heap.size:=hb.size;clear hf
  by_cases d:k<4
  .have E:(k:Int)<4:=by omega
   obtain⟨cs,a,r,h,o,c⟩:=(A.out.below hb).part d;have g:=h m hm;have q:((patch ae prog).info? 91).map (·.size)=some cs.length:=(by rw[a];exact iA);have f:((patch ae prog).info? 91).map (·.size)=some cs.toArray.size:=(by rw[List.size_toArray,a];exact iA);have v:=BF cs.toArray (L k) (by simpa using a) (by simpa using r);have B:=av v;have D:(m:Int)<16:=(by omega);clear v h hb
   go_wp2_with(first
        |refine wpList_load_mid rfl 91 _ rfl s (k*17) rfl cs _ o ((ax ae prog 91).trans underlying91) rfl q ?_
        |(refine wpList_store_row rfl 91 _ _ rfl wr.heap.size cs.toArray rfl rfl 91 _ (aae _ _) f (by simp[a]) c ?_;obtain⟨z,x,t,b3⟩:=Mq wr _ cs.toArray 91;rw[x];have H3:=av (aaa t b3);clear t b3 x)
        |refine wpList_load_row rfl 91 _ rfl wr.heap.size rfl 91 cs.toArray (0,0) _ H3.out.1 ((ax ae prog 91).trans underlying91) rfl f ?_
        |(go_at_call 132;refine(B.out z).mono ?_;rintro e w4 ⟨rfl,l⟩;have y:=(l.block _ (ZK.1 H3.out.1).1).trans H3.out.1;have C:w4.cell? ⟨wr.heap.size,1+m,none⟩=some (.bool (F k m)):=by rw[(blk y).1];simpa using g))
   all_goals
        have j:adN w w4:=ai n.out.2 (ai H3.out.2 l)
        first
         |(go_ret
           have p:(L k==0||F k m)=false:=(by simp_all);exact⟨by rw[Pz d p];rfl,j⟩)
         |(have b:(L k==0||F k m)=true:=by simp_all
           exact⟨⟨k+1,by omega,by go_num,by rw[Lj,n.out.1,b];rfl,j⟩,by simp[intOf];omega⟩)
  .have:k=4:=by omega
   subst this;go_wp2_with fail;go_ret;exact⟨by rw[n.out.1];rfl,n.out.2⟩
def De (L)(F)(c m:Nat)(w)(d:tV w c L F)(hm:m<16):adO 135 #[ko c,.int .u64 m] w λe w'=>e=.returned (.bool (decide (pop m=1)&&gX L F 4 m))/\adN w w':=by
 have g:=av d;clear d
 by_cases f:pop m=1
 .have a:(pop m:Int)=1:=by omega
  go_enter (pf func135 (by rfl)),ntmps135
  go_wp2_with(first
   |(go_at_call 163;refine(iI m hm _).mono ?_;rintro e w1 ⟨rfl,hw⟩;obtain rfl:=hw.symm;rw[a])
   |(go_at_call 83;refine(rG L F c m _ g.out hm).mono ?_;rintro e w1 ⟨rfl,b⟩))
  go_ret;exact⟨by simp[f],b⟩
 .have a:((pop m:Int)==1)=false:=acZ.2 (by omega)
  go_enter (pf func135 (by rfl)),ntmps135
  go_wp2_with(go_at_call 163;refine(iI m hm _).mono ?_;rintro e w1 ⟨rfl,hw⟩;obtain rfl:=hw.symm);go_ret;exact⟨by simp[f],aab _ _⟩
def Av (L)(F)(b vb m:Nat)(w)(c:tV w b L F)(hm:m<16)(hc:w.cell? ⟨vb,0,none⟩=some (ko b)):adO 136 #[.int .u64 m,.pointer (some ⟨vb,0,none⟩)] w λe w'=>e=.returned (.bool (decide (m=15)&&gX L F 4 m))/\adN w w':=by
 have g:=av c;clear c
 by_cases d:m=15
 .subst d
  go_enter (pf func136 (by rfl)),ntmps136
  go_wp2_with(go_at_call 83;refine(rG L F b 15 _ g.out hm).mono ?_;rintro e w1 ⟨rfl,a⟩);go_ret;exact⟨by simp,a⟩
 .have f:((m:Int)==15)=false:=acZ.2 (by omega)
  go_enter (pf func136 (by rfl)),ntmps136
  go_wp2_with fail;go_ret;exact⟨by simp[d],aab _ _⟩
def kS (p:Nat->Bool):Value:=match ord.find? p with
 |some m=>.tuple #[.int .u64 m,.bool true]
 |none=>.tuple #[.int .u64 0,.bool false]
def kE {p}{m}(h:ord.find? p=some m):kS p=.tuple #[.int .u64 m,.bool true]:=by unfold kS;rw[h]
def kF {p}(h:ord.find? p=none):kS p=.tuple #[.int .u64 0,.bool false]:=by unfold kS;rw[h]
def Dg (p)(X f)(w)(hf:f=.func (.func 83) #[X] #[])(a:∀(m:Nat) (o:World),m<16->adN w o->adO 83 #[X,.int .u64 m] o λe w'=>e=.returned (.bool (p m))/\adN o w'):
 adO 133 #[f] w λe w'=>e=.returned (kS p)/\adN w w':=by
 subst hf;have D:=av a;clear a;have hlen:ord.length=15:=by kernel_rfl
 have q:∀m∈ord,m<16:=by
  have key:(ord.all λm=>decide (m<16))=true:=by kernel_rfl
  intro m hm;simpa using ZU.1 key m hm
 go_enter (pf func133 (by rfl)),ntmps133
 go_wp2_with(go_at_call 119;refine(gW _).mono ?_;rintro e w1 ⟨v,rfl,b,l⟩;obtain⟨g,cap,rfl,u,t,H,hcell⟩:=oM b;have H1:Hid (adN w w1/\∀k m:Nat,ord[k]? =some m->w1.cell? ⟨g,k,none⟩=some (.int .u64 (m:Int))):=⟨l,hcell⟩;clear b l hcell)
 go_loopw [8] (λi wr=>∃k:Nat,k<=15/\i=.int .i64 k/\(ord.take k).find? p=none/\adN w1 wr) (λi _=>15-(intOf i).toNat)
 case atStart=>exact⟨0,by omega,rfl,rfl,aab _ _⟩
 case round=>
  obtain⟨k,G,rfl,c,hb⟩:=hrel;have n:=av (aaa c hb);clear c
  by_cases B:k<15
  .obtain⟨m,hm⟩:∃m,ord[k]? =some m:=⟨_,ZT (by omega)⟩
   have d:=q m (aak hm);have E:=keeps hb (H1.out.2 k m hm);have F:(k:Int)<15:=(by omega)
   have z:Hid ((ord.take (k+1)).find? p=(if p m then some m else none)/\(p m=true->ord.find? p=some m)):=by
        have r:(ord.take (k+1)).find? p=(if p m then some m else none):=by
         rw[adq,hm,List.find?_append,n.out.1];simp[List.find?_cons];cases p m<;>rfl
        refine⟨r,λh=>?_⟩;rw[h]at r;rw[<-List.take_append_drop (k+1) ord,List.find?_append,r];rfl
   clear hb hm;go_wp2_with(go_at_call 83;refine(D.out m wr d (ai H1.out.1 n.out.2)).mono ?_;rintro e w2 ⟨rfl,j⟩;have A:=av (ai n.out.2 j);clear j;cases hp:p m)
   .have s:=av hp
    go_roundw
    case rel=>exact⟨k+1,by omega,by go_num,by rw[z.out.1,s.out];rfl,A.out⟩
    case measure=>simp[intOf];omega
   .have s:=av hp
    go_ret2;exact⟨by rw[kE (z.out.2 s.out)];rfl,ai H1.out.1 A.out⟩
  .have:k=15:=by omega
   subst this
   have y:ord.find? p=none:=by
        have x:=n.out.1;rw[aah (by omega)]at x;exact x
   have C:=av y;clear y hb;go_wp2_with fail;go_ret2;exact⟨by rw[kF C.out];rfl,ai H1.out.1 n.out.2⟩
def Ap (p)(X f)(w)(hf:f=.func (.func 134) #[X] #[])(a:∀(m:Nat) (o:World),m<16->adN w o->adO 134 #[X,.int .u64 m] o λe w'=>e=.returned (.bool (p m))/\adN o w'):
 adO 133 #[f] w λe w'=>e=.returned (kS p)/\adN w w':=by
 subst hf;have D:=av a;clear a;have hlen:ord.length=15:=by kernel_rfl
 have q:∀m∈ord,m<16:=by
  have key:(ord.all λm=>decide (m<16))=true:=by kernel_rfl
  intro m hm;simpa using ZU.1 key m hm
 go_enter (pf func133 (by rfl)),ntmps133
 go_wp2_with(go_at_call 119;refine(gW _).mono ?_;rintro e w1 ⟨v,rfl,b,l⟩;obtain⟨g,cap,rfl,u,t,H,hcell⟩:=oM b;have H1:Hid (adN w w1/\∀k m:Nat,ord[k]? =some m->w1.cell? ⟨g,k,none⟩=some (.int .u64 (m:Int))):=⟨l,hcell⟩;clear b l hcell)
 go_loopw [8] (λi wr=>∃k:Nat,k<=15/\i=.int .i64 k/\(ord.take k).find? p=none/\adN w1 wr) (λi _=>15-(intOf i).toNat)
 case atStart=>exact⟨0,by omega,rfl,rfl,aab _ _⟩
 case round=>
  obtain⟨k,G,rfl,c,hb⟩:=hrel;have n:=av (aaa c hb);clear c
  by_cases B:k<15
  .obtain⟨m,hm⟩:∃m,ord[k]? =some m:=⟨_,ZT (by omega)⟩
   have d:=q m (aak hm);have E:=keeps hb (H1.out.2 k m hm);have F:(k:Int)<15:=(by omega)
   have z:Hid ((ord.take (k+1)).find? p=(if p m then some m else none)/\(p m=true->ord.find? p=some m)):=by
        have r:(ord.take (k+1)).find? p=(if p m then some m else none):=by
         rw[adq,hm,List.find?_append,n.out.1];simp[List.find?_cons];cases p m<;>rfl
        refine⟨r,λh=>?_⟩;rw[h]at r;rw[<-List.take_append_drop (k+1) ord,List.find?_append,r];rfl
   clear hb hm;go_wp2_with(go_at_call 134;refine(D.out m wr d (ai H1.out.1 n.out.2)).mono ?_;rintro e w2 ⟨rfl,j⟩;have A:=av (ai n.out.2 j);clear j;cases hp:p m)
   .have s:=av hp
    go_roundw
    case rel=>exact⟨k+1,by omega,by go_num,by rw[z.out.1,s.out];rfl,A.out⟩
    case measure=>simp[intOf];omega
   .have s:=av hp
    go_ret2;exact⟨by rw[kE (z.out.2 s.out)];rfl,ai H1.out.1 A.out⟩
  .have:k=15:=by omega
   subst this
   have y:ord.find? p=none:=by
        have x:=n.out.1;rw[aah (by omega)]at x;exact x
   have C:=av y;clear y hb;go_wp2_with fail;go_ret2;exact⟨by rw[kF C.out];rfl,ai H1.out.1 n.out.2⟩
def Df (p)(X f)(w)(hf:f=.func (.func 135) #[X] #[])(a:∀(m:Nat) (o:World),m<16->adN w o->adO 135 #[X,.int .u64 m] o λe w'=>e=.returned (.bool (p m))/\adN o w'):
 adO 133 #[f] w λe w'=>e=.returned (kS p)/\adN w w':=by
 subst hf;have D:=av a;clear a;have hlen:ord.length=15:=by kernel_rfl
 have q:∀m∈ord,m<16:=by
  have key:(ord.all λm=>decide (m<16))=true:=by kernel_rfl
  intro m hm;simpa using ZU.1 key m hm
 go_enter (pf func133 (by rfl)),ntmps133
 go_wp2_with(go_at_call 119;refine(gW _).mono ?_;rintro e w1 ⟨v,rfl,b,l⟩;obtain⟨g,cap,rfl,u,t,H,hcell⟩:=oM b;have H1:Hid (adN w w1/\∀k m:Nat,ord[k]? =some m->w1.cell? ⟨g,k,none⟩=some (.int .u64 (m:Int))):=⟨l,hcell⟩;clear b l hcell)
 go_loopw [8] (λi wr=>∃k:Nat,k<=15/\i=.int .i64 k/\(ord.take k).find? p=none/\adN w1 wr) (λi _=>15-(intOf i).toNat)
 case atStart=>exact⟨0,by omega,rfl,rfl,aab _ _⟩
 case round=>
  obtain⟨k,G,rfl,c,hb⟩:=hrel;have n:=av (aaa c hb);clear c
  by_cases B:k<15
  .obtain⟨m,hm⟩:∃m,ord[k]? =some m:=⟨_,ZT (by omega)⟩
   have d:=q m (aak hm);have E:=keeps hb (H1.out.2 k m hm);have F:(k:Int)<15:=(by omega)
   have z:Hid ((ord.take (k+1)).find? p=(if p m then some m else none)/\(p m=true->ord.find? p=some m)):=by
        have r:(ord.take (k+1)).find? p=(if p m then some m else none):=by
         rw[adq,hm,List.find?_append,n.out.1];simp[List.find?_cons];cases p m<;>rfl
        refine⟨r,λh=>?_⟩;rw[h]at r;rw[<-List.take_append_drop (k+1) ord,List.find?_append,r];rfl
   clear hb hm;go_wp2_with(go_at_call 135;refine(D.out m wr d (ai H1.out.1 n.out.2)).mono ?_;rintro e w2 ⟨rfl,j⟩;have A:=av (ai n.out.2 j);clear j;cases hp:p m)
   .have s:=av hp
    go_roundw
    case rel=>exact⟨k+1,by omega,by go_num,by rw[z.out.1,s.out];rfl,A.out⟩
    case measure=>simp[intOf];omega
   .have s:=av hp
    go_ret2;exact⟨by rw[kE (z.out.2 s.out)];rfl,ai H1.out.1 A.out⟩
  .have:k=15:=by omega
   subst this
   have y:ord.find? p=none:=by
        have x:=n.out.1;rw[aah (by omega)]at x;exact x
   have C:=av y;clear y hb;go_wp2_with fail;go_ret2;exact⟨by rw[kF C.out];rfl,ai H1.out.1 n.out.2⟩
def Dh (p)(X f)(w)(hf:f=.func (.func 136) #[] #[X])(a:∀(m:Nat) (o:World),m<16->adN w o->adO 136 #[.int .u64 m,X] o λe w'=>e=.returned (.bool (p m))/\adN o w'):
 adO 133 #[f] w λe w'=>e=.returned (kS p)/\adN w w':=by
 subst hf;have D:=av a;clear a;have hlen:ord.length=15:=by kernel_rfl
 have q:∀m∈ord,m<16:=by
  have key:(ord.all λm=>decide (m<16))=true:=by kernel_rfl
  intro m hm;simpa using ZU.1 key m hm
 go_enter (pf func133 (by rfl)),ntmps133
 go_wp2_with(go_at_call 119;refine(gW _).mono ?_;rintro e w1 ⟨v,rfl,b,l⟩;obtain⟨g,cap,rfl,u,t,H,hcell⟩:=oM b;have H1:Hid (adN w w1/\∀k m:Nat,ord[k]? =some m->w1.cell? ⟨g,k,none⟩=some (.int .u64 (m:Int))):=⟨l,hcell⟩;clear b l hcell)
 go_loopw [8] (λi wr=>∃k:Nat,k<=15/\i=.int .i64 k/\(ord.take k).find? p=none/\adN w1 wr) (λi _=>15-(intOf i).toNat)
 case atStart=>exact⟨0,by omega,rfl,rfl,aab _ _⟩
 case round=>
  obtain⟨k,G,rfl,c,hb⟩:=hrel;have n:=av (aaa c hb);clear c
  by_cases B:k<15
  .obtain⟨m,hm⟩:∃m,ord[k]? =some m:=⟨_,ZT (by omega)⟩
   have d:=q m (aak hm);have E:=keeps hb (H1.out.2 k m hm);have F:(k:Int)<15:=(by omega)
   have z:Hid ((ord.take (k+1)).find? p=(if p m then some m else none)/\(p m=true->ord.find? p=some m)):=by
        have r:(ord.take (k+1)).find? p=(if p m then some m else none):=by
         rw[adq,hm,List.find?_append,n.out.1];simp[List.find?_cons];cases p m<;>rfl
        refine⟨r,λh=>?_⟩;rw[h]at r;rw[<-List.take_append_drop (k+1) ord,List.find?_append,r];rfl
   clear hb hm;go_wp2_with(go_at_call 136;refine(D.out m wr d (ai H1.out.1 n.out.2)).mono ?_;rintro e w2 ⟨rfl,j⟩;have A:=av (ai n.out.2 j);clear j;cases hp:p m)
   .have s:=av hp
    go_roundw
    case rel=>exact⟨k+1,by omega,by go_num,by rw[z.out.1,s.out];rfl,A.out⟩
    case measure=>simp[intOf];omega
   .have s:=av hp
    go_ret2;exact⟨by rw[kE (z.out.2 s.out)];rfl,ai H1.out.1 A.out⟩
  .have:k=15:=by omega
   subst this
   have y:ord.find? p=none:=by
        have x:=n.out.1;rw[aah (by omega)]at x;exact x
   have C:=av y;clear y hb;go_wp2_with fail;go_ret2;exact⟨by rw[kF C.out];rfl,ai H1.out.1 n.out.2⟩
def uH (L:Nat->Int)(k m:Nat):Bool:=(List.range k).all λi=>L i==0||L i==(pop m:Int)
def yu (L)(k m):uH L (k+1) m=(uH L k m&&(L k==0||L k==(pop m:Int))):=by
 unfold uH;rw[Z6,List.all_append];simp
def NH {L}{k m}(a:k<4)(h:(L k==0||L k==(pop m:Int))=false):uH L 4 m=false:=by
 unfold uH;rw[List.all_eq_false];exact⟨k,Z9.2 a,by rw[h];simp⟩
def Jo (cs)(z)(c:cs[0]? =some (.int .i64 z))(w):adO 132 #[.agg cs] w λe w'=>e=.returned (.bool (!(z==0)))/\∃q a,w'=Go.Sort.grow (w.drewN q) a:=by
 have b:∀W:World,W.heap[w.heap.size]? =some (.cells cs 91 (0,0))->W.cell? ⟨w.heap.size,0,none⟩=some (.int .i64 z):=λW h=>by rw[(blk h).1,c]
 have d:=b _ (aae w (.cells cs 91))
 go_enter (pf func132 (by rfl)),ntmps132
 go_wp2_with fail;go_ret;exact⟨rfl,0,#[.cells cs 91 (0,0)],Go.Sort.alloc_eq_grow _ _⟩
def yo {w:World}{b:Nat}{o}(h:w.heap[b]? =some o)(n)(os):(Go.Sort.grow (w.drewN n) os).heap[b]? =some o:=by
 have hl:=(ZK.1 h).1;show(w.heap++os)[b]? =_
 rw[Array.getElem?_append_left hl];exact h
def pV (m:Nat)(hm:m<16)(w):adO 163 #[.int .u64 m] w λe w'=>e=.returned (.int .i64 (pop m))/\∃q a,w'=Go.Sort.grow (w.drewN q) a:=
 (iI m hm w).mono λ_ _ ⟨c,b⟩=>⟨c,0,#[],by rw[b];simp[Go.Sort.grow,World.drewN]⟩
def qh {ops}{Q}{a}{o}{rest}{W:World}{v}{b}{x}(f:o.guard=none)(d:o.op=.load 91 x)(hx:a.eval x=.pointer (some ⟨b,0,none⟩))
 (hl:∀n os,Sem.run (patch ae prog) (Instr.loadAt 91 (.pointer (some ⟨b,0,none⟩))) (Go.Sort.grow (W.drewN n) os)=.ok v (Go.Sort.grow (W.drewN n) os))
 (h:wpQuiet (patch ae prog) ops (λw'=>∃p:GrownBy,w'=Go.Sort.grow (W.drewN p.n) p.os) Q rest (a.put o.dst v)):wpQuiet (patch ae prog) ops (λw'=>∃p:GrownBy,w'=Go.Sort.grow (W.drewN p.n) p.os) Q (o::rest) a:=by
 refine wpQuiet_step (λK g=>?_);rw[if_pos (by unfold Region.wanted;rw[f])];refine⟨v,λj c=>?_,g _ h⟩;obtain⟨p,rfl⟩:=c
 have e:(execOp a.eval o).run (patch ae prog) (Go.Sort.grow (W.drewN p.n) p.os)=.ok (.value v) (Go.Sort.grow (W.drewN p.n) p.os):=by
  unfold execOp;rw[d];have i:=hl p.n p.os;simp only[hx,Sem.run_bind,i,Result.andThen_ok,Sem.run_pure]
 unfold Oper.quietAt;rw[e];exact⟨rfl,rfl⟩
open Go.RowKit
def NG (L)(F)(B m:Nat)(w)(M:tV w B L F)(hm:m<16):adO 134 #[ko B,.int .u64 m] w λe w'=>e=.returned (.bool (uH L 4 m&&gX L F 4 m))/\adN w w':=by
 have O:=av M;clear M;have y:Hid (∀r,adN w r->adO 83 #[.slice (some ⟨B,0,none⟩) 4 4,.int .u64 m] r λe w'=>e=.returned (.bool (gX L F 4 m))/\adN r w'):=λr h=>rG L F B m r (O.out.below h) hm
 unfold ko
 go_enter (pf func134 (by rfl)),ntmps134
 go_wp2_with fail
 go_loopw [9] (λi wr=>∃k:Nat,k<=4/\i=.int .i64 k/\uH L k m=true/\adN w wr) (λi _=>4-(intOf i).toNat)
 case atStart=>exact⟨0,by omega,rfl,rfl,aab _ _⟩
 case round=>
  obtain⟨k,T,rfl,hf,hb⟩:=hrel;have s:=av (aaa hf hb);have K:w.heap.size<=wr.heap.size:=hb.size;clear hf
  by_cases u:k<4
  .have S:(k:Int)<4:=by omega
   obtain⟨cs,c,g,z,t,j⟩:=(O.out.below hb).part u;have v:((patch ae prog).info? 91).map (·.size)=some cs.length:=(by rw[c];exact iA);have x:((patch ae prog).info? 91).map (·.size)=some cs.toArray.size:=(by rw[List.size_toArray,c];exact iA);have U:=av (BF cs.toArray (L k) (by simpa using c) (by simpa using g));have R:Hid (∀m,m<16->cs[1+m]? =some (.bool (F k m))):=z;clear hb z
   go_wp2_with(first
        |refine wpList_load_mid rfl 91 _ rfl B (k*17) rfl cs _ t ((ax ae prog 91).trans underlying91) rfl v ?_
        |(refine wpList_store_row rfl 91 _ _ rfl wr.heap.size cs.toArray rfl rfl 91 _ (aae _ _) x (by simp[c]) j ?_;obtain⟨A,N,J,b3⟩:=Mq wr _ cs.toArray 91;rw[N];have H3:=av (aaa J b3);clear J b3 N))
   have mixed:((patch ae prog)).follows .mixedOrders=true:=(by kernel_rfl);have hcell:∀n os,(Go.Sort.grow (A.drewN n) os).cell? ⟨wr.heap.size,0,none⟩=some (.int .i64 (L k)):=λn os=>by rw[(blk (yo H3.out.1 n os)).1];simpa using g
   have l:Hid (∀n os,Sem.run (patch ae prog) (Instr.loadAt 91 (.pointer (some ⟨wr.heap.size,0,none⟩))) (Go.Sort.grow (A.drewN n) os)=.ok (.agg cs.toArray) (Go.Sort.grow (A.drewN n) os)):=λn os=>Ul (yo H3.out.1 n os) (by simpa using c)
   have f:Hid (∀w,adO 132 #[.agg cs.toArray] w λe w'=>e=.returned (.bool (!(L k==0)))/\∃q C,w'=Go.Sort.grow (w.drewN q) C):=Jo cs.toArray (L k) (by simpa using g);have o:Hid (∀n os,adN w (Go.Sort.grow (A.drewN n) os)):=λn os=>(s.out.2.trans (H3.out.2.mono K)).trans (Go.Lib.below_grow _ A (ZP K H3.out.2.size) n os)
   clear j t x v g
   by_cases p:L k=0
   .have d:(!(L k==0))=false:=by simp[p]
    rw[d]at f;have I:=av p;clear d p;simp only[Act.put];refine wp_region_quiet_grown (by assumption) (by kernel_rfl) ?_;refine qh rfl rfl rfl (l.out) ?_;simp only[Act.put,ZN,ZS,ZR]
    repeat(quiet_step (first|(go_at_call 132;refine Calls.grown_of (f.out _))|(go_at_call 163;refine Calls.grown_of (pV m hm _))))
    refine wpQuiet_nil ?_;intro _ a;obtain⟨⟨nq,osq⟩,b⟩:=a;subst b;go_wp2_with fail;go_roundw
    case rel=>exact⟨k+1,by omega,by go_num,by rw[yu,s.out.1,I.out];rfl,o.out _ _⟩
    case measure=>simp[intOf];omega
   .have d:(!(L k==0))=true:=by simp[p]
    rw[d]at f;have I:=av p;clear d p
    by_cases hp:L k=(pop m:Int)
    .have D:(L k !=(pop m:Int))=false:=by simp[hp]
     have H:=av hp;clear hp;simp only[Act.put];refine wp_region_quiet_grown (by assumption) (by kernel_rfl) ?_;refine qh rfl rfl rfl (l.out) ?_;simp only[Act.put,ZN,ZS,ZR]
     repeat(quiet_step (first|(go_at_call 132;refine Calls.grown_of (f.out _))|(go_at_call 163;refine Calls.grown_of (pV m hm _))))
     refine wpQuiet_nil ?_;intro _ a;obtain⟨⟨nq,osq⟩,b⟩:=a;subst b;go_wp2_with fail;go_roundw
     case rel=>exact⟨k+1,by omega,by go_num,by rw[yu,s.out.1,H.out];simp,o.out _ _⟩
     case measure=>simp[intOf];omega
    .have D:(L k !=(pop m:Int))=true:=by simp[hp]
     have H:=av hp;clear hp;simp only[Act.put];refine wp_region_quiet_grown (by assumption) (by kernel_rfl) ?_;refine qh rfl rfl rfl (l.out) ?_;simp only[Act.put,ZN,ZS,ZR]
     repeat(quiet_step (first|(go_at_call 132;refine Calls.grown_of (f.out _))|(go_at_call 163;refine Calls.grown_of (pV m hm _))))
     refine wpQuiet_nil ?_;intro _ a;obtain⟨⟨nq,osq⟩,b⟩:=a;subst b;go_wp2_with fail;go_ret
     have E:(L k==0||L k==(pop m:Int))=false:=by
      have Q:=I.out;have P:=H.out;simp[Q,P]
     exact⟨by rw[NH u E];rfl,o.out _ _⟩
  .have:k=4:=by omega
   subst this;go_wp2_with(go_at_call 83;refine(y.out _ s.out.2).mono ?_;rintro e w4 ⟨rfl,G⟩);go_ret;exact⟨by rw[s.out.1];rfl,ai s.out.2 G⟩
def yZ (w:World)(t)(v):(w.alloc (.cells #[v] t)).cell? ⟨w.heap.size,0,none⟩=some v:=(blk (aae w (.cells #[v] t))).1 0
def nU (L:Nat->Int)(F:Nat->Nat->Bool)(m:Nat):Bool:=uH L 4 m&&gX L F 4 m
def Bc (L:Nat->Int)(F:Nat->Nat->Bool)(m:Nat):Bool:=decide (pop m=1)&&gX L F 4 m
def isAll (L:Nat->Int)(F:Nat->Nat->Bool)(m:Nat):Bool:=decide (m=15)&&gX L F 4 m
def gu (L:Nat->Int)(F:Nat->Nat->Bool)(p:Int):Option Nat:=
 if p=1 then(match ord.find? (nU L F)with|some m=>some m|none=>ord.find? (gX L F 4))else if p=2 then ord.find? (nU L F)else if p=3 then ord.find? (Bc L F)else ord.find? (isAll L F)
def dW:Option Nat->Value
 |some m=>.tuple #[.int .u64 m,.bool true]
 |none=>.tuple #[.int .u64 0,.bool false]
def QF (p):kS p=dW (ord.find? p):=by
 unfold kS dW;cases ord.find? p<;>rfl
def Jd (L)(F)(d)(p)(w)(k:tV w d L F):adO 84 #[ko d,.int .i64 p] w λe w'=>e=.returned (dW (gu L F p))/\adN w w':=by
 have i:Hid (∀W,adN w W->adO 133 #[.func (.func 134) #[.slice (some ⟨d,0,none⟩) 4 4] #[]] W λe w'=>e=.returned (dW (ord.find? (nU L F)))/\adN W w'):=λW hW=>by
  have:=Ap (nU L F) (ko d) _ W rfl λm g hm hb=>NG L F d m g ((k.below hW).below hb) hm
  exact this
 have r:Hid (∀W,adN w W->adO 133 #[.func (.func 83) #[.slice (some ⟨d,0,none⟩) 4 4] #[]] W λe w'=>e=.returned (dW (ord.find? (gX L F 4)))/\adN W w'):=λW hW=>by
  have:=Dg (gX L F 4) (ko d) _ W rfl λm g hm hb=>rG L F d m g ((k.below hW).below hb) hm
  exact this
 have q:Hid (∀W,adN w W->adO 133 #[.func (.func 135) #[.slice (some ⟨d,0,none⟩) 4 4] #[]] W λe w'=>e=.returned (dW (ord.find? (Bc L F)))/\adN W w'):=λW hW=>by
  have:=Df (Bc L F) (ko d) _ W rfl λm g hm hb=>De L F d m g ((k.below hW).below hb) hm
  exact this
 have s:Hid (∀W vb,adN w W->W.cell? ⟨vb,0,none⟩=some (ko d)->adO 133 #[.func (.func 136) #[] #[.pointer (some ⟨vb,0,none⟩)]] W λe w'=>e=.returned (dW (ord.find? (isAll L F)))/\adN W w'):=λW vb hW hc=>by
  have:=Dh (isAll L F) (.pointer (some ⟨vb,0,none⟩)) _ W rfl λm g hm hb=>Av L F d vb m g ((k.below hW).below hb) hm (keeps hb hc)
  exact this
 unfold ko;have b0:adN w (w.alloc (.cells #[.slice (some ⟨d,0,none⟩) 4 4] 87)):=(aab _ _).alloc (ZL _) _;have b:=av b0
 by_cases o:p=1
 .subst o
  cases c:ord.find? (nU L F)with
  |some m=>
   go_enter (pf func84 (by rfl)),ntmps84
   go_wp2_with(go_at_call 133;refine(i.out _ b.out).mono ?_;rintro e w1 ⟨rfl,a⟩;rw[c];unfold dW);go_ret2;exact⟨by unfold gu;simp[c,dW],ai b.out a⟩
  |none=>
   cases hf:ord.find? (gX L F 4)with
   |some m=>
    go_enter (pf func84 (by rfl)),ntmps84
    go_wp2_with fail;refine(i.out _ b.out).mono ?_;rintro e w1 ⟨rfl,a⟩;unfold dW;have j:=keeps a (yZ w 87 (.slice (some ⟨d,0,none⟩) 4 4));go_wp2_with fail;refine(r.out _ (ai b.out a)).mono ?_;rintro e w2 ⟨rfl,f⟩;unfold dW;go_wp2_with fail;go_ret2;exact⟨by unfold gu;simp[c,hf,dW],ai (ai b.out a) f⟩
   |none=>
    go_enter (pf func84 (by rfl)),ntmps84
    go_wp2_with fail;refine(i.out _ b.out).mono ?_;rintro e w1 ⟨rfl,a⟩;unfold dW;have j:=keeps a (yZ w 87 (.slice (some ⟨d,0,none⟩) 4 4));go_wp2_with fail;refine(r.out _ (ai b.out a)).mono ?_;rintro e w2 ⟨rfl,f⟩;unfold dW;go_wp2_with fail;go_ret2;exact⟨by unfold gu;simp[c,hf,dW],ai (ai b.out a) f⟩
 .have v:=acZ.2 o
  by_cases n:p=2
  .subst n
   cases c:ord.find? (nU L F)with
   |some m=>
    go_enter (pf func84 (by rfl)),ntmps84
    go_wp2_with(go_at_call 133;refine(i.out _ b.out).mono ?_;rintro e w1 ⟨rfl,a⟩;rw[c];unfold dW);go_ret2;exact⟨by unfold gu;simp[c,dW],ai b.out a⟩
   |none=>
    go_enter (pf func84 (by rfl)),ntmps84
    go_wp2_with(go_at_call 133;refine(i.out _ b.out).mono ?_;rintro e w1 ⟨rfl,a⟩;rw[c];unfold dW);go_ret2;exact⟨by unfold gu;simp[c,dW],ai b.out a⟩
  .have u:=acZ.2 n
   by_cases l:p=3
   .subst l
    cases c:ord.find? (Bc L F)with
    |some m=>
     go_enter (pf func84 (by rfl)),ntmps84
     go_wp2_with(go_at_call 133;refine(q.out _ b.out).mono ?_;rintro e w1 ⟨rfl,a⟩;rw[c];unfold dW);go_ret2;exact⟨by unfold gu;simp[c,dW],ai b.out a⟩
    |none=>
     go_enter (pf func84 (by rfl)),ntmps84
     go_wp2_with(go_at_call 133;refine(q.out _ b.out).mono ?_;rintro e w1 ⟨rfl,a⟩;rw[c];unfold dW);go_ret2;exact⟨by unfold gu;simp[c,dW],ai b.out a⟩
   .have t:=acZ.2 l
    have h:=av (aaa o (aaa n l));have j:=yZ w 87 (.slice (some ⟨d,0,none⟩) 4 4);cases c:ord.find? (isAll L F)with
    |some m=>
     go_enter (pf func84 (by rfl)),ntmps84
     go_wp2_with(go_at_call 133;refine(s.out _ w.heap.size b.out j).mono ?_;rintro e w1 ⟨rfl,a⟩;rw[c];unfold dW);go_ret2;exact⟨by unfold gu;simp[h.out.1,h.out.2.1,h.out.2.2,c,dW],ai b.out a⟩
    |none=>
     go_enter (pf func84 (by rfl)),ntmps84
     go_wp2_with(go_at_call 133;refine(s.out _ w.heap.size b.out j).mono ?_;rintro e w1 ⟨rfl,a⟩;rw[c];unfold dW);go_ret2;exact⟨by unfold gu;simp[h.out.1,h.out.2.1,h.out.2.2,c,dW],ai b.out a⟩
def og (D:BD)(c:Nat->Int)(i m:Nat):Bool:=decide (0<c i)&&Li (dz D i (gq D i)) (c i) 15 m
def K5 {D}{c}{w w'}{v}(h:dm (λi=>zF D i (c i)) c w v w'):∃d,v=ko d/\tV w' d (eG D c) (og D c):=by
 obtain⟨d,row,rfl,_,_,_,l,k,g,f⟩:=h;refine⟨d,rfl,⟨row,l,k,λi a=>?_,λi a m hm=>?_⟩⟩
 .unfold eG
  by_cases hc:0<c i
  .rw[if_pos hc]
   have:=g i a hc 0 (by omega);rw[Nat.add_zero]at this;rw[this];simp[zF,eF,jC]
  .rw[if_neg hc]
   have:=f i a hc 0 (by omega);rw[Nat.add_zero]at this;rw[this];obtain rfl|rfl|rfl|rfl:i=0\/i=1\/i=2\/i=3:=by omega
   all_goals rfl
 .unfold og
  by_cases hc:0<c i
  .have:=g i a hc (1+m) (by omega)
   rw[<-Nat.add_assoc]at this;rw[this];have e:1+m=m+1:=Nat.add_comm _ _;have j:(List.range 17)[m+1]? =some (m+1):=(by rw[List.getElem?_range (by omega)]);simp[zF,eF,jC,hc,e,j]
  .have:=f i a hc (1+m) (by omega)
   rw[<-Nat.add_assoc]at this;rw[this];have key:(List.range 4).all (λi=>(List.range 16).all λm=>match mK (17*i+1+m)with|.bool b=> !b|_=>false)=true:=(by kernel_rfl);have:=ZU.1 (ZU.1 key i (Z9.2 a)) m (Z9.2 hm);split at this
   .rename_i b hb
    have:b=false:=by simpa using this
    subst this;rw[hb];simp[hc]
   .cases this
def xS {c}{want}:∀{l:List Nat},(∀m∈l,pop m≠0)->gP c want l≠0
 |[],_=>by simp[gP]
 |m::l,h=>by
  unfold gP;split
  .have:=h m ZX;omega
  .exact xS λm hm=>h m (ac1 _ hm)
def K4 (c)(want):l9 c want≠0:=by
 refine xS λm hm=>?_
 have key:ord.all (λm=>pop m !=0)=true:=by kernel_rfl
 simpa using ZU.1 key m hm
def NI {D}(a:D.ok){r}(d:r<4):∀i∈gq D r,0<=bG D r i/\bG D r i<4:=λi c=>by
 have:=yx D r i c;unfold bG
 by_cases b:r=0
 .rw[if_pos b]at this⊢;exact a.nodes i this
 .rw[if_neg b]at this⊢;exact(a.dC (r-1) (by omega)).2 i this
def IL {D}(b:D.ok){c:Nat->Nat}{m}(h:gX (eG D λi=>(c i:Int)) (og D λi=>(c i:Int)) 4 m=true):∀i,i<4->c i<=((gq D i).filter (bE m (bG D i))).length:=λi e=>by
 by_cases hc:c i=0
 .omega
 .have d:0< (c i:Int):=by omega
  have a:=ZU.1 h i (Z9.2 e)
  have g:(eG D (λi=>(c i:Int)) i==0)=false:=by
   unfold eG;rw[if_pos d];exact acZ.2 (K4 _ _)
  rw[g,Bool.false_or]at a;unfold og Li at a;simp only[ZQ,decide_eq_true_eq]at a;have f:=a.2.2;rw[tZ D i m (gq D i) (NI b e)]at f
  have j:qx D i m (gq D i)=(((gq D i).filter (bE m (bG D i))).length:Nat):=by
   unfold qx;rw[List.countP_eq_length_filter];rfl
  omega
def Jc {L}{F}{p}{m}(h:gu L F p=some m):gX L F 4 m=true/\m∈ord:=by
 have a:∀{x},ord.find? (nU L F)=some x->gX L F 4 x=true/\x∈ord:=λhx=>⟨by have:=adD hx;unfold nU at this;simp only[ZQ]at this;exact this.2,List.mem_of_find?_eq_some hx⟩
 have hf:∀{x},ord.find? (gX L F 4)=some x->gX L F 4 x=true/\x∈ord:=λhx=>⟨adD hx,List.mem_of_find?_eq_some hx⟩
 have b:∀{x},ord.find? (Bc L F)=some x->gX L F 4 x=true/\x∈ord:=λhx=>⟨by have:=adD hx;unfold Bc at this;simp only[ZQ]at this;exact this.2,List.mem_of_find?_eq_some hx⟩
 have c:∀{x},ord.find? (isAll L F)=some x->gX L F 4 x=true/\x∈ord:=λhx=>⟨by have:=adD hx;unfold isAll at this;simp only[ZQ]at this;exact this.2,List.mem_of_find?_eq_some hx⟩
 unfold gu at h;split at h
 .split at h
  .rename_i x hx
   cases h;exact a hx
  .exact hf h
 .split at h
  .exact a h
  .split at h
   .exact b h
   .exact c h
def KU {m}(h:m∈ord):m<16:=by
 obtain⟨k,a⟩:=List.getElem?_of_mem h;exact(MR a).2
def eH:Value:=.agg #[.slice none 0 0,.slice none 0 0,.slice none 0 0,.slice none 0 0]
def zB (w:World)(D:BD)(c:Nat->Nat)(sI:Int)(v:Value)(w':World):Prop:=
 adN w w'/\((gX (eG D λi=>(c i:Int)) (og D λi=>(c i:Int)) 4 15=false/\v=.tuple #[eH,.int .i64 8])\/
    (gX (eG D λi=>(c i:Int)) (og D λi=>(c i:Int)) 4 15=true/\gu (eG D λi=>(c i:Int)) (og D λi=>(c i:Int)) sI=none/\v=.tuple #[eH,.int .i64 9])\/
    ∃(m:Nat) (A:Nat->Option Addr) (a:Nat->Nat) (T:Nat->List Nat),gX (eG D λi=>(c i:Int)) (og D λi=>(c i:Int)) 4 15=true/\gu (eG D λi=>(c i:Int)) (og D λi=>(c i:Int)) sI=some m/\v=.tuple #[.agg #[.slice (A 0) (c 0) (a 0),.slice (A 1) (c 1) (a 1),.slice (A 2) (c 2) (a 2),.slice (A 3) (c 3) (a 3)],.int .i64 0]/\
     ∀q,q<4->w'.ownsRow w.heap.size 3 1 (.slice (A q) (c q) (a q)) (T q).length (aT (T q))/\mJ D m q (c q) (T q) (.slice (A q) (c q) (a q)))
def FQ (w)(B)(D)(S C)(sI)(c)(x)(hf:kZ w (λ_=>True) B D S C sI)(hb:bM w x B D)(G:D.ok)(I:tX w x)(U:x B):
 adO 54 #[ptr B,.agg #[.int .i64 (c 0),.int .i64 (c 1),.int .i64 (c 2),.int .i64 (c 3)]] w (RJ (zB w D c sI) AA):=by
 have E:Hid (kZ w (λ_=>True) B D S C sI/\bM w x B D/\D.ok/\tX w x/\x B):=⟨hf,hb,G,I,U⟩;have o:=hf.MJ;have X:B<w.heap.size:=iC o;clear hf hb G I U;obtain⟨a,b⟩:∃a:Nat->Int,a=λi=>(c i:Int):=⟨_,rfl⟩
 have HJ:Hid (∀u,adN w u->adO 42 #[.pointer (some ⟨B,0,none⟩),.agg #[.int .i64 (c 0),.int .i64 (c 1),.int .i64 (c 2),.int .i64 (c 3)]] u (RJ (λv w'=>dm (λi=>zF D i (a i)) a u v w'/\adN u w') AA)):=λu hu=>by
  have:=xW D B a x u (bM.below E.out.2.1 hu) E.out.2.2.1 (zy E.out.2.2.2.1 hu) E.out.2.2.2.2;unfold aQ at this;rw[b]at this⊢;exact this
 have d:Func.results f54= #[.cell 4 41,.tmp 5]:=by kernel_rfl
 unfold ptr
 go_enter (pf func54 (by rfl)),ntmps54
 go_wp2_with fail;obtain⟨W,hW⟩:∃W,W=(w.alloc (.cells #[.int .i64 (c 0),.int .i64 (c 1),.int .i64 (c 2),.int .i64 (c 3)] 37)).alloc (.cells #[.slice none 0 0,.slice none 0 0,.slice none 0 0,.slice none 0 0] 41):=⟨_,rfl⟩
 have y:Hid (adN w W/\W.heap[w.heap.size]? =some (.cells #[.int .i64 (c 0),.int .i64 (c 1),.int .i64 (c 2),.int .i64 (c 3)] 37 (0,0))/\W.heap[w.heap.size+1]? =some (.cells #[.slice none 0 0,.slice none 0 0,.slice none 0 0,.slice none 0 0] 41 (0,0))/\W.heap.size=w.heap.size+2):=by
  rw[hW];refine⟨((aab _ _).alloc (ZL _) _).alloc (by simp) _,aap _ _ _,aam _ _ _,by simp⟩
 rw[<-hW];clear hW;refine(HJ.out W y.out.1).mono ?_;clear HJ;intro e w2 he;cases e with
 |outgrown=>exact he.elim
 |panicked ch=>exact⟨rfl,he⟩
 |returned v=>
  obtain⟨hp,k⟩:=he;obtain⟨K,rfl,Q⟩:=K5 hp;have p:Hid (adN w w2/\w2.heap[w.heap.size]? =some (.cells #[.int .i64 (c 0),.int .i64 (c 1),.int .i64 (c 2),.int .i64 (c 3)] 37 (0,0))/\w2.heap[w.heap.size+1]? =some (.cells #[.slice none 0 0,.slice none 0 0,.slice none 0 0,.slice none 0 0] 41 (0,0))/\tV w2 K (eG D a) (og D a)):=⟨ai y.out.1 k,(k.block _ (by rw[y.out.2.2.2];omega)).trans y.out.2.1,(k.block _ (by rw[y.out.2.2.2];omega)).trans y.out.2.2.1,Q⟩;clear hp k Q y;unfold ko;go_wp2_with fail;refine(rG (eG D a) (og D a) K 15 w2 p.out.2.2.2 (by omega)).mono ?_;rintro e w3 ⟨rfl,g⟩;have H3:Hid (adN w w3/\w3.heap[w.heap.size]? =some (.cells #[.int .i64 (c 0),.int .i64 (c 1),.int .i64 (c 2),.int .i64 (c 3)] 37 (0,0))/\w3.heap[w.heap.size+1]? =some (.cells #[.slice none 0 0,.slice none 0 0,.slice none 0 0,.slice none 0 0] 41 (0,0))/\tV w3 K (eG D a) (og D a)):=⟨ai p.out.1 g,(g.block _ (ZK.1 p.out.2.1).1).trans p.out.2.1,(g.block _ (ZK.1 p.out.2.2.1).1).trans p.out.2.2.1,p.out.2.2.2.below g⟩;clear g p;cases f:gX (eG D a) (og D a) 4 15
  .obtain⟨z,P⟩:=blk H3.out.2.2.1
   go_wp2_with fail;have z3:=aD (i:=3) (.slice none 0 0) (aD (i:=2) (.slice none 0 0) (aD (i:=1) (.slice none 0 0) (aD (i:=0) (.slice none 0 0) H3.out.2.2.1)));simp only[ZN,ZR,ZS]at z3;obtain⟨F,_⟩:=blk z3;refine bodyPost_ret (v:=.tuple #[eH,.int .i64 8]) (by simp[results,d,go_sem,F,eH]) rfl ?_;refine⟨?_,.inl ⟨by rw[<-b];exact f,rfl⟩⟩;exact(((H3.out.1.setCell (Nat.le_succ _) _).setCell (Nat.le_succ _) _).setCell (Nat.le_succ _) _).setCell (Nat.le_succ _) _
  .have M:=keeps H3.out.1 o
   go_wp2_with fail;refine(Jd (eG D a) (og D a) K sI w3 H3.out.2.2.2).mono ?_;rintro e w4 ⟨rfl,j⟩;have l:Hid (adN w w4/\w4.heap[w.heap.size]? =some (.cells #[.int .i64 (c 0),.int .i64 (c 1),.int .i64 (c 2),.int .i64 (c 3)] 37 (0,0))/\w4.heap[w.heap.size+1]? =some (.cells #[.slice none 0 0,.slice none 0 0,.slice none 0 0,.slice none 0 0] 41 (0,0))):=⟨ai H3.out.1 j,(j.block _ (ZK.1 H3.out.2.1).1).trans H3.out.2.1,(j.block _ (ZK.1 H3.out.2.2.1).1).trans H3.out.2.2.1⟩;clear j M H3;cases s:gu (eG D a) (og D a) sI with
   |none=>
    obtain⟨z,P⟩:=blk l.out.2.2;unfold dW;go_wp2_with fail;have z3:=aD (i:=3) (.slice none 0 0) (aD (i:=2) (.slice none 0 0) (aD (i:=1) (.slice none 0 0) (aD (i:=0) (.slice none 0 0) l.out.2.2)));simp only[ZN,ZR,ZS]at z3;obtain⟨F,_⟩:=blk z3;refine bodyPost_ret (v:=.tuple #[eH,.int .i64 9]) (by simp[results,d,go_sem,F,eH]) rfl ?_;refine⟨?_,.inr (.inl ⟨by rw[<-b];exact f,by rw[<-b];exact s,rfl⟩)⟩;exact(((l.out.1.setCell (Nat.le_succ _) _).setCell (Nat.le_succ _) _).setCell (Nat.le_succ _) _).setCell (Nat.le_succ _) _
   |some m=>
    obtain⟨q,V⟩:=blk l.out.2.1;obtain⟨r,H⟩:=Jc s;rw[b]at r;have O:=av (IL E.out.2.2.1 r);have hm:=KU H;clear r H;unfold dW;go_wp2_with fail;refine(GJ w4 B m D S C sI c (E.out.1.below l.out.1) E.out.2.2.1 hm O.out).mono ?_;rintro e L ⟨A,h,T,rfl,n,t⟩;have J:Hid (adN w L/\L.heap[w.heap.size+1]? =some (.cells #[.slice none 0 0,.slice none 0 0,.slice none 0 0,.slice none 0 0] 41 (0,0))/\∀q,q<4->L.ownsRow w4.heap.size 3 1 (.slice (A q) (c q) (h q)) (T q).length (aT (T q))/\mJ D m q (c q) (T q) (.slice (A q) (c q) (h q))):=⟨ai l.out.1 t,(t.block _ (ZK.1 l.out.2.2).1).trans l.out.2.2,n⟩;clear n t q V;obtain⟨z,P⟩:=blk J.out.2.1;go_wp2_with fail;have z3:=aD (i:=3) (.slice (A 3) (c 3) (h 3)) (aD (i:=2) (.slice (A 2) (c 2) (h 2)) (aD (i:=1) (.slice (A 1) (c 1) (h 1)) (aD (i:=0) (.slice (A 0) (c 0) (h 0)) J.out.2.1)));simp only[ZN,ZR,ZS]at z3;obtain⟨F,_⟩:=blk z3;refine bodyPost_ret (v:=.tuple #[.agg #[.slice (A 0) (c 0) (h 0),.slice (A 1) (c 1) (h 1),.slice (A 2) (c 2) (h 2),.slice (A 3) (c 3) (h 3)],.int .i64 0]) (by simp[results,d,go_sem,F]) rfl ?_;have N:w.heap.size+1<w4.heap.size:=(ZK.1 l.out.2.2).1;refine⟨?_,.inr (.inr ⟨m,A,h,T,by rw[<-b];exact f,by rw[<-b];exact s,rfl,λq R=>⟨aB (eQ (J.out.2.2 q R).1 N) (by omega),(J.out.2.2 q R).2⟩⟩)⟩;exact(((J.out.1.setCell (Nat.le_succ _) _).setCell (Nat.le_succ _) _).setCell (Nat.le_succ _) _).setCell (Nat.le_succ _) _
end Z
section
open Go Go.Shelf
def xF:Lays2.n15 (patch ae prog) Tryz.laysNm215_ren:=
 have L:=Tryz.laysNm215
 {mixed:=L.mixed,
  f15:=pf L.f15 (by rfl),
  t3:=L.t3,
  a3:=λw=>(aP _ _ _ w).trans (L.a3 w),
  z3:=λw=>(aM _ _ _ w).trans (L.z3 w),
  v3:=λw=>(aI _ _ _ w).trans (L.v3 w),
  t4:=L.t4,
  a4:=λw=>(aP _ _ _ w).trans (L.a4 w),
  z4:=λw=>(aM _ _ _ w).trans (L.z4 w),
  v4:=λw=>(aI _ _ _ w).trans (L.v4 w),
  t22:=L.t22,
  a22:=λw=>(aP _ _ _ w).trans (L.a22 w),
  z22:=λw=>(aM _ _ _ w).trans (L.z22 w),
  v22:=λw=>(aI _ _ _ w).trans (L.v22 w),
  i3:=L.i3}
def KO:LaysM.n316 (patch ae prog) Tryz.laysM316_ren:=
 have L:=Tryz.laysM316
 {mixed:=L.mixed,
  f316:=pf L.f316 (by rfl),
  t0:=L.t0,
  a0:=λw=>(aP _ _ _ w).trans (L.a0 w),
  z0:=λw=>(aM _ _ _ w).trans (L.z0 w),
  v0:=λw=>(aI _ _ _ w).trans (L.v0 w),
  t3:=L.t3,
  a3:=λw=>(aP _ _ _ w).trans (L.a3 w),
  z3:=λw=>(aM _ _ _ w).trans (L.z3 w),
  v3:=λw=>(aI _ _ _ w).trans (L.v3 w),
  t4:=L.t4,
  a4:=λw=>(aP _ _ _ w).trans (L.a4 w),
  z4:=λw=>(aM _ _ _ w).trans (L.z4 w),
  v4:=λw=>(aI _ _ _ w).trans (L.v4 w),
  t9:=L.t9,
  a9:=λw=>(aP _ _ _ w).trans (L.a9 w),
  z9:=λw=>(aM _ _ _ w).trans (L.z9 w),
  v9:=λw=>(aI _ _ _ w).trans (L.v9 w),
  t37:=L.t37,
  a37:=λw=>(aP _ _ _ w).trans (L.a37 w),
  z37:=λw=>(aM _ _ _ w).trans (L.z37 w),
  v37:=λw=>(aI _ _ _ w).trans (L.v37 w),
  t127:=L.t127,
  a127:=λw=>(aP _ _ _ w).trans (L.a127 w),
  z127:=λw=>(aM _ _ _ w).trans (L.z127 w),
  v127:=λw=>(aI _ _ _ w).trans (L.v127 w),
  t5:=L.t5,
  a5:=λw=>(aP _ _ _ w).trans (L.a5 w),
  z5:=λw=>(aM _ _ _ w).trans (L.z5 w),
  v5:=λw=>(aI _ _ _ w).trans (L.v5 w),
  i0:=L.i0,
  i3:=L.i3,
  i4:=L.i4,
  i5:=L.i5,
  i9:=L.i9,
  i37:=L.i37,
  i127:=L.i127}
end
namespace Z
open Go.RowKit
attribute [local go_sem ↓] Go.wp_at_zero Go.wp_at_succ
attribute [local go_sem] After.cell After.frozen After.const
def Nu (R:Nat->Int)(n:Nat):List Value:=(List.range n).map λj=>.int .i64 (R j)
def jW (a)(n c)(R)(w)(h:Ints w (.slice a n c) n R)(p:n<=1000000):
 adO 75 #[.slice a n c] w λe w'=>∃a' g,e=.returned (.slice a' n g)/\w'.ownsRow w.heap.size 3 1 (.slice a' n g) n (Nu R n)/\adN w w':=by
 by_cases l:n=0
 .subst l
  cases a with
  |none=>
   refine(show adO 75 #[.slice none 0 c] w _ from Go.Proofs.Any.slices_Clone_int_nil xF 0 c w).mono ?_;rintro e w' ⟨rfl,rfl⟩;exact⟨none,0,rfl,aag _ _ _ _,aab _ _⟩
  |some a=>
   refine(show adO 75 #[.slice (some a) 0 c] w _ from Go.Proofs.Any.slices_Clone_int_zero xF a c w).mono ?_;rintro e w' ⟨v',rfl,d,_,hb⟩;obtain⟨x,y,rfl⟩:=aj d;exact⟨x,y,rfl,d,hb⟩
 .obtain⟨ao,cap,e,_,_,k⟩:=h
  cases e;obtain⟨b,o,rfl,hc⟩:=k (by omega)
  refine(show adO 75 #[.slice (some ⟨b,o,none⟩) n c] w _ from Go.Proofs.Any.slices_Clone_int xF b o n c ((List.range n).map R) w (by simp) (by omega) (λj i=>by
   have f:j<n:=by simpa using i
   rw[hc j f];simp[List.getD,f])).mono ?_
  rintro e w' ⟨v',rfl,d,_,hb⟩;obtain⟨x,y,rfl⟩:=aj d
  have m:(((List.range n).map R).take n).map (Value.int .i64)=Nu R n:=by
   rw[aah (by simp),List.map_map];rfl
  rw[m]at d;exact⟨x,y,rfl,d,hb⟩
def Ja (s)(w)(hl:s.size<=281474976710656):adO 55 #[.string s] w λe w'=>e=.returned (.string s)/\adN w w':=by
 have b:Hid (∀u,adO 86 #[.string s] u λe w'=>e=.returned (.string s)/\adN u w'):=λu=>Go.Proofs.Any.stringslite_Clone KO s u hl
 go_enter (pf func55 (by rfl)),ntmps55
 go_wp2_with(go_at_call 86;refine(b.out _).mono ?_;rintro e w1 ⟨rfl,a⟩);go_ret;exact⟨rfl,a⟩
def WE (a b c)(w):Sem.run (patch ae prog) (Instr.index 39 (.agg #[a,b,c]) (.int .i64 0)) w=.ok a w:=by kernel_rfl
def WC (a b c)(w):Sem.run (patch ae prog) (Instr.index 39 (.agg #[a,b,c]) (.int .i64 1)) w=.ok b w:=by kernel_rfl
def WB (a b c)(w):Sem.run (patch ae prog) (Instr.index 39 (.agg #[a,b,c]) (.int .i64 2)) w=.ok c w:=by kernel_rfl
def Ox (w:World)(N:Nat->Nat)(R:Nat->Nat->Int)(e:Ending)(w':World):Prop:=∃(A:Nat->Option Addr) (C:Nat->Nat),e=.returned (.agg #[.slice (A 0) (N 0) (C 0),.slice (A 1) (N 1) (C 1),.slice (A 2) (N 2) (C 2),.slice (A 3) (N 3) (C 3)])/\(∀q,q<4->w'.ownsRow w.heap.size 3 1 (.slice (A q) (N q) (C q)) (N q) (Nu (R q) (N q)))/\adN w w'
def Bv (A:Nat->Option Addr)(N C:Nat->Nat)(R)(w)(h:∀q,q<4->Ints w (.slice (A q) (N q) (C q)) (N q) (R q)/\N q<=1000000):
 adO 47 #[.agg #[.slice (A 0) (N 0) (C 0),.slice (A 1) (N 1) (C 1),.slice (A 2) (N 2) (C 2),.slice (A 3) (N 3) (C 3)]] w (Ox w N R):=by
 have j:=av h;clear h;have t:Func.results f47= #[.cell 2 41]:=by kernel_rfl
 have i0:=WE (.slice (A 1) (N 1) (C 1)) (.slice (A 2) (N 2) (C 2)) (.slice (A 3) (N 3) (C 3));have i1:=WC (.slice (A 1) (N 1) (C 1)) (.slice (A 2) (N 2) (C 2)) (.slice (A 3) (N 3) (C 3));have i2:=WB (.slice (A 1) (N 1) (C 1)) (.slice (A 2) (N 2) (C 2)) (.slice (A 3) (N 3) (C 3))
 go_enter (pf func47 (by rfl)),ntmps47
 go_wp2_with fail;obtain⟨W,hW⟩:∃W,W=(w.alloc (.cells #[.slice (A 0) (N 0) (C 0),.slice (A 1) (N 1) (C 1),.slice (A 2) (N 2) (C 2),.slice (A 3) (N 3) (C 3)] 41)).alloc (.cells #[.slice none 0 0,.slice none 0 0,.slice none 0 0,.slice none 0 0] 41):=⟨_,rfl⟩
 have k:Hid (adN w W/\W.heap[w.heap.size]? =some (.cells #[.slice (A 0) (N 0) (C 0),.slice (A 1) (N 1) (C 1),.slice (A 2) (N 2) (C 2),.slice (A 3) (N 3) (C 3)] 41 (0,0))/\W.heap[w.heap.size+1]? =some (.cells #[.slice none 0 0,.slice none 0 0,.slice none 0 0,.slice none 0 0] 41 (0,0))/\w.heap.size+2<=W.heap.size):=by
  rw[hW];exact⟨((aab _ _).alloc (ZL _) _).alloc (by simp) _,aap _ _ _,aam _ _ _,by simp⟩
 rw[<-hW];clear hW;refine(jW (A 0) (N 0) (C 0) (R 0) W ((j.out 0 (by omega)).1.ext k.out.1) (j.out 0 (by omega)).2).mono ?_;rintro e s ⟨a0,c0,rfl,E,o⟩;have G:=av (aaa E o);have V:=av ((o.block w.heap.size (ZK.1 k.out.2.1).1).trans k.out.2.1);obtain⟨b0,Q⟩:=blk V.out;obtain⟨g0,L⟩:=blk (aD (i:=0) (.slice a0 (N 0) c0) V.out);clear E o;go_wp2_with fail;clear b0 Q g0 L
 have g:Hid (adN w (s.setCell ⟨w.heap.size,0,none⟩ (.slice a0 (N 0) c0))/\((s.setCell ⟨w.heap.size,0,none⟩ (.slice a0 (N 0) c0))).heap[w.heap.size]? =some (.cells #[.slice a0 (N 0) c0,.slice (A 1) (N 1) (C 1),.slice (A 2) (N 2) (C 2),.slice (A 3) (N 3) (C 3)] 41 (0,0))/\((s.setCell ⟨w.heap.size,0,none⟩ (.slice a0 (N 0) c0))).heap[w.heap.size+1]? =some (.cells #[.slice none 0 0,.slice none 0 0,.slice none 0 0,.slice none 0 0] 41 (0,0))/\w.heap.size+2<=((s.setCell ⟨w.heap.size,0,none⟩ (.slice a0 (N 0) c0))).heap.size):=by
  have bb:=ai k.out.1 G.out.2;refine⟨bb.setCell (by show w.heap.size<=w.heap.size;omega) _,?_,?_,?_⟩
  .have:=aD (i:=0) (.slice a0 (N 0) c0) V.out
   simpa only[ZN,ZS,ZR] using this
  .have hl:=(ZK.1 k.out.2.2.1).1
   exact(aad _ _ _ _ (by show w.heap.size+1≠w.heap.size;omega)).trans ((G.out.2.block _ hl).trans k.out.2.2.1)
  .have:=k.out.2.2.2;have:=G.out.2.size;simp;omega
 refine wp_loop_rounds 4 ?_;rw[aal];go_wp2_with fail;refine(jW (A 1) (N 1) (C 1) (R 1) (s.setCell ⟨w.heap.size,0,none⟩ (.slice a0 (N 0) c0)) ((j.out 1 (by omega)).1.ext g.out.1) (j.out 1 (by omega)).2).mono ?_;rintro e w1 ⟨c,a,rfl,D,n⟩;have F:=av (aaa D n);have U:=av ((n.block w.heap.size (ZK.1 g.out.2.1).1).trans g.out.2.1);obtain⟨b1,P⟩:=blk U.out;obtain⟨g1,K⟩:=blk (aD (i:=1) (.slice c (N 1) a) U.out);clear D n;go_wp2_with fail;clear b1 P g1 K
 have f:Hid (adN w (w1.setCell ⟨w.heap.size,1,none⟩ (.slice c (N 1) a))/\((w1.setCell ⟨w.heap.size,1,none⟩ (.slice c (N 1) a))).heap[w.heap.size]? =some (.cells #[.slice a0 (N 0) c0,.slice c (N 1) a,.slice (A 2) (N 2) (C 2),.slice (A 3) (N 3) (C 3)] 41 (0,0))/\((w1.setCell ⟨w.heap.size,1,none⟩ (.slice c (N 1) a))).heap[w.heap.size+1]? =some (.cells #[.slice none 0 0,.slice none 0 0,.slice none 0 0,.slice none 0 0] 41 (0,0))/\w.heap.size+2<=((w1.setCell ⟨w.heap.size,1,none⟩ (.slice c (N 1) a))).heap.size):=by
  have bb:=ai g.out.1 F.out.2;refine⟨bb.setCell (by show w.heap.size<=w.heap.size;omega) _,?_,?_,?_⟩
  .have:=aD (i:=1) (.slice c (N 1) a) U.out
   simpa only[ZN,ZS,ZR] using this
  .have hl:=(ZK.1 g.out.2.2.1).1
   exact(aad _ _ _ _ (by show w.heap.size+1≠w.heap.size;omega)).trans ((F.out.2.block _ hl).trans g.out.2.2.1)
  .have:=g.out.2.2.2;have:=F.out.2.size;simp;omega
 rw[aal];go_wp2_with fail;refine(jW (A 2) (N 2) (C 2) (R 2) (w1.setCell ⟨w.heap.size,1,none⟩ (.slice c (N 1) a)) ((j.out 2 (by omega)).1.ext f.out.1) (j.out 2 (by omega)).2).mono ?_;rintro e w2 ⟨a2,c2,rfl,B,m⟩;have r:=av (aaa B m);have T:=av ((m.block w.heap.size (ZK.1 f.out.2.1).1).trans f.out.2.1);obtain⟨b2,O⟩:=blk T.out;obtain⟨g2,J⟩:=blk (aD (i:=2) (.slice a2 (N 2) c2) T.out);clear B m;go_wp2_with fail;clear b2 O g2 J
 have d:Hid (adN w (w2.setCell ⟨w.heap.size,2,none⟩ (.slice a2 (N 2) c2))/\((w2.setCell ⟨w.heap.size,2,none⟩ (.slice a2 (N 2) c2))).heap[w.heap.size]? =some (.cells #[.slice a0 (N 0) c0,.slice c (N 1) a,.slice a2 (N 2) c2,.slice (A 3) (N 3) (C 3)] 41 (0,0))/\((w2.setCell ⟨w.heap.size,2,none⟩ (.slice a2 (N 2) c2))).heap[w.heap.size+1]? =some (.cells #[.slice none 0 0,.slice none 0 0,.slice none 0 0,.slice none 0 0] 41 (0,0))/\w.heap.size+2<=((w2.setCell ⟨w.heap.size,2,none⟩ (.slice a2 (N 2) c2))).heap.size):=by
  have bb:=ai f.out.1 r.out.2;refine⟨bb.setCell (by show w.heap.size<=w.heap.size;omega) _,?_,?_,?_⟩
  .have:=aD (i:=2) (.slice a2 (N 2) c2) T.out
   simpa only[ZN,ZS,ZR] using this
  .have hl:=(ZK.1 f.out.2.2.1).1
   exact(aad _ _ _ _ (by show w.heap.size+1≠w.heap.size;omega)).trans ((r.out.2.block _ hl).trans f.out.2.2.1)
  .have:=f.out.2.2.2;have:=r.out.2.size;simp;omega
 rw[aal];go_wp2_with fail;refine(jW (A 3) (N 3) (C 3) (R 3) (w2.setCell ⟨w.heap.size,2,none⟩ (.slice a2 (N 2) c2)) ((j.out 3 (by omega)).1.ext d.out.1) (j.out 3 (by omega)).2).mono ?_;rintro e w3 ⟨a3,c3,rfl,x,l⟩;have p:=av (aaa x l);have S:=av ((l.block w.heap.size (ZK.1 d.out.2.1).1).trans d.out.2.1);obtain⟨b3,M⟩:=blk S.out;obtain⟨g3,I⟩:=blk (aD (i:=3) (.slice a3 (N 3) c3) S.out);clear x l;go_wp2_with fail;clear b3 M g3 I
 have H:Hid (adN w (w3.setCell ⟨w.heap.size,3,none⟩ (.slice a3 (N 3) c3))/\((w3.setCell ⟨w.heap.size,3,none⟩ (.slice a3 (N 3) c3))).heap[w.heap.size]? =some (.cells #[.slice a0 (N 0) c0,.slice c (N 1) a,.slice a2 (N 2) c2,.slice a3 (N 3) c3] 41 (0,0))/\((w3.setCell ⟨w.heap.size,3,none⟩ (.slice a3 (N 3) c3))).heap[w.heap.size+1]? =some (.cells #[.slice none 0 0,.slice none 0 0,.slice none 0 0,.slice none 0 0] 41 (0,0))/\w.heap.size+2<=((w3.setCell ⟨w.heap.size,3,none⟩ (.slice a3 (N 3) c3))).heap.size):=by
  have bb:=ai d.out.1 p.out.2;refine⟨bb.setCell (by show w.heap.size<=w.heap.size;omega) _,?_,?_,?_⟩
  .have:=aD (i:=3) (.slice a3 (N 3) c3) S.out
   simpa only[ZN,ZS,ZR] using this
  .have hl:=(ZK.1 d.out.2.2.1).1
   exact(aad _ _ _ _ (by show w.heap.size+1≠w.heap.size;omega)).trans ((p.out.2.block _ hl).trans d.out.2.2.1)
  .have:=d.out.2.2.2;have:=p.out.2.size;simp;omega
 obtain⟨z,zf⟩:=blk H.out.2.1;obtain⟨y,yf⟩:=blk H.out.2.2.1;rw[aal];go_wp2_with fail;have z3:=aD (i:=3) (.slice a3 (N 3) c3) (aD (i:=2) (.slice a2 (N 2) c2) (aD (i:=1) (.slice c (N 1) a) (aD (i:=0) (.slice a0 (N 0) c0) H.out.2.2.1)));simp only[ZN,ZR,ZS]at z3;obtain⟨X,_⟩:=blk z3;refine bodyPost_ret (v:=.agg #[.slice a0 (N 0) c0,.slice c (N 1) a,.slice a2 (N 2) c2,.slice a3 (N 3) c3]) (by simp[results,t,go_sem,X]) rfl ?_;have l0:=k.out.2.2.2;have l1:=g.out.2.2.2;have l2:=f.out.2.2.2;have l3:=d.out.2.2.2;have r0:=aB G.out.1 l0;have r1:=aB F.out.1 l1;have Z:=aB r.out.1 l2;have Y:=aB p.out.1 l3;have f0:=eQ (b:=w.heap.size+1) (x0:=.slice a0 (N 0) c0) (x1:=.slice c (N 1) a) (x2:=.slice a2 (N 2) c2) (x3:=.slice a3 (N 3) c3) (aS (b:=w.heap.size) (i:=3) (u:=.slice a3 (N 3) c3) (au (aS (b:=w.heap.size) (i:=2) (u:=.slice a2 (N 2) c2) (au (aS (b:=w.heap.size) (i:=1) (u:=.slice c (N 1) a) (au (aS (b:=w.heap.size) (i:=0) (u:=.slice a0 (N 0) c0) r0 (by omega)) F.out.2) (by omega)) r.out.2) (by omega)) p.out.2) (by omega)) (by omega);have f1:=eQ (b:=w.heap.size+1) (x0:=.slice a0 (N 0) c0) (x1:=.slice c (N 1) a) (x2:=.slice a2 (N 2) c2) (x3:=.slice a3 (N 3) c3) (aS (b:=w.heap.size) (i:=3) (u:=.slice a3 (N 3) c3) (au (aS (b:=w.heap.size) (i:=2) (u:=.slice a2 (N 2) c2) (au (aS (b:=w.heap.size) (i:=1) (u:=.slice c (N 1) a) r1 (by omega)) r.out.2) (by omega)) p.out.2) (by omega)) (by omega);have f2:=eQ (b:=w.heap.size+1) (x0:=.slice a0 (N 0) c0) (x1:=.slice c (N 1) a) (x2:=.slice a2 (N 2) c2) (x3:=.slice a3 (N 3) c3) (aS (b:=w.heap.size) (i:=3) (u:=.slice a3 (N 3) c3) (au (aS (b:=w.heap.size) (i:=2) (u:=.slice a2 (N 2) c2) Z (by omega)) p.out.2) (by omega)) (by omega);have f3:=eQ (b:=w.heap.size+1) (x0:=.slice a0 (N 0) c0) (x1:=.slice c (N 1) a) (x2:=.slice a2 (N 2) c2) (x3:=.slice a3 (N 3) c3) (aS (b:=w.heap.size) (i:=3) (u:=.slice a3 (N 3) c3) Y (by omega)) (by omega);refine⟨λq=>match q with|0=>a0|1=>c|2=>a2|_=>a3,λq=>match q with|0=>c0|1=>a|2=>c2|_=>c3,rfl,λq hq=>?_,?_⟩
 .obtain rfl|rfl|rfl|rfl:q=0\/q=1\/q=2\/q=3:=by omega
  .exact aB f0 (by omega)
  .exact aB f1 (by omega)
  .exact aB f2 (by omega)
  .exact aB f3 (by omega)
 .exact(((H.out.1.setCell (Nat.le_succ _) _).setCell (Nat.le_succ _) _).setCell (Nat.le_succ _) _).setCell (Nat.le_succ _) _
end Z
section
open Go Go.Shelf
def KP:Lays.n106 (patch ae prog) Tryz.lays106_ren:=
 have L:=Tryz.lays106
 {mixed:=L.mixed,
  f106:=pf L.f106 (by rfl),
  f213:=pf L.f213 (by rfl),
  f265:=pf L.f265 (by rfl),
  t3:=L.t3,
  a3:=λw=>(aP _ _ _ w).trans (L.a3 w),
  z3:=λw=>(aM _ _ _ w).trans (L.z3 w),
  v3:=λw=>(aI _ _ _ w).trans (L.v3 w),
  t9:=L.t9,
  a9:=λw=>(aP _ _ _ w).trans (L.a9 w),
  z9:=λw=>(aM _ _ _ w).trans (L.z9 w),
  v9:=λw=>(aI _ _ _ w).trans (L.v9 w)}
end
namespace Z
open Go.RowKit
attribute [local go_sem ↓] Go.wp_at_zero Go.wp_at_succ
attribute [local go_sem] After.cell After.frozen After.const
def Dv (a b:ByteArray):Int:=Lib.compareBytes a.data.toList b.data.toList
def Du (a b)(w):adO 81 #[.string a,.string b] w λe w'=>e=.returned (.int .i64 (Dv a b))/\w'=w:=Go.Proofs.Any.strings_Compare KP a b w
def E7 (s)(w):adO 52 #[.string s] w λe w'=>e=.returned (.bool (decide ((1:Int)<=s.size)&&decide ((s.size:Int)<=20)))/\w'=w:=by
 by_cases a:(1:Int)<=s.size
 .go_enter (pf func52 (by rfl)),ntmps52
  go_wp2_with fail;go_ret;exact⟨by simp[a],rfl⟩
 .go_enter (pf func52 (by rfl)),ntmps52
  go_wp2_with fail;go_ret
  exact⟨by
   have hd:decide ((1:Int)<=s.size)=false:=adg (by omega);rw[hd];rfl,rfl⟩
def oV (nm s)(a0 h a2 a3)(c b a n3 g k1 f d)(w):
 adO 80 #[.agg #[.string nm,.slice a0 c g,.slice h b k1,.slice a2 a f,.slice a3 n3 d],.string s] w λe w'=>e=.returned (.int .i64 (Dv nm s))/\adN w w':=by
 go_enter (pf func80 (by rfl)),ntmps80
 go_wp2_with(go_at_call 81;refine(Du _ _ _).mono ?_;rintro e w' ⟨rfl,rfl⟩);go_ret;exact⟨rfl,(aab _ _).alloc (ZL _) _⟩
def DC (D:BD)(Z:Nat->Prop)(nm:Nat->ByteArray)(b o:Nat)(w:World):Prop:=LJ D Z b o w/\∀i,i<D.bn->w.cell? ⟨b,o+5*i,none⟩=some (.string (nm i))
def J5 {D}{Z}{nm}{b o}{w}(h:DC D Z nm b o w){i}(c:i<D.bn):∃(A:Nat->Option Addr) (K:Nat->Nat),w.cell? ⟨b,o+i*5,none⟩=some (.string (nm i))/\w.cell? ⟨b,o+i*5+1+0,none⟩=some (.slice (A 0) (D.oN i 0) (K 0))/\w.cell? ⟨b,o+i*5+1+1,none⟩=some (.slice (A 1) (D.oN i 1) (K 1))/\w.cell? ⟨b,o+i*5+1+2,none⟩=some (.slice (A 2) (D.oN i 2) (K 2))/\w.cell? ⟨b,o+i*5+1+3,none⟩=some (.slice (A 3) (D.oN i 3) (K 3)):=by
 have a:=(h.1 i c).2;obtain⟨v0,d,a0,g,rfl,_⟩:=a 0 (by omega);obtain⟨v1,c2,j,k1,rfl,_⟩:=a 1 (by omega);obtain⟨v2,c3,a2,f,rfl,_⟩:=a 2 (by omega);obtain⟨v3,c4,a3,e,rfl,_⟩:=a 3 (by omega);have c0:=h.2 i c;rw[Nat.mul_comm 5 i]at c0 d c2 c3 c4;exact⟨λq=>match q with|0=>a0|1=>j|2=>a2|_=>a3,λq=>match q with|0=>g|1=>k1|2=>f|_=>e,c0,d,c2,c3,c4⟩
def jw (n:Nat)(nm:Nat->ByteArray)(s:ByteArray)(p:Nat)(t:Bool):Prop:=p<=n/\(0<p->Dv (nm (p-1)) s<0)/\(p<n->0<=Dv (nm p) s)/\(t=true↔p<n/\Dv (nm p) s=0)
def zW (D)(Z)(nm)(v f)(s)(w)(h:bZ w Z v D.bn (DC D Z nm))(hf:f=.func (.func 80) #[] #[]):
 adO 79 #[v,.string s,f] w λe w'=>(∃p t,e=.returned (.tuple #[.int .i64 (p:Nat),.bool t])/\jw D.bn nm s p t)/\adN w w':=by
 obtain⟨ao,cap,rfl,hc,hm,y,_⟩:=h;subst hf;have z:Hid (0<D.bn->∃b o,ao=some ⟨b,o,none⟩/\DC D Z nm b o w):=y;clear y
 go_enter (pf func79 (by rfl)),ntmps79
 go_wp2_with fail
 go_loopg [9,10] D.bn (λC B r wr=>∃d a:Nat,B=.int .i64 d/\r=.int .i64 a/\d<=a/\a<=D.bn/\a-d<=C/\adN w wr/\(0<d->Dv (nm (d-1)) s<0)/\(a<D.bn->0<=Dv (nm a) s))
 case atStart=>exact⟨0,D.bn,rfl,rfl,by omega,by omega,by omega,aab _ _,λh=>absurd h (by omega),λh=>absurd h (by omega)⟩
 case round=>
  obtain⟨d,a,rfl,rfl,F,l,M,hb,m,n⟩:=hrel;have g:=av (aaa hb (aaa m n));clear m n
  by_cases E:d<a
  .obtain⟨b,o,rfl,k⟩:=z.out (by omega)
   obtain⟨A,K,c0,q,c2,c3,c4⟩:=J5 k (i:=(d+a)/2) (by omega);have L:=keeps hb c0;have J:=keeps hb q;have I:=keeps hb c2;have H:=keeps hb c3;have G:=keeps hb c4;clear k c0 q c2 c3 c4 hb
   by_cases j:Dv (nm ((d+a)/2)) s<0
   .go_wp2_with(go_at_call 80;refine(oV _ _ _ _ _ _ _ _ _ _ _ _ _ _ _).mono ?_;rintro e w1 ⟨rfl,c⟩;have H1:=av (g.out.1.trans (c.mono g.out.1.size));clear c)
    go_roundg (a-((d+a)/2+1))
    case measure=>omega
    case rel=>exact⟨(d+a)/2+1,a,by rw[show((d:Int)+(a:Int))/2+1=(((d+a)/2+1:Nat):Int) by omega],rfl,by omega,l,by omega,H1.out,λ_=>by simpa using j,g.out.2.2⟩
   .go_wp2_with(go_at_call 80;refine(oV _ _ _ _ _ _ _ _ _ _ _ _ _ _ _).mono ?_;rintro e w1 ⟨rfl,c⟩;have H1:=av (g.out.1.trans (c.mono g.out.1.size));clear c)
    go_roundg ((d+a)/2-d)
    case measure=>omega
    case rel=>exact⟨d,(d+a)/2,rfl,by rw[show((d:Int)+(a:Int))/2=(((d+a)/2:Nat):Int) by omega],by omega,by omega,by omega,H1.out,g.out.2.1,λ_=>by omega⟩
  .obtain rfl:a=d:=by omega
   by_cases x:a<D.bn
   .have u:(a:Int)<D.bn:=by omega
    obtain⟨b,o,rfl,k⟩:=z.out (by omega);obtain⟨A,K,c0,q,c2,c3,c4⟩:=J5 k x;have L:=keeps hb c0;have J:=keeps hb q;have I:=keeps hb c2;have H:=keeps hb c3;have G:=keeps hb c4;clear k c0 q c2 c3 c4 hb
    by_cases j:Dv (nm a) s=0
    .go_wp2_with(go_at_call 80;refine(oV _ _ _ _ _ _ _ _ _ _ _ _ _ _ _).mono ?_;rintro e w1 ⟨rfl,c⟩;have H1:=av (g.out.1.trans (c.mono g.out.1.size));clear c)
     go_ret2;exact⟨⟨a,true,by simp[j],l,g.out.2.1,g.out.2.2,by simp[x,j]⟩,H1.out⟩
    .go_wp2_with(go_at_call 80;refine(oV _ _ _ _ _ _ _ _ _ _ _ _ _ _ _).mono ?_;rintro e w1 ⟨rfl,c⟩;have H1:=av (g.out.1.trans (c.mono g.out.1.size));clear c)
     go_ret2;exact⟨⟨a,false,by simp[j],l,g.out.2.1,g.out.2.2,by simp[j]⟩,H1.out⟩
   .have u:¬(a:Int)<D.bn:=by omega
    clear hb;go_wp2_with fail;go_ret2;exact⟨⟨a,.inl ⟨rfl,l,g.out.2.1,g.out.2.2,by simp[x]⟩⟩,g.out.1⟩
def Bl (D)(Z)(nm)(B)(v)(s)(w)(hc:w.cell? ⟨B,6,none⟩=some v)(h:bZ w Z v D.bn (DC D Z nm)):
 adO 51 #[.pointer (some ⟨B,0,none⟩),.string s] w λe w'=>(∃p t,e=.returned (.tuple #[.int .i64 (p:Nat),.bool t])/\jw D.bn nm s p t)/\adN w w':=by
 have b:=av h;obtain⟨ao,cap,rfl,_⟩:=h
 go_enter (pf func51 (by rfl)),ntmps51
 go_wp2_with(go_at_call 79;refine(zW D Z nm _ _ s w b.out rfl).mono ?_;rintro e w1 ⟨⟨p,t,rfl,hp⟩,a⟩);go_ret2;exact⟨⟨p,t,rfl,hp⟩,a⟩
def jM:((patch ae prog).info? 98).map (λi=>(i.zero,i.size,i.bytes))=some (some (.agg #[.string ⟨#[]⟩,.slice none 0 0,.slice none 0 0,.slice none 0 0,.slice none 0 0]),5,112):=by kernel_rfl
def fA:(patch ae prog).underlying 47=some (.slice 98):=by kernel_rfl
def fG (w:World)(b o:Nat)(xs:List Value):Prop:=∀j u,xs[j]? =some u->w.cell? ⟨b,o+j,none⟩=some u
def uM (ao)(n cap)(xs)(w)(E:n<=1000000)(hx:xs.length=n*5)(t:∀u∈xs,u.oneCell'=true)(z:n<=cap)(s:0<n->∃b o,ao=some ⟨b,o,none⟩/\fG w b o xs):
 adO 46 #[.slice ao n cap] w λe w'=>∃a' v,e=.returned (.slice a' n v)/\w'.ownsRow w.heap.size 98 5 (.slice a' n v) n xs/\adN w w':=by
 cases ao with
 |none=>
  have D:n=0:=by
   by_cases h:0<n
   .obtain⟨b,o,e,_⟩:=s h
    cases e
   .omega
  subst D;have r:xs=[]:=List.eq_nil_of_length_eq_zero (by omega);subst r;have heq:=fun(W:World)=>Lib.run_eql_slice_nil (P:=(patch ae prog)) W 47 98 none 0 cap 0 0 fA
  go_enter (pf func46 (by rfl)),ntmps46
  go_wp2_with fail;go_ret;exact⟨none,0,rfl,aag _ _ _ _,aab _ _⟩
 |some a=>
  have heq:=fun(W:World)=>Lib.run_eql_slice_nil (P:=(patch ae prog)) W 47 98 (some a) n cap 0 0 fA
  obtain⟨i,C,q,p,m⟩:=info_parts jM;have hu:=fA
  have hcell:∀j u,xs[j]? =some u->w.cell? (a.add j)=some u:=λj u g=>by
   have A:=(ZZ.1 g).1;obtain⟨b,o,e,hc⟩:=s (by omega);cases e;rw[Addr.add_lit];exact hc j u g
  have l:Hid ((∀j u,xs[j]? =some u->(w.alloc (.cells #[] 98)).cell? (a.add j)=some u)/\(∀u∈xs,u.oneCell'=true)/\xs.length=n*5/\(w.alloc (.cells #[] 98)).ownsRow w.heap.size 98 5 (.slice (some ⟨w.heap.size,0,none⟩) 0 0) 0 []):=
   ⟨λj u g=>keeps ((aab _ _).alloc (ZL _) _) (hcell j u g),t,hx,by simp,.inr ⟨w.heap.size,0,#[],rfl,ZL _,aae _ _,ZL _,by unfold maxLen;omega,by simp,by simp⟩⟩
  clear s hx t hcell
  go_enter (pf func46 (by rfl)),ntmps46
  go_wp2_with(at_builtin;go_loud(refine adJ _ rfl _ _ _ rfl w.heap.size 98 i _ 5 112 hu C q p m rfl (by omega) _ 0 [] rfl l.out.2.2.2 a n cap xs (by rfl) l.out.2.2.1 l.out.1 l.out.2.1 (by unfold maxLen;omega) (by omega) (by simp) ?_);intro v' w1 f d _);go_ret;have c:w1.ownsRow w.heap.size 98 5 v' n xs:=by simpa using f
  obtain⟨x,y,rfl⟩:=aj c;exact⟨x,y,rfl,c,((aab _ _).alloc (ZL _) _).grown d (by simp) (λk B=>by cases B;exact ZL _)⟩
def In64 (z:Int):Prop:= -9223372036854775808<=z/\z<=9223372036854775807
def aK (c:Int)(n:Nat):Nat:=((if c<0 then-(c+1)else c)% (n:Int)).toNat
def ik (c){n}(a:0<n):aK c n<n:=by
 unfold aK;have d:=Int.emod_lt_of_pos (if c<0 then-(c+1)else c) (show(0:Int)<n by omega);have b:=Int.emod_nonneg (if c<0 then-(c+1)else c) (show(n:Int)≠0 by omega);omega
def dG (c)(n:Nat)(w)(hc:In64 c)(d:0<n/\n<=1000):
 adO 39 #[.int .i64 c,.int .i64 n] w λe w'=>e=.returned (.int .i64 (aK c n))/\w'=w:=by
 obtain⟨i,c2⟩:=hc;obtain⟨g,f⟩:=d;have a:(n:Int)≠0:=by omega
 have b:((n:Int)==0)=false:=acZ.2 a
 by_cases h:c<0
 .have e:(aK c n:Int)=(-(c+1))% (n:Int):=by
   unfold aK;rw[if_pos h];exact Int.toNat_of_nonneg (Int.emod_nonneg _ a)
  have t:(-(c+1)).tmod (n:Int)=(-(c+1))% (n:Int):=Int.tmod_eq_emod_of_nonneg (by omega)
  go_enter (pf func39 (by rfl)),ntmps39
  go_wp2_with fail;go_ret;exact⟨by first|rfl|(rw[e,<-t];rfl)|(rw[e];rfl)|rw[e,<-t],rfl⟩
 .have e:(aK c n:Int)=c% (n:Int):=by
   unfold aK;rw[if_neg h];exact Int.toNat_of_nonneg (Int.emod_nonneg _ a)
  have t:c.tmod (n:Int)=c% (n:Int):=Int.tmod_eq_emod_of_nonneg (by omega)
  go_enter (pf func39 (by rfl)),ntmps39
  go_wp2_with fail;go_ret;exact⟨by first|rfl|(rw[e,<-t];rfl)|(rw[e];rfl)|rw[e,<-t],rfl⟩
def Dm (b)(n)(x y)(w)(c:w.cell? ⟨b,8,none⟩=some x)(a:w.cell? ⟨b,9,none⟩=some y)(f8:w.frozen? ⟨b,8,none⟩=false)(f9:w.frozen? ⟨b,9,none⟩=false):
 adO 45 #[.pointer (some ⟨b,7,none⟩),.int .i64 n] w λe w'=>e=.returned (.tuple #[])/\w'=(w.setCell ⟨b,8,none⟩ (.bool (decide (0<=n)))).setCell ⟨b,9,none⟩ (.int .i64 n):=by
 by_cases h:0<=n
 .go_enter (pf func45 (by rfl)),ntmps45
  go_wp2_with fail;refine bodyPost_end (results_none rfl _ _ _) rfl ?_;exact⟨rfl,by simp[h]⟩
 .go_enter (pf func45 (by rfl)),ntmps45
  go_wp2_with fail;refine bodyPost_end (results_none rfl _ _ _) rfl ?_;exact⟨rfl,by first|rfl|(rw[show decide (0<=n)=false from adg (by omega)])⟩
def FC (b)(n)(x y)(w)(c:w.cell? ⟨b,8,none⟩=some x)(a:w.cell? ⟨b,9,none⟩=some y)(f8:w.frozen? ⟨b,8,none⟩=false)(f9:w.frozen? ⟨b,9,none⟩=false):
 adO 16 #[.pointer (some ⟨b,0,none⟩),.int .i64 n] w λe w'=>e=.returned (.tuple #[])/\w'=(w.setCell ⟨b,8,none⟩ (.bool (decide (0<=n)))).setCell ⟨b,9,none⟩ (.int .i64 n):=by
 have d:=av (Dm b n x y w c a f8 f9);clear c a f8 f9
 go_enter (pf func16 (by rfl)),ntmps16
 go_wp2_with(go_at_call 45;refine d.out.mono ?_;rintro e w1 ⟨rfl,hw⟩);refine bodyPost_end (results_none rfl _ _ _) rfl ?_;exact⟨rfl,by first|rfl|exact hw⟩
def Bz {w:World}{b}{cs}{t}(h:w.heap[b]? =some (.cells cs t (0,0))):(∀j,w.cell? ⟨b,j,none⟩=cs[j]?)/\∀j,w.frozen? ⟨b,j,none⟩=false:=blk h
structure fH where
 nm:ByteArray
 A:Nat->Option Addr
 C:Nat->Nat
 T:Nat->List Nat
def fH.sl (x:fH)(q:Nat):Value:=.slice (x.A q) (x.T q).length (x.C q)
def fH.cells (x:fH):List Value:=[.string x.nm,x.sl 0,x.sl 1,x.sl 2,x.sl 3]
def aR (l:List fH):List Value:=l.flatMap fH.cells
def fe (l):(aR l).length=l.length*5:=by
 induction l with
 |nil=>rfl
 |cons x l a=>simp only[aR,List.flatMap_cons,Z7,adt]at a⊢;rw[a];simp[fH.cells];omega
def iE (l k):aR (l++k)=aR l++aR k:=List.flatMap_append
def DD {l}{i j}(d:i<l.length)(b:j<5):(aR l)[i*5+j]? =l[i].cells[j]?:=by
 have e:l=l.take i++l[i]::l.drop (i+1):=by simp
 have a:(aR (l.take i)).length=i*5:=by rw[fe,adh];congr 1;omega
 have c:aR l=aR (l.take i)++(l[i].cells++aR (l.drop (i+1))):=by
  have h:=congrArg aR e;rw[iE]at h;exact h
 rw[c,List.getElem?_append_right (by rw[a];omega),a,ada,List.getElem?_append_left (by simpa[fH.cells] using b)]
def pP (l)(k):(aR l).take (k*5)=aR (l.take k):=by
 by_cases h:k<=l.length
 .have e:=iE (l.take k) (l.drop k)
  rw[List.take_append_drop]at e;have hl:(aR (l.take k)).length=k*5:=by rw[fe,adh];congr 1;omega
  rw[e,List.take_append_of_le_length (by omega),aah (by omega)]
 .rw[aah (by rw[fe];omega),aah (by omega)]
def pQ (l)(k):(aR l).drop (k*5)=aR (l.drop k):=by
 by_cases h:k<=l.length
 .have e:=iE (l.take k) (l.drop k)
  rw[List.take_append_drop]at e;have hl:(aR (l.take k)).length=k*5:=by rw[fe,adh];congr 1;omega
  rw[e,List.drop_append_of_le_length (by omega),List.drop_of_length_le (by omega),List.nil_append]
 .rw[List.drop_of_length_le (by rw[fe];omega),List.drop_of_length_le (by omega)];rfl
def iD {l}:∀u∈aR l,u.oneCell'=true:=by
 intro u hu;obtain⟨x,_,hx⟩:=List.mem_flatMap.1 hu;simp only[fH.cells,ZW,adm,or_false]at hx;rcases hx with rfl|rfl|rfl|rfl|rfl<;>rfl
def fH.Ik (x:fH)(base:Nat)(w:World):Prop:=∀q,q<4->w.ownsRow base 3 1 (x.sl q) (x.T q).length (aT (x.T q))/\NZ (x.sl q)
def fH.small (x:fH):Prop:=x.nm.size<=20/\∀q,q<4->(x.T q).length<=24/\∀i∈x.T q,i<=24
def fH.Ik.below {x:fH}{base}{w w'}(h:x.Ik base w)(hb:adN w w'):x.Ik base w':=λq a=>⟨au (h q a).1 hb,(h q a).2⟩
structure BS where
 m:cz
 dn:Nat->Nat
 dN:Nat->Nat->Int
 dH:Nat->Nat->Bool
 bs:List fH
 no:Nat
 fl:Bool
 ah:Int
def KT (l:List fH)(i q:Nat):List Nat:=match l[i]? with
 |some x=>x.T q
 |none=>[]
def mU (l:List fH)(i:Nat):ByteArray:=match l[i]? with
 |some x=>x.nm
 |none=>⟨#[]⟩
def JI {l}{i}(h:i<l.length)(q):KT l i q=l[i].T q:=by unfold KT;rw[ZT h]
def M4 {l}{i}(h:i<l.length):mU l i=l[i].nm:=by unfold mU;rw[ZT h]
def BS.D (s:BS):BD:=⟨s.m.n,s.m.N,s.m.r,s.m.R,s.dn,s.dN,s.dH,s.bs.length,λi q=>(KT s.bs i q).length,λi q j=>(((KT s.bs i q)[j]?.getD 0:Nat):Int)⟩
structure BS.ok (s:BS):Prop where
 M8:s.m.ok
 d:s.D.ok
 many:s.bs.length<=12
 small:∀x∈s.bs,x.small
 no:s.no<=1000000000
 ah:In64 s.ah/\(s.fl=true->0<=s.ah)
def iB (s:BS)(k j:Nat):Value:=if j%2=0 then .int .i64 (s.dN k (j/2))else .bool (s.dH k (j/2))
def rO (s:BS)(k:Nat):List Value:=(List.range (s.dn k*2)).map (iB s k)
def Q9 (s:BS)(vc vr vb vo:Value)(d:Nat->Value):Array Value:= #[vc,vr,.int .i64 s.m.p,d 0,d 1,d 2,vb,vo,.bool s.fl,.int .i64 s.ah]
structure PS (w:World)(base bb:Nat)(s:BS)(vc vr vb vo:Value)(d:Nat->Value)(ys:List Value)(K:Nat->Nat):Prop where
 blk:w.heap[bb]? =some (.cells (Q9 s vc vr vb vo d) 95 (0,0))
 dA:w.ownsRow base 81 3 vc s.m.n (oq s.m)
 res:w.ownsRow base 3 1 vr s.m.r (vk s.m)
 dC:∀k,k<3->w.ownsRow base 75 2 (d k) (s.dn k) (rO s k)
 boxes:w.ownsRow base 98 5 vb s.bs.length (aR s.bs)
 rows:∀x∈s.bs,x.Ik base w
 ops:w.ownsRow base 156 4 vo s.no ys
 tb:K bb=1
 tc:∀b,vc.ownBlock=some b->K b=2
 tr:∀b,vr.ownBlock=some b->K b=2
 tx:∀b,vb.ownBlock=some b->K b=2
 tl:∀x∈s.bs,∀q,q<4->∀b,(x.sl q).ownBlock=some b->K b=2
 td:∀k,k<3->∀b,(d k).ownBlock=some b->K b=4+k
 tq:∀b,vo.ownBlock=some b->K b=8
 tk:∀b,K b≠0->base<=b/\b<w.heap.size
 ok:s.ok
def aJ {w w':World}{base}{e}{size}{v}{n}{xs}(h:w.ownsRow base e size v n xs)(hb:∀b,v.ownBlock=some b->w'.heap[b]? =w.heap[b]?):w'.ownsRow base e size v n xs:=by
 refine⟨h.1,?_⟩;rcases h.2 with h|⟨g,cap,cur,rfl,c,a,d⟩
 .exact .inl h
 .exact .inr ⟨g,cap,cur,rfl,c,(hb g rfl).trans a,d⟩
section
variable {w w':World}{base bb:Nat}{s:BS}{vc vr vb vo:Value}{d:Nat->Value}{ys:List Value}{K:Nat->Nat}
def PS.keep (h:PS w base bb s vc vr vb vo d ys K)(hs:w.heap.size<=w'.heap.size)(g:∀b,b<w.heap.size->K b≠0->w'.heap[b]? =w.heap[b]?):PS w' base bb s vc vr vb vo d ys K:=by
 have a:∀{b t},K b=t->t≠0->w'.heap[b]? =w.heap[b]?:=fun{b t} e i=>g b (h.tk b (by omega)).2 (by omega)
 exact⟨(a h.tb (by omega)).trans h.blk,aJ h.dA λb hb=>a (h.tc b hb) (by omega),aJ h.res λb hb=>a (h.tr b hb) (by omega),
  λk c=>aJ (h.dC k c) λb hb=>a (h.td k c b hb) (by omega),aJ h.boxes λb hb=>a (h.tx b hb) (by omega),
  λx hx q f=>⟨aJ (h.rows x hx q f).1 λb hb=>a (h.tl x hx q f b hb) (by omega),(h.rows x hx q f).2⟩,aJ h.ops λb hb=>a (h.tq b hb) (by omega),
  h.tb,h.tc,h.tr,h.tx,h.tl,h.td,h.tq,λb hb=>⟨(h.tk b hb).1,ZO (h.tk b hb).2 hs⟩,h.ok⟩
def PS.below (h:PS w base bb s vc vr vb vo d ys K)(hb:adN w w'):PS w' base bb s vc vr vb vo d ys K:=h.keep hb.size λb hl _=>hb.block b hl
def PS.lt (h:PS w base bb s vc vr vb vo d ys K):bb<w.heap.size:=(ZK.1 h.blk).1
def PS.left (h:PS w base bb s vc vr vb vo d ys K):base<=bb:=(h.tk bb (by rw[h.tb];omega)).1
def PS.cell (h:PS w base bb s vc vr vb vo d ys K)(j):w.cell? ⟨bb,j,none⟩=(Q9 s vc vr vb vo d)[j]?:=(Bz h.blk).1 j
def PS.thaw (h:PS w base bb s vc vr vb vo d ys K)(j):w.frozen? ⟨bb,j,none⟩=false:=(Bz h.blk).2 j
end
def LB (w:World)(b:Nat):Prop:=∃xs e,w.heap[b]? =some (.cells xs e)
def JN (w):tX w (LB w):=λ_ h=>h
def QN {w}{b}(h:LB w b):CB w b:=let ⟨xs,e,h⟩:=h;⟨xs,e,_,h⟩
def dV {w}{base ty c}{v}{n}{vs}(h:w.ownsRow base ty c v n vs):∃ao cap,v=.slice ao n cap/\n<=cap/\cap<=maxLen/\(0<n->∃g,ao=some ⟨g,0,none⟩/\g<w.heap.size/\base<=g/\fG w g 0 vs)/\∀x,ao=some x->LB w x.block:=by
 rcases h.2 with⟨rfl,i⟩|⟨g,cap,cur,rfl,f,b,e,hc,hs,d⟩
 .rw[i];exact⟨none,0,rfl,ZL _,by unfold maxLen;omega,λh=>absurd h (aby _),λx hx=>by cases hx⟩
 .refine⟨_,cap,rfl,e,hc,λ_=>⟨g,rfl,(ZK.1 b).1,f,λj u a=>?_⟩,λx hx=>by cases hx;exact⟨_,_,b⟩⟩
  rw[Z8,(blk b).1 j];rw[<-d,Z5]at a;split at a
  .simpa using a
  .cases a
def lC {w}{base ty b}{v}{n}{vs}{cells}(h:w.ownsRow base ty b v n vs)(a:n<=1000000)(hc:∀g,fG w g 0 vs->cells g 0 w):bZ w (LB w) v n cells:=by
 obtain⟨ao,cap,rfl,i,j,f,d⟩:=dV h;exact⟨ao,cap,rfl,i,a,λa=>let ⟨g,e,_,_,c⟩:=f a;⟨g,0,e,hc g c⟩,λx hx=>.inl (d x hx)⟩
section
variable {w w':World}{base bb:Nat}{s:BS}{vc vr vb vo:Value}{d:Nat->Value}{ys:List Value}{K:Nat->Nat}
def vP {w}{m}{g}(h:fG w g 0 (oq m)){i}(b:i<m.n):w.cell? ⟨g,0+i*3,none⟩=some (.int .i64 (m.S i))/\w.cell? ⟨g,0+i*3+1,none⟩=some (.int .i64 (m.N i))/\w.cell? ⟨g,0+i*3+2,none⟩=some (.int .i64 (m.C i)):=by
 have key:∀j,j<m.n*3->w.cell? ⟨g,0+j,none⟩=some (bW m.S m.N m.C j):=λj a=>h j _ (by simp[oq,a])
 refine⟨?_,?_,?_⟩
 .rw[key (i*3) (by omega)];unfold bW;rw[if_pos (by omega),show i*3/3=i by omega]
 .rw[Nat.add_assoc,key (i*3+1) (by omega)];unfold bW;rw[if_neg (by omega),if_pos (by omega),show(i*3+1)/3=i by omega]
 .rw[Nat.add_assoc,key (i*3+2) (by omega)];unfold bW;rw[if_neg (by omega),if_neg (by omega),show(i*3+2)/3=i by omega]
def yN {w}{s}{k g}(h:fG w g 0 (rO s k)){i}(b:i<s.dn k):w.cell? ⟨g,0+2*i,none⟩=some (.int .i64 (s.dN k i))/\w.cell? ⟨g,0+2*i+1,none⟩=some (.bool (s.dH k i)):=by
 have key:∀j,j<s.dn k*2->w.cell? ⟨g,0+j,none⟩=some (iB s k j):=λj a=>h j _ (by simp[rO,a])
 refine⟨?_,?_⟩
 .rw[key (2*i) (by omega)];unfold iB;rw[if_pos (by omega),show 2*i/2=i by omega]
 .rw[Nat.add_assoc,key (2*i+1) (by omega)];unfold iB;rw[if_neg (by omega),show(2*i+1)/2=i by omega]
def Jk {w}{l}{g}(h:fG w g 0 (aR l)){i}(b:i<l.length):w.cell? ⟨g,0+5*i,none⟩=some (.string l[i].nm)/\∀q,q<4->w.cell? ⟨g,0+5*i+1+q,none⟩=some (l[i].sl q):=by
 have key:∀j,j<5->∀u,l[i].cells[j]? =some u->w.cell? ⟨g,0+(i*5+j),none⟩=some u:=λj a u hu=>h _ u (by rw[DD b a];exact hu)
 refine⟨?_,λq c=>?_⟩
 .have:=key 0 (by omega) _ rfl
  rw[show 0+5*i=0+(i*5+0) by omega];exact this
 .rw[show 0+5*i+1+q=0+(i*5+(q+1)) by omega]
  obtain rfl|rfl|rfl|rfl:q=0\/q=1\/q=2\/q=3:=by omega
  .exact key 1 (by omega) _ rfl
  .exact key 2 (by omega) _ rfl
  .exact key 3 (by omega) _ rfl
  .exact key 4 (by omega) _ rfl
def C5 {w}{l}{g}(h:fG w g 0 (aT l)){j}(a:j<l.length):w.cell? ⟨g,0+j,none⟩=some (.int .i64 ((l[j]?.getD 0:Nat):Int)):=h j _ (by simp[aT,a])
def PS.Sf (h:PS w base bb s vc vr vb vo d ys K){i q}(a:i<s.bs.length)(b:q<4):bZ w (LB w) (s.bs[i].sl q) (s.D.oN i q) (Rk s.D i q):=by
 have hx:=(h.rows _ (acY a) q b).1;have f:=((h.ok.small _ (acY a)).2 q b).1;have e:s.D.oN i q=(s.bs[i].T q).length:=by show(KT s.bs i q).length=_;rw[JI a]
 rw[e];refine lC hx (by omega) λg k j c=>?_
 rw[e]at c;show _=some (Value.int .i64 (((KT s.bs i q)[j]?.getD 0:Nat):Int))
 rw[JI a];exact C5 k c
def PS.DC (h:PS w base bb s vc vr vb vo d ys K):bZ w (LB w) vb s.D.bn (DC s.D (LB w) (mU s.bs)):=by
 refine lC h.boxes (by have:=h.ok.many;show s.bs.length<=_;omega) λg c=>⟨λi a=>?_,λi a=>?_⟩
 .obtain⟨f,e⟩:=Jk c a
  exact⟨⟨_,f⟩,λq b=>⟨_,e q b,h.Sf a b⟩⟩
 .rw[M4 a]
  exact(Jk c a).1
def PS.Jm (h:PS w base bb s vc vr vb vo d ys K):bM w (LB w) bb s.D:=by
 have qF:=h.ok.d.qF;have a:=h.ok.d.res;refine⟨⟨vc,h.cell 0,lC h.dA (by show s.m.n<=_;have:s.m.n<=24:=qF;omega) λg c i b=>?_⟩,⟨vr,h.cell 1,lC h.res (by show s.m.r<=_;have:s.m.r<=24:=a;omega) λg c i b=>c i _ (by show(vk s.m)[i]? =_;have:i<s.m.r:=b;simp[vk,this];rfl)⟩,⟨_,h.cell 2⟩,λk e=>⟨d k,?_,lC (h.dC k e) (by have:=(h.ok.d.dC k e).1;show s.dn k<=_;have:s.dn k<=16:=this;omega) λg c i b=>yN c b⟩,⟨vb,h.cell 6,h.DC.mono (λ_ h=>h) λ_ _ f=>f.1⟩⟩
 .have:=(vP c b).2.1
  rw[Nat.mul_comm 3 i];exact this
 .rw[h.cell]
  obtain rfl|rfl|rfl:k=0\/k=1\/k=2:=by omega
  all_goals rfl
def PS.Si (h:PS w base bb s vc vr vb vo d ys K):kZ w (λ_=>True) bb s.D s.m.S s.m.C s.m.p:=by
 refine⟨h.Jm.same (λ_ _=>trivial) λ_ _ h=>h,⟨vc,h.cell 0,?_⟩,h.cell 2⟩;obtain⟨ao,cap,rfl,f,_,e,_⟩:=dV h.dA;refine⟨ao,cap,rfl,f,h.ok.d.qF,λa=>?_⟩;obtain⟨g,rfl,_,_,c⟩:=e a;exact⟨g,0,rfl,λi b=>vP c b⟩
end
def Jj {w}{base base2}{v}{l}(h:w.ownsRow base 98 5 v l.length (aR l))(d:NZ v)(z:∀x∈l,x.Ik base2 w)(hs:∀x∈l,x.small)(hl:l.length<=13):je w (CB w) v l.length 10000:=by
 obtain⟨ao,cap,rfl,J,O,I,H⟩:=dV h;refine⟨ao,cap,rfl,J,by omega,by omega,λf=>?_,λx hx=>⟨QN (H x hx),λp=>by subst hx;subst p;exact d⟩⟩;obtain⟨g,e,_,_,B⟩:=I f;refine⟨g,0,e,λi m=>?_⟩;obtain⟨b1,b2⟩:=Jk B m;have hx:=z _ (acY m);have a:=hs _ (acY m);refine⟨l[i].nm,l[i].A,λq=>(l[i].T q).length,l[i].C,λq j=>(((l[i].T q)[j]?.getD 0:Nat):Int),by rw[Nat.mul_comm i 5];exact b1,λq b=>by rw[Nat.mul_comm i 5];exact b2 q b,λq b=>?_,λq b j k=>?_,?_⟩
 .have o:=hx q b
  unfold fH.sl at o;obtain⟨K,t,r,k1,L,y,u⟩:=dV o.1;cases r;refine⟨_,_,rfl,k1,by have:=(a.2 q b).1;show(l[i].T q).length<=_;omega,λf=>?_,λx hx=>⟨QN (u x hx),λp=>?_⟩⟩
  .obtain⟨g',r,_,_,n⟩:=y f
   exact⟨g',0,r,λj k=>C5 n k⟩
  .have s:=o.2
   rw[hx,p]at s;exact s
 .have c:j< (l[i].T q).length:=k
  have N:=(a.2 q b).2 _ (acY c);show _<=(((l[i].T q)[j]?.getD 0:Nat):Int)/\(((l[i].T q)[j]?.getD 0:Nat):Int)<_
  rw[ZT c];simp only[ac9];omega
 .have M:=a.1
  have G:=(a.2 0 (by omega)).1;have F:=(a.2 1 (by omega)).1;have E:=(a.2 2 (by omega)).1;have D:=(a.2 3 (by omega)).1;show 22*((l[i].T 0).length+(l[i].T 1).length+(l[i].T 2).length+(l[i].T 3).length)+10*l[i].nm.size<=10000
  omega
end Z
