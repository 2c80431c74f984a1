/- Part 35 of the proof. -/
import Derived.Test.YtfpaamhppamcoaaGreatDoorSp34
set_option linter.all false
set_option maxRecDepth 100000
set_option maxHeartbeats 60000000
namespace Go.Proofs.YtfpaamhppamcoaaGreatDoor
open Go.Proofs.Tryz
namespace Z
open Go.RowKit
attribute [local go_sem ↓] Go.wp_at_zero Go.wp_at_succ
attribute [local go_sem] After.cell After.frozen After.const
structure kZ (w:World)(Z:Nat->Prop)(B:Nat)(D:BD)(S C:Nat->Int)(pol:Int):Prop where
 ow:bM w Z B D
 cpu:∃v,w.cell? ⟨B,0,none⟩=some v/\dO w v D.n S D.N C
 policy:w.cell? ⟨B,2,none⟩=some (.int .i64 pol)
theorem kZ.below {w w'}{Z}{B}{D}{S C}{pol}(h:kZ w Z B D S C pol)(hb:Below w.heap.size w w'):kZ w' Z B D S C pol:=by
 obtain⟨v,b,a⟩:=h.cpu;exact⟨bM.below h.ow hb,⟨v,keeps hb b,a.below hb⟩,keeps hb h.policy⟩
abbrev SX (w:World)(B:Nat)(vc:Value)(cs:Array Value)(w':World):Prop:=w'.cell? ⟨B,0,none⟩=some vc/\(∀j,w'.cell? ⟨w.heap.size,j,none⟩=cs[j]?)/\Below w.heap.size w w'/\w.heap.size+2<=w'.heap.size
theorem SX_step {w w1 w2}{B}{vc}{cs}(h:SX w B vc cs w1)(a:B<w.heap.size)(hb:Below (w.heap.size+2) w1 w2):SX w B vc cs w2:=
 ⟨(hb.cell (p:=⟨B,0,none⟩) (by show B<_;omega)).trans h.1,λj=>(hb.cell (p:=⟨w.heap.size,j,none⟩) (by show w.heap.size<_;omega)).trans (h.2.1 j),h.2.2.1.trans (hb.mono (by omega)),ZP h.2.2.2 hb.size⟩
theorem SX_berth {w w1}{B}{vc}{cs}{D}(h:SX w B vc cs w1)(hb:aW w B D):aW w1 B D:=aW.below hb h.2.2.1
theorem SX_cpu {w w1}{B}{vc}{cs}{n}{S N C}(h:SX w B vc cs w1)(hb:dO w vc n S N C):dO w1 vc n S N C:=dO.below hb h.2.2.1
theorem frN_nodup (D)(r):(gq D r).Nodup:=by
 unfold gq kept dL;refine List.Pairwise.filter _ ?_;split
 .unfold bS
  exact List.Pairwise.filter _ List.nodup_range
 .exact List.Pairwise.filter _ List.nodup_range
theorem chCPUsB_any (D)(k m)(S C)(vc f)(w)(c:D.ok)(hm:m<16)(hc:dO w vc D.n S D.N C)(hl:Ints w f (gq D 0).length (λj=>(((gq D 0)[j]?.getD 0:Nat):Int)))(d:k<=((gq D 0).filter (bE m (bG D 0))).length):
 Calls (patch ae prog) 137 #[vc,f,.int .u64 m,.int .i64 k] w λe w'=>∃b a tk,e=.returned (.slice b tk.length a)/\w'.ownsRow w.heap.size 3 1 (.slice b tk.length a) tk.length (aT tk)/\tk.length=k/\tk.Pairwise (· < ·)/\(∀i∈tk,i∈gq D 0/\bE m (bG D 0) i=true)/\Below w.heap.size w w'/\NZ (.slice b tk.length a):=by
 have e:bG D 0=D.N:=by funext i;unfold bG;rw[if_pos rfl]
 have hlen:=mi c (r:=0) (by omega);rw[e]at d⊢;refine(chCPUs_any D.n k m S D.N C vc f (gq D 0) w hm (by have:=aai (bE m D.N) (gq D 0);omega) hc c.nodes hl (λi h=>by simpa using frN_in D 0 i h) (frN_nodup D 0) hlen d).mono ?_;rintro e w' ⟨v,tk,rfl,g,l⟩;obtain⟨b,a,rfl⟩:=aj g;exact⟨b,a,tk,rfl,g,l⟩
theorem bZ.nodes {w}{Z}{v}{D}{k}(h:bZ w Z v (D.dn k) (devC D k)):NodeAt w v (D.dn k) 2 0 (D.dN k):=by
 obtain⟨ao,cap,e,j,g,f,_⟩:=h;refine⟨ao,cap,e,j,g,λa=>?_⟩;obtain⟨b,o,l,d⟩:=f a;exact⟨b,o,l,λi c=>by have:=(d i c).1;rw[Nat.add_zero,Nat.mul_comm i 2];exact this⟩
theorem takeN_sorted {p}{k}{l}(h:l.Pairwise (· < ·)):(takeN p k l).Pairwise (· < ·):=by
 unfold takeN;exact(h.filter p).sublist (List.take_sublist _ _)
theorem takeN_mem {p}{k}{l}{i}(h:i∈takeN p k l):i∈l/\p i=true:=by
 unfold takeN at h;exact List.mem_filter.1 (List.mem_of_mem_take h)
theorem frN_sorted (D)(r):(gq D r).Pairwise (· < ·):=by
 unfold gq kept dL;refine List.Pairwise.filter _ ?_;split
 .unfold bS
  exact List.Pairwise.filter _ List.pairwise_lt_range
 .exact List.Pairwise.filter _ List.pairwise_lt_range
def Given (D:BD)(m r k:Nat)(tk:List Nat):Prop:=tk.length=k/\tk.Pairwise (· < ·)/\∀i∈tk,i∈gq D r/\bE m (bG D r) i=true
def mJ (D:BD)(m r k:Nat)(tk:List Nat)(v:Value):Prop:=Given D m r k tk/\NZ v
theorem jX (D)(r k m)(v f)(w)(c:D.ok)(p:0<r/\r<4)(hm:m<16)(o:NodeAt w v (D.dn (r-1)) 2 0 (D.dN (r-1)))(hl:Ints w f (gq D r).length (λj=>(((gq D r)[j]?.getD 0:Nat):Int)))(q:k<=((gq D r).filter (bE m (bG D r))).length):
 Calls (patch ae prog) 138 #[v,f,.int .u64 m,.int .i64 k] w λe w'=>∃b a tk,e=.returned (.slice b k a)/\w'.ownsRow w.heap.size 3 1 (.slice b k a) tk.length (aT tk)/\mJ D m r k tk (.slice b k a)/\Below w.heap.size w w':=by
 have e:bG D r=D.dN (r-1):=by funext i;unfold bG;rw[if_neg (by omega)]
 have hlen:=mi c (r:=r) p.2;have hle:((gq D r).filter (bE m (bG D r))).length<=(gq D r).length:=aai _ _;refine(chDevices_any (D.dn (r-1)) k m (D.dN (r-1)) v f (gq D r) w hm (by omega) o (c.dC (r-1) (by omega)).2 hl (λi h=>by have:=frN_in D r i h;rw[if_neg (by omega)]at this;exact this) (by omega)).mono ?_;rintro t w' ⟨v',rfl,l,s,n⟩
 have d:(takeN (bE m (D.dN (r-1))) k (gq D r)).length=k:=by
  unfold takeN;rw[List.length_take,<-e];omega
 obtain⟨b,a,g⟩:=aj l;subst g;refine⟨b,a,takeN (bE m (D.dN (r-1))) k (gq D r),by rw[d],?_,⟨⟨d,takeN_sorted (frN_sorted D r),λi h=>?_⟩,by rw[d]at n;exact n⟩,s⟩
 .rw[d]at l
  rw[d];exact l
 .rw[e]
  exact takeN_mem h
def WithinPost (w:World)(D:BD)(m:Nat)(c:Nat->Nat)(e:Ending)(w':World):Prop:=∃(A:Nat->Option Addr) (a:Nat->Nat) (T:Nat->List Nat),e=.returned (.agg #[.slice (A 0) (c 0) (a 0),.slice (A 1) (c 1) (a 1),.slice (A 2) (c 2) (a 2),.slice (A 3) (c 3) (a 3)])/\(∀q,q<4->w'.ownsRow w.heap.size 3 1 (.slice (A q) (c q) (a q)) (T q).length (aT (T q))/\mJ D m q (c q) (T q) (.slice (A q) (c q) (a q)))/\Below w.heap.size w w'
theorem row_ne {W:World}{base n tb}{v}{xs}(h:W.ownsRow base 3 1 v n xs)(hb:tb<base):v.ownBlock≠some tb:=λe=>by have:=(h.lt tb e).1;omega
theorem jy {X b W2}{base n tb r}{v x}{xs}(h:X.ownsRow base 3 1 v n xs)(d:Below X.heap.size X b)(c:Below b.heap.size b W2)(a:v.ownBlock≠some tb):(W2.setCell ⟨tb,r,none⟩ x).ownsRow base 3 1 v n xs:=ownsRow_setCell_other (au (au h d) c) a x
theorem eQ {X:World}{base n b}{v x0 x1 x2 x3}{xs}(h:X.ownsRow base 3 1 v n xs)(hb:b<base):((((X.setCell ⟨b,0,none⟩ x0).setCell ⟨b,1,none⟩ x1).setCell ⟨b,2,none⟩ x2).setCell ⟨b,3,none⟩ x3).ownsRow base 3 1 v n xs:=aS (aS (aS (aS h hb) hb) hb) hb
def restW:Code->Code
 |.seq _ (.seq _ r)=>r
 |c=>c
theorem grantK0 (a c b)(W):Sem.run (patch ae prog) (Instr.index 34 (.agg #[a,c,b]) (.int .i64 0)) W=.ok a W:=by kernel_rfl
theorem grantK1 (c a b)(W):Sem.run (patch ae prog) (Instr.index 34 (.agg #[c,a,b]) (.int .i64 1)) W=.ok a W:=by kernel_rfl
theorem grantK2 (c b a)(W):Sem.run (patch ae prog) (Instr.index 34 (.agg #[c,b,a]) (.int .i64 2)) W=.ok a W:=by kernel_rfl
theorem nk (w U)(B m tb)(D)(S C)(pol)(c)(vc)(s)(d)(tk)(x2 t11 t12 t13 t14 t15 t16 t17 t18 t19 t20 t21 t22)(hb:kZ w (λ_=>True) B D S C pol)(κ:D.ok)(hm:m<16)(hc:∀i,i<4->c i<=((gq D i).filter (bE m (bG D i))).length)
 (X:SX w B vc #[.int .i64 (c 0),.int .i64 (c 1),.int .i64 (c 2),.int .i64 (c 3)] U)(hg:U.heap[tb]? =some (.cells #[.slice s (c 0) d,.slice none 0 0,.slice none 0 0,.slice none 0 0] 41 (0,0)))(φ:w.heap.size+2<=tb)(hr:U.heap[w.heap.size+1]? =some (.cells #[.slice none 0 0,.slice none 0 0,.slice none 0 0,.slice none 0 0] 41 (0,0)))(ρ:mJ D m 0 (c 0) tk (.slice s (c 0) d))(ho:U.ownsRow (w.heap.size+2) 3 1 (.slice s (c 0) d) tk.length (aT tk))(ο:∀a,s=some a->a.block≠tb):
 (restW ((Func.body f85).getD .skip)).wp (patch ae prog) (bodyPost (patch ae prog) f85 (WithinPost w D m c)) ⟨#[.pointer (some ⟨B,0,none⟩),.int .u64 m,x2,undef,undef,.pointer (some ⟨w.heap.size,0,none⟩),.pointer (some ⟨w.heap.size+1,0,none⟩),.pointer (some ⟨tb,0,none⟩),undef,undef,undef,t11,t12,t13,t14,t15,t16,t17,t18,t19,t20,t21,t22,undef,undef,undef,undef,undef,undef,undef,undef,undef,undef,undef,undef,undef,undef,undef,undef,undef,undef,undef,undef,undef,undef,undef,undef,undef],[]⟩ U:=by
 have E:Hid (kZ w (λ_=>True) B D S C pol/\D.ok):=⟨hb,κ⟩;obtain⟨d0,e0,l0⟩:=hb.ow.dC 0 (by omega);obtain⟨d1,e1,l1⟩:=hb.ow.dC 1 (by omega);obtain⟨d2,L,l2⟩:=hb.ow.dC 2 (by omega);have q3:=keeps X.2.2.1 e0;have q4:=keeps X.2.2.1 e1;have q5:=keeps X.2.2.1 L;have υ:Hid (∀U,Below w.heap.size w U->bZ U (λ_=>True) d0 (D.dn 0) (devC D 0)):=λU h=>by obtain⟨v',g1,g2⟩:=(aW.below hb.ow h).dC 0 (by omega);rw[keeps h e0]at g1;cases g1;exact g2
 have τ:Hid (∀U,Below w.heap.size w U->bZ U (λ_=>True) d1 (D.dn 1) (devC D 1)):=λU h=>by obtain⟨v',g1,g2⟩:=(aW.below hb.ow h).dC 1 (by omega);rw[keeps h e1]at g1;cases g1;exact g2
 have σ:Hid (∀U,Below w.heap.size w U->bZ U (λ_=>True) d2 (D.dn 2) (devC D 2)):=λU h=>by obtain⟨v',g1,g2⟩:=(aW.below hb.ow h).dC 2 (by omega);rw[keeps h L]at g1;cases g1;exact g2
 have V:=av hc;have Y:Func.results f85= #[.cell 6 41]:=by kernel_rfl
 generalize hQ:bodyPost (patch ae prog) f85 (WithinPost w D m c)=Q;simp only[restW,f85,Option.getD_some];have G:Hid (Below w.heap.size w U/\U.heap[tb]? =some (.cells #[.slice s (c 0) d,.slice none 0 0,.slice none 0 0,.slice none 0 0] 41 (0,0))/\(∀j,U.cell? ⟨w.heap.size,j,none⟩= #[.int .i64 (c 0),.int .i64 (c 1),.int .i64 (c 2),.int .i64 (c 3)][j]?)/\w.heap.size<U.heap.size/\U.heap[w.heap.size+1]? =some (.cells #[.slice none 0 0,.slice none 0 0,.slice none 0 0,.slice none 0 0] 41 (0,0))):=⟨X.2.2.1,hg,X.2.1,by have:=X.2.2.2;omega,hr⟩;have i0:=grantK0 d0 d1 d2;have i1:=grantK1 d0 d1 d2;have i2:=grantK2 d0 d1 d2;go_wp2_with fail;refine wp_loop_rounds 4 ?_;rw[aal];go_wp2_with fail;refine(lK B 1 D _ (by omega) (aW.below E.out.1.ow G.out.1) E.out.2 (ZP (ku E.out.2 (by omega)) (by decide))).mono ?_;rintro e w1 ⟨v1,rfl,R,J⟩;have A:=av (aaa (dh R) (aaa (ai G.out.1 J) (aaa ((J.block tb (ZK.1 G.out.2.1).1).trans G.out.2.1) (aaa (λj=>(J.cell (p:=⟨w.heap.size,j,none⟩) G.out.2.2.2.1).trans (G.out.2.2.1 j)) J))));have s1:=A.out.2.2.2.1 1;go_wp2_with fail;refine(jX D 1 (c 1) m d0 v1 w1 E.out.2 (by omega) hm (bZ.nodes (υ.out w1 A.out.2.1)) A.out.1 (V.out 1 (by omega))).mono ?_;rintro e u1 ⟨o,k,ι,rfl,ξ,γ,ζ⟩;have T:=av (aaa ξ (aaa γ ζ));have K1:=av ((ζ.block tb (ZK.1 A.out.2.2.1).1).trans A.out.2.2.1);obtain⟨b1,ω⟩:=blk K1.out;go_wp2_with fail
 have H1:Hid (Below w.heap.size w (u1.setCell ⟨tb,1,none⟩ (.slice o (c 1) k))/\(u1.setCell ⟨tb,1,none⟩ (.slice o (c 1) k)).heap[tb]? =some (.cells #[.slice s (c 0) d,.slice o (c 1) k,.slice none 0 0,.slice none 0 0] 41 (0,0))/\(∀j,(u1.setCell ⟨tb,1,none⟩ (.slice o (c 1) k)).cell? ⟨w.heap.size,j,none⟩= #[.int .i64 (c 0),.int .i64 (c 1),.int .i64 (c 2),.int .i64 (c 3)][j]?)/\w.heap.size< (u1.setCell ⟨tb,1,none⟩ (.slice o (c 1) k)).heap.size/\(u1.setCell ⟨tb,1,none⟩ (.slice o (c 1) k)).heap[w.heap.size+1]? =some (.cells #[.slice none 0 0,.slice none 0 0,.slice none 0 0,.slice none 0 0] 41 (0,0))):=by
  have bb:=ai A.out.2.1 T.out.2.2;refine⟨bb.setCell (by show w.heap.size<=tb;omega) _,?_,λj=>?_,?_,?_⟩
  .have:=aD (i:=1) (.slice o (c 1) k) K1.out
   simpa only[ZN,ZS,ZR] using this
  .refine Eq.trans ?_ (A.out.2.2.2.1 j)
   rw[World.cell?_setCell_other _ _ _ _ (by intro e;have L:=congrArg Addr.block e;simp only at L;omega)];exact T.out.2.2.cell (p:=⟨w.heap.size,j,none⟩) (by have:=G.out.2.2.2.1;have:=A.out.2.2.2.2.size;show w.heap.size<_;omega)
  .have:=bb.size;have:=G.out.2.2.2.1;have:=A.out.2.2.2.2.size;have:=T.out.2.2.size;simp;omega
  .have hl:=(ZK.1 G.out.2.2.2.2).1
   have Z:=A.out.2.2.2.2.size;exact(aad _ _ _ _ (by show w.heap.size+1≠tb;omega)).trans ((T.out.2.2.block _ (by omega)).trans ((A.out.2.2.2.2.block _ hl).trans G.out.2.2.2.2))
 rw[aal];go_wp2_with fail;refine(lK B 2 D _ (by omega) (aW.below E.out.1.ow H1.out.1) E.out.2 (ZP (ku E.out.2 (by omega)) (by decide))).mono ?_;rintro e w2 ⟨v2,rfl,P,I⟩;have z:=av (aaa (dh P) (aaa (ai H1.out.1 I) (aaa ((I.block tb (ZK.1 H1.out.2.1).1).trans H1.out.2.1) (aaa (λj=>(I.cell (p:=⟨w.heap.size,j,none⟩) H1.out.2.2.2.1).trans (H1.out.2.2.1 j)) I))));have s2:=z.out.2.2.2.1 2;go_wp2_with fail;refine(jX D 2 (c 2) m d1 v2 w2 E.out.2 (by omega) hm (bZ.nodes (τ.out w2 z.out.2.1)) z.out.1 (V.out 2 (by omega))).mono ?_;rintro e u2 ⟨n,g,θ,rfl,ν,β,ε⟩;have M:=av (aaa ν (aaa β ε));have K2:=av ((ε.block tb (ZK.1 z.out.2.2.1).1).trans z.out.2.2.1);obtain⟨b2,ψ⟩:=blk K2.out;go_wp2_with fail
 have F:Hid (Below w.heap.size w (u2.setCell ⟨tb,2,none⟩ (.slice n (c 2) g))/\(u2.setCell ⟨tb,2,none⟩ (.slice n (c 2) g)).heap[tb]? =some (.cells #[.slice s (c 0) d,.slice o (c 1) k,.slice n (c 2) g,.slice none 0 0] 41 (0,0))/\(∀j,(u2.setCell ⟨tb,2,none⟩ (.slice n (c 2) g)).cell? ⟨w.heap.size,j,none⟩= #[.int .i64 (c 0),.int .i64 (c 1),.int .i64 (c 2),.int .i64 (c 3)][j]?)/\w.heap.size< (u2.setCell ⟨tb,2,none⟩ (.slice n (c 2) g)).heap.size/\(u2.setCell ⟨tb,2,none⟩ (.slice n (c 2) g)).heap[w.heap.size+1]? =some (.cells #[.slice none 0 0,.slice none 0 0,.slice none 0 0,.slice none 0 0] 41 (0,0))):=by
  have bb:=ai z.out.2.1 M.out.2.2;refine⟨bb.setCell (by show w.heap.size<=tb;omega) _,?_,λj=>?_,?_,?_⟩
  .have:=aD (i:=2) (.slice n (c 2) g) K2.out
   simpa only[ZN,ZS,ZR] using this
  .refine Eq.trans ?_ (z.out.2.2.2.1 j)
   rw[World.cell?_setCell_other _ _ _ _ (by intro e;have L:=congrArg Addr.block e;simp only at L;omega)];exact M.out.2.2.cell (p:=⟨w.heap.size,j,none⟩) (by have:=H1.out.2.2.2.1;have:=z.out.2.2.2.2.size;show w.heap.size<_;omega)
  .have:=bb.size;have:=H1.out.2.2.2.1;have:=z.out.2.2.2.2.size;have:=M.out.2.2.size;simp;omega
  .have hl:=(ZK.1 H1.out.2.2.2.2).1
   have Z:=z.out.2.2.2.2.size;exact(aad _ _ _ _ (by show w.heap.size+1≠tb;omega)).trans ((M.out.2.2.block _ (by omega)).trans ((z.out.2.2.2.2.block _ hl).trans H1.out.2.2.2.2))
 rw[aal];go_wp2_with fail;refine(lK B 3 D _ (by omega) (aW.below E.out.1.ow F.out.1) E.out.2 (ZP (ku E.out.2 (by omega)) (by decide))).mono ?_;rintro e w3 ⟨v3,rfl,O,H⟩;have t:=av (aaa (dh O) (aaa (ai F.out.1 H) (aaa ((H.block tb (ZK.1 F.out.2.1).1).trans F.out.2.1) (aaa (λj=>(H.cell (p:=⟨w.heap.size,j,none⟩) F.out.2.2.2.1).trans (F.out.2.2.1 j)) H))));have s3:=t.out.2.2.2.1 3;go_wp2_with fail;refine(jX D 3 (c 3) m d2 v3 w3 E.out.2 (by omega) hm (bZ.nodes (σ.out w3 t.out.2.1)) t.out.1 (V.out 3 (by omega))).mono ?_;rintro e u3 ⟨l,f,η,rfl,μ,α,δ⟩;have K:=av (aaa μ (aaa α δ));have K3:=av ((δ.block tb (ZK.1 t.out.2.2.1).1).trans t.out.2.2.1);obtain⟨b3,χ⟩:=blk K3.out;go_wp2_with fail
 have H3:Hid (Below w.heap.size w (u3.setCell ⟨tb,3,none⟩ (.slice l (c 3) f))/\(u3.setCell ⟨tb,3,none⟩ (.slice l (c 3) f)).heap[tb]? =some (.cells #[.slice s (c 0) d,.slice o (c 1) k,.slice n (c 2) g,.slice l (c 3) f] 41 (0,0))/\(∀j,(u3.setCell ⟨tb,3,none⟩ (.slice l (c 3) f)).cell? ⟨w.heap.size,j,none⟩= #[.int .i64 (c 0),.int .i64 (c 1),.int .i64 (c 2),.int .i64 (c 3)][j]?)/\w.heap.size< (u3.setCell ⟨tb,3,none⟩ (.slice l (c 3) f)).heap.size/\(u3.setCell ⟨tb,3,none⟩ (.slice l (c 3) f)).heap[w.heap.size+1]? =some (.cells #[.slice none 0 0,.slice none 0 0,.slice none 0 0,.slice none 0 0] 41 (0,0))):=by
  have bb:=ai t.out.2.1 K.out.2.2;refine⟨bb.setCell (by show w.heap.size<=tb;omega) _,?_,λj=>?_,?_,?_⟩
  .have:=aD (i:=3) (.slice l (c 3) f) K3.out
   simpa only[ZN,ZS,ZR] using this
  .refine Eq.trans ?_ (t.out.2.2.2.1 j)
   rw[World.cell?_setCell_other _ _ _ _ (by intro e;have L:=congrArg Addr.block e;simp only at L;omega)];exact K.out.2.2.cell (p:=⟨w.heap.size,j,none⟩) (by have:=F.out.2.2.2.1;have:=t.out.2.2.2.2.size;show w.heap.size<_;omega)
  .have:=bb.size;have:=F.out.2.2.2.1;have:=t.out.2.2.2.2.size;have:=K.out.2.2.size;simp;omega
  .have hl:=(ZK.1 F.out.2.2.2.2).1
   have Z:=t.out.2.2.2.2.size;exact(aad _ _ _ _ (by show w.heap.size+1≠tb;omega)).trans ((K.out.2.2.block _ (by omega)).trans ((t.out.2.2.2.2.block _ hl).trans F.out.2.2.2.2))
 obtain⟨y,yf⟩:=blk H3.out.2.2.2.2;rw[aal];go_wp2_with fail;subst hQ;have z3:=aD (i:=3) (.slice l (c 3) f) (aD (i:=2) (.slice n (c 2) g) (aD (i:=1) (.slice o (c 1) k) (aD (i:=0) (.slice s (c 0) d) H3.out.2.2.2.2)));simp at z3;obtain⟨zz,_⟩:=blk z3;refine bodyPost_ret (v:=.agg #[.slice s (c 0) d,.slice o (c 1) k,.slice n (c 2) g,.slice l (c 3) f]) (by simp[results,Y,go_sem,zz]) rfl ?_;have N:∀{W:World} {cs:Array Value},W.heap[tb]? =some (.cells cs 41 (0,0))->tb+1<=W.heap.size:=λh=>(ZK.1 h).1
 have r1:=aB T.out.1 (N A.out.2.2.1);have r2:=aB M.out.1 (N z.out.2.2.1);have r3:=aB K.out.1 (N t.out.2.2.1)
 have n0:(Value.slice s (c 0) d).ownBlock≠some tb:=λe=>by
  cases s with
  |none=>cases e
  |some a=>exact ο a rfl (Option.some.inj e)
 have f0:=eQ (b:=w.heap.size+1) (x0:=.slice s (c 0) d) (x1:=.slice o (c 1) k) (x2:=.slice n (c 2) g) (x3:=.slice l (c 3) f) (jy (r:=3) (x:=.slice l (c 3) f) (jy (r:=2) (x:=.slice n (c 2) g) (jy (r:=1) (x:=.slice o (c 1) k) ho A.out.2.2.2.2 T.out.2.2 n0) z.out.2.2.2.2 M.out.2.2 n0) t.out.2.2.2.2 K.out.2.2 n0) (by omega);have f1:=eQ (b:=w.heap.size+1) (x0:=.slice s (c 0) d) (x1:=.slice o (c 1) k) (x2:=.slice n (c 2) g) (x3:=.slice l (c 3) f) (jy (r:=3) (x:=.slice l (c 3) f) (jy (r:=2) (x:=.slice n (c 2) g) (aS (b:=tb) (i:=1) (u:=.slice o (c 1) k) r1 (Z4 _)) z.out.2.2.2.2 M.out.2.2 (row_ne r1 (Z4 _))) t.out.2.2.2.2 K.out.2.2 (row_ne r1 (Z4 _))) (by omega);have f2:=eQ (b:=w.heap.size+1) (x0:=.slice s (c 0) d) (x1:=.slice o (c 1) k) (x2:=.slice n (c 2) g) (x3:=.slice l (c 3) f) (jy (r:=3) (x:=.slice l (c 3) f) (aS (b:=tb) (i:=2) (u:=.slice n (c 2) g) r2 (Z4 _)) t.out.2.2.2.2 K.out.2.2 (row_ne r2 (Z4 _))) (by omega);have f3:=eQ (b:=w.heap.size+1) (x0:=.slice s (c 0) d) (x1:=.slice o (c 1) k) (x2:=.slice n (c 2) g) (x3:=.slice l (c 3) f) (aS (b:=tb) (i:=3) (u:=.slice l (c 3) f) r3 (Z4 _)) (by omega);refine⟨λq=>match q with|0=>s|1=>o|2=>n|_=>l,λq=>match q with|0=>d|1=>k|2=>g|_=>f,λq=>match q with|0=>tk|1=>ι|2=>θ|_=>η,rfl,λq hq=>?_,?_⟩
 .obtain rfl|rfl|rfl|rfl:q=0\/q=1\/q=2\/q=3:=by omega
  .exact⟨aB f0 (by omega),ρ⟩
  .exact⟨aB f1 (by omega),T.out.2.1⟩
  .exact⟨aB f2 (by omega),M.out.2.1⟩
  .exact⟨aB f3 (by omega),K.out.2.1⟩
 .exact(((H3.out.1.setCell (by show w.heap.size<=w.heap.size+1;omega) _).setCell (by show w.heap.size<=w.heap.size+1;omega) _).setCell (by show w.heap.size<=w.heap.size+1;omega) _).setCell (by show w.heap.size<=w.heap.size+1;omega) _
abbrev SY (w:World)(B:Nat)(vc:Value)(cs:Array Value)(o:Obj)(w':World):Prop:=w'.cell? ⟨B,0,none⟩=some vc/\(∀j,w'.cell? ⟨w.heap.size,j,none⟩=cs[j]?)/\Below w.heap.size w w'/\w.heap.size+2<=w'.heap.size/\w'.heap[w.heap.size+1]? =some o
theorem SY_sx {w w'}{B}{vc}{cs}{o}(h:SY w B vc cs o w'):SX w B vc cs w':=⟨h.1,h.2.1,h.2.2.1,h.2.2.2.1⟩
theorem SY_start {w W}{B}{vc}{cs}{o}(h:SY w B vc cs o W):SY w B vc cs o W.drew:=⟨h.1,h.2.1,h.2.2.1.drew,h.2.2.2⟩
theorem SY_step {w w1 w2}{B}{vc}{cs}{o}(h:SY w B vc cs o w1)(a:B<w.heap.size)(hb:Below (w.heap.size+2) w1 w2):SY w B vc cs o w2:=by
 have g:=SX_step (SY_sx h) a hb;exact⟨g.1,g.2.1,g.2.2.1,g.2.2.2,(hb.block _ (by omega)).trans h.2.2.2.2⟩
theorem SY_call {w w1 w2}{B}{vc}{cs}{o}(h:SY w B vc cs o w1)(a:B<w.heap.size)(hb:Below w1.heap.size w1 w2):SY w B vc cs o w2:=SY_step h a (hb.mono h.2.2.2.1)
theorem SY_alloc {w w1}{a}{B}{vc}{cs}{o}(h:SY w B vc cs o w1)(b:B<w.heap.size):SY w B vc cs o (w1.alloc a):=SY_step h b ((aab _ _).alloc h.2.2.2.1 _)
theorem SY_start_alloc {w W}{a}{B}{vc}{cs}{o}(h:SY w B vc cs o W)(b:B<w.heap.size):SY w B vc cs o (W.alloc a).drew:=SY_start (SY_alloc h b)
theorem SY_realloc {w w1:World}{b c}{B}{vc}{cs}{o}(h:SY w B vc cs o (w1.alloc c))(d:B<w.heap.size)(e:w.heap.size+2<=w1.heap.size):SY w B vc cs o (w1.alloc b):=by
 refine SY_step h d ⟨rfl,rfl,rfl,by simp,λk f=>?_⟩;have a:k<w1.heap.size:=by omega
 exact(aac w1 b k a).trans (aac w1 c k a).symm
theorem SY_store {w w1}{B b}{vc v0 v1 v2 v3}{cs}{o}(h:SY w B vc cs o w1)(a:B<w.heap.size)(hb:w.heap.size+2<=b):SY w B vc cs o ((((w1.setCell ⟨b,0,none⟩ v0).setCell ⟨b,1,none⟩ v1).setCell ⟨b,2,none⟩ v2).setCell ⟨b,3,none⟩ v3):=
 SY_step h a (((((aab _ _).setCell hb _).setCell hb _).setCell hb _).setCell hb _)
theorem SY_size {w w1 w2}{B}{vc}{cs}{o}(h:SY w B vc cs o w1)(hb:Below w1.heap.size w1 w2):w.heap.size+2<=w2.heap.size:=ZP h.2.2.2.1 hb.size
theorem within_any (w)(B m)(D)(S C)(pol)(c)(hb:kZ w (λ_=>True) B D S C pol)(u:D.ok)(hm:m<16)(hc:∀i,i<4->c i<=((gq D i).filter (bE m (bG D i))).length):
 Calls (patch ae prog) 85 #[ptr B,.int .u64 m,.agg #[.int .i64 (c 0),.int .i64 (c 1),.int .i64 (c 2),.int .i64 (c 3)]] w (WithinPost w D m c):=by
 have l:Hid (kZ w (λ_=>True) B D S C pol/\D.ok):=⟨hb,u⟩;obtain⟨vc,G,y⟩:=hb.cpu;have k:B<w.heap.size:=iC G;have L:=av y;clear hb u y;unfold ptr
 go_enter (pf func85 (by rfl)),ntmps85
 go_wp2_with fail;obtain⟨W,hW⟩:∃W,W=(w.alloc (.cells #[.int .i64 (c 0),.int .i64 (c 1),.int .i64 (c 2),.int .i64 (c 3)] 37)).alloc (.cells #[.slice none 0 0,.slice none 0 0,.slice none 0 0,.slice none 0 0] 41):=⟨_,rfl⟩
 have I:SY w B vc #[.int .i64 (c 0),.int .i64 (c 1),.int .i64 (c 2),.int .i64 (c 3)] (.cells #[.slice none 0 0,.slice none 0 0,.slice none 0 0,.slice none 0 0] 41 (0,0)) W:=by
  have hA:Below w.heap.size w W:=by rw[hW];exact((aab _ _).alloc (ZL _) _).alloc (by simp) _
  refine⟨keeps hA G,?_,hA,by rw[hW];simp,?_⟩
  .rw[hW]
   exact(blk (aap _ _ _)).1
  .rw[hW]
   have:=aae (w.alloc (.cells #[.int .i64 (c 0),.int .i64 (c 1),.int .i64 (c 2),.int .i64 (c 3)] 37)) (.cells #[.slice none 0 0,.slice none 0 0,.slice none 0 0,.slice none 0 0] 41);simpa using this
 have x:c 0<=((gq D 0).filter (bE m (bG D 0))).length:=hc 0 (by omega);have J:=av x;rw[<-hW];clear x hW G
 go_region_held3(λw'=>w'.cell? ⟨B,0,none⟩=some vc/\(∀j,w'.cell? ⟨w.heap.size,j,none⟩= #[.int .i64 (c 0),.int .i64 (c 1),.int .i64 (c 2),.int .i64 (c 3)][j]?)/\Below w.heap.size w w'/\w.heap.size+2<=w'.heap.size/\w'.heap[w.heap.size+1]? =some (.cells #[.slice none 0 0,.slice none 0 0,.slice none 0 0,.slice none 0 0] 41 (0,0))) (with_reducible (first|exact SY_start I|exact SY_start_alloc I k|exact SY_call (by assumption) k (by assumption)|exact SY_alloc (by assumption) k|exact SY_realloc (by assumption) k (by assumption)|exact SY_store (by assumption) k (by omega)))
  (first
   |(go_at_call 48;refine(lK B 0 D _ (by omega) (SX_berth (SY_sx (by assumption)) l.out.1.ow) l.out.2 (ZP (ku l.out.2 (by omega)) (by decide))).mono ?_;rintro e w2 ⟨v,rfl,n,t⟩;have p:=SY_size (by assumption) t;have hint:=dh n;clear n;try(first|have E:=fw t|have E:=gV t);try(obtain⟨P,O⟩:=blk E))
   |(go_at_call 137;refine(chCPUsB_any D (c 0) m S C vc _ _ l.out.2 hm (SX_cpu (SY_sx (by assumption)) L.out) (by first|exact hint|exact hint.ext ((aab _ _).alloc (ZL _) _)) J.out).mono ?_;rintro e w3 ⟨F,h,tk,rfl,b,d,r,q,s,g⟩;have H:=SY_size (by assumption) s;first|(have hp:=gV s;obtain⟨N,M⟩:=blk hp)|(have hp:=lS s E;obtain⟨N,M⟩:=blk hp)|skip))
 .rename_i K A o
  simp only[Exit.then];rw[d]at b g;refine A _ _ (nk w _ B m w3.heap.size D S C pol c vc F h tk _ _ _ _ _ _ _ _ _ _ _ _ _ l.out.1 l.out.2 hm hc (SY_sx o) (aae _ _) H o.2.2.2.2 ⟨⟨d,r,q⟩,g⟩ ?_ ?_)
  .rw[d]
   exact aB (au b ((aab _ _).alloc (ZL _) _)) p
  .intro a z e
   subst z;have:=(b.lt a.block rfl).2;omega
 .rename_i K A o
  simp only[Exit.then];rw[d]at b g;have f:w2.heap.size< (w2.alloc (Obj.cells #[Value.slice none 0 0,Value.slice none 0 0,Value.slice none 0 0,Value.slice none 0 0] 41 (0,0))).heap.size:=by simp
  refine A _ _ (nk w _ B m w2.heap.size D S C pol c vc F h tk _ _ _ _ _ _ _ _ _ _ _ _ _ l.out.1 l.out.2 hm hc (SY_sx o) ?_ p o.2.2.2.2 ⟨⟨d,r,q⟩,g⟩ ?_ ?_)
  .exact set4 _ _ _ _ hp
  .rw[d]
   exact aB (eQ b f) (by omega)
  .intro a z e
   subst z;have:=(b.lt a.block rfl).1;omega
 .rename_i K A o
  simp only[Exit.then];rw[d]at b g;have f:W.heap.size<w2.heap.size:=(ZK.1 E).1;refine A _ _ (nk w _ B m W.heap.size D S C pol c vc F h tk _ _ _ _ _ _ _ _ _ _ _ _ _ l.out.1 l.out.2 hm hc (SY_sx o) ?_ I.2.2.2.1 o.2.2.2.2 ⟨⟨d,r,q⟩,g⟩ ?_ ?_)
  .exact set4 _ _ _ _ hp
  .rw[d]
   exact aB (eQ b f) p
  .intro a z e
   subst z;have:=(b.lt a.block rfl).1;omega
structure VRow (w:World)(Vl:Nat)(L:Nat->Int)(F:Nat->Nat->Bool):Prop where
 row:∃row:Array Value,w.heap[Vl]? =some (.cells row 91 (0,0))/\row.size=68/\(∀i,i<4->row[17*i]? =some (.int .i64 (L i)))/\∀i,i<4->∀m,m<16->row[17*i+1+m]? =some (.bool (F i m))
theorem VRow.below {w w'}{b}{L}{F}(h:VRow w b L F)(hb:Below w.heap.size w w'):VRow w' b L F:=by
 obtain⟨row,a,c⟩:=h.row;exact⟨⟨row,(hb.block _ (ZK.1 a).1).trans a,c⟩⟩
theorem VRow.part {w}{i}{L}{F}(h:VRow w i L F){k}(d:k<4):∃cs:List Value,cs.length=17/\cs[0]? =some (.int .i64 (L k))/\(∀m,m<16->cs[1+m]? =some (.bool (F k m)))/\w.rangeAt i (k*17) cs/\cs.toArray.all (·.oneCell')=true:=by
 obtain⟨row,l,o,g,f⟩:=h.row;refine⟨(row.toList.drop (k*17)).take 17,by simp;omega,?_,λm hm=>?_,λj v b=>?_,?_⟩
 .rw[Z5,if_pos (by omega),List.getElem?_drop]
  have:=g k d;rw[show 17*k=k*17+0 by omega]at this;simpa using this
 .rw[Z5,if_pos (by omega),List.getElem?_drop]
  have:=f k d m hm;rw[show 17*k+1+m=k*17+(1+m) by omega]at this;simpa using this
 .have a:j<17:=by have:=(ZZ.1 b).1;simp at this;omega
  rw[Z5,if_pos a,List.getElem?_drop]at b;simpa[World.cell?,l] using b
 .rw[Array.all_eq_true']
  intro v b;obtain⟨j,a⟩:=List.getElem?_of_mem (show v∈(row.toList.drop (k*17)).take 17 by simpa using b);have c:j<17:=by have:=(ZZ.1 a).1;simp at this;omega
  rw[Z5,if_pos c,List.getElem?_drop]at a
  by_cases n:j=0
  .subst n
   have:=g k d;rw[show 17*k=k*17+0 by omega]at this;have e:some v=some (Value.int .i64 (L k)):=by rw[<-a];simpa using this
   cases e;rfl
  .have:=f k d (j-1) (by omega)
   rw[show 17*k+1+(j-1)=k*17+j by omega]at this;have e:some v=some (Value.bool (F k (j-1))):=by rw[<-a];simpa using this
   cases e;rfl
theorem st_row (wr)(zs cs)(t):∃a,(wr.alloc (.cells zs t)).setRow wr.heap.size cs=a/\a.heap[wr.heap.size]? =some (.cells cs t (0,0))/\Below wr.heap.size wr a:=by
 have c:(wr.alloc (.cells zs t)).heap[wr.heap.size]? =some (.cells zs t (0,0)):=aae _ _;have d:=setRow_heap (wr.alloc (.cells zs t)) wr.heap.size zs cs t (0,0) c;exact⟨_,rfl,d,rfl,rfl,rfl,by simp,λk b=>(setRow_other _ _ _ _ (by omega)).trans (aac _ _ _ b)⟩
theorem asked_any (cs)(z)(_:cs.size=17)(b:cs[0]? =some (.int .i64 z))(w):Calls (patch ae prog) 132 #[.agg cs] w λe w'=>e=.returned (.bool (!(z==0)))/\Below w.heap.size w w':=by
 have a:∀W:World,W.heap[w.heap.size]? =some (.cells cs 91 (0,0))->W.cell? ⟨w.heap.size,0,none⟩=some (.int .i64 z):=λW h=>by rw[(blk h).1,b]
 have c:=a _ (aae w (.cells cs 91))
 go_enter (pf func132 (by rfl)),ntmps132
 go_wp2_with fail;go_ret;exact⟨rfl,(aab _ _).alloc (ZL _) _⟩
def gX (L:Nat->Int)(F:Nat->Nat->Bool)(k m:Nat):Bool:=(List.range k).all λi=>L i==0||F i m
theorem fitB_step (L)(F)(k m):gX L F (k+1) m=(gX L F k m&&(L k==0||F k m)):=by
 unfold gX;rw[Z6,List.all_append];simp
theorem fitB_no {L}{F}{k m}(a:k<4)(h:(L k==0||F k m)=false):gX L F 4 m=false:=by
 unfold gX;rw[List.all_eq_false];exact⟨k,Z9.2 a,by rw[h];simp⟩
theorem fit_any (L)(F)(s m:Nat)(w)(u:VRow w s L F)(hm:m<16):Calls (patch ae prog) 83 #[ko s,.int .u64 m] w λe w'=>e=.returned (.bool (gX L F 4 m))/\Below w.heap.size w w':=by
 have B:=av u;clear u;unfold ko
 go_enter (pf func83 (by rfl)),ntmps83
 go_wp2_with fail
 go_loopw [9] (λi wr=>∃k:Nat,k<=4/\i=.int .i64 k/\gX L F k m=true/\Below w.heap.size w wr) (λi _=>4-(intOf i).toNat)
 case atStart=>exact⟨0,by omega,rfl,rfl,aab _ _⟩
 case round=>
  obtain⟨k,I,rfl,hf,hb⟩:=hrel;have n:=av (aaa hf hb);have H:w.heap.size<=wr.heap.size:=hb.size;clear hf
  by_cases d:k<4
  .have G:(k:Int)<4:=by omega
   obtain⟨cs,a,r,h,o,c⟩:=(B.out.below hb).part d;have g:=h m hm;have q:((patch ae prog).info? 91).map (·.size)=some cs.length:=(by rw[a];exact iA);have f:((patch ae prog).info? 91).map (·.size)=some cs.toArray.size:=(by rw[List.size_toArray,a];exact iA);have v:=asked_any cs.toArray (L k) (by simpa using a) (by simpa using r);have C:=av v;have E:(m:Int)<16:=(by omega);clear v h hb
   go_wp2_with(first
        |refine wpList_load_mid rfl 91 _ rfl s (k*17) rfl cs _ o ((ax ae prog 91).trans underlying91) rfl q ?_
        |(refine wpList_store_row rfl 91 _ _ rfl wr.heap.size cs.toArray rfl rfl 91 _ (aae _ _) f (by simp[a]) c ?_;obtain⟨A,x,t,y⟩:=st_row wr _ cs.toArray 91;rw[x];have H3:=av (aaa t y);clear t y x)
        |refine wpList_load_row rfl 91 _ rfl wr.heap.size rfl 91 cs.toArray (0,0) _ H3.out.1 ((ax ae prog 91).trans underlying91) rfl f ?_
        |(go_at_call 132;refine(C.out A).mono ?_;rintro e w4 ⟨rfl,l⟩;have z:=(l.block _ (ZK.1 H3.out.1).1).trans H3.out.1;have D:w4.cell? ⟨wr.heap.size,1+m,none⟩=some (.bool (F k m)):=by rw[(blk z).1];simpa using g))
   all_goals
        have j:Below w.heap.size w w4:=ai n.out.2 (ai H3.out.2 l)
        first
         |(go_ret
           have p:(L k==0||F k m)=false:=(by simp_all);exact⟨by rw[fitB_no d p];rfl,j⟩)
         |(have b:(L k==0||F k m)=true:=by simp_all
           exact⟨⟨k+1,by omega,by go_num,by rw[fitB_step,n.out.1,b];rfl,j⟩,by simp[intOf];omega⟩)
  .have:k=4:=by omega
   subst this;go_wp2_with fail;go_ret;exact⟨by rw[n.out.1];rfl,n.out.2⟩
end Z
