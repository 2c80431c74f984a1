/- Part 40 of the proof. -/
import Derived.Test.YtfpaamhppamcoaaGreatDoorT39
set_option linter.all false
set_option maxRecDepth 100000
set_option maxHeartbeats 60000000
namespace Go.Proofs.YtfpaamhppamcoaaGreatDoor
open Go.Proofs.Tryz
namespace Z
open Go.RowKit
attribute [local go_sem ↓] Go.wp_at_zero Go.wp_at_succ
attribute [local go_sem] After.cell After.frozen After.const
abbrev SI (w:World)(bb:Nat)(vb:Value)(cs:Array Value)(w':World):Prop:=w'.cell? ⟨bb,6,none⟩=some vb/\(∀j,w'.cell? ⟨w.heap.size,j,none⟩=cs[j]?)/\Below w.heap.size w w'/\w.heap.size<w'.heap.size
theorem Gm {w W}{bb}{vb}{cs}(h:SI w bb vb cs W):SI w bb vb cs W.drew:=⟨h.1,h.2.1,h.2.2.1.drew,h.2.2.2⟩
theorem DN {w w1 w2}{bb}{vb}{cs}(h:SI w bb vb cs w1)(a:bb<w.heap.size)(hb:Below (w.heap.size+1) w1 w2):SI w bb vb cs w2:=by
 refine⟨(hb.cell (p:=⟨bb,6,none⟩) (by show bb<_;omega)).trans h.1,λj=>(hb.cell (p:=⟨w.heap.size,j,none⟩) (by show w.heap.size<_;omega)).trans (h.2.1 j),h.2.2.1.trans (hb.mono (by omega)),ZO h.2.2.2 hb.size⟩
theorem Qk {w w1 w2}{bb}{vb}{cs}(h:SI w bb vb cs w1)(a:bb<w.heap.size)(hb:Below w1.heap.size w1 w2):SI w bb vb cs w2:=DN h a (hb.mono h.2.2.2)
theorem Gp {w w1}{o}{bb}{vb}{cs}(h:SI w bb vb cs w1)(a:bb<w.heap.size):SI w bb vb cs (w1.alloc o):=DN h a ((aab _ _).alloc h.2.2.2 _)
theorem zt {w W}{o}{bb}{vb}{cs}(h:SI w bb vb cs W)(a:bb<w.heap.size):SI w bb vb cs (W.alloc o).drew:=Gm (Gp h a)
theorem Gn {w w1}{bb}{vb}{cs}(h:SI w bb vb cs w1):Below w.heap.size w w1:=h.2.2.1
theorem Ng {k}{W:World}{o}(h:k<=W.heap.size):k<=(W.alloc o).heap.size:=by simp;omega
theorem Iy (b0 base n p)(v)(xs)(nm)(A:Nat->Option Addr)(N C:Nat->Nat)(w2:World)(h:w2.ownsRow b0 98 5 v n xs)(c:base<=b0)(hb:base<=w2.heap.size)(a:n<=1000)(hp:p<=n)(b:∀u∈xs,u.oneCell'=true):
 Calls (patch ae prog) 90 #[v,.int .i64 p,.slice (some ⟨w2.heap.size,0,none⟩) 1 1] (w2.alloc (.cells #[.string nm,.slice (A 0) (N 0) (C 0),.slice (A 1) (N 1) (C 1),.slice (A 2) (N 2) (C 2),.slice (A 3) (N 3) (C 3)] 98)) λe w'=>∃v',e=.returned v'/\w'.ownsRow base 98 5 v' (n+1) (xs.take (p*5)++[.string nm,.slice (A 0) (N 0) (C 0),.slice (A 1) (N 1) (C 1),.slice (A 2) (N 2) (C 2),.slice (A 3) (N 3) (C 3)]++xs.drop (p*5))/\Below base (w2.alloc (.cells #[.string nm,.slice (A 0) (N 0) (C 0),.slice (A 1) (N 1) (C 1),.slice (A 2) (N 2) (C 2),.slice (A 3) (N 3) (C 3)] 98)) w':=
 uG base n p w2.heap.size v xs [.string nm,.slice (A 0) (N 0) (C 0),.slice (A 1) (N 1) (C 1),.slice (A 2) (N 2) (C 2),.slice (A 3) (N 3) (C 3)] _ (aB (h.alloc _) c) (by simp;omega) a hp rfl (aae _ _) (λe=>by have:=(h.lt _ e).2;omega) b (by intro u hu;simp at hu;rcases hu with rfl|rfl|rfl|rfl|rfl<;>rfl)
theorem Lb (b0 base n p)(v)(xs)(nm)(A:Nat->Option Addr)(N C:Nat->Nat)(W U w2:World)(a:Below U.heap.size U w2)(b:U.heap=(W.alloc (.cells #[.string nm,.slice (A 0) (N 0) (C 0),.slice (A 1) (N 1) (C 1),.slice (A 2) (N 2) (C 2),.slice (A 3) (N 3) (C 3)] 98)).heap)(h:w2.ownsRow b0 98 5 v n xs)(i:U.heap.size<=b0)(hb:base<=U.heap.size)(c:n<=1000)(hp:p<=n)(f:∀u∈xs,u.oneCell'=true):
 Calls (patch ae prog) 90 #[v,.int .i64 p,.slice (some ⟨W.heap.size,0,none⟩) 1 1] w2 λe w'=>∃v',e=.returned v'/\w'.ownsRow base 98 5 v' (n+1) (xs.take (p*5)++[.string nm,.slice (A 0) (N 0) (C 0),.slice (A 1) (N 1) (C 1),.slice (A 2) (N 2) (C 2),.slice (A 3) (N 3) (C 3)]++xs.drop (p*5))/\Below base w2 w':=by
 have g:U.heap.size=W.heap.size+1:=by rw[b];simp
 have d:w2.heap[W.heap.size]? =some (.cells #[.string nm,.slice (A 0) (N 0) (C 0),.slice (A 1) (N 1) (C 1),.slice (A 2) (N 2) (C 2),.slice (A 3) (N 3) (C 3)] 98 (0,0)):=(a.block _ (by omega)).trans (by rw[b];exact aae _ _);exact uG base n p W.heap.size v xs [.string nm,.slice (A 0) (N 0) (C 0),.slice (A 1) (N 1) (C 1),.slice (A 2) (N 2) (C 2),.slice (A 3) (N 3) (C 3)] _ (aB h (by omega)) (ZP hb a.size) c hp rfl d (λe=>by have:=(h.lt _ e).1;omega) f (by intro u hu;simp at hu;rcases hu with rfl|rfl|rfl|rfl|rfl<;>rfl)
theorem D8 (base bb p)(s)(nm)(A:Nat->Option Addr)(N C:Nat->Nat)(vc vr vb vo)(d)(ys)(K)(w)(h:PS w base bb s vc vr vb vo d ys K)(hp:p<=s.bs.length):
 Calls (patch ae prog) 57 #[.pointer (some ⟨bb,0,none⟩),.int .i64 p,.agg #[.string nm,.slice (A 0) (N 0) (C 0),.slice (A 1) (N 1) (C 1),.slice (A 2) (N 2) (C 2),.slice (A 3) (N 3) (C 3)]] w λe w'=>∃v',e=.returned v'/\w'.ownsRow w.heap.size 98 5 v' (s.bs.length+1) (aR (s.bs.take p)++[.string nm,.slice (A 0) (N 0) (C 0),.slice (A 1) (N 1) (C 1),.slice (A 2) (N 2) (C 2),.slice (A 3) (N 3) (C 3)]++aR (s.bs.drop p))/\Below w.heap.size w w':=by
 have v:=av h;have f:=h.lt;have u:w.cell? ⟨bb,6,none⟩=some vb:=h.cell 6;obtain⟨m,c,rfl⟩:=aj h.boxes;clear h
 go_enter (pf func57 (by rfl)),ntmps57
 go_wp2_with fail;obtain⟨W,hW⟩:∃W,W=w.alloc (.cells #[.string nm,.slice (A 0) (N 0) (C 0),.slice (A 1) (N 1) (C 1),.slice (A 2) (N 2) (C 2),.slice (A 3) (N 3) (C 3)] 98):=⟨_,rfl⟩
 have r:SI w bb (.slice m s.bs.length c) #[.string nm,.slice (A 0) (N 0) (C 0),.slice (A 1) (N 1) (C 1),.slice (A 2) (N 2) (C 2),.slice (A 3) (N 3) (C 3)] W:=by
  have hA:Below w.heap.size w W:=by rw[hW];exact(aab _ _).alloc (ZL _) _
  refine⟨keeps hA u,λj=>?_,hA,by rw[hW];simp⟩;rw[hW];exact(blk (aae _ _)).1 j
 have l:Hid (∀U,Below w.heap.size w U->s.bs.length<=c/\(0<s.bs.length->∃b o,m=some ⟨b,o,none⟩/\fG U b o (aR s.bs))):=λU z=>by
  obtain⟨ao,cap,e,E,F,D,_⟩:=dV (v.out.below z).boxes;cases e;exact⟨E,λx=>let ⟨g,e,_,_,y⟩:=D x;⟨g,0,e,y⟩⟩
 have hlen:s.bs.length<=12:=v.out.ok.many;have q:Hid (w.heap.size+1<=W.heap.size):=r.2.2.2;rw[<-hW];clear hW u
 go_region_held3(λw'=>w'.cell? ⟨bb,6,none⟩=some (.slice m s.bs.length c)/\(∀j,w'.cell? ⟨w.heap.size,j,none⟩= #[.string nm,.slice (A 0) (N 0) (C 0),.slice (A 1) (N 1) (C 1),.slice (A 2) (N 2) (C 2),.slice (A 3) (N 3) (C 3)][j]?)/\Below w.heap.size w w'/\w.heap.size<w'.heap.size) (with_reducible (first|exact Gm r|exact zt r f|exact Qk (by assumption) f (by assumption)|exact Gp (by assumption) f|exact DN (by assumption) f (by assumption)))
  (first
   |(go_at_call 46;refine(uM m s.bs.length c (aR s.bs) _ (by omega) (fe _) iD (l.out _ (Gn (by assumption))).1 (l.out _ (Gn (by assumption))).2).mono ?_;rintro e w2 ⟨a2,c2,rfl,i,k⟩)
   |(go_at_call 90;first
    |(refine(Iy _ (w.heap.size+1) s.bs.length p _ (aR s.bs) nm A N C w2 i q.out (ZP q.out k.size) (by omega) hp iD).mono ?_;rintro e w3 ⟨v3,rfl,a,n⟩)
    |(refine(Lb _ (w.heap.size+1) s.bs.length p _ (aR s.bs) nm A N C W _ w2 k rfl i (ZL _) (Ng q.out) (by omega) hp iD).mono ?_;rintro e w3 ⟨v3,rfl,a,n⟩)))
 all_goals
  rename_i K t B;simp only[Exit.then];refine t _ _ ?_;clear t;rw[pP,pQ]at a;go_wp2_with fail;go_ret;exact⟨_,rfl,aB a (by omega),B.2.2.1⟩
theorem za (l)(p):(aR l).take (p*5)++(aR l).drop ((p+1)*5)=aR (l.eraseIdx p):=by
 rw[pP,pQ,<-iE,List.eraseIdx_eq_take_drop_succ]
theorem D7 (base bb p)(s)(vc vr vb vo)(d)(ys)(K)(w)(h:PS w base bb s vc vr vb vo d ys K)(hp:p<s.bs.length):
 Calls (patch ae prog) 58 #[.pointer (some ⟨bb,0,none⟩),.int .i64 p] w λe w'=>∃v',e=.returned v'/\w'.ownsRow w.heap.size 98 5 v' (s.bs.length-1) (aR (s.bs.eraseIdx p))/\NZ v'/\Below w.heap.size w w':=by
 have v:w.cell? ⟨bb,6,none⟩=some vb:=h.cell 6;have hlen:s.bs.length<=12:=h.ok.many;obtain⟨ao,cap,rfl,t,x,l,r⟩:=dV h.boxes;have u:Hid (0<s.bs.length->∃b o,ao=some ⟨b,o,none⟩/\fG w b o (aR s.bs)):=λn=>let ⟨g,e,_,_,q⟩:=l n;⟨g,0,e,q⟩
 have m:IntKind.i64.wrap ((p:Int)+1)=(p:Int)+1:=by rw[IntKind.wrap_i64];omega
 have i:((p+1:Nat):Int)=(p:Int)+1:=by omega
 clear h l r
 go_enter (pf func58 (by rfl)),ntmps58
 go_wp2_with fail;refine(uM ao s.bs.length cap (aR s.bs) w (by omega) (fe _) iD t u.out).mono ?_;rintro e w2 ⟨a2,c2,rfl,c,f⟩;go_wp2_with fail;have hd:=Au w.heap.size s.bs.length p _ _ w2 c f.size (by omega) hp iD;rw[i]at hd;refine hd.mono ?_;rintro e w3 ⟨v3,rfl,a,j,k⟩;rw[za]at a;go_wp2_with fail;go_ret;exact⟨_,rfl,a,j,f.trans k⟩
def L5 (bb base:Nat)(c0 e c2 c3 c4 c5 d v:Value)(no:Nat)(fl:Bool)(ah:Int)(f:TypeId)(g:Value)(w:World)(r:Value)(w':World):Prop:=
 (fl=true/\ah<4/\∃c b a,r=.iface 195 (.pointer (some ⟨c,0,none⟩))/\w'.cell? ⟨c,1,none⟩=some (.iface f g)/\w.heap.size<=c/\bY bb base c0 e c2 c3 c4 c5 d v w (no+ah.toNat) false 0 b a w')\/
 (¬(fl=true/\ah<4)/\r=.nilIface/\∃b a,bY bb base c0 e c2 c3 c4 c5 d v w (no+4) fl (BJ fl ah 4) b a w')
theorem rW.ret {bb base}{c0 j c2 c3 c4 c5 i v}{no}{fl}{ah}{f}{g}{w w'}{e}(h:rW bb base c0 j c2 c3 c4 c5 i v no fl ah f g w e w'):∃r,e=.returned r/\L5 bb base c0 j c2 c3 c4 c5 i v no fl ah f g w r w':=by
 rcases h with⟨d,l,k,b,a,rfl,c⟩|⟨d,rfl,c⟩
 .exact⟨_,rfl,.inl ⟨d,l,k,b,a,rfl,c⟩⟩
 .exact⟨_,rfl,.inr ⟨d,rfl,c⟩⟩
structure dJ (w w':World)(K K':Nat->Nat):Prop where
 os:w'.os=w.os
 tape:w'.tape=w.tape
 output:w'.output=w.output
 size:w.heap.size<=w'.heap.size
 block:∀b,b<w.heap.size->K b=0\/K b=2->w'.heap[b]? =w.heap[b]?
 tag:∀b,b<w.heap.size->K' b=K b
theorem dJ.refl (w)(K):dJ w w K K:=⟨rfl,rfl,rfl,ZL _,λ_ _ _=>rfl,λ_ _=>rfl⟩
theorem dJ.trans {a b c}{g f e}(h:dJ a b g f)(k:dJ b c f e):dJ a c g e:=
 ⟨k.os.trans h.os,k.tape.trans h.tape,k.output.trans h.output,ZP h.size k.size,λx hx d=>(k.block x (ZO hx h.size) (by rw[h.tag x hx];exact d)).trans (h.block x hx d),λx hx=>(k.tag x (ZO hx h.size)).trans (h.tag x hx)⟩
theorem dJ.fq {w w'}{K}(h:Below w.heap.size w w'):dJ w w' K K:=⟨h.os,h.tape,h.output,h.size,λb hb _=>h.block b hb,λ_ _=>rfl⟩
def Bd (w:World)(base bb:Nat)(s:BS)(K:Nat->Nat):Prop:=∃vc vr vb vo d ys,PS w base bb s vc vr vb vo d ys K
theorem Bd.below {w w'}{base bb}{s}{K}(h:Bd w base bb s K)(hb:Below w.heap.size w w'):Bd w' base bb s K:=let ⟨vc,vr,vb,vo,d,ys,h⟩:=h;⟨vc,vr,vb,vo,d,ys,h.below hb⟩
def rowsOf (v:Value)(l:List fH):List (Option Nat):=v.ownBlock::l.flatMap λx=>[(x.sl 0).ownBlock,(x.sl 1).ownBlock,(x.sl 2).ownBlock,(x.sl 3).ownBlock]
theorem xz {v}{l}{x}(hx:x∈l){q}(a:q<4):(x.sl q).ownBlock∈rowsOf v l:=by
 refine List.mem_cons_of_mem _ (List.mem_flatMap.2 ⟨x,hx,?_⟩);obtain rfl|rfl|rfl|rfl:q=0\/q=1\/q=2\/q=3:=by omega
 all_goals simp
theorem qO {v}{l}{o}(h:o∈rowsOf v l):o=v.ownBlock\/∃x∈l,∃q,q<4/\o=(x.sl q).ownBlock:=by
 rcases ZW.1 h with h|h
 .exact .inl h
 .obtain⟨x,hx,h⟩:=List.mem_flatMap.1 h
  simp only[ZW,List.not_mem_nil,or_false]at h;rcases h with h|h|h|h
  .exact .inr ⟨x,hx,0,by omega,h⟩
  .exact .inr ⟨x,hx,1,by omega,h⟩
  .exact .inr ⟨x,hx,2,by omega,h⟩
  .exact .inr ⟨x,hx,3,by omega,h⟩
def retag (K:Nat->Nat)(z0:Nat)(v:Value)(t:Nat)(R:List (Option Nat))(b:Nat):Nat:=if b<z0 then K b else if v.ownBlock=some b then t else if some b∈R then 2 else 0
def BS.written (s:BS)(l:List fH):BS:={s with bs:=l,no:=s.no+4,ah:=BJ s.fl s.ah 4}
def BS.failed (s:BS):BS:={s with no:=s.no+s.ah.toNat,fl:=false,ah:=0}
def BS.jQ (s:BS):Prop:=s.fl=true/\s.ah<4
theorem BS.UO {s s':BS}(h:s.D.ok)(hm:s'.m=s.m)(c:s'.dn=s.dn)(b:s'.dN=s.dN)(a:s'.dH=s.dH):s'.D.ok:=by
 obtain⟨m,dn,dN,dH,bs,no,fl,ah⟩:=s;obtain⟨m',f,g,i,j,d,e,k⟩:=s';simp only at hm c b a;subst hm c b a;exact⟨h.qF,h.nodes,h.res,h.dC⟩
theorem BS.Gz {s:BS}{l}(h:s.ok)(c:s.no+4<=1000000000)(hl:l.length<=12)(hs:∀x∈l,x.small)(hf:¬s.jQ):(s.written l).ok:=by
 refine⟨h.M8,BS.UO h.d rfl rfl rfl rfl,hl,hs,c,?_⟩;have b:=h.ah.1;have f:=h.ah.2;unfold In64 at b;show In64 (BJ s.fl s.ah 4)/\(s.fl=true->0<=BJ s.fl s.ah 4)
 unfold BJ In64
 by_cases a:s.fl=true
 .rw[if_pos a]
  have e:¬s.ah<4:=λh=>hf ⟨a,h⟩
  omega
 .rw[if_neg a]
  exact⟨b,λh=>absurd h a⟩
theorem BS.Lm {s:BS}(h:s.ok)(a:s.no+4<=1000000000)(hf:s.jQ):s.failed.ok:=by
 refine⟨h.M8,BS.UO h.d rfl rfl rfl rfl,h.many,h.small,?_,?_⟩
 .have:=hf.2;have:=h.ah.2 hf.1;show s.no+s.ah.toNat<=_;omega
 .show In64 0/\_
  unfold In64;exact⟨by omega,λh=>by cases h⟩
theorem PS.OL {l w1 w3}{base bb}{s s'}{vc vr vb vo vb' i}{d}{ys A}{K}(c:PS l base bb s vc vr vb vo d ys K)(hb:Below l.heap.size l w1)
 (H:∀b,b<w1.heap.size->b≠bb->vo.ownBlock≠some b->w3.heap[b]? =w1.heap[b]?)(L:w1.heap.size<=w3.heap.size)(N:w3.os=w1.os)(J:w3.tape=w1.tape)(M:w3.output=w1.output)
 (D:w3.heap[bb]? =some (.cells (Q9 s' vc vr vb' i d) 95 (0,0)))(y:w3.ownsRow base 156 4 i s'.no A)(G:∀b,i.ownBlock=some b->vo.ownBlock=some b\/w1.heap.size<=b)
 (hm:s'.m=s.m)(I:s'.dn=s.dn)(V:s'.dN=s.dN)(U:s'.dH=s.dH)
 (v:w1.ownsRow base 98 5 vb' s'.bs.length (aR s'.bs))(C:∀b,vb'.ownBlock=some b->K b=2\/l.heap.size<=b)
 (f:∀x∈s'.bs,x.Ik base w1)(w:∀x∈s'.bs,∀q,q<4->∀b,(x.sl q).ownBlock=some b->K b=2\/l.heap.size<=b)(O:s'.ok):
 PS w3 base bb s' vc vr vb' i d A (retag K l.heap.size i 8 (rowsOf vb' s'.bs))/\dJ l w3 K (retag K l.heap.size i 8 (rowsOf vb' s'.bs)):=by
 have z:=hb.size;have old:∀b,b<l.heap.size->retag K l.heap.size i 8 (rowsOf vb' s'.bs) b=K b:=λb h=>if_pos h
 have g:∀{b},K b≠0->b<l.heap.size:=λh=>(c.tk _ h).2
 have o:∀b,vo.ownBlock=some b->K b=8:=c.tq
 have safe:∀b,b<w1.heap.size->(K b=2\/l.heap.size<=b)->some b∈rowsOf vb' s'.bs->w3.heap[b]? =w1.heap[b]?/\retag K l.heap.size i 8 (rowsOf vb' s'.bs) b=2:=λb hl Q hR=>by
  rcases Q with h|h
  .refine⟨H b hl (λe=>?_) (λe=>?_),?_⟩
   .rw[e,c.tb]at h;omega
   .rw[o b e]at h;omega
   .rw[old b (g (by omega))];exact h
  .refine⟨H b hl (λe=>?_) (λe=>?_),?_⟩
   .have:=c.lt;omega
   .have:=g (b:=b) (by rw[o b e];omega);omega
   .unfold retag
    rw[if_neg (by omega),if_neg (λe=>?_),if_pos hR];rcases G b e with T|T
    .have:=g (b:=b) (by rw[o b T];omega);omega
    .omega
 have kept:∀b,K b≠0->K b≠1->K b≠8->w3.heap[b]? =l.heap[b]?:=λb S I R=>(H b (ZO (g S) z) (λe=>I (by rw[e];exact c.tb)) (λe=>R (o b e))).trans (hb.block b (g S))
 have u:oq s'.m=oq s.m/\vk s'.m=vk s.m/\s'.m.n=s.m.n/\s'.m.r=s.m.r:=by rw[hm];exact⟨rfl,rfl,rfl,rfl⟩
 have B:∀k,rO s' k=rO s k/\s'.dn k=s.dn k:=λk=>by
  have e:∀j,iB s' k j=iB s k j:=λj=>by unfold iB;rw[V,U]
  exact⟨by unfold rO;rw[I];exact List.map_congr_left λj _=>e j,by rw[I]⟩
 refine⟨⟨D,?_,?_,λk p=>?_,aJ v λb a=>(safe b (v.lt b a).2 (C b a) (a▸ZX)).1,λx hx q t=>⟨aJ (f x hx q t).1 λb a=>(safe b ((f x hx q t).1.lt b a).2 (w x hx q t b a) (a▸xz hx t)).1,(f x hx q t).2⟩,y,
  (old bb c.lt).trans c.tb,λb a=>?_,λb a=>?_,λb a=>(safe b (v.lt b a).2 (C b a) (a▸ZX)).2,λx hx q t b a=>(safe b ((f x hx q t).1.lt b a).2 (w x hx q t b a) (a▸xz hx t)).2,λk p b a=>?_,λb a=>?_,λb a=>?_,O⟩,⟨N.trans hb.os,J.trans hb.tape,M.trans hb.output,ZP z L,λb E F=>?_,old⟩⟩
 .rw[u.2.2.1,u.1];exact aJ c.dA λb a=>kept b (by rw[c.tc b a];omega) (by rw[c.tc b a];omega) (by rw[c.tc b a];omega)
 .rw[u.2.2.2,u.2.1];exact aJ c.res λb a=>kept b (by rw[c.tr b a];omega) (by rw[c.tr b a];omega) (by rw[c.tr b a];omega)
 .rw[(B k).2,(B k).1];exact aJ (c.dC k p) λb a=>kept b (by rw[c.td k p b a];omega) (by rw[c.td k p b a];omega) (by rw[c.td k p b a];omega)
 .have h:=c.tc b a;rw[old b (g (by omega))];exact h
 .have h:=c.tr b a;rw[old b (g (by omega))];exact h
 .have h:=c.td k p b a;rw[old b (g (by omega))];exact h
 .rcases G b a with h|h
  .have R:=o b h;rw[old b (g (by omega))];exact R
  .unfold retag;rw[if_neg (by omega),if_pos a]
 .have P:base<=l.heap.size:=ZP c.left (Nat.le_of_lt c.lt)
  unfold retag at a;split at a
  .have:=c.tk b a;exact⟨this.1,by omega⟩
  .split at a
   .exact y.lt b (by assumption)
   .split at a
    .rcases qO (by assumption)with h|⟨x,hx,q,t,h⟩
     .have:=v.lt b h.symm;exact⟨this.1,by omega⟩
     .have:=(f x hx q t).1.lt b h.symm;exact⟨this.1,by omega⟩
    .exact absurd rfl a
 .refine(H b (ZO E z) (λe=>?_) (λe=>?_)).trans (hb.block b E)
  .rw[e,c.tb]at F;omega
  .rw[o b e]at F;omega
def o5 (s:BS)(l:List fH)(r:Value)(s':BS):Prop:=(s.jQ/\r=.int .i64 11/\s'=s.failed)\/(¬s.jQ/\r=.int .i64 0/\s'=s.written l)
def zC (a w:World)(base bb:Nat)(s:BS)(K:Nat->Nat)(v:Value)(l:List fH)(r:Value)(w':World):Prop:=∃s' c,o5 s l r s'/\Bd w' base bb s' c/\dJ a w' K c/\w.heap.size<=w'.heap.size/\(∀b,a.heap.size<=b->b<w.heap.size->w'.heap[b]? =w.heap[b]?)/\
 ∀b,a.heap.size<=b->b<w.heap.size->v.ownBlock≠some b->(∀x∈l,∀q,q<4->(x.sl q).ownBlock≠some b)->c b=0
theorem xA {K}{z0 b}{v v'}{t}{l}(f:z0<=b)(e:v.ownBlock≠some b)(d:v'.ownBlock≠some b)(c:∀x∈l,∀q,q<4->(x.sl q).ownBlock≠some b):retag K z0 v t (rowsOf v' l) b=0:=by
 unfold retag;rw[if_neg (by omega),if_neg e,if_neg];intro h;rcases qO h with h|⟨x,hx,q,a,h⟩
 .exact d h.symm
 .exact c x hx q a h.symm
theorem uO (base bb)(s)(vc vr vb vo v)(d)(ys)(K)(l)(a)(A w)(Y:PS A base bb s vc vr vb vo d ys K)(hb:Below A.heap.size A w)
 (o:w.ownsRow A.heap.size 98 5 v l.length (aR l))(U:NZ v)(n:∀x∈l,x.Ik base w)(E:∀x∈l,∀q,q<4->∀b,(x.sl q).ownBlock=some b->K b=2\/A.heap.size<=b)(F:∀x∈l,x.small)(hl:l.length<=12)(G:s.no+4<=1000000000)
 (Z:A.cell? ⟨0,0,none⟩=some (.iface 345 (.pointer (some a))))(M:0<base):
 Calls (patch ae prog) 56 #[.pointer (some ⟨bb,0,none⟩),v] w (RJ (zC A w base bb s K v l) AA):=by
 have γ:bb<w.heap.size:=ZO Y.lt hb.size;have bd:Below w.heap.size w w.drew:=(aab _ _).drew;have hT:je w.drew (CB w.drew) v l.length 10000:=Jj (w:=w.drew) (base2:=base) o U n F (by omega);have f:=av (aaa Y (aaa hb (aaa o (aaa n (aaa E (aaa F Z))))));have HT:=av hT;obtain⟨D,j,rfl⟩:=aj o
 have HR:Hid (∀u,Below w.heap.size w u->Calls (patch ae prog) 87 #[.pointer (some ⟨bb,7,none⟩),.string ⟨#[98,111,120,101,115]⟩,.nilFunc] u λe w'=>rW bb base vc vr (.int .i64 s.m.p) (d 0) (d 1) (d 2) vb vo s.no s.fl s.ah 345 (.pointer (some a)) u e w'):=λu hu=>by
  have c:=f.out.1.below (ai f.out.2.1 hu);refine Ct bb base s.no vc vr (.int .i64 s.m.p) (d 0) (d 1) (d 2) vb vo (.pointer (some a)) 345 s.fl s.ah ys ⟨#[98,111,120,101,115]⟩ u (by decide) c.blk (λh=>⟨c.ok.ah.2 h,c.ok.ah.1.2⟩) (λe=>?_) (ZP c.left (Nat.le_of_lt c.lt)) c.ops (by omega) (keeps (ai f.out.2.1 hu) Z) (Nat.ne_of_lt (ZO M c.left)) (λe=>?_)
  .have k:=c.tb
   rw[c.tq bb e]at k;omega
  .have:=(c.ops.lt _ e).1
   omega
 go_enter (pf func56 (by rfl)),ntmps56
 go_wp2_with fail
 go_region_law(first
  |(go_simp;go_at_call 88;refine(Ks _ l.length 10000 w.drew HT.out).mono ?_;intro e w1 he;rcases e with r|ch|_;rotate_left;(first|exact⟨rfl,he⟩|(simp;exact⟨rfl,he⟩));(exact he.elim);(obtain⟨rfl,V,J⟩:=he);have H1:=av (bd.trans (J:Below w.heap.size w.drew w1));clear V J;dsimp only)
  |(go_simp;go_at_call 87;refine(HR.out w1 H1.out).mono ?_;rintro e w2 y;obtain⟨r,rfl,X⟩:=y.ret;have H2:=av X;clear X y;dsimp only))
 all_goals
  have c:=f.out.1.below (ai f.out.2.1 H1.out);have H:vo.ownBlock≠some bb:=λe=>by have k:=c.tb;rw[c.tq bb e]at k;omega
  have B:=ZP f.out.1.left (Nat.le_of_lt f.out.1.lt);have N:=keeps (ai f.out.2.1 H1.out) f.out.2.2.2.2.2.2;have L:vo.ownBlock≠some 0:=λe=>by have:=(c.ops.lt _ e).1;omega
  have z:=Nat.ne_of_lt (ZO M c.left);have O:=ai f.out.2.1 H1.out;rcases H2.out with⟨f1,f2,pb,C,Q,rfl,T,β,hd⟩|⟨hf,rfl,C,Q,hd⟩
  .have W:=hd.Fs N z L
   have g:=av (aaa hd (aaa c (aaa H O)));have P:Hid (s.jQ):=⟨f1,f2⟩;go_wp2_with(go_at_call 89;refine(Am pb a w2 T).mono ?_;rintro e w3 ⟨rfl,hw⟩;obtain rfl:=hw.symm);go_ret;obtain⟨R,p2⟩:=PS.OL (s':=s.failed) f.out.1 g.out.2.2.2 (λb hb k t=>g.out.1.block b hb k t) g.out.1.size g.out.1.os g.out.1.tape g.out.1.output g.out.1.blk g.out.1.own g.out.1.at_ rfl rfl rfl rfl g.out.2.1.boxes (λb hb=>.inl (f.out.1.tx b hb)) g.out.2.1.rows (λx hx q S b hb=>.inl (f.out.1.tl x hx q S b hb)) (BS.Lm f.out.1.ok G P.out);refine⟨_,_,.inl ⟨P.out,rfl,rfl⟩,⟨_,_,_,_,_,_,R⟩,p2,ZP H1.out.size g.out.1.size,λb k t=>?_,λb k t _ _=>?_⟩
   .refine(g.out.1.block b (ZO t H1.out.size) (λe=>?_) (λe=>?_)).trans (H1.out.block b t)
    .have:=f.out.1.lt;omega
    .have:=(f.out.1.ops.lt b e).2;omega
   .refine xA k (λe=>?_) (λe=>?_) (λx hx q S e=>?_)
    .rcases g.out.1.at_ b e with h|h
     .have:=(f.out.1.ops.lt b h).2;omega
     .have:=H1.out.size;omega
    .have:=(f.out.1.boxes.lt b e).2;omega
    .have:=((f.out.1.rows x hx q S).1.lt b e).2;omega
  .have W:=hd.Fs N z L
   have g:=av (aaa hd (aaa c (aaa H O)));have P:Hid (¬s.jQ):=hf;obtain⟨q0,α⟩:=blk hd.blk;go_wp2_with(go_at_call 89;refine(Ir _ _ w2).mono ?_;rintro e w3 ⟨rfl,hw⟩;obtain rfl:=hw.symm);go_ret
   have I:(w2.setCell ⟨bb,6,none⟩ (.slice D l.length j)).heap[bb]? =some (.cells (Q9 (s.written l) vc vr (.slice D l.length j) C d) 95 (0,0)):=by
        have:=aD (i:=6) (.slice D l.length j) g.out.1.blk;simp at this;exact this
   obtain⟨R,p2⟩:=PS.OL (s':=s.written l) (vb':=.slice D l.length j) (w3:=w2.setCell ⟨bb,6,none⟩ (.slice D l.length j)) f.out.1 g.out.2.2.2 (λb hb k t=>(aad _ _ _ _ k).trans (g.out.1.block b hb k t)) (by simpa using g.out.1.size) g.out.1.os g.out.1.tape g.out.1.output I
        (ownsRow_setCell_other g.out.1.own (g.out.1.ne g.out.2.2.1 (ZO f.out.1.lt g.out.2.2.2.size)) _) g.out.1.at_ rfl rfl rfl rfl (aB (au f.out.2.2.1 H1.out) B) (λb hb=>.inr (f.out.2.2.1.lt b hb).1) (λx hx=>(f.out.2.2.2.1 x hx).below H1.out) f.out.2.2.2.2.1 (BS.Gz f.out.1.ok G hl f.out.2.2.2.2.2.1 P.out)
   refine⟨_,_,.inr ⟨P.out,rfl,rfl⟩,⟨_,_,_,_,_,_,R⟩,p2,by simpa using ZP H1.out.size g.out.1.size,λb k t=>?_,λb k t h3 h4=>?_⟩
   .refine(aad _ _ _ _ (λe=>?_)).trans ((g.out.1.block b (ZO t H1.out.size) (λe=>?_) (λe=>?_)).trans (H1.out.block b t))
    .have:=f.out.1.lt;have e':b=bb:=e;omega
    .have:=f.out.1.lt;omega
    .have:=(f.out.1.ops.lt b e).2;omega
   .refine xA k (λe=>?_) h3 h4
    rcases g.out.1.at_ b e with h|h
    .have:=(f.out.1.ops.lt b h).2;omega
    .have:=H1.out.size;omega
def Apart (x y:fH):Prop:=∀q,q<4->∀i∈x.T q,i∉y.T q
theorem qZ {l:List fH}{p}{x y}(h:y∈l.take p++x::l.drop p):y=x\/y∈l:=by
 rcases List.mem_append.1 h with h|h
 .exact .inr (List.mem_of_mem_take h)
 .rcases ZW.1 h with h|h
  .exact .inl h
  .exact .inr (List.mem_of_mem_drop h)
end Z
