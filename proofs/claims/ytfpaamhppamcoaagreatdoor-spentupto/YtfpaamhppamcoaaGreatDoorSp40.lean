/- Part 40 of the proof. -/
import Derived.Test.YtfpaamhppamcoaaGreatDoorSp39
set_option linter.all false
set_option maxRecDepth 100000
set_option maxHeartbeats 60000000
namespace Go.Proofs.YtfpaamhppamcoaaGreatDoor
open Go.Proofs.Tryz
namespace Z
open Go.RowKit
attribute [local go_sem ↓] Go.wp_at_zero Go.wp_at_succ
attribute [local go_sem] After.cell After.frozen After.const
abbrev SI (w:World)(bb:Nat)(vb:Value)(cs:Array Value)(w':World):Prop:=w'.cell? ⟨bb,6,none⟩=some vb/\(∀j,w'.cell? ⟨w.heap.size,j,none⟩=cs[j]?)/\Below w.heap.size w w'/\w.heap.size<w'.heap.size
theorem SI_start {w W}{bb}{vb}{cs}(h:SI w bb vb cs W):SI w bb vb cs W.drew:=⟨h.1,h.2.1,h.2.2.1.drew,h.2.2.2⟩
theorem SI_step {w w1 w2}{bb}{vb}{cs}(h:SI w bb vb cs w1)(a:bb<w.heap.size)(hb:Below (w.heap.size+1) w1 w2):SI w bb vb cs w2:=by
 refine⟨(hb.cell (p:=⟨bb,6,none⟩) (by show bb<_;omega)).trans h.1,λj=>(hb.cell (p:=⟨w.heap.size,j,none⟩) (by show w.heap.size<_;omega)).trans (h.2.1 j),h.2.2.1.trans (hb.mono (by omega)),ZO h.2.2.2 hb.size⟩
theorem SI_call {w w1 w2}{bb}{vb}{cs}(h:SI w bb vb cs w1)(a:bb<w.heap.size)(hb:Below w1.heap.size w1 w2):SI w bb vb cs w2:=SI_step h a (hb.mono h.2.2.2)
theorem SI_alloc {w w1}{o}{bb}{vb}{cs}(h:SI w bb vb cs w1)(a:bb<w.heap.size):SI w bb vb cs (w1.alloc o):=SI_step h a ((aab _ _).alloc h.2.2.2 _)
theorem SI_start_alloc {w W}{o}{bb}{vb}{cs}(h:SI w bb vb cs W)(a:bb<w.heap.size):SI w bb vb cs (W.alloc o).drew:=SI_start (SI_alloc h a)
theorem SI_below {w w1}{bb}{vb}{cs}(h:SI w bb vb cs w1):Below w.heap.size w w1:=h.2.2.1
theorem le_alloc {k}{W:World}{o}(h:k<=W.heap.size):k<=(W.alloc o).heap.size:=by simp;omega
theorem ins_behind (b0 base n p)(v)(xs)(nm)(A:Nat->Option Addr)(N C:Nat->Nat)(w2:World)(h:w2.ownsRow b0 98 5 v n xs)(c:base<=b0)(hb:base<=w2.heap.size)(a:n<=1000)(hp:p<=n)(b:∀u∈xs,u.oneCell'=true):
 Calls (patch ae prog) 90 #[v,.int .i64 p,.slice (some ⟨w2.heap.size,0,none⟩) 1 1] (w2.alloc (.cells #[.string nm,.slice (A 0) (N 0) (C 0),.slice (A 1) (N 1) (C 1),.slice (A 2) (N 2) (C 2),.slice (A 3) (N 3) (C 3)] 98)) λe w'=>∃v',e=.returned v'/\w'.ownsRow base 98 5 v' (n+1) (xs.take (p*5)++[.string nm,.slice (A 0) (N 0) (C 0),.slice (A 1) (N 1) (C 1),.slice (A 2) (N 2) (C 2),.slice (A 3) (N 3) (C 3)]++xs.drop (p*5))/\Below base (w2.alloc (.cells #[.string nm,.slice (A 0) (N 0) (C 0),.slice (A 1) (N 1) (C 1),.slice (A 2) (N 2) (C 2),.slice (A 3) (N 3) (C 3)] 98)) w':=
 insertB_any base n p w2.heap.size v xs [.string nm,.slice (A 0) (N 0) (C 0),.slice (A 1) (N 1) (C 1),.slice (A 2) (N 2) (C 2),.slice (A 3) (N 3) (C 3)] _ (aB (h.alloc _) c) (by simp;omega) a hp rfl (aae _ _) (λe=>by have:=(h.lt _ e).2;omega) b (by intro u hu;simp at hu;rcases hu with rfl|rfl|rfl|rfl|rfl<;>rfl)
theorem ins_ahead (b0 base n p)(v)(xs)(nm)(A:Nat->Option Addr)(N C:Nat->Nat)(W U w2:World)(a:Below U.heap.size U w2)(b:U.heap=(W.alloc (.cells #[.string nm,.slice (A 0) (N 0) (C 0),.slice (A 1) (N 1) (C 1),.slice (A 2) (N 2) (C 2),.slice (A 3) (N 3) (C 3)] 98)).heap)(h:w2.ownsRow b0 98 5 v n xs)(i:U.heap.size<=b0)(hb:base<=U.heap.size)(c:n<=1000)(hp:p<=n)(f:∀u∈xs,u.oneCell'=true):
 Calls (patch ae prog) 90 #[v,.int .i64 p,.slice (some ⟨W.heap.size,0,none⟩) 1 1] w2 λe w'=>∃v',e=.returned v'/\w'.ownsRow base 98 5 v' (n+1) (xs.take (p*5)++[.string nm,.slice (A 0) (N 0) (C 0),.slice (A 1) (N 1) (C 1),.slice (A 2) (N 2) (C 2),.slice (A 3) (N 3) (C 3)]++xs.drop (p*5))/\Below base w2 w':=by
 have g:U.heap.size=W.heap.size+1:=by rw[b];simp
 have d:w2.heap[W.heap.size]? =some (.cells #[.string nm,.slice (A 0) (N 0) (C 0),.slice (A 1) (N 1) (C 1),.slice (A 2) (N 2) (C 2),.slice (A 3) (N 3) (C 3)] 98 (0,0)):=(a.block _ (by omega)).trans (by rw[b];exact aae _ _);exact insertB_any base n p W.heap.size v xs [.string nm,.slice (A 0) (N 0) (C 0),.slice (A 1) (N 1) (C 1),.slice (A 2) (N 2) (C 2),.slice (A 3) (N 3) (C 3)] _ (aB h (by omega)) (ZP hb a.size) c hp rfl d (λe=>by have:=(h.lt _ e).1;omega) f (by intro u hu;simp at hu;rcases hu with rfl|rfl|rfl|rfl|rfl<;>rfl)
theorem with_any (base bb p)(s)(nm)(A:Nat->Option Addr)(N C:Nat->Nat)(vc vr vb vo)(d)(ys)(K)(w)(h:PS w base bb s vc vr vb vo d ys K)(hp:p<=s.bs.length):
 Calls (patch ae prog) 57 #[.pointer (some ⟨bb,0,none⟩),.int .i64 p,.agg #[.string nm,.slice (A 0) (N 0) (C 0),.slice (A 1) (N 1) (C 1),.slice (A 2) (N 2) (C 2),.slice (A 3) (N 3) (C 3)]] w λe w'=>∃v',e=.returned v'/\w'.ownsRow w.heap.size 98 5 v' (s.bs.length+1) (aR (s.bs.take p)++[.string nm,.slice (A 0) (N 0) (C 0),.slice (A 1) (N 1) (C 1),.slice (A 2) (N 2) (C 2),.slice (A 3) (N 3) (C 3)]++aR (s.bs.drop p))/\Below w.heap.size w w':=by
 have v:=av h;have f:=h.lt;have u:w.cell? ⟨bb,6,none⟩=some vb:=h.cell 6;obtain⟨m,c,rfl⟩:=aj h.boxes;clear h
 go_enter (pf func57 (by rfl)),ntmps57
 go_wp2_with fail;obtain⟨W,hW⟩:∃W,W=w.alloc (.cells #[.string nm,.slice (A 0) (N 0) (C 0),.slice (A 1) (N 1) (C 1),.slice (A 2) (N 2) (C 2),.slice (A 3) (N 3) (C 3)] 98):=⟨_,rfl⟩
 have r:SI w bb (.slice m s.bs.length c) #[.string nm,.slice (A 0) (N 0) (C 0),.slice (A 1) (N 1) (C 1),.slice (A 2) (N 2) (C 2),.slice (A 3) (N 3) (C 3)] W:=by
  have hA:Below w.heap.size w W:=by rw[hW];exact(aab _ _).alloc (ZL _) _
  refine⟨keeps hA u,λj=>?_,hA,by rw[hW];simp⟩;rw[hW];exact(blk (aae _ _)).1 j
 have l:Hid (∀U,Below w.heap.size w U->s.bs.length<=c/\(0<s.bs.length->∃b o,m=some ⟨b,o,none⟩/\fG U b o (aR s.bs))):=λU z=>by
  obtain⟨ao,cap,e,E,F,D,_⟩:=dV (v.out.below z).boxes;cases e;exact⟨E,λx=>let ⟨g,e,_,_,y⟩:=D x;⟨g,0,e,y⟩⟩
 have hlen:s.bs.length<=12:=v.out.ok.many;have q:Hid (w.heap.size+1<=W.heap.size):=r.2.2.2;rw[<-hW];clear hW u
 go_region_held3(λw'=>w'.cell? ⟨bb,6,none⟩=some (.slice m s.bs.length c)/\(∀j,w'.cell? ⟨w.heap.size,j,none⟩= #[.string nm,.slice (A 0) (N 0) (C 0),.slice (A 1) (N 1) (C 1),.slice (A 2) (N 2) (C 2),.slice (A 3) (N 3) (C 3)][j]?)/\Below w.heap.size w w'/\w.heap.size<w'.heap.size) (with_reducible (first|exact SI_start r|exact SI_start_alloc r f|exact SI_call (by assumption) f (by assumption)|exact SI_alloc (by assumption) f|exact SI_step (by assumption) f (by assumption)))
  (first
   |(go_at_call 46;refine(uM m s.bs.length c (aR s.bs) _ (by omega) (fe _) iD (l.out _ (SI_below (by assumption))).1 (l.out _ (SI_below (by assumption))).2).mono ?_;rintro e w2 ⟨a2,c2,rfl,i,k⟩)
   |(go_at_call 90;first
    |(refine(ins_behind _ (w.heap.size+1) s.bs.length p _ (aR s.bs) nm A N C w2 i q.out (ZP q.out k.size) (by omega) hp iD).mono ?_;rintro e w3 ⟨v3,rfl,a,n⟩)
    |(refine(ins_ahead _ (w.heap.size+1) s.bs.length p _ (aR s.bs) nm A N C W _ w2 k rfl i (ZL _) (le_alloc q.out) (by omega) hp iD).mono ?_;rintro e w3 ⟨v3,rfl,a,n⟩)))
 all_goals
  rename_i K t B;simp only[Exit.then];refine t _ _ ?_;clear t;rw[pP,pQ]at a;go_wp2_with fail;go_ret;exact⟨_,rfl,aB a (by omega),B.2.2.1⟩
theorem boxCells_erase (l)(p):(aR l).take (p*5)++(aR l).drop ((p+1)*5)=aR (l.eraseIdx p):=by
 rw[pP,pQ,<-iE,List.eraseIdx_eq_take_drop_succ]
theorem without_any (base bb p)(s)(vc vr vb vo)(d)(ys)(K)(w)(h:PS w base bb s vc vr vb vo d ys K)(hp:p<s.bs.length):
 Calls (patch ae prog) 58 #[.pointer (some ⟨bb,0,none⟩),.int .i64 p] w λe w'=>∃v',e=.returned v'/\w'.ownsRow w.heap.size 98 5 v' (s.bs.length-1) (aR (s.bs.eraseIdx p))/\NZ v'/\Below w.heap.size w w':=by
 have v:w.cell? ⟨bb,6,none⟩=some vb:=h.cell 6;have hlen:s.bs.length<=12:=h.ok.many;obtain⟨ao,cap,rfl,t,x,l,r⟩:=dV h.boxes;have u:Hid (0<s.bs.length->∃b o,ao=some ⟨b,o,none⟩/\fG w b o (aR s.bs)):=λn=>let ⟨g,e,_,_,q⟩:=l n;⟨g,0,e,q⟩
 have m:IntKind.i64.wrap ((p:Int)+1)=(p:Int)+1:=by rw[IntKind.wrap_i64];omega
 have i:((p+1:Nat):Int)=(p:Int)+1:=by omega
 clear h l r
 go_enter (pf func58 (by rfl)),ntmps58
 go_wp2_with fail;refine(uM ao s.bs.length cap (aR s.bs) w (by omega) (fe _) iD t u.out).mono ?_;rintro e w2 ⟨a2,c2,rfl,c,f⟩;go_wp2_with fail;have hd:=deleteOne_any w.heap.size s.bs.length p _ _ w2 c f.size (by omega) hp iD;rw[i]at hd;refine hd.mono ?_;rintro e w3 ⟨v3,rfl,a,j,k⟩;rw[boxCells_erase]at a;go_wp2_with fail;go_ret;exact⟨_,rfl,a,j,f.trans k⟩
def ReplacedV (bb base:Nat)(c0 e c2 c3 c4 c5 d v:Value)(no:Nat)(fl:Bool)(ah:Int)(f:TypeId)(g:Value)(w:World)(r:Value)(w':World):Prop:=
 (fl=true/\ah<4/\∃c b a,r=.iface 195 (.pointer (some ⟨c,0,none⟩))/\w'.cell? ⟨c,1,none⟩=some (.iface f g)/\w.heap.size<=c/\bY bb base c0 e c2 c3 c4 c5 d v w (no+ah.toNat) false 0 b a w')\/
 (¬(fl=true/\ah<4)/\r=.nilIface/\∃b a,bY bb base c0 e c2 c3 c4 c5 d v w (no+4) fl (ahN fl ah 4) b a w')
theorem Replaced.ret {bb base}{c0 j c2 c3 c4 c5 i v}{no}{fl}{ah}{f}{g}{w w'}{e}(h:Replaced bb base c0 j c2 c3 c4 c5 i v no fl ah f g w e w'):∃r,e=.returned r/\ReplacedV bb base c0 j c2 c3 c4 c5 i v no fl ah f g w r w':=by
 rcases h with⟨d,l,k,b,a,rfl,c⟩|⟨d,rfl,c⟩
 .exact⟨_,rfl,.inl ⟨d,l,k,b,a,rfl,c⟩⟩
 .exact⟨_,rfl,.inr ⟨d,rfl,c⟩⟩
structure dJ (w w':World)(K K':Nat->Nat):Prop where
 os:w'.os=w.os
 tape:w'.tape=w.tape
 output:w'.output=w.output
 size:w.heap.size<=w'.heap.size
 block:∀b,b<w.heap.size->K b=0\/K b=2->w'.heap[b]? =w.heap[b]?
 tag:∀b,b<w.heap.size->K' b=K b
theorem dJ.refl (w)(K):dJ w w K K:=⟨rfl,rfl,rfl,ZL _,λ_ _ _=>rfl,λ_ _=>rfl⟩
theorem dJ.trans {a b c}{g f e}(h:dJ a b g f)(k:dJ b c f e):dJ a c g e:=
 ⟨k.os.trans h.os,k.tape.trans h.tape,k.output.trans h.output,ZP h.size k.size,λx hx d=>(k.block x (ZO hx h.size) (by rw[h.tag x hx];exact d)).trans (h.block x hx d),λx hx=>(k.tag x (ZO hx h.size)).trans (h.tag x hx)⟩
theorem dJ.fq {w w'}{K}(h:Below w.heap.size w w'):dJ w w' K K:=⟨h.os,h.tape,h.output,h.size,λb hb _=>h.block b hb,λ_ _=>rfl⟩
def Bd (w:World)(base bb:Nat)(s:BS)(K:Nat->Nat):Prop:=∃vc vr vb vo d ys,PS w base bb s vc vr vb vo d ys K
theorem Bd.below {w w'}{base bb}{s}{K}(h:Bd w base bb s K)(hb:Below w.heap.size w w'):Bd w' base bb s K:=let ⟨vc,vr,vb,vo,d,ys,h⟩:=h;⟨vc,vr,vb,vo,d,ys,h.below hb⟩
def rowsOf (v:Value)(l:List fH):List (Option Nat):=v.ownBlock::l.flatMap λx=>[(x.sl 0).ownBlock,(x.sl 1).ownBlock,(x.sl 2).ownBlock,(x.sl 3).ownBlock]
theorem rowsOf_box {v}{l}{x}(hx:x∈l){q}(a:q<4):(x.sl q).ownBlock∈rowsOf v l:=by
 refine List.mem_cons_of_mem _ (List.mem_flatMap.2 ⟨x,hx,?_⟩);obtain rfl|rfl|rfl|rfl:q=0\/q=1\/q=2\/q=3:=by omega
 all_goals simp
theorem rowsOf_cases {v}{l}{o}(h:o∈rowsOf v l):o=v.ownBlock\/∃x∈l,∃q,q<4/\o=(x.sl q).ownBlock:=by
 rcases ZW.1 h with h|h
 .exact .inl h
 .obtain⟨x,hx,h⟩:=List.mem_flatMap.1 h
  simp only[ZW,List.not_mem_nil,or_false]at h;rcases h with h|h|h|h
  .exact .inr ⟨x,hx,0,by omega,h⟩
  .exact .inr ⟨x,hx,1,by omega,h⟩
  .exact .inr ⟨x,hx,2,by omega,h⟩
  .exact .inr ⟨x,hx,3,by omega,h⟩
def retag (K:Nat->Nat)(z0:Nat)(v:Value)(t:Nat)(R:List (Option Nat))(b:Nat):Nat:=if b<z0 then K b else if v.ownBlock=some b then t else if some b∈R then 2 else 0
def BS.written (s:BS)(l:List fH):BS:={s with bs:=l,no:=s.no+4,ah:=ahN s.fl s.ah 4}
def BS.failed (s:BS):BS:={s with no:=s.no+s.ah.toNat,fl:=false,ah:=0}
def BS.jQ (s:BS):Prop:=s.fl=true/\s.ah<4
theorem BS.D_ok {s s':BS}(h:s.D.ok)(hm:s'.m=s.m)(c:s'.dn=s.dn)(b:s'.dN=s.dN)(a:s'.dH=s.dH):s'.D.ok:=by
 obtain⟨m,dn,dN,dH,bs,no,fl,ah⟩:=s;obtain⟨m',f,g,i,j,d,e,k⟩:=s';simp only at hm c b a;subst hm c b a;exact⟨h.few,h.nodes,h.res,h.dC⟩
theorem BS.written_ok {s:BS}{l}(h:s.ok)(c:s.no+4<=1000000000)(hl:l.length<=12)(hs:∀x∈l,x.small)(hf:¬s.jQ):(s.written l).ok:=by
 refine⟨h.mach,BS.D_ok h.d rfl rfl rfl rfl,hl,hs,c,?_⟩;have b:=h.ah.1;have f:=h.ah.2;unfold In64 at b;show In64 (ahN s.fl s.ah 4)/\(s.fl=true->0<=ahN s.fl s.ah 4)
 unfold ahN In64
 by_cases a:s.fl=true
 .rw[if_pos a]
  have e:¬s.ah<4:=λh=>hf ⟨a,h⟩
  omega
 .rw[if_neg a]
  exact⟨b,λh=>absurd h a⟩
theorem BS.failed_ok {s:BS}(h:s.ok)(a:s.no+4<=1000000000)(hf:s.jQ):s.failed.ok:=by
 refine⟨h.mach,BS.D_ok h.d rfl rfl rfl rfl,h.many,h.small,?_,?_⟩
 .have:=hf.2;have:=h.ah.2 hf.1;show s.no+s.ah.toNat<=_;omega
 .show In64 0/\_
  unfold In64;exact⟨by omega,λh=>by cases h⟩
theorem PS.turn {l w1 w3}{base bb}{s s'}{vc vr vb vo vb' i}{d}{ys A}{K}(c:PS l base bb s vc vr vb vo d ys K)(hb:Below l.heap.size l w1)
 (H:∀b,b<w1.heap.size->b≠bb->vo.ownBlock≠some b->w3.heap[b]? =w1.heap[b]?)(L:w1.heap.size<=w3.heap.size)(N:w3.os=w1.os)(J:w3.tape=w1.tape)(M:w3.output=w1.output)
 (D:w3.heap[bb]? =some (.cells (psC s' vc vr vb' i d) 95 (0,0)))(y:w3.ownsRow base 156 4 i s'.no A)(G:∀b,i.ownBlock=some b->vo.ownBlock=some b\/w1.heap.size<=b)
 (hm:s'.m=s.m)(I:s'.dn=s.dn)(V:s'.dN=s.dN)(U:s'.dH=s.dH)
 (v:w1.ownsRow base 98 5 vb' s'.bs.length (aR s'.bs))(C:∀b,vb'.ownBlock=some b->K b=2\/l.heap.size<=b)
 (f:∀x∈s'.bs,x.lies base w1)(w:∀x∈s'.bs,∀q,q<4->∀b,(x.sl q).ownBlock=some b->K b=2\/l.heap.size<=b)(O:s'.ok):
 PS w3 base bb s' vc vr vb' i d A (retag K l.heap.size i 8 (rowsOf vb' s'.bs))/\dJ l w3 K (retag K l.heap.size i 8 (rowsOf vb' s'.bs)):=by
 have z:=hb.size;have old:∀b,b<l.heap.size->retag K l.heap.size i 8 (rowsOf vb' s'.bs) b=K b:=λb h=>if_pos h
 have g:∀{b},K b≠0->b<l.heap.size:=λh=>(c.tk _ h).2
 have o:∀b,vo.ownBlock=some b->K b=8:=c.tq
 have safe:∀b,b<w1.heap.size->(K b=2\/l.heap.size<=b)->some b∈rowsOf vb' s'.bs->w3.heap[b]? =w1.heap[b]?/\retag K l.heap.size i 8 (rowsOf vb' s'.bs) b=2:=λb hl Q hR=>by
  rcases Q with h|h
  .refine⟨H b hl (λe=>?_) (λe=>?_),?_⟩
   .rw[e,c.tb]at h;omega
   .rw[o b e]at h;omega
   .rw[old b (g (by omega))];exact h
  .refine⟨H b hl (λe=>?_) (λe=>?_),?_⟩
   .have:=c.lt;omega
   .have:=g (b:=b) (by rw[o b e];omega);omega
   .unfold retag
    rw[if_neg (by omega),if_neg (λe=>?_),if_pos hR];rcases G b e with T|T
    .have:=g (b:=b) (by rw[o b T];omega);omega
    .omega
 have kept:∀b,K b≠0->K b≠1->K b≠8->w3.heap[b]? =l.heap[b]?:=λb S I R=>(H b (ZO (g S) z) (λe=>I (by rw[e];exact c.tb)) (λe=>R (o b e))).trans (hb.block b (g S))
 have u:oq s'.m=oq s.m/\resL s'.m=resL s.m/\s'.m.n=s.m.n/\s'.m.r=s.m.r:=by rw[hm];exact⟨rfl,rfl,rfl,rfl⟩
 have B:∀k,dvL s' k=dvL s k/\s'.dn k=s.dn k:=λk=>by
  have e:∀j,iB s' k j=iB s k j:=λj=>by unfold iB;rw[V,U]
  exact⟨by unfold dvL;rw[I];exact List.map_congr_left λj _=>e j,by rw[I]⟩
 refine⟨⟨D,?_,?_,λk p=>?_,aJ v λb a=>(safe b (v.lt b a).2 (C b a) (a▸ZX)).1,λx hx q t=>⟨aJ (f x hx q t).1 λb a=>(safe b ((f x hx q t).1.lt b a).2 (w x hx q t b a) (a▸rowsOf_box hx t)).1,(f x hx q t).2⟩,y,
  (old bb c.lt).trans c.tb,λb a=>?_,λb a=>?_,λb a=>(safe b (v.lt b a).2 (C b a) (a▸ZX)).2,λx hx q t b a=>(safe b ((f x hx q t).1.lt b a).2 (w x hx q t b a) (a▸rowsOf_box hx t)).2,λk p b a=>?_,λb a=>?_,λb a=>?_,O⟩,⟨N.trans hb.os,J.trans hb.tape,M.trans hb.output,ZP z L,λb E F=>?_,old⟩⟩
 .rw[u.2.2.1,u.1];exact aJ c.dA λb a=>kept b (by rw[c.tc b a];omega) (by rw[c.tc b a];omega) (by rw[c.tc b a];omega)
 .rw[u.2.2.2,u.2.1];exact aJ c.res λb a=>kept b (by rw[c.tr b a];omega) (by rw[c.tr b a];omega) (by rw[c.tr b a];omega)
 .rw[(B k).2,(B k).1];exact aJ (c.dC k p) λb a=>kept b (by rw[c.td k p b a];omega) (by rw[c.td k p b a];omega) (by rw[c.td k p b a];omega)
 .have h:=c.tc b a;rw[old b (g (by omega))];exact h
 .have h:=c.tr b a;rw[old b (g (by omega))];exact h
 .have h:=c.td k p b a;rw[old b (g (by omega))];exact h
 .rcases G b a with h|h
  .have R:=o b h;rw[old b (g (by omega))];exact R
  .unfold retag;rw[if_neg (by omega),if_pos a]
 .have P:base<=l.heap.size:=ZP c.left (Nat.le_of_lt c.lt)
  unfold retag at a;split at a
  .have:=c.tk b a;exact⟨this.1,by omega⟩
  .split at a
   .exact y.lt b (by assumption)
   .split at a
    .rcases rowsOf_cases (by assumption)with h|⟨x,hx,q,t,h⟩
     .have:=v.lt b h.symm;exact⟨this.1,by omega⟩
     .have:=(f x hx q t).1.lt b h.symm;exact⟨this.1,by omega⟩
    .exact absurd rfl a
 .refine(H b (ZO E z) (λe=>?_) (λe=>?_)).trans (hb.block b E)
  .rw[e,c.tb]at F;omega
  .rw[o b e]at F;omega
def ChangeEnd (s:BS)(l:List fH)(r:Value)(s':BS):Prop:=(s.jQ/\r=.int .i64 11/\s'=s.failed)\/(¬s.jQ/\r=.int .i64 0/\s'=s.written l)
def ChangePost (a w:World)(base bb:Nat)(s:BS)(K:Nat->Nat)(v:Value)(l:List fH)(r:Value)(w':World):Prop:=∃s' c,ChangeEnd s l r s'/\Bd w' base bb s' c/\dJ a w' K c/\w.heap.size<=w'.heap.size/\(∀b,a.heap.size<=b->b<w.heap.size->w'.heap[b]? =w.heap[b]?)/\
 ∀b,a.heap.size<=b->b<w.heap.size->v.ownBlock≠some b->(∀x∈l,∀q,q<4->(x.sl q).ownBlock≠some b)->c b=0
theorem retag_none {K}{z0 b}{v v'}{t}{l}(f:z0<=b)(e:v.ownBlock≠some b)(d:v'.ownBlock≠some b)(c:∀x∈l,∀q,q<4->(x.sl q).ownBlock≠some b):retag K z0 v t (rowsOf v' l) b=0:=by
 unfold retag;rw[if_neg (by omega),if_neg e,if_neg];intro h;rcases rowsOf_cases h with h|⟨x,hx,q,a,h⟩
 .exact d h.symm
 .exact c x hx q a h.symm
theorem changeP_any (base bb)(s)(vc vr vb vo v)(d)(ys)(K)(l)(a)(A w)(Y:PS A base bb s vc vr vb vo d ys K)(hb:Below A.heap.size A w)
 (o:w.ownsRow A.heap.size 98 5 v l.length (aR l))(U:NZ v)(n:∀x∈l,x.lies base w)(E:∀x∈l,∀q,q<4->∀b,(x.sl q).ownBlock=some b->K b=2\/A.heap.size<=b)(F:∀x∈l,x.small)(hl:l.length<=12)(G:s.no+4<=1000000000)
 (Z:A.cell? ⟨0,0,none⟩=some (.iface 345 (.pointer (some a))))(M:0<base):
 Calls (patch ae prog) 56 #[.pointer (some ⟨bb,0,none⟩),v] w (RJ (ChangePost A w base bb s K v l) AA):=by
 have γ:bb<w.heap.size:=ZO Y.lt hb.size;have bd:Below w.heap.size w w.drew:=(aab _ _).drew;have hT:je w.drew (CB w.drew) v l.length 10000:=boxes_text (w:=w.drew) (base2:=base) o U n F (by omega);have f:=av (aaa Y (aaa hb (aaa o (aaa n (aaa E (aaa F Z))))));have HT:=av hT;obtain⟨D,j,rfl⟩:=aj o
 have HR:Hid (∀u,Below w.heap.size w u->Calls (patch ae prog) 87 #[.pointer (some ⟨bb,7,none⟩),.string ⟨#[98,111,120,101,115]⟩,.nilFunc] u λe w'=>Replaced bb base vc vr (.int .i64 s.m.p) (d 0) (d 1) (d 2) vb vo s.no s.fl s.ah 345 (.pointer (some a)) u e w'):=λu hu=>by
  have c:=f.out.1.below (ai f.out.2.1 hu);refine replaceP_any bb base s.no vc vr (.int .i64 s.m.p) (d 0) (d 1) (d 2) vb vo (.pointer (some a)) 345 s.fl s.ah ys ⟨#[98,111,120,101,115]⟩ u (by decide) c.blk (λh=>⟨c.ok.ah.2 h,c.ok.ah.1.2⟩) (λe=>?_) (ZP c.left (Nat.le_of_lt c.lt)) c.ops (by omega) (keeps (ai f.out.2.1 hu) Z) (Nat.ne_of_lt (ZO M c.left)) (λe=>?_)
  .have k:=c.tb
   rw[c.tq bb e]at k;omega
  .have:=(c.ops.lt _ e).1
   omega
 go_enter (pf func56 (by rfl)),ntmps56
 go_wp2_with fail
 go_region_law(first
  |(go_simp;go_at_call 88;refine(textD_any _ l.length 10000 w.drew HT.out).mono ?_;intro e w1 he;rcases e with r|ch|_;rotate_left;(first|exact⟨rfl,he⟩|(simp;exact⟨rfl,he⟩));(exact he.elim);(obtain⟨rfl,V,J⟩:=he);have H1:=av (bd.trans (J:Below w.heap.size w.drew w1));clear V J;dsimp only)
  |(go_simp;go_at_call 87;refine(HR.out w1 H1.out).mono ?_;rintro e w2 y;obtain⟨r,rfl,X⟩:=y.ret;have H2:=av X;clear X y;dsimp only))
 all_goals
  have c:=f.out.1.below (ai f.out.2.1 H1.out);have H:vo.ownBlock≠some bb:=λe=>by have k:=c.tb;rw[c.tq bb e]at k;omega
  have B:=ZP f.out.1.left (Nat.le_of_lt f.out.1.lt);have N:=keeps (ai f.out.2.1 H1.out) f.out.2.2.2.2.2.2;have L:vo.ownBlock≠some 0:=λe=>by have:=(c.ops.lt _ e).1;omega
  have z:=Nat.ne_of_lt (ZO M c.left);have O:=ai f.out.2.1 H1.out;rcases H2.out with⟨f1,f2,pb,C,Q,rfl,T,β,hd⟩|⟨hf,rfl,C,Q,hd⟩
  .have W:=hd.glob N z L
   have g:=av (aaa hd (aaa c (aaa H O)));have P:Hid (s.jQ):=⟨f1,f2⟩;go_wp2_with(go_at_call 89;refine(isWrapped_any pb a w2 T).mono ?_;rintro e w3 ⟨rfl,hw⟩;obtain rfl:=hw.symm);go_ret;obtain⟨R,p2⟩:=PS.turn (s':=s.failed) f.out.1 g.out.2.2.2 (λb hb k t=>g.out.1.block b hb k t) g.out.1.size g.out.1.os g.out.1.tape g.out.1.output g.out.1.blk g.out.1.own g.out.1.at_ rfl rfl rfl rfl g.out.2.1.boxes (λb hb=>.inl (f.out.1.tx b hb)) g.out.2.1.rows (λx hx q S b hb=>.inl (f.out.1.tl x hx q S b hb)) (BS.failed_ok f.out.1.ok G P.out);refine⟨_,_,.inl ⟨P.out,rfl,rfl⟩,⟨_,_,_,_,_,_,R⟩,p2,ZP H1.out.size g.out.1.size,λb k t=>?_,λb k t _ _=>?_⟩
   .refine(g.out.1.block b (ZO t H1.out.size) (λe=>?_) (λe=>?_)).trans (H1.out.block b t)
    .have:=f.out.1.lt;omega
    .have:=(f.out.1.ops.lt b e).2;omega
   .refine retag_none k (λe=>?_) (λe=>?_) (λx hx q S e=>?_)
    .rcases g.out.1.at_ b e with h|h
     .have:=(f.out.1.ops.lt b h).2;omega
     .have:=H1.out.size;omega
    .have:=(f.out.1.boxes.lt b e).2;omega
    .have:=((f.out.1.rows x hx q S).1.lt b e).2;omega
  .have W:=hd.glob N z L
   have g:=av (aaa hd (aaa c (aaa H O)));have P:Hid (¬s.jQ):=hf;obtain⟨q0,α⟩:=blk hd.blk;go_wp2_with(go_at_call 89;refine(isNilP_any _ _ w2).mono ?_;rintro e w3 ⟨rfl,hw⟩;obtain rfl:=hw.symm);go_ret
   have I:(w2.setCell ⟨bb,6,none⟩ (.slice D l.length j)).heap[bb]? =some (.cells (psC (s.written l) vc vr (.slice D l.length j) C d) 95 (0,0)):=by
        have:=aD (i:=6) (.slice D l.length j) g.out.1.blk;simp at this;exact this
   obtain⟨R,p2⟩:=PS.turn (s':=s.written l) (vb':=.slice D l.length j) (w3:=w2.setCell ⟨bb,6,none⟩ (.slice D l.length j)) f.out.1 g.out.2.2.2 (λb hb k t=>(aad _ _ _ _ k).trans (g.out.1.block b hb k t)) (by simpa using g.out.1.size) g.out.1.os g.out.1.tape g.out.1.output I
        (ownsRow_setCell_other g.out.1.own (g.out.1.ne g.out.2.2.1 (ZO f.out.1.lt g.out.2.2.2.size)) _) g.out.1.at_ rfl rfl rfl rfl (aB (au f.out.2.2.1 H1.out) B) (λb hb=>.inr (f.out.2.2.1.lt b hb).1) (λx hx=>(f.out.2.2.2.1 x hx).below H1.out) f.out.2.2.2.2.1 (BS.written_ok f.out.1.ok G hl f.out.2.2.2.2.2.1 P.out)
   refine⟨_,_,.inr ⟨P.out,rfl,rfl⟩,⟨_,_,_,_,_,_,R⟩,p2,by simpa using ZP H1.out.size g.out.1.size,λb k t=>?_,λb k t h3 h4=>?_⟩
   .refine(aad _ _ _ _ (λe=>?_)).trans ((g.out.1.block b (ZO t H1.out.size) (λe=>?_) (λe=>?_)).trans (H1.out.block b t))
    .have:=f.out.1.lt;have e':b=bb:=e;omega
    .have:=f.out.1.lt;omega
    .have:=(f.out.1.ops.lt b e).2;omega
   .refine retag_none k (λe=>?_) h3 h4
    rcases g.out.1.at_ b e with h|h
    .have:=(f.out.1.ops.lt b h).2;omega
    .have:=H1.out.size;omega
def aas (x y:fH):Prop:=Dv x.nm y.nm<0
def Apart (x y:fH):Prop:=∀q,q<4->∀i∈x.T q,i∉y.T q
theorem Apart.symm {x y:fH}(h:Apart x y):Apart y x:=λq a i c b=>h q a i b c
theorem aas.trans {x y z:fH}(h:aas x y)(k:aas y z):aas x z:=cmpL_trans h k
def fH.fine (x:fH)(m:cz):Prop:=1<=x.nm.size/\x.nm.size<=20/\(∃q,q<4/\x.T q≠[])/\∀q,q<4->(x.T q).Pairwise (· < ·)/\∀i∈x.T q,if q=0 then i<m.n/\¬among m.R m.r i else i<16
structure BS.fine (s:BS):Prop where
 box:∀x∈s.bs,x.fine s.m
 rises:s.bs.Pairwise aas
 apart:s.bs.Pairwise Apart
def BS.ins (s:BS)(p:Nat)(x:fH):BS:={s with bs:=s.bs.take p++x::s.bs.drop p}
def BS.del (s:BS)(p:Nat):BS:={s with bs:=s.bs.eraseIdx p}
theorem qZ {l:List fH}{p}{x y}(h:y∈l.take p++x::l.drop p):y=x\/y∈l:=by
 rcases aaz.1 h with h|h
 .exact .inr (List.mem_of_mem_take h)
 .rcases ZW.1 h with h|h
  .exact .inl h
  .exact .inr (List.mem_of_mem_drop h)
theorem pairwise_ins {l:List fH}{R:fH->fH->Prop}{p:Nat}{x:fH}(h:l.Pairwise R)(i:∀y∈l.take p,R y x)(g:∀y∈l.drop p,R x y):(l.take p++x::l.drop p).Pairwise R:=by
 have d:=h;rw[<-List.take_append_drop p l]at d;obtain⟨k1,f,e⟩:=List.pairwise_append.1 d;refine List.pairwise_append.2 ⟨k1,List.pairwise_cons.2 ⟨g,f⟩,λa c b hb=>?_⟩;rcases ZW.1 hb with rfl|hb
 .exact i a c
 .exact e a c b hb
theorem jw.ahead {l:List fH}{x:fH}{p:Nat}(h:l.Pairwise aas)(hf:jw l.length (mU l) x.nm p false):(∀y∈l.take p,aas y x)/\∀y∈l.drop p,aas x y:=by
 obtain⟨i,f,d,c⟩:=hf;have a:=List.pairwise_iff_getElem.1 h;refine⟨λy hy=>?_,λy hy=>?_⟩
 .obtain⟨j,b,rfl⟩:=List.mem_iff_getElem.1 hy
  rw[List.length_take]at b;rw[List.getElem_take];have hp:p-1<l.length:=by omega
  have k:aas l[p-1] x:=by
   have:=f (by omega);rw[M4 hp]at this;exact this
  by_cases e:j=p-1
  .subst e;exact k
  .exact(a j (p-1) (by omega) hp (by omega)).trans k
 .obtain⟨j,b,rfl⟩:=List.mem_iff_getElem.1 hy
  rw[List.length_drop]at b;rw[List.getElem_drop];have hp:p<l.length:=by omega
  have k:aas x l[p]:=by
   have g:=d hp;have a2:¬(p<l.length/\Dv (mU l p) x.nm=0):=λh=>by have:=c.2 h;cases this
   rw[M4 hp]at g a2;have a3:Dv l[p].nm x.nm≠0:=λe=>a2 ⟨hp,e⟩
   have a4:=cmpL_neg l[p].nm.data.toList x.nm.data.toList;show Lib.compareBytes _ _<0
   rw[a4];have a5:Dv l[p].nm x.nm=Lib.compareBytes l[p].nm.data.toList x.nm.data.toList:=rfl;omega
  by_cases e:j=0
  .subst e;exact k
  .exact k.trans (a p (p+j) hp (by omega) (by omega))
theorem owned_of {s:BS}{y:fH}{q i:Nat}(hy:y∈s.bs)(c:i∈y.T q):ownd s.D q i:=by
 obtain⟨k,a,rfl⟩:=List.mem_iff_getElem.1 hy;obtain⟨j,b,rfl⟩:=List.mem_iff_getElem.1 c;refine⟨k,a,j,?_,?_⟩
 .show j< (ownT s.bs k q).length
  rw[ownT_at a];exact b
 .show(((ownT s.bs k q)[j]?.getD 0:Nat):Int)=_
  rw[ownT_at a,ZT b];rfl
theorem of_owned {s:BS}{q:Nat}{i:Nat}(h:ownd s.D q i):∃y∈s.bs,i∈y.T q:=by
 obtain⟨k,d,j,f,e⟩:=h;have b:k<s.bs.length:=d;have a:j< (ownT s.bs k q).length:=f;have c:(((ownT s.bs k q)[j]?.getD 0:Nat):Int)=i:=e;rw[ownT_at b]at a c;rw[ZT a]at c;refine⟨_,List.getElem_mem b,?_⟩;have:(s.bs[k].T q)[j]=i:=Int.ofNat.inj (by simpa using c);rw[<-this];exact List.getElem_mem a
theorem mem_frN {D:BD}{r i:Nat}(h:i∈gq D r):i∈dL D r/\¬ownd D r i:=by
 unfold gq kept at h;obtain⟨b,a⟩:=List.mem_filter.1 h;exact⟨b,by simpa using a⟩
theorem BS.fine.ins {s:BS}{p m:Nat}{x:fH}{c:Nat->Nat}(h:s.fine)(k:1<=x.nm.size/\x.nm.size<=20)(hf:jw s.bs.length (mU s.bs) x.nm p false)(g:∀q,q<4->Given s.D m q (c q) (x.T q))(hc:∃q,q<4/\0<c q)(j:s.D.ok):(s.ins p x).fine:=by
 obtain⟨f1,f2⟩:=hf.ahead h.rises;have d:∀y∈s.bs,Apart x y:=λy hy q a i b f=>(mem_frN ((g q a).2.2 i b).1).2 (owned_of hy f)
 refine⟨λy hy=>?_,pairwise_ins h.rises f1 f2,pairwise_ins h.apart (λy hy=>(d y (List.mem_of_mem_take hy)).symm) λy hy=>d y (List.mem_of_mem_drop hy)⟩;rcases qZ hy with rfl|hy
 .refine⟨k.1,k.2,?_,λq a=>⟨(g q a).2.1,λi o=>?_⟩⟩
  .obtain⟨q,a,hc⟩:=hc
   exact⟨q,a,λe=>by have:=(g q a).1;rw[e]at this;simp at this;omega⟩
  .have b:=(mem_frN ((g q a).2.2 i o).1).1
   have f:=usN_in _ _ i b
   by_cases n:q=0
   .subst n
    rw[if_pos rfl]at f⊢;refine⟨f,λr=>?_⟩;unfold dL at b;rw[if_pos rfl]at b;have l:=(List.mem_filter.1 b).2;rw[(resB_iff (mk0 s.D 0) i).2 r]at l;simp at l
   .rw[if_neg n]at f⊢
    have:=(j.dC (q-1) (by omega)).1;omega
 .exact h.box y hy
theorem BS.fine.del {s:BS}{p:Nat}(h:s.fine):(s.del p).fine:=
 ⟨λy hy=>h.box y (List.mem_of_mem_eraseIdx hy),h.rises.sublist (List.eraseIdx_sublist _ _),h.apart.sublist (List.eraseIdx_sublist _ _)⟩
end Z
