/- Part 11 of the proof. -/
import Derived.Test.YtfpaamhppamcoaaGreatDoorPo10
import Derived.Stop.Asserts
import Derived.Lib.AppendZerosOnto
import Derived.Lib.Overlaps
set_option linter.all false
set_option maxRecDepth 100000
set_option maxHeartbeats 60000000
namespace Go.Proofs.YtfpaamhppamcoaaGreatDoor
open Go.Proofs.Tryz
namespace Z
open Go.RowKit
attribute [local go_sem ↓] Go.wp_at_zero Go.wp_at_succ
attribute [local go_sem] After.cell After.frozen After.const
def JR:((patch ae prog).info? 156).map (λi=>(i.zero,i.size,i.bytes))=some (some (.agg #[.int .i64 0,.string ⟨#[]⟩,.string ⟨#[]⟩,.string ⟨#[]⟩]),4,56):=by kernel_rfl
def Jz:(patch ae prog).underlying 66=some (.slice 156):=by kernel_rfl
section
variable {P:Program}(w:World)
def DI (t ty)(base)(e)(i)(z)(size bytes)(y:P.underlying t=some (.slice e))(B:P.info? e=some i)(x:i.zero=some z)
 (d:i.size=size)(q:i.bytes=bytes)(o:z.cells.size=size)(p:0<size)
 (v)(n)(xs)(k:w.ownsRow base e size v n xs)
 (ad)(m c)(news)(hl:news.length=m*size)(f:∀j u,news[j]? =some u->w.cell? (ad.add j)=some u)(E:∀u∈news,u.oneCell'=true)
 (hm:0<m)(s:n+m<=maxLen)(a:(n+m)*bytes<=140737488355328)(h:base<=w.heap.size):
 ∃v' w',(Builtin.append_ #[t,t] ty #[v,.slice (some ad) m c]).run P w=.ok v' w'/\w'.ownsRow base e size v' (n+m) (xs++news)/\w.grownBy w' v.ownBlock/\∀b,v'.ownBlock=some b->v.ownBlock=some b\/w.heap.size<=b:=by
 obtain⟨g,cap,w',A,D,C,l,F⟩:=run_append_lies (P:=P) w t ty base e i z size bytes y B x d q o p v n xs k ad m c news hl f E hm s a h w.heap.size rfl;refine⟨_,w',A,D,C,λb hb=>?_⟩;have r:g=b:=adn hb;subst r;rcases l with l|l
 .exact .inl l
 .exact .inr (by omega)
end
def ib {P}{ops}{o}{a}{w}{K}{Q}{E}
 (r:o.guard=none)(s x)(t)(g:o.op=Op.call {callee:=Callee.builtin Builtin.append,args:= #[s,x],argTypes:= #[t,t]})
 (base)(e)(i)(z)(size bytes)(H:P.underlying t=some (.slice e))(G:P.info? e=some i)(F:i.zero=some z)(D:i.size=size)(C:i.bytes=bytes)(B:z.cells.size=size)(A:0<size)
 (v)(k)(xs)(hs:a.eval s=v)(f:w.ownsRow base e size v k xs)(ad)(m c)(news)(hx:a.eval x=.slice (some ad) m c)(q:news.length=m*size)
 (hc:∀j u,news[j]? =some u->w.cell? (ad.add j)=some u)(h:∀u∈news,u.oneCell'=true)(hm:0<m)(b1:k+m<=maxLen)(b2:(k+m)*bytes<=140737488355328)(b3:base<=w.heap.size)
 (y:∀v' w',w'.ownsRow base e size v' (k+m) (xs++news)->w.grownBy w' v.ownBlock->(∀b,v'.ownBlock=some b->v.ownBlock=some b\/w.heap.size<=b)->K (a.put o.dst v') w'):
 if Region.wanted o (yielded ops a.tmps)=true then Oper.wp P o a w K Q else E:=by
 have hw:Region.wanted o (yielded ops a.tmps)=true:=by simp[Region.wanted,r]
 rw[if_pos hw];obtain⟨v',w',d,p,n,l⟩:=DI (P:=P) w t o.type base e i z size bytes H G F D C B A v k xs f ad m c news q hc h hm b1 b2 b3;unfold Oper.wp;simp[execOp,g,resolve,invoke,builtin,hs,hx,d,Result.andThen];exact y v' w' p n l
structure bY (bb base:Nat)(c0 c1 c2 c3 c4 c5 c6 vo:Value)(w:World)(no:Nat)(fl:Bool)(ah:Int)(V':Value)(X8:List Value)(w':World):Prop where
 blk:w'.heap[bb]? =some (.cells #[c0,c1,c2,c3,c4,c5,c6,V',.bool fl,.int .i64 ah] 95 (0,0))
 own:w'.ownsRow base 156 4 V' no X8
 at_:∀b,V'.ownBlock=some b->vo.ownBlock=some b\/w.heap.size<=b
 os:w'.os=w.os
 tape:w'.tape=w.tape
 output:w'.output=w.output
 size:w.heap.size<=w'.heap.size
 block:∀b,b<w.heap.size->b≠bb->vo.ownBlock≠some b->w'.heap[b]? =w.heap[b]?
def bY.trans {bb base}{c0 j c2 c3 c4 c5 i vo f d}{g c}{w w1 w2}{o l}{f1 f2}{p a2}
 (h:bY bb base c0 j c2 c3 c4 c5 i vo w o f1 p f g w1)(k:bY bb base c0 j c2 c3 c4 c5 i f w1 l f2 a2 d c w2):bY bb base c0 j c2 c3 c4 c5 i vo w l f2 a2 d c w2:=by
 refine⟨k.blk,k.own,λb hb=>?_,k.os.trans h.os,k.tape.trans h.tape,k.output.trans h.output,ZP h.size k.size,λb hb a n=>?_⟩
 .rcases k.at_ b hb with a|a
  .exact h.at_ b a
  .exact .inr (ZP h.size a)
 .refine(k.block b (ZO hb h.size) a λe=>?_).trans (h.block b hb a n)
  rcases h.at_ b e with m|m
  .exact n m
  .omega
def bY.below {bb base}{c0 f c2 c3 c4 c5 e vo c}{a}{w w1 w2}{d}{f1}{g}
 (h:bY bb base c0 f c2 c3 c4 c5 e vo w d f1 g c a w1)(k:adN w1 w2):bY bb base c0 f c2 c3 c4 c5 e vo w d f1 g c a w2:=by
 refine⟨(k.block bb (ZK.1 h.blk).1).trans h.blk,au h.own k,h.at_,k.os.trans h.os,k.tape.trans h.tape,k.output.trans h.output,ZP h.size k.size,λb hb j i=>(k.block b (ZO hb h.size)).trans (h.block b hb j i)⟩
def bY.start {bb base}{c0 g c2 c3 c4 c5 f vo c}{a}{w w1 w2}{e}{f1}{i}
 (k:adN w w1)(h:bY bb base c0 g c2 c3 c4 c5 f vo w1 e f1 i c a w2):bY bb base c0 g c2 c3 c4 c5 f vo w e f1 i c a w2:=by
 refine⟨h.blk,h.own,λb hb=>(h.at_ b hb).imp id λd=>ZP k.size d,h.os.trans k.os,h.tape.trans k.tape,h.output.trans k.output,ZP k.size h.size,λb hb d j=>(h.block b (ZO hb k.size) d j).trans (k.block b hb)⟩
def UF (x:Value):Prop:=(∃s,x=.string s)\/x=.nilFunc
def R7 (bb base n)(c0 K c2 c3 c4 c5 J v x3)(k ah)(s1 s2)(xs)(w)(hb:w.heap[bb]? =some (.cells #[c0,K,c2,c3,c4,c5,J,v,.bool false,.int .i64 ah] 95 (0,0)))(l:v.ownBlock≠some bb)(S:base<=w.heap.size)(h:w.ownsRow base 156 4 v n xs)(hn:n<=2000000000)(r:UF x3):
 adO 140 #[.pointer (some ⟨bb,7,none⟩),.agg #[.int .i64 k,.string s1,.string s2,x3]] w λe w'=>e=.returned .nilIface/\∃z y,bY bb base c0 K c2 c3 c4 c5 J v w (n+1) false ah z y w':=by
 obtain⟨i0,F,C,B,A⟩:=info_parts JR;have D:=Jz;have Q:=h.lt;obtain⟨q,vc,rfl⟩:=aj h;have G:=(ZK.1 hb).1;have M:x3.oneCell'=true:=by rcases r with⟨s,rfl⟩|rfl<;>rfl
 have o:=(aac w (.cells #[.int .i64 k,.string s1,.string s2,x3] 156) bb G).trans hb;have m:=(aac (w.alloc (.cells #[.int .i64 k,.string s1,.string s2,x3] 156)) (.cells #[.int .i64 k,.string s1,.string s2,x3] 156) bb (by simp;omega)).trans o
 have L:((w.alloc (.cells #[.int .i64 k,.string s1,.string s2,x3] 156)).alloc (.cells #[.int .i64 k,.string s1,.string s2,x3] 156)).heap[w.heap.size+1]? =some (.cells #[.int .i64 k,.string s1,.string s2,x3] 156 (0,0)):=by
  have:=aae (w.alloc (.cells #[.int .i64 k,.string s1,.string s2,x3] 156)) (.cells #[.int .i64 k,.string s1,.string s2,x3] 156);rw[aao]at this;exact this
 have W:Hid (∀j u,[Value.int .i64 k,.string s1,.string s2,x3][j]? =some u->((w.alloc (.cells #[.int .i64 k,.string s1,.string s2,x3] 156)).alloc (.cells #[.int .i64 k,.string s1,.string s2,x3] 156)).cell? ((⟨w.heap.size+1,0,none⟩:Addr).add j)=some u):=λj u R=>by
  rw[Addr.add_lit,Z8,(blk L).1 j];simpa using R
 have x:Hid (((w.alloc (.cells #[.int .i64 k,.string s1,.string s2,x3] 156)).alloc (.cells #[.int .i64 k,.string s1,.string s2,x3] 156)).ownsRow base 156 4 (.slice q n vc) n xs/\base<=((w.alloc (.cells #[.int .i64 k,.string s1,.string s2,x3] 156)).alloc (.cells #[.int .i64 k,.string s1,.string s2,x3] 156)).heap.size/\(∀u∈[Value.int .i64 k,.string s1,.string s2,x3],u.oneCell'=true)/\n+1<=maxLen/\(n+1)*56<=140737488355328):=
  ⟨(h.alloc _).alloc _,by simp;omega,by intro u hu;simp at hu;rcases hu with rfl|rfl|rfl|rfl<;>first|rfl|exact M,by unfold maxLen;omega,by omega⟩
 have X:Hid (∀w2:World,((w.alloc (.cells #[.int .i64 k,.string s1,.string s2,x3] 156)).alloc (.cells #[.int .i64 k,.string s1,.string s2,x3] 156)).grownBy w2 (Value.slice q n vc).ownBlock->w2.heap[bb]? =some (.cells #[c0,K,c2,c3,c4,c5,J,.slice q n vc,.bool false,.int .i64 ah] 95 (0,0))/\(w2.os=w.os/\w2.tape=w.tape/\w2.output=w.output/\w.heap.size<=w2.heap.size)/\∀b,b<w.heap.size->(Value.slice q n vc).ownBlock≠some b->w2.heap[b]? =w.heap[b]?):=λw2 p=>
  ⟨(p.block bb (by simp;omega) (λe=>l e.symm)).trans m,⟨p.os,p.tape,p.output,by have:=p.size;simp at this;omega⟩,λb I H=>(p.block b (by simp;omega) (λe=>H e.symm)).trans ((aac (w.alloc _) _ b (by simp;omega)).trans (aac w _ b I))⟩
 have V:=av l;obtain⟨q0,P⟩:=blk o;obtain⟨q1,O⟩:=blk m;clear hb o m L M l;rcases r with⟨Y,rfl⟩|rfl
 all_goals
  go_enter (pf func140 (by rfl)),ntmps140
  go_wp2_with fail
  go_region_law(refine ib rfl _ _ 66 rfl base 156 i0 _ 4 56 D F C B A rfl (by omega) (.slice q n vc) n xs rfl x.out.1 ⟨w.heap.size+1,0,none⟩ 1 1 [.int .i64 k,.string s1,.string s2,_] rfl rfl W.out x.out.2.2.1 (by omega) x.out.2.2.2.1 x.out.2.2.2.2 x.out.2.1 ?_;intro v' w2 c a t;obtain⟨g,f,rfl⟩:=aj c;have d:=av (aaa c (aaa (X.out w2 ⟨a.os,a.tape,a.output,a.size,a.block⟩) t));clear c a t;obtain⟨Z,N⟩:=blk d.out.2.1.1)
  all_goals
   go_wp2_with fail;go_ret
   have E:(Value.slice g (n+1) f).ownBlock≠some bb:=λe=>by
        rcases d.out.2.2 bb e with h|h
        .exact V.out h
        .simp at h;omega
   refine⟨rfl,.slice g (n+1) f,_,⟨?_,ownsRow_setCell_other d.out.1 E _,λb hb=>(d.out.2.2 b hb).imp id λh=>by simp at h;omega,d.out.2.1.2.1.1,d.out.2.1.2.1.2.1,d.out.2.1.2.1.2.2.1,by simpa using d.out.2.1.2.1.2.2.2,λb hb U T=>(aad _ _ _ _ U).trans (d.out.2.1.2.2 b hb T)⟩⟩;have:=aD (i:=7) (.slice g (n+1) f) d.out.2.1.1;simpa only[ZN,ZS,ZR] using this
def UB (bb base n)(c0 A c2 c3 c4 c5 z v x3)(k ah)(s1 s2)(xs)(w)(hb:w.heap[bb]? =some (.cells #[c0,A,c2,c3,c4,c5,z,v,.bool true,.int .i64 ah] 95 (0,0)))(Y:1<=ah/\ah<=9223372036854775807)(f:v.ownBlock≠some bb)(X:base<=w.heap.size)(h:w.ownsRow base 156 4 v n xs)(hn:n<=2000000000)(t:UF x3):
 adO 140 #[.pointer (some ⟨bb,7,none⟩),.agg #[.int .i64 k,.string s1,.string s2,x3]] w λe w'=>e=.returned .nilIface/\∃C B,bY bb base c0 A c2 c3 c4 c5 z v w (n+1) true (ah-1) C B w':=by
 obtain⟨i0,I,F,E,D⟩:=info_parts JR;have G:=Jz;have V:=h.lt;obtain⟨q,vc,rfl⟩:=aj h;have J:=(ZK.1 hb).1;have O:x3.oneCell'=true:=by rcases t with⟨s,rfl⟩|rfl<;>rfl
 have p:=hb
 have m:(((w.setCell ⟨bb,9,none⟩ (.int .i64 (ah-1))).alloc (.cells #[.int .i64 k,.string s1,.string s2,x3] 156))).heap[bb]? =some (.cells #[c0,A,c2,c3,c4,c5,z,.slice q n vc,.bool true,.int .i64 (ah-1)] 95 (0,0)):=by
  have:=(aac (w.setCell ⟨bb,9,none⟩ (.int .i64 (ah-1))) (.cells #[.int .i64 k,.string s1,.string s2,x3] 156) bb (by simpa using J)).trans (aD (i:=9) (.int .i64 (ah-1)) p);simpa only[ZN,ZS,ZR] using this
 have o:=(aac ((w.setCell ⟨bb,9,none⟩ (.int .i64 (ah-1))).alloc (.cells #[.int .i64 k,.string s1,.string s2,x3] 156)) (.cells #[.int .i64 k,.string s1,.string s2,x3] 156) bb (by simp;omega)).trans m
 have N:((((w.setCell ⟨bb,9,none⟩ (.int .i64 (ah-1))).alloc (.cells #[.int .i64 k,.string s1,.string s2,x3] 156))).alloc (.cells #[.int .i64 k,.string s1,.string s2,x3] 156)).heap[w.heap.size+1]? =some (.cells #[.int .i64 k,.string s1,.string s2,x3] 156 (0,0)):=by
  have:=aae ((w.setCell ⟨bb,9,none⟩ (.int .i64 (ah-1))).alloc (.cells #[.int .i64 k,.string s1,.string s2,x3] 156)) (.cells #[.int .i64 k,.string s1,.string s2,x3] 156);simpa using this
 have HC:Hid (∀j u,[Value.int .i64 k,.string s1,.string s2,x3][j]? =some u->((((w.setCell ⟨bb,9,none⟩ (.int .i64 (ah-1))).alloc (.cells #[.int .i64 k,.string s1,.string s2,x3] 156))).alloc (.cells #[.int .i64 k,.string s1,.string s2,x3] 156)).cell? ((⟨w.heap.size+1,0,none⟩:Addr).add j)=some u):=λj u W=>by
  rw[Addr.add_lit,Z8,(blk N).1 j];simpa using W
 have y:Hid (((((w.setCell ⟨bb,9,none⟩ (.int .i64 (ah-1))).alloc (.cells #[.int .i64 k,.string s1,.string s2,x3] 156))).alloc (.cells #[.int .i64 k,.string s1,.string s2,x3] 156)).ownsRow base 156 4 (.slice q n vc) n xs/\base<=((((w.setCell ⟨bb,9,none⟩ (.int .i64 (ah-1))).alloc (.cells #[.int .i64 k,.string s1,.string s2,x3] 156))).alloc (.cells #[.int .i64 k,.string s1,.string s2,x3] 156)).heap.size/\(∀u∈[Value.int .i64 k,.string s1,.string s2,x3],u.oneCell'=true)/\n+1<=maxLen/\(n+1)*56<=140737488355328):=
  ⟨((ownsRow_setCell_other h f _).alloc _).alloc _,by simp;omega,by intro u hu;simp at hu;rcases hu with rfl|rfl|rfl|rfl<;>first|rfl|exact O,by unfold maxLen;omega,by omega⟩
 have HB:Hid (∀w2:World,((((w.setCell ⟨bb,9,none⟩ (.int .i64 (ah-1))).alloc (.cells #[.int .i64 k,.string s1,.string s2,x3] 156))).alloc (.cells #[.int .i64 k,.string s1,.string s2,x3] 156)).grownBy w2 (Value.slice q n vc).ownBlock->w2.heap[bb]? =some (.cells #[c0,A,c2,c3,c4,c5,z,.slice q n vc,.bool true,.int .i64 (ah-1)] 95 (0,0))/\(w2.os=w.os/\w2.tape=w.tape/\w2.output=w.output/\w.heap.size<=w2.heap.size)/\∀b,b<w.heap.size->b≠bb->(Value.slice q n vc).ownBlock≠some b->w2.heap[b]? =w.heap[b]?):=λw2 r=>
  ⟨(r.block bb (by simp;omega) (λe=>f e.symm)).trans o,⟨r.os,r.tape,r.output,by have:=r.size;simp at this;omega⟩,λb M K L=>(r.block b (by simp;omega) (λe=>L e.symm)).trans ((aac ((w.setCell ⟨bb,9,none⟩ (.int .i64 (ah-1))).alloc (.cells #[.int .i64 k,.string s1,.string s2,x3] 156)) _ b (by simp;omega)).trans ((aac _ _ b (by simpa using M)).trans (aad _ _ _ _ K)))⟩
 have HN:=av f;have U:IntKind.i64.wrap (ah-1)=ah-1:=by rw[IntKind.wrap_i64];omega
 have Z:¬(ah=0):=by omega
 obtain⟨q0,T⟩:=blk p;obtain⟨qS,Q⟩:=blk m;obtain⟨q1,S⟩:=blk o;clear hb p o m N O f;rcases t with⟨s3,rfl⟩|rfl
 all_goals
  go_enter (pf func140 (by rfl)),ntmps140
  go_wp2_with fail
  go_region_law(refine ib rfl _ _ 66 rfl base 156 i0 _ 4 56 G I F E D rfl (by omega) (.slice q n vc) n xs rfl y.out.1 ⟨w.heap.size+1,0,none⟩ 1 1 [.int .i64 k,.string s1,.string s2,_] rfl rfl HC.out y.out.2.2.1 (by omega) y.out.2.2.2.1 y.out.2.2.2.2 y.out.2.1 ?_;intro v' w2 c a x;obtain⟨l,g,rfl⟩:=aj c;have d:=av (aaa c (aaa (HB.out w2 ⟨a.os,a.tape,a.output,a.size,a.block⟩) x));clear c a x;obtain⟨q2,R⟩:=blk d.out.2.1.1)
  all_goals
   go_wp2_with fail;go_ret
   have H:(Value.slice l (n+1) g).ownBlock≠some bb:=λe=>by
        rcases d.out.2.2 bb e with h|h
        .exact HN.out h
        .simp at h;omega
   refine⟨rfl,.slice l (n+1) g,_,⟨?_,ownsRow_setCell_other d.out.1 H _,λb hb=>(d.out.2.2 b hb).imp id λh=>by simp at h;omega,d.out.2.1.2.1.1,d.out.2.1.2.1.2.1,d.out.2.1.2.1.2.2.1,by simpa using d.out.2.1.2.1.2.2.2,λb hb P h2=>(aad _ _ _ _ P).trans (d.out.2.1.2.2 b hb P h2)⟩⟩;have:=aD (i:=7) (.slice l (n+1) g) d.out.2.1.1;simpa only[ZN,ZS,ZR] using this
def R8 (bb base n)(c0 u c2 c3 c4 c5 t v x3 g)(f)(k)(s1 s2)(xs)(w)(hb:w.heap[bb]? =some (.cells #[c0,u,c2,c3,c4,c5,t,v,.bool true,.int .i64 0] 95 (0,0)))(d:v.ownBlock≠some bb)(h:w.ownsRow base 156 4 v n xs)(m:UF x3)
 (y:w.cell? ⟨0,0,none⟩=some (.iface f g))(r:0≠bb):
 adO 140 #[.pointer (some ⟨bb,7,none⟩),.agg #[.int .i64 k,.string s1,.string s2,x3]] w λe w'=>e=.returned (.iface f g)/\∃l j,bY bb base c0 u c2 c3 c4 c5 t v w n false 0 l j w':=by
 have o:=h.lt;obtain⟨x,vc,rfl⟩:=aj h;have p:=(ZK.1 hb).1;have c:=hb;have q:(0:Nat)<w.heap.size:=aan y;have s:(w.setCell ⟨bb,8,none⟩ (.bool false)).cell? ⟨0,0,none⟩=some (.iface f g):=(adK (a:=⟨0,0,none⟩) (aad _ _ _ _ r)).trans y;have A:((w.setCell ⟨bb,8,none⟩ (.bool false)).alloc (.cells #[.int .i64 k,.string s1,.string s2,x3] 156)).cell? ⟨0,0,none⟩=some (.iface f g):=(adK (a:=⟨0,0,none⟩) (aac _ _ _ (by simpa using q))).trans s
 have C:Hid (bY bb base c0 u c2 c3 c4 c5 t (.slice x n vc) w n false 0 (.slice x n vc) xs ((w.setCell ⟨bb,8,none⟩ (.bool false)).alloc (.cells #[.int .i64 k,.string s1,.string s2,x3] 156))):=by
  refine⟨?_,(ownsRow_setCell_other h d _).alloc _,λb hb=>.inl hb,rfl,rfl,rfl,by simp,λb hb B F=>(aac _ _ b (by simpa using hb)).trans (aad _ _ _ _ B)⟩;have:=(aac (w.setCell ⟨bb,8,none⟩ (.bool false)) (.cells #[.int .i64 k,.string s1,.string s2,x3] 156) bb (by simpa using p)).trans (aD (i:=8) (.bool false) c);simpa only[ZN,ZS,ZR] using this
 obtain⟨E,z⟩:=blk c;clear hb c d h o;rcases m with⟨D,rfl⟩|rfl
 all_goals
  go_enter (pf func140 (by rfl)),ntmps140
  go_wp2_with fail;go_ret;exact⟨rfl,_,_,C.out⟩
open Go.RowKit Go.Extern.Stop Go.Stop Go.Extern
def lJ (v)(w):(Extern.ReflectliteType.typeOf #[.iface 345 v]).run (patch ae prog) w=.ok (.iface 244 (.agg #[.pointer (some ⟨14,345,none⟩)])) w:=by kernel_rfl
def QG:Array Value->Sem Value:=Extern.ReflectliteType.method λt=>do Extern.Rtype.noPackHeld "Comparable" t;pure (.bool (<-typeInfo t).comparable)
def jr (w):(QG #[.agg #[.pointer (some ⟨14,345,none⟩)]]).run (patch ae prog) w=.ok (.bool true) w:=by kernel_rfl
def qw (v)(w):(Go.method 476 244 v "Comparable").run (patch ae prog) w=.ok (309,v) w:=by kernel_rfl
def RP:((patch ae prog).info? 345).map (·.comparable)=some true:=by kernel_rfl
def RO:((patch ae prog).info? 347).map (·.size)=some 1:=by kernel_rfl
def Ui (v)(a)(w):(Instr.typeAssert (.iface 345 v) a 246 true).run (patch ae prog) w=.ok (.tuple #[.nilIface,.bool false]) w:=run_typeAssert_lacksB ((ax ae prog 246).trans underlying246) (by kernel_rfl) (by kernel_rfl) v a w
def Uh (v)(a)(w):(Instr.typeAssert (.iface 195 v) a 246 true).run (patch ae prog) w=.ok (.tuple #[.nilIface,.bool false]) w:=run_typeAssert_lacksB ((ax ae prog 246).trans underlying246) (by kernel_rfl) (by kernel_rfl) v a w
def IC (v)(a)(w):(Instr.typeAssert (.iface 195 v) a 249 true).run (patch ae prog) w=.ok (.tuple #[.iface 195 v,.bool true]) w:=run_typeAssert_hasB ((ax ae prog 249).trans underlying249) (by kernel_rfl) v a w
def CQ (v)(w):(Go.method 476 195 v "Unwrap").run (patch ae prog) w=.ok (304,v) w:=by kernel_rfl
def yJ (te)(a)(w):(binOp .eql 148 .nilIface (.iface te a)).run (patch ae prog) w=.ok (.bool false) w:=by
 first
  |rfl
  |kernel_rfl
  |(unfold binOp;rfl)
def jT (te)(a)(w):(binOp .eql 148 (.iface te a) .nilIface).run (patch ae prog) w=.ok (.bool false) w:=by
 first
  |rfl
  |kernel_rfl
  |(unfold binOp;rfl)
def Ir (te)(a)(w):adO 89 #[.nilIface,.iface te a] w λe w'=>e=.returned (.bool false)/\w'=w:=by
 have heq:=yJ te a
 go_enter (pf func89 (by rfl)),ntmps89
 go_wp2_with fail;go_ret;exact⟨rfl,rfl⟩
def Ef (a)(x)(w)(b:w.cell? ⟨a,1,none⟩=some x):adO 304 #[.pointer (some ⟨a,0,none⟩)] w λe w'=>e=.returned x/\w'=w:=by
 go_enter (pf func304 (by rfl)),ntmps304
 go_wp2_with(first|(go_at_call 102;go_enter (pf func102 (by rfl)),ntmps102)|(go_at_call 65;go_enter (pf func65 (by rfl)),ntmps65));go_ret;exact⟨rfl,rfl⟩
def x8 (c)(a)(w)(m:w.cell? ⟨c,1,none⟩=some (.iface 345 (.pointer (some a)))):
 adO 146 #[.iface 195 (.pointer (some ⟨c,0,none⟩)),.iface 345 (.pointer (some a)),.bool true] w λe w'=>e=.returned (.bool true)/\w'=w:=by
 obtain⟨i,k,b⟩:=adf.1 RP;obtain⟨j,h,g⟩:=adf.1 RO;have o:=Ui;have nW:=Uh;have n:=IC;have p:=CQ;have heq:=run_eql_iface_ptr_same (P:=(patch ae prog)) w a ((ax ae prog 148).trans underlying148) ((ax ae prog 345).trans underlying345) k b h;have d:=run_eql_iface_types (P:=(patch ae prog)) 195 345 (.pointer (some ⟨c,0,none⟩)) (.pointer (some a)) ((ax ae prog 148).trans underlying148) (by decide) w;have f:=jT 345 (.pointer (some a)) w;have l:∀x u,Sem.run (patch ae prog) (callFunc 304 x) u=.ok (.enter 304 x) u:=λx u=>enters (pf func304 (by rfl)) rfl rfl x u
 go_enter (pf func146 (by rfl)),ntmps146
 go_wp2_with fail;refine wp_loop_rounds 2 ?_;rw[aal];go_wp2_with(go_at_call 304;refine(Ef c _ w m).mono ?_;rintro e w1 ⟨rfl,hw⟩;obtain rfl:=hw.symm);rw[aal];go_wp2_with fail;go_ret;exact⟨rfl,rfl⟩
def Am (b)(a)(w)(c:w.cell? ⟨b,1,none⟩=some (.iface 345 (.pointer (some a)))):
 adO 89 #[.iface 195 (.pointer (some ⟨b,0,none⟩)),.iface 345 (.pointer (some a))] w λe w'=>e=.returned (.bool true)/\w'=w:=by
 have k:= @run_callFunc_extern (patch ae prog) 145 _ Extern.ReflectliteType.typeOf (pf func145 (by rfl)) (by kernel_rfl) (by kernel_rfl) (by kernel_rfl) (by kernel_rfl);have g:= @run_callFunc_extern (patch ae prog) 309 _ QG (pf func309 (by rfl)) (by kernel_rfl) (by kernel_rfl) (by kernel_rfl) (by kernel_rfl);have i:=lJ;have l:=jr;have j:=qw;have f:=jT 195 (.pointer (some ⟨b,0,none⟩)) w;have d:=jT 345 (.pointer (some a)) w;have h:=av c;clear c
 go_enter (pf func89 (by rfl)),ntmps89
 go_wp2_with(go_at_call 146;refine(x8 b a w h.out).mono ?_;rintro e w1 ⟨rfl,hw⟩;obtain rfl:=hw.symm);go_ret;exact⟨rfl,rfl⟩
def Co {P}{w}{a}{m}:(store a .nilFunc m).run P w=stored P w a .nilFunc m:=run_store P w a _ m rfl
attribute [local go_sem] Co
def Rm (nm fresh:ByteArray)(x:Value):Array Value:= #[.int .i64 0,.string fresh,.string ⟨#[]⟩,x,.int .i64 1,.string fresh,.string ⟨#[]⟩,.string ⟨#[]⟩,.int .i64 2,.string fresh,.string nm,.string ⟨#[]⟩,.int .i64 3,.string ⟨#[]⟩,.string ⟨#[]⟩,.string ⟨#[]⟩]
def UK (x:Value)(w:World)(e:Ending)(w':World):Prop:=∃nm fresh,e=.returned (.slice (some ⟨w.heap.size,0,none⟩) 4 4)/\w'=w.alloc (.cells (Rm nm fresh x) 156)
def xC (nm)(x)(w)(b:nm.size<=1000)(hx:UF x):
 adO 139 #[.string nm,x] w λe w'=>UK x w e w':=by
 rcases hx with⟨a,rfl⟩|rfl
 all_goals
  go_enter (pf func139 (by rfl)),ntmps139
  go_wp2_with fail;go_ret;exact⟨nm,_,rfl,rfl⟩
def UC (bb base n)(c0 f c2 c3 c4 c5 d v x3)(fl)(k ah)(s1 s2)(xs)(w)(hb:w.heap[bb]? =some (.cells #[c0,f,c2,c3,c4,c5,d,v,.bool fl,.int .i64 ah] 95 (0,0)))(j:fl=true->1<=ah/\ah<=9223372036854775807)(b:v.ownBlock≠some bb)(c:base<=w.heap.size)(h:w.ownsRow base 156 4 v n xs)(l:n<=2000000000)(a:UF x3):
 adO 140 #[.pointer (some ⟨bb,7,none⟩),.agg #[.int .i64 k,.string s1,.string s2,x3]] w λe w'=>e=.returned .nilIface/\∃i g,bY bb base c0 f c2 c3 c4 c5 d v w (n+1) fl (if fl then ah-1 else ah) i g w':=by
 cases fl
 .exact R7 bb base n c0 f c2 c3 c4 c5 d v x3 k ah s1 s2 xs w hb b c h l a
 .exact UB bb base n c0 f c2 c3 c4 c5 d v x3 k ah s1 s2 xs w hb (j rfl) b c h l a
def BJ (fl:Bool)(ah:Int)(j:Nat):Int:=if fl then ah-j else ah
def US (bb base:Nat)(c0 d c2 c3 c4 c5 c v:Value)(no:Nat)(fl:Bool)(ah:Int)(e:World)(j:Nat)(w:World):Prop:=∃b a,bY bb base c0 d c2 c3 c4 c5 c v e (no+j) fl (BJ fl ah j) b a w
def rW (bb base:Nat)(c0 f c2 c3 c4 c5 d v:Value)(no:Nat)(fl:Bool)(ah:Int)(g:TypeId)(h:Value)(w:World)(e:Ending)(w':World):Prop:=
 (fl=true/\ah<4/\∃c b a,e=.returned (.iface 195 (.pointer (some ⟨c,0,none⟩)))/\w'.cell? ⟨c,1,none⟩=some (.iface g h)/\w.heap.size<=c/\bY bb base c0 f c2 c3 c4 c5 d v w (no+ah.toNat) false 0 b a w')\/
 (¬(fl=true/\ah<4)/\e=.returned .nilIface/\∃b a,bY bb base c0 f c2 c3 c4 c5 d v w (no+4) fl (BJ fl ah 4) b a w')
def bY.ne {bb base}{c0 f c2 c3 c4 c5 d vo a}{w w'}{no}{fl}{ah}{b}(h:bY bb base c0 f c2 c3 c4 c5 d vo w no fl ah a b w')(c:vo.ownBlock≠some bb)(hb:bb<w.heap.size):a.ownBlock≠some bb:=λe=>by
 rcases h.at_ bb e with h|h
 .exact c h
 .omega
def bY.Fs {bb base g}{c0 j c2 c3 c4 c5 i vo c x}{w w'}{no}{fl}{ah}{b}(h:bY bb base c0 j c2 c3 c4 c5 i vo w no fl ah c b w')(d:w.cell? ⟨g,0,none⟩=some x)(f:g≠bb)(e:vo.ownBlock≠some g):w'.cell? ⟨g,0,none⟩=some x:=
 (adK (a:=⟨g,0,none⟩) (h.block g (aan d) f e)).trans d
def Ag (te)(a)(w):(binOp .neq 148 (.iface te a) .nilIface).run (patch ae prog) w=.ok (.bool true) w:=by
 first
  |rfl
  |kernel_rfl
  |(unfold binOp;rfl)
def EN (w):(binOp .neq 148 .nilIface .nilIface).run (patch ae prog) w=.ok (.bool false) w:=by
 first
  |rfl
  |kernel_rfl
  |(unfold binOp;rfl)
def Ct (bb base no)(c0 s c2 c3 c4 c5 r v n)(m)(fl)(ah)(ys)(nm)(w)(L:nm.size<=1000)(hb:w.heap[bb]? =some (.cells #[c0,s,c2,c3,c4,c5,r,v,.bool fl,.int .i64 ah] 95 (0,0)))
 (B:fl=true->0<=ah/\ah<=9223372036854775807)(z:v.ownBlock≠some bb)(N:base<=w.heap.size)(h:w.ownsRow base 156 4 v no ys)(Y:no<=1000000000)
 (S:w.cell? ⟨0,0,none⟩=some (.iface m n))(D:0≠bb)(C:v.ownBlock≠some 0):
 adO 87 #[.pointer (some ⟨bb,7,none⟩),.string nm,.nilFunc] w λe w'=>rW bb base c0 s c2 c3 c4 c5 r v no fl ah m n w e w':=by
 have O:=(ZK.1 hb).1;have d:=av (aaa hb (aaa z (aaa h (aaa B (aaa S (aaa D C))))));have k:=xC nm .nilFunc w L (.inr rfl);have R:=Ag m n;have Q:=EN;clear hb z h B S D C
 go_enter (pf func87 (by rfl)),ntmps87
 go_wp2_with fail;refine k.mono ?_;rintro e t ⟨I,fresh,rfl,g⟩;have k1:t.heap[w.heap.size]? =some (.cells (Rm I fresh .nilFunc) 156 (0,0)):=by rw[g];exact aae _ _
 have b1:adN w t:=by rw[g];exact(aab _ _).alloc (ZL _) _
 have z1:t.heap.size=w.heap.size+1:=by rw[g];simp
 have H1:=av (aaa k1 (aaa b1 ((b1.block bb O).trans d.out.1)));clear g k1 b1 k;go_wp2_with fail
 go_loopw [14] (λi wr=>∃j:Nat,j<=4/\i=.int .i64 j/\¬(fl=true/\ah<j)/\US bb base c0 s c2 c3 c4 c5 r v no fl ah t j wr) (λi _=>4-(intOf i).toNat)
 case atStart=>exact⟨0,by omega,rfl,λh=>by have:=d.out.2.2.2.1 h.1;omega,v,ys,by
  have e:BJ fl ah 0=ah:=by unfold BJ;cases fl<;>simp
  refine⟨by rw[e];exact H1.out.2.2,au d.out.2.2.1 H1.out.2.1,λb hb=>.inl hb,rfl,rfl,rfl,ZL _,λ_ _ _ _=>rfl⟩⟩
 case round=>
  obtain⟨j,Z,rfl,y,v',f,hd⟩:=hrel;have K:v.ownBlock≠some w.heap.size:=λe=>by have:=(d.out.2.2.1.lt _ e).2;omega
  have J:=(hd.block w.heap.size (by omega) (by omega) K).trans H1.out.1;unfold Rm at J;obtain⟨X,U⟩:=blk J;have l:=hd.ne d.out.2.1 (by omega);have E:=hd.Fs (keeps H1.out.2.1 d.out.2.2.2.2.1) d.out.2.2.2.2.2.1 d.out.2.2.2.2.2.2
  have a:Hid (bY bb base c0 s c2 c3 c4 c5 r v t (no+j) fl (BJ fl ah j) v' f wr/\(∀o:Obj,(wr.alloc o).heap[bb]? =some (.cells #[c0,s,c2,c3,c4,c5,r,v',.bool fl,.int .i64 (BJ fl ah j)] 95 (0,0)))/\v'.ownBlock≠some bb/\(∀o:Obj,(wr.alloc o).ownsRow base 156 4 v' (no+j) f)/\(∀o:Obj,(wr.alloc o).cell? ⟨0,0,none⟩=some (.iface m n))/\(fl=true->¬(ah<j))/\base<=wr.heap.size):=
   ⟨hd,λo=>(aac wr o bb (ZK.1 hd.blk).1).trans hd.blk,l,λo=>hd.own.alloc o,λo=>keeps ((aab _ _).alloc (ZL _) _) E,λq F=>y ⟨q,F⟩,ZP N (ZP H1.out.2.1.size hd.size)⟩
  have HZ:Hid (t.heap.size<=wr.heap.size):=hd.size;clear hd J l E y
  by_cases W:j<4
  .by_cases hit:fl=true/\ah=j
   .obtain⟨rfl,rfl⟩:=hit
    have V:BJ true (j:Int) j=0:=(by unfold BJ;simp);rw[V]at a;have p:j=0\/j=1\/j=2\/j=3:=(by omega);rcases p with rfl|rfl|rfl|rfl
    all_goals
     go_wp2_with(go_at_call 140;refine(R8 bb base _ c0 s c2 c3 c4 c5 r v' _ n m _ _ _ f _ (a.out.2.1 _) a.out.2.2.1 (a.out.2.2.2.1 _) (by first|exact .inr rfl|exact .inl ⟨_,rfl⟩) (a.out.2.2.2.2.1 _) d.out.2.2.2.2.2.1).mono ?_;rintro e w3 ⟨rfl,H,G,c⟩;have H3:=av c;clear c);go_ret;have M:=(bY.start ((aab _ _).alloc (ZL _) _) H3.out);have A:=a.out.1.trans M;have b4:adN w3 (w3.alloc (.cells #[.string nm,.iface m n] 197)):=(aab _ _).alloc (ZL _) _;refine .inl ⟨rfl,by decide,w3.heap.size,_,_,rfl,?_,?_,bY.start H1.out.2.1 (A.below b4)⟩
     .rw[(blk (aae w3 (.cells #[.string nm,.iface m n] 197))).1 1];rfl
     .have:=A.size;omega
   .have hgo:fl=true->1<=BJ fl ah j/\BJ fl ah j<=9223372036854775807:=λh=>by
     have q:=a.out.2.2.2.2.2.1 h;have F:=d.out.2.2.2.1 h;have T:ah≠j:=λe=>hit ⟨h,e⟩
     unfold BJ;rw[if_pos h];omega
    have u:∀j:Nat,(if fl then BJ fl ah j-1 else BJ fl ah j)=BJ fl ah (j+1):=λj=>by unfold BJ;cases fl<;>simp;omega
    have x:¬(fl=true/\ah< ((j+1:Nat):Int)):=fun⟨q,F⟩=>by
     have T:=a.out.2.2.2.2.2.1 q;exact hit ⟨q,by omega⟩
    have P:=av (aaa hgo (aaa u x));clear hgo u x hit;have p:j=0\/j=1\/j=2\/j=3:=(by omega);rcases p with rfl|rfl|rfl|rfl
    all_goals
     go_wp2_with(go_at_call 140;refine(UC bb base _ c0 s c2 c3 c4 c5 r v' _ fl _ _ _ _ f _ (a.out.2.1 _) P.out.1 a.out.2.2.1 (by have:=a.out.2.2.2.2.2.2;simp;omega) (a.out.2.2.2.1 _) (by omega) (by first|exact .inr rfl|exact .inl ⟨_,rfl⟩)).mono ?_;rintro e w3 ⟨rfl,H,G,c⟩;rw[P.out.2.1]at c;have H3:=av c;clear c);go_roundw
     case rel=>exact⟨_,by omega,by go_num,P.out.2.2,_,_,a.out.1.trans (bY.start ((aab _ _).alloc (ZL _) _) H3.out)⟩
     case measure=>simp[intOf]
  .obtain rfl:j=4:=by omega
   go_wp2_with fail;go_ret;exact .inr ⟨fun⟨q,F⟩=>by have T:=a.out.2.2.2.2.2.1 q;omega,rfl,_,_,bY.start H1.out.2.1 a.out.1⟩
def Cb:(patch ae prog).underlying 3=some (.int .i64):=by kernel_rfl
def FP {P}(w)(T elem)(g o c e)(a)(b d)(cur)(t)(cs)(k m)
 (hu:P.underlying T=some (.slice elem))(hs:(P.info? elem).map (·.size)=some k)(l:w.heap[g]? =some (.cells cur.toArray t (0,0)))(hm:Nat.min b c=m)(n:cs.length=m*k)
 (f:∀j v,cs[j]? =some v->w.cell? (a.add j)=some v)(h:o+cs.length<=cur.length)(r:∀v∈cs,v.oneCell'=true):
 ∃W,(∀ty,(Builtin.copy_ #[T,T] ty #[.slice (some ⟨g,o,none⟩) c e,.slice (some a) b d]).run P w=.ok (goInt m) W)/\Hid (W.heap[g]? =some (.cells (splice cur o cs).toArray t (0,0))/\(∀B i,B<=g->Below B i w->Below B i W)/\∀k,k≠g->W.heap[k]? =w.heap[k]?):=by
 refine⟨w.setRow g (cur.toArray.toList.take o++cs++cur.toArray.toList.drop (o+cs.length)).toArray,λty=>kL w T T ty elem g o c e a b d cur.toArray t cs k m hu hs l hm n f (by simpa using h) r,?_,λB i q hb=>below_setRow hb q _,λk p=>setRow_other w g k _ p⟩;rw[setRow_heap w g _ _ t _ l];simp[splice]
def uk {α}{L cs:List α}{o}(h:o+cs.length<=L.length):(splice L o cs).take (o+cs.length)=L.take o++cs:=by
 unfold splice;rw[<-adu,List.take_append_of_le_length (by simp;omega),aah (by simp;omega)]
def Iu (base n vb)(v)(xs x)(w:World)(h:w.ownsRow base 98 5 v n xs)(hb:base<=w.heap.size)(y:n<=1000)(hx:x.length=5)(l:fG w vb 0 x)(m:∀u∈x,u.oneCell'=true):
 adO 90 #[v,.int .i64 n,.slice (some ⟨vb,0,none⟩) 1 1] w λe w'=>∃v',e=.returned v'/\w'.ownsRow base 98 5 v' (n+1) (xs++x)/\Below base w w':=by
 obtain⟨i,s,g,f,d⟩:=info_parts jM;have hu:=fA;have c:=av (aaa h (aaa hx (aaa (λj u r=>by rw[Addr.add_lit];exact l j u r:∀j u,x[j]? =some u->w.cell? ((⟨vb,0,none⟩:Addr).add j)=some u) m)));obtain⟨t,k,rfl⟩:=aj h;clear h hx l m;have p:(n:Int)<=n:=Int.le_refl _
 go_enter (pf func90 (by rfl)),ntmps90
 go_wp2_with(at_builtin;refine adJ _ rfl _ _ _ rfl base 98 i _ 5 112 hu s g f d rfl (by omega) _ n xs rfl c.out.1 ⟨vb,0,none⟩ 1 1 x rfl (by rw[c.out.2.1]) c.out.2.2.1 c.out.2.2.2 (by unfold maxLen;omega) (by omega) hb ?_;intro v' w1 b a _)
 all_goals
  go_ret;exact⟨_,rfl,b,(aab _ _).grown a hb λq o=>(c.out.1.lt q o).1⟩
def ED (w)(g vb o f cb)(cur x)(l:w.heap[g]? =some (.cells cur 98 (0,0)))(b:w.heap[vb]? =some (.cells x 98 (0,0)))(d:vb≠g)(hc:cur.size≠0):
 (callFunc 147 #[.slice (some ⟨vb,0,none⟩) 1 1,.slice (some ⟨g,o,none⟩) f cb]).run (patch ae prog) w=.ok (.value (.bool false)) w:=by
 have c:∀w,(Go.sizeOf 98).run (patch ae prog) w=.ok 5 w:=λw=>by
  obtain⟨i,k,j,a,h⟩:=info_parts jM;simp[sizeOf,typeInfo,k,a]
 rw[run_callFunc_extern (pf func147 (by rfl)) (by kernel_rfl) (by kernel_rfl) (by kernel_rfl) (e:=Extern.SlicesOverlaps.overlaps #[47,47] #[4]) (by kernel_rfl),
  Lib.run_overlaps_apart w 47 4 98 fA 5 c ⟨vb,0,none⟩ ⟨g,o,none⟩ 1 1 f cb d 98 98 x.size cur.size (by simp[World.shape?,b]) (by simp[World.shape?,l]) hc ((blk b).2 0) ((blk b).2 x.size)]
 rfl
def C6 (base g n cap p vb)(cur xs x)(w)(E:w.heap[g]? =some (.cells cur.toArray 98 (0,0)))(C:base<=g)(b:cur.length=cap*5)(f:cur.take (n*5)=xs)(hp:p<n)(I:n+1<=cap)(c:cap<=maxLen)(t:vb≠g)
 (h:w.heap[vb]? =some (.cells x.toArray 98 (0,0)))(hx:x.length=5)(D:∀u∈xs,u.oneCell'=true)(K:∀u∈x,u.oneCell'=true):
 adO 90 #[.slice (some ⟨g,0,none⟩) n cap,.int .i64 p,.slice (some ⟨vb,0,none⟩) 1 1] w λe w'=>e=.returned (.slice (some ⟨g,0,none⟩) (n+1) cap)/\w'.heap[g]? =some (.cells (splice (splice cur ((p+1)*5) (xs.drop (p*5))) (p*5) x).toArray 98 (0,0))/\Below base w w':=by
 have hu:=fA
 have y:((patch ae prog).info? 98).map (·.size)=some 5:=by
  obtain⟨i,X,N,H,G⟩:=info_parts jM;rw[X];simp[H]
 obtain⟨cs,hcs⟩:∃cs,cs=xs.drop (p*5):=⟨_,rfl⟩;have r:xs.length=n*5:=by rw[<-f,adh,b];omega
 have a:cs.length=(n-p)*5:=by rw[hcs,List.length_drop,r];omega
 have V:=λo M cb=>ED w g vb o M cb cur.toArray x.toArray E h t (by rw[List.size_toArray,b];omega)
 have R:vb<w.heap.size:=(ZK.1 h).1
 have q:Hid (w.heap[g]? =some (.cells cur.toArray 98 (0,0))/\cs.length=(n-p)*5/\(∀j v,cs[j]? =some v->w.drew.cell? ((⟨g,p*5,none⟩:Addr).add j)=some v)/\(p+1)*5+cs.length<=cur.length/\(∀v∈cs,v.oneCell'=true)/\Below base w w.drew):=by
  refine⟨E,a,λj v m=>?_,by rw[b,a];omega,λv h=>D v (by rw[hcs]at h;exact List.mem_of_mem_drop h),(aab _ _).drew⟩;rw[Addr.add_lit];have W:=(ZZ.1 m).1;rw[hcs,List.getElem?_drop,<-f,Z5]at m;split at m
  .show w.cell? _=_
   rw[(blk E).1];simpa using m
  .cases m
 have F:Hid (x.length=1*5/\(∀v∈x,v.oneCell'=true)/\(∀w',Below base w w'->w'.heap[vb]? =w.heap[vb]?->∀j v,x[j]? =some v->w'.cell? ((⟨vb,0,none⟩:Addr).add j)=some v)/\(∀l:List Value,l.length=cur.length->p*5+x.length<=l.length)):=
  ⟨by rw[hx],K,λw' _ e j u m=>by rw[Addr.add_lit,(blk (e.trans h)).1,Z8];simpa using m,λl hl=>by rw[hl,hx,b];omega⟩
 have HL:Hid ((splice cur ((p+1)*5) cs).length=cur.length):=length_splice _ _ _ q.out.2.2.2.1;have G:¬((p:Int)=(n:Int)):=by omega
 have Q:IntKind.i64.wrap ((n:Int)+1)=(n:Int)+1:=by unfold maxLen at c;rw[IntKind.wrap_i64];omega
 have O:IntKind.i64.wrap ((p:Int)+1)=(p:Int)+1:=by unfold maxLen at c;rw[IntKind.wrap_i64];omega
 have η:¬((cap:Int)< (n:Int)+1):=by omega
 have ζ:(0:Int)<=(p:Int)+1:=by omega
 have T:p<=n:=by omega
 have U:(p:Int)<=n:=by omega
 have S:((p:Int)+1).toNat=p+1:=by omega
 have J:((n:Int)+1).toNat=n+1:=by omega
 have ε:¬(cap=p+1):=by omega
 have δ:¬(cap=p):=by omega
 have γ:(p:Int)<=(n:Int)+1:=by omega
 have β:(p:Int)+1<=(n:Int)+1:=by omega
 have α:(n:Int)+1<=(cap:Int):=by omega
 have Z:(0:Int)<=(n:Int)+1:=by omega
 have A:Nat.min (n+1-p) (n+1-(p+1))=n-p:=by simp only[Nat.min_def];split<;>omega
 have k:Nat.min 1 (n+1-p)=1:=by simp only[Nat.min_def];split<;>omega
 rw[<-hcs];clear E h D K hcs f r a hx b
 go_enter (pf func90 (by rfl)),ntmps90
 go_wp2_with fail
 go_region_law(refine ky rfl _ _ 47 47 rfl 98 5 (n-p) hu y (by omega) (some ⟨g,(p+1)*5,none⟩) (some ⟨g,p*5,none⟩) (n+1-(p+1)) (cap-(p+1)) (n+1-p) (cap-p) (by simp[Act.eval,Act.put]) (by simp[Act.eval,Act.put]) g ((p+1)*5) cur 98 q.out.1 cs A q.out.2.1 (λ_=>⟨rfl,_,rfl,q.out.2.2.1⟩) q.out.2.2.2.1 q.out.2.2.2.2.1 base w q.out.2.2.2.2.2 C ?_;intro w1 B d z)
 all_goals
  have H1:=av (aaa B d);have s:w1.heap[vb]? =w.heap[vb]?:=z vb t;clear B d z;obtain⟨w2,Y,L⟩:=FP (P:=(patch ae prog)) w1 47 98 g (p*5) (n+1-p) (cap-p) ⟨vb,0,none⟩ 1 1 (splice cur ((p+1)*5) cs) 98 x 5 1 hu y H1.out.1.out k F.out.1 (F.out.2.2.1 w1 H1.out.2 s) (F.out.2.2.2 _ HL.out) F.out.2.1;go_wp2_with fail;go_ret;exact⟨rfl,L.out.1,L.out.2.1 base w C H1.out.2⟩
def Fb (base g n cap p vb)(xs x)(w)(hc:fG w g 0 xs)(k:xs.length=n*5)(hp:p<n)(ε:n<=cap)(l:cap<n+1)(hn:n<=1000)(hb:base<=w.heap.size)
 (s:fG w vb 0 x)(hx:x.length=5)(F:∀u∈xs,u.oneCell'=true)(U:∀u∈x,u.oneCell'=true):
 adO 90 #[.slice (some ⟨g,0,none⟩) n cap,.int .i64 p,.slice (some ⟨vb,0,none⟩) 1 1] w λe w'=>∃(G:Nat) (BM:List Value),e=.returned (.slice (some ⟨w.heap.size,0,none⟩) (n+1) G)/\w'.heap[w.heap.size]? =some (.cells (splice (splice BM (p*5) x) ((p+1)*5) (xs.drop (p*5))).toArray 98 (0,0))/\BM.take (p*5)=xs.take (p*5)/\BM.length=G*5/\n+1<=G/\G<=maxLen/\Below base w w':=by
 have hu:=fA;obtain⟨i0,C,K,y,i⟩:=info_parts jM;have z:((patch ae prog).info? 98).map (·.size)=some 5:=by rw[C];simp[y]
 obtain⟨cs,hcs⟩:∃cs,cs=xs.drop (p*5):=⟨_,rfl⟩;have b:cs.length=(n-p)*5:=by rw[hcs,List.length_drop,k];omega
 have O:g<w.heap.size:=aan (hc 0 _ (ZT (by omega)));have M:vb<w.heap.size:=aan (s 0 _ (ZT (by omega)))
 have hold:(Builtin.firstCells i0.size p (.slice (some ⟨g,0,none⟩) p cap)).run (patch ae prog) w.drew=.ok (xs.take (p*5)).toArray w.drew:=by
  rw[y];refine run_firstCells_some w.drew 5 p ⟨g,0,none⟩ p cap (xs.take (p*5)) (by rw[adh];omega) λj v d=>?_
  rw[Addr.add_lit];rw[Z5]at d;split at d
  .exact hc j v d
  .cases d
 have o:p+(n+1-p)=n+1:=by omega
 have B:(n:Int)+1-(p:Int)=((n+1-p:Nat):Int):=by omega
 have c:∀ty,(Builtin.append_ #[47,3] ty #[.slice (some ⟨g,0,none⟩) p cap,.int .i64 ((n:Int)+1-(p:Int))]).run (patch ae prog) w=
  .ok (.slice (some ⟨w.heap.size,0,none⟩) (n+1) (grownCap w (n+1) cap 98)) (w.drew.alloc (.cells ((xs.take (p*5)).toArray++Builtin.zeroCells (Value.agg #[.string ⟨#[]⟩,.slice none 0 0,.slice none 0 0,.slice none 0 0,.slice none 0 0]).cells (n+1-p)++Builtin.zeroCells (Value.agg #[.string ⟨#[]⟩,.slice none 0 0,.slice none 0 0,.slice none 0 0,.slice none 0 0]).cells (grownCap w (n+1) cap 98-(n+1))) 98)):=λty=>by
  have h:=Lib.run_append_grow_zeros w 47 3 ty 98 i0 _ .i64 .i64 hu Cb C K (some ⟨g,0,none⟩) p cap (xs.take (p*5)) hold (n+1-p) (by omega) (by omega) (by omega) (by omega) (by rw[i];omega) (by rw[i,o];exact growslice_fits l (by omega));rw[o]at h;rw[B];exact h
 have E:=grownCap_ge w (n+1) cap 98;have r:=grownCap_le_maxLen w (n+1) cap 98 (by unfold maxLen;omega);obtain⟨G,T⟩:∃G,G=grownCap w (n+1) cap 98:=⟨_,rfl⟩;rw[<-T]at c E r;obtain⟨BM,a⟩:∃BM:List Value,BM.toArray=(xs.take (p*5)).toArray++Builtin.zeroCells (Value.agg #[.string ⟨#[]⟩,.slice none 0 0,.slice none 0 0,.slice none 0 0,.slice none 0 0]).cells (n+1-p)++Builtin.zeroCells (Value.agg #[.string ⟨#[]⟩,.slice none 0 0,.slice none 0 0,.slice none 0 0,.slice none 0 0]).cells (G-(n+1)):=⟨_,Array.toArray_toList⟩
 have f:BM.length=G*5:=by
  have:=congrArg Array.size a;simp[Builtin.zeroCells,Value.cells,k]at this;omega
 have D:BM.take (p*5)=xs.take (p*5):=by
  have h:=congrArg Array.toList a;simp only[Array.toList_append]at h;rw[show BM=_ from h,adu,List.take_append_of_le_length (by simp;omega),aah (by simp;omega)]
 have V:=av (aaa D f);rw[<-a]at c;obtain⟨t,q⟩:∃t,t=w.drew.alloc (.cells BM.toArray 98):=⟨_,rfl⟩;rw[<-q]at c
 have J:Hid (adN w t/\t.heap[w.heap.size]? =some (.cells BM.toArray 98 (0,0))):=by
  rw[q];exact⟨(aab _ _).drew.alloc (ZL _) _,aae w.drew _⟩
 have H:Hid (x.length=1*5/\(∀v∈x,v.oneCell'=true)/\(∀j v,x[j]? =some v->t.cell? ((⟨vb,0,none⟩:Addr).add j)=some v)/\p*5+x.length<=BM.length):=
  ⟨by rw[hx],U,λj u d=>by rw[Addr.add_lit];exact(J.out.1.cell (p:=⟨vb,_,none⟩) M).trans (s j u d),by rw[hx,f];omega⟩
 have HL:Hid ((splice BM (p*5) x).length=BM.length):=length_splice _ _ _ H.out.2.2.2
 have I:Hid (cs.length=(n-p)*5/\(∀v∈cs,v.oneCell'=true)/\(p+1)*5+cs.length<=(splice BM (p*5) x).length/\∀w',adN w w'->∀j v,cs[j]? =some v->w'.cell? ((⟨g,p*5,none⟩:Addr).add j)=some v):=
  ⟨b,λv s=>F v (by rw[hcs]at s;exact List.mem_of_mem_drop s),by rw[HL.out,f,b];omega,λw' L j u d=>by
   rw[Addr.add_lit,L.cell (p:=⟨g,_,none⟩) O];rw[hcs,List.getElem?_drop]at d;have:=hc (p*5+j) u d
   rwa [Z8]at this⟩
 have Z:IntKind.i64.wrap ((n:Int)+1)=(n:Int)+1:=by rw[IntKind.wrap_i64];omega
 have Y:IntKind.i64.wrap ((p:Int)+1)=(p:Int)+1:=by rw[IntKind.wrap_i64];omega
 have X:IntKind.i64.wrap ((n:Int)+1-(p:Int))=(n:Int)+1-(p:Int):=by rw[IntKind.wrap_i64];omega
 have i:¬((p:Int)=(n:Int)):=by omega
 have W:(cap:Int)< (n:Int)+1:=by omega
 have β:p<=n:=by omega
 have γ:(p:Int)<=n:=by omega
 have δ:p<=cap:=by omega
 have α:((p:Int)+1).toNat=p+1:=by omega
 have κ:(0:Int)<=(p:Int)+1:=by omega
 have θ:(p:Int)+1<=(n:Int)+1:=by omega
 have ι:(p:Int)<=(n:Int)+1:=by omega
 have ν:¬(G=p):=by omega
 have μ:¬(G=p+1):=by omega
 have η:¬(cap=p):=by omega
 have S:(G:Int)<=9223372036854775807:=by unfold maxLen at r;omega
 have A:Nat.min (n-p) (n+1-(p+1))=n-p:=by simp only[Nat.min_def];split<;>omega
 have m:Nat.min 1 (n+1-p)=1:=by simp only[Nat.min_def];split<;>omega
 rw[<-hcs];clear s F U hcs k b hx hc a f D T q hold B o
 go_enter (pf func90 (by rfl)),ntmps90
 obtain⟨w2,ζ,R⟩:=FP (P:=(patch ae prog)) t 47 98 w.heap.size (p*5) (n+1-p) (G-p) ⟨vb,0,none⟩ 1 1 BM 98 x 5 1 hu z J.out.2 m H.out.1 H.out.2.2.1 H.out.2.2.2 H.out.2.1;go_wp2_with(at_builtin;refine Lib.wpList_append_run _ rfl _ _ _ _ rfl _ _ rfl rfl _ _ (c _) ?_)
 go_region_law(refine ky rfl _ _ 47 47 rfl 98 5 (n-p) hu z (by omega) (some ⟨w.heap.size,(p+1)*5,none⟩) (some ⟨g,p*5,none⟩) (n+1-(p+1)) (G-(p+1)) (n-p) (cap-p) (by simp[Act.eval,Act.put]) (by simp[Act.eval,Act.put]) w.heap.size ((p+1)*5) (splice BM (p*5) x) 98 R.out.1 cs A I.out.1 (λ_=>⟨rfl,_,rfl,I.out.2.2.2 _ (R.out.2.1 w.heap.size w (ZL _) J.out.1).drew⟩) I.out.2.2.1 I.out.2.1 w.heap.size w (R.out.2.1 w.heap.size w (ZL _) J.out.1).drew (ZL _) ?_;intro w3 N Q _)
 all_goals
  go_wp2_with fail;go_ret;exact⟨G,BM,rfl,N.out,V.out.1,V.out.2,E,r,Q.mono hb⟩
def La {L xs x:List Value}{p n}(hx:x.length=5)(a:xs.length=n*5)(hp:p<n)(d:(n+1)*5<=L.length)(b:L.take (p*5)=xs.take (p*5)):
 ((splice (splice L (p*5) x) ((p+1)*5) (xs.drop (p*5)))).take ((n+1)*5)=xs.take (p*5)++x++xs.drop (p*5):=by
 have hd:(xs.drop (p*5)).length=(n-p)*5:=by rw[List.length_drop,a];omega
 have c:(splice L (p*5) x).length=L.length:=length_splice _ _ _ (by rw[hx];omega);have e:(n+1)*5=(p+1)*5+(xs.drop (p*5)).length:=by rw[hd];omega
 rw[e,uk (by rw[c,hd];omega),show(p+1)*5=p*5+x.length by rw[hx];omega,uk (by rw[hx];omega),b]
def Iw {L xs x:List Value}{p n}(hx:x.length=5)(a:xs.length=n*5)(hp:p<n)(f:(n+1)*5<=L.length)(b:L.take (p*5)=xs.take (p*5)):
 ((splice (splice L ((p+1)*5) (xs.drop (p*5))) (p*5) x)).take ((n+1)*5)=xs.take (p*5)++x++xs.drop (p*5):=by
 have hd:(xs.drop (p*5)).length=(n-p)*5:=by rw[List.length_drop,a];omega
 have g:(splice L ((p+1)*5) (xs.drop (p*5))).length=L.length:=length_splice _ _ _ (by rw[hd];omega)
 have d:(splice L ((p+1)*5) (xs.drop (p*5))).take (p*5)=xs.take (p*5):=by
  unfold splice;rw[List.take_append_of_le_length (by simp;omega),List.take_take,show min (p*5) ((p+1)*5)=p*5 by omega,b]
 have c:(splice L ((p+1)*5) (xs.drop (p*5))).drop (p*5+x.length)=xs.drop (p*5)++L.drop ((p+1)*5+(xs.drop (p*5)).length):=by
  unfold splice;rw[show p*5+x.length=(p+1)*5 by rw[hx];omega];have hl:(L.take ((p+1)*5)).length=(p+1)*5:=by rw[adh];omega
  rw[List.drop_append_of_le_length (by omega),List.drop_of_length_le (by omega),List.nil_append]
 show((splice L ((p+1)*5) (xs.drop (p*5))).take (p*5)++(x++(splice L ((p+1)*5) (xs.drop (p*5))).drop (p*5+x.length))).take ((n+1)*5)=_
 rw[d,c];have e:(xs.take (p*5)++(x++xs.drop (p*5))).length=(n+1)*5:=by simp[hx,a];omega
 rw[<-adu x,<-adu (xs.take (p*5)),List.take_append_of_le_length (by omega),aah (by omega),adu]
def uG (base n p vb)(v)(xs x)(w:World)(h:w.ownsRow base 98 5 v n xs)(hb:base<=w.heap.size)(E:n<=1000)(hp:p<=n)(hx:x.length=5)(C:w.heap[vb]? =some (.cells x.toArray 98 (0,0)))(t:v.ownBlock≠some vb)(o:∀u∈xs,u.oneCell'=true)(B:∀u∈x,u.oneCell'=true):
 adO 90 #[v,.int .i64 p,.slice (some ⟨vb,0,none⟩) 1 1] w λe w'=>∃v',e=.returned v'/\w'.ownsRow base 98 5 v' (n+1) (xs.take (p*5)++x++xs.drop (p*5))/\Below base w w':=by
 have k:fG w vb 0 x:=λj u f=>by rw[(blk C).1,Z8];simpa using f
 have hlen:=h.1
 by_cases he:p=n
 .subst he
  rw[aah (by omega),List.drop_of_length_le (by omega),List.append_nil];exact Iu base p vb v xs x w h hb E hx k B
 .rcases h.2 with⟨_,I⟩|⟨g,cap,cur,rfl,m,F,hc,hm,hs,y⟩
  .omega
  .have s:fG w g 0 xs:=λj u f=>by
        rw[(blk F).1,Z8];rw[<-y,Z5]at f;split at f
        .simpa using f
        .cases f
   have a:p<n:=(by omega);have l:(xs.take (p*5)++x++xs.drop (p*5)).length=(n+1)*5:=(by simp[hx,hlen];omega)
   by_cases D:n+1<=cap
   .refine(C6 base g n cap p vb cur.toList xs x w (by simpa using F) m (by simpa using hs) y a D hm (λe=>t (by rw[e];rfl)) C hx o B).mono ?_
    rintro e w' ⟨rfl,c,d⟩;refine⟨_,rfl,⟨l,.inr ⟨g,cap,_,rfl,m,c,D,hm,?_,?_⟩⟩,d⟩
    .have q:cur.toList.length=cap*5:=by simpa using hs
     have r:(xs.drop (p*5)).length=(n-p)*5:=(by rw[List.length_drop,hlen];omega);have i:(splice cur.toList ((p+1)*5) (xs.drop (p*5))).length=cap*5:=(by rw[length_splice _ _ _ (by rw[r,q];omega),q]);rw[List.size_toArray,length_splice _ _ _ (by rw[hx,i];omega),i]
    .have q:cur.toList.length=cap*5:=by simpa using hs
     exact Iw hx hlen a (by rw[q];omega) (by rw[<-y,List.take_take,show min (p*5) (n*5)=p*5 by omega])
   .refine(Fb base g n cap p vb xs x w s hlen a hc (by omega) E hb k hx o B).mono ?_
    rintro e w' ⟨G,BM,rfl,c,z,b,H,A,d⟩;refine⟨_,rfl,⟨l,.inr ⟨w.heap.size,G,_,rfl,hb,c,H,A,?_,?_⟩⟩,d⟩
    .have r:(xs.drop (p*5)).length=(n-p)*5:=by rw[List.length_drop,hlen];omega
     have i:(splice BM (p*5) x).length=G*5:=(by rw[length_splice _ _ _ (by rw[hx,b];omega),b]);rw[List.size_toArray,length_splice _ _ _ (by rw[r,i];omega),i]
    .exact La hx hlen a (by rw[b];omega) z
def oz {B b}{a}(hb:B<=b):∀(vs:List Value) (o:Nat) (w:World),Below B a w->Below B a (w.setCells b o vs)
 |[],_,_,h=>h
 |v::r,o,w,h=>oz hb r (o+1) _ (h.setCell (p:=⟨b,o,none⟩) hb v)
def kK {g}{t}:∀(vs:List Value) (o:Nat) (w:World) (cur:Array Value),w.heap[g]? =some (.cells cur t (0,0))->
 ∃a,(w.setCells g o vs).heap[g]? =some (.cells a t (0,0))/\a.size=cur.size/\(∀j,(j<o\/o+vs.length<=j)->a[j]? =cur[j]?)/\∀j,j<vs.length->o+j<cur.size->a[o+j]? =vs[j]?
 |[],_,_,cur,h=>⟨cur,h,rfl,λ_ _=>rfl,λj b=>absurd b (ZV _)⟩
 |v::r,o,w,cur,h=>by
  obtain⟨a,f,e,c,d⟩:=kK r (o+1) (w.setCell ⟨g,o,none⟩ v) _ (aD (i:=o) v h);refine⟨a,f,by rw[e];simp,λj b=>?_,λj b k=>?_⟩
  .rw[c j (by simp at b;omega)];simp[Array.getElem?_setIfInBounds];simp at b;omega
  .cases j with
   |zero=>rw[Nat.add_zero,c o (by omega)];simp[Array.getElem?_setIfInBounds];omega
   |succ j=>
    have:=d j (by simp at b;omega) (by simp;omega);rw[show o+1+j=o+(j+1) by omega]at this;rw[this];simp
def Jb (w)(ty)(b o n c)(hc:∀j,j<n*5->(w.cell? ⟨b,o+j,none⟩).isSome=true)(hf:∀j,j<n*5->w.frozen? ⟨b,o+j,none⟩=false):
 ∃vs,(Builtin.clear_ #[47] ty #[.slice (some ⟨b,o,none⟩) n c]).run (patch ae prog) w=.ok (.tuple #[]) (w.setCells b o vs):=by
 cases n with
 |zero=>exact⟨[],by simp[Builtin.clear_,run_underlying fA,World.setCells]⟩
 |succ m=>
  refine⟨(Builtin.zeroCells #[.string ⟨#[]⟩,.slice none 0 0,.slice none 0 0,.slice none 0 0,.slice none 0 0] (m+1)).toList,?_⟩;have hl:(Builtin.zeroCells #[.string ⟨#[]⟩,.slice none 0 0,.slice none 0 0,.slice none 0 0,.slice none 0 0] (m+1)).toList.length=(m+1)*5:=by simp[Builtin.zeroCells]
  have a:=run_storeCells_cells (P:=(patch ae prog)) b o (Builtin.zeroCells #[.string ⟨#[]⟩,.slice none 0 0,.slice none 0 0,.slice none 0 0,.slice none 0 0] (m+1)).toList 0 w (by rw[hl];simpa using hc) (by rw[hl];simpa using hf) (λv g=>by
   simp only[Builtin.zeroCells,Array.toList_map,adz]at g;obtain⟨i,_,rfl⟩:=g;have h:i%5<5:=Nat.mod_lt _ (by omega);show(#[Value.string ⟨#[]⟩,.slice none 0 0,.slice none 0 0,.slice none 0 0,.slice none 0 0][i%5]!).oneCell'=true
   generalize i%5=k at h
   match k,h with
   |0,_=>rfl
   |1,_=>rfl
   |2,_=>rfl
   |3,_=>rfl
   |4,_=>rfl)
  simp only[Nat.add_zero]at a;have e:(Value.agg #[.string ⟨#[]⟩,.slice none 0 0,.slice none 0 0,.slice none 0 0,.slice none 0 0]).cells= #[.string ⟨#[]⟩,.slice none 0 0,.slice none 0 0,.slice none 0 0,.slice none 0 0]:=rfl
  have d:∀u,(zeroValue 98).run (patch ae prog) u=.ok (.agg #[.string ⟨#[]⟩,.slice none 0 0,.slice none 0 0,.slice none 0 0,.slice none 0 0]) u:=λu=>by
   obtain⟨i,r,f,p,l⟩:=info_parts jM;simp[zeroValue,typeInfo,r,f]
  generalize q:(Builtin.zeroCells #[.string ⟨#[]⟩,.slice none 0 0,.slice none 0 0,.slice none 0 0,.slice none 0 0] (m+1)).toList=vs at a⊢;simp[Builtin.clear_,run_underlying fA,d,e,q,a]
def Au (base n p)(v)(xs)(w:World)(h:w.ownsRow base 98 5 v n xs)(hb:base<=w.heap.size)(hn:n<=1000)(hp:p<n)(M:∀u∈xs,u.oneCell'=true):
 adO 91 #[v,.int .i64 p,.int .i64 ((p+1:Nat):Int)] w λe w'=>∃v',e=.returned v'/\w'.ownsRow base 98 5 v' (n-1) (xs.take (p*5)++xs.drop ((p+1)*5))/\NZ v'/\Below base w w':=by
 have hlen:=h.1;rcases h.2 with⟨_,N⟩|⟨g,cap,cur,rfl,k,z,hc,hm,hs,y⟩
 .omega
 obtain⟨i0,E,R,C,Q⟩:=info_parts jM;have hu:=fA;obtain⟨news,a⟩:∃news,news=xs.drop ((p+1)*5):=⟨_,rfl⟩;have i:news.length=(n-(p+1))*5:=by rw[a,List.length_drop,hlen];omega
 have hcell:∀j,j<n*5->w.cell? ⟨g,j,none⟩=xs[j]?:=λj l=>by
  rw[(blk z).1,<-y,Z5,if_pos l];simp
 obtain⟨A,hA,m⟩:∃A:Addr,(if cap=p+1 then some (⟨g,0,none⟩:Addr)else some ⟨g,(p+1)*5,none⟩)=some A/\Hid (∀t u,news[t]? =some u->w.drew.cell? (A.add t)=some u):=by
  by_cases o:cap=p+1
  .refine⟨⟨g,0,none⟩,by simp[o],λt u hu=>?_⟩
   have N:news.length=0:=(by rw[i];omega);rw[List.length_eq_zero_iff.1 N]at hu;simp at hu
  .refine⟨⟨g,(p+1)*5,none⟩,by simp[o],λt u hu=>?_⟩
   have hl:=(ZZ.1 hu).1;rw[a,List.getElem?_drop]at hu;rw[Addr.add_lit];show w.cell? _=_
   rw[hcell _ (by omega)];exact hu
 have s1:Hid (news.length=(n-(p+1))*5):=i;have s2:Hid (∀u∈news,u.oneCell'=true):=λu hu=>M u (by rw[a]at hu;exact List.mem_of_mem_drop hu)
 have P:Hid (∀t,t<news.length->(w.drew.cell? ⟨g,0+p*5+t,none⟩).isSome=true/\w.drew.frozen? ⟨g,0+p*5+t,none⟩=false):=λt y=>by
  refine⟨?_,(blk z).2 _⟩;show(w.cell? _).isSome=true
  rw[hcell _ (by omega),ZT (by omega)];rfl
 obtain⟨d,f⟩:∃d,d=w.drew.setCells g (0+p*5) news:=⟨_,rfl⟩;obtain⟨b,k1,B,H,G⟩:=kK news (0+p*5) w.drew cur z;rw[<-f]at k1;have r:Below base w d:=by rw[f];exact oz k _ _ _ (aab _ _).drew
 have q:∀ty,∃vs,(Builtin.clear_ #[47] ty #[.slice (some ⟨g,(p+(n-(p+1)))*5,none⟩) (n-(p+(n-(p+1)))) (cap-(p+(n-(p+1))))]).run (patch ae prog) d=.ok (.tuple #[]) (d.setCells g ((p+(n-(p+1)))*5) vs):=λty=>
  Jb d ty g _ _ _ (λj l=>by rw[(blk k1).1,ZM (by rw[B,hs];omega)];rfl) λj l=>(blk k1).2 _
 obtain⟨vs,S⟩:=q 0;have x:Hid (d.heap[g]? =some (.cells b 98 (0,0))/\b.size=cur.size/\(∀j,(j<0+p*5\/0+p*5+news.length<=j)->b[j]? =cur[j]?)/\(∀j,j<news.length->0+p*5+j<cur.size->b[0+p*5+j]? =news[j]?)/\Below base w d):=⟨k1,B,H,G,r⟩;have HW:Hid (d=w.drew.setCells g (0+p*5) news):=f;have Z:Hid (news=xs.drop ((p+1)*5)/\cur.toList.take (n*5)=xs/\xs.length=n*5/\cur.size=cap*5):=⟨a,y,hlen,hs⟩;have K:(cap:Int)<=9223372036854775807:=by unfold maxLen at hm;omega
 have T:p<=cap:=by omega
 have J:p+1<=cap:=by omega
 have I:p+1<=n:=by omega
 have F:¬(cap=p+(n-(p+1))):=by omega
 have U:¬((p:Int)=((p+1:Nat):Int)):=by omega
 have X:(0:Int)<=(p:Int)+1:=by omega
 have W:(p:Int)+1<=(n:Int):=by omega
 have V:((p:Int)+1).toNat=p+1:=by omega
 clear z a y hlen hs k1 B H G r f hcell i h M q
 go_enter (pf func91 (by rfl)),ntmps91
 go_wp2_with fail
 go_region_law(refine step_append_room rfl (.tmp 22) (.tmp 25) 47 rfl 98 i0 5 hu E C g 0 p cap (by simp[Act.eval,Act.put]) A (n-(p+1)) (cap-(p+1)) news (by simp[Act.eval,Act.put,hA]) s1.out m.out s2.out (by omega) P.out ?_;rw[<-HW.out])
 all_goals
  go_wp2_with fail;go_ret;obtain⟨s,m1,m2,m3,_⟩:=kK vs ((p+(n-(p+1)))*5) d b x.out.1;have Y:p+(n-(p+1))=n-1:=by omega
  obtain⟨x1,x2,x3,O⟩:=Z.out;have nl:=s1.out;have hl:(xs.take (p*5)++xs.drop ((p+1)*5)).length=(n-1)*5:=by rw[Z7,adh,List.length_drop,x3];omega
  refine⟨.slice (some ⟨g,0,none⟩) (n-1) cap,?_,⟨hl,.inr ⟨g,cap,s,rfl,k,m1,by omega,hm,by rw[m2,x.out.2.1,O],?_⟩⟩,?_,oz k _ _ _ x.out.2.2.2.2⟩
  .show Ending.returned (.slice (some ⟨g,0,none⟩) (p+(n-(p+1))) cap)=_
   rw[Y]
  .refine List.ext_getElem? λj=>?_
   rw[Z5]
   by_cases l:j< (n-1)*5
   .rw[if_pos l,adF,m3 j (.inl (by omega))]
    by_cases D:j<p*5
    .rw[x.out.2.2.1 j (.inl (by omega)),List.getElem?_append_left (by rw[adh];omega),Z5,if_pos D,<-x2,Z5,if_pos (by omega),adF]
    .have L:=x.out.2.2.2.1 (j-p*5) (by rw[nl];omega) (by omega)
     rw[show 0+p*5+(j-p*5)=j by omega]at L;rw[L,x1,List.getElem?_append_right (by rw[adh];omega),adh,x3,show min (p*5) (n*5)=p*5 by omega]
   .rw[if_neg l,List.getElem?_eq_none (by omega)]
  .show NZ _
   cases cap with
   |zero=>omega
   |succ c=>trivial
abbrev SI (w:World)(bb:Nat)(vb:Value)(cs:Array Value)(w':World):Prop:=w'.cell? ⟨bb,6,none⟩=some vb/\(∀j,w'.cell? ⟨w.heap.size,j,none⟩=cs[j]?)/\adN w w'/\w.heap.size<w'.heap.size
def Gm {w W}{bb}{vb}{cs}(h:SI w bb vb cs W):SI w bb vb cs W.drew:=⟨h.1,h.2.1,h.2.2.1.drew,h.2.2.2⟩
def DN {w w1 w2}{bb}{vb}{cs}(h:SI w bb vb cs w1)(a:bb<w.heap.size)(hb:Below (w.heap.size+1) w1 w2):SI w bb vb cs w2:=by
 refine⟨(hb.cell (p:=⟨bb,6,none⟩) (by show bb<_;omega)).trans h.1,λj=>(hb.cell (p:=⟨w.heap.size,j,none⟩) (by show w.heap.size<_;omega)).trans (h.2.1 j),h.2.2.1.trans (hb.mono (by omega)),ZO h.2.2.2 hb.size⟩
def Qk {w w1 w2}{bb}{vb}{cs}(h:SI w bb vb cs w1)(a:bb<w.heap.size)(hb:adN w1 w2):SI w bb vb cs w2:=DN h a (hb.mono h.2.2.2)
def Gp {w w1}{o}{bb}{vb}{cs}(h:SI w bb vb cs w1)(a:bb<w.heap.size):SI w bb vb cs (w1.alloc o):=DN h a ((aab _ _).alloc h.2.2.2 _)
def zt {w W}{o}{bb}{vb}{cs}(h:SI w bb vb cs W)(a:bb<w.heap.size):SI w bb vb cs (W.alloc o).drew:=Gm (Gp h a)
def Gn {w w1}{bb}{vb}{cs}(h:SI w bb vb cs w1):adN w w1:=h.2.2.1
def Ng {k}{W:World}{o}(h:k<=W.heap.size):k<=(W.alloc o).heap.size:=by simp;omega
def Iy (b0 base n p)(v)(xs)(nm)(A:Nat->Option Addr)(N C:Nat->Nat)(w2:World)(h:w2.ownsRow b0 98 5 v n xs)(c:base<=b0)(hb:base<=w2.heap.size)(a:n<=1000)(hp:p<=n)(b:∀u∈xs,u.oneCell'=true):
 adO 90 #[v,.int .i64 p,.slice (some ⟨w2.heap.size,0,none⟩) 1 1] (w2.alloc (.cells #[.string nm,.slice (A 0) (N 0) (C 0),.slice (A 1) (N 1) (C 1),.slice (A 2) (N 2) (C 2),.slice (A 3) (N 3) (C 3)] 98)) λe w'=>∃v',e=.returned v'/\w'.ownsRow base 98 5 v' (n+1) (xs.take (p*5)++[.string nm,.slice (A 0) (N 0) (C 0),.slice (A 1) (N 1) (C 1),.slice (A 2) (N 2) (C 2),.slice (A 3) (N 3) (C 3)]++xs.drop (p*5))/\Below base (w2.alloc (.cells #[.string nm,.slice (A 0) (N 0) (C 0),.slice (A 1) (N 1) (C 1),.slice (A 2) (N 2) (C 2),.slice (A 3) (N 3) (C 3)] 98)) w':=
 uG base n p w2.heap.size v xs [.string nm,.slice (A 0) (N 0) (C 0),.slice (A 1) (N 1) (C 1),.slice (A 2) (N 2) (C 2),.slice (A 3) (N 3) (C 3)] _ (aB (h.alloc _) c) (by simp;omega) a hp rfl (aae _ _) (λe=>by have:=(h.lt _ e).2;omega) b (by intro u hu;simp at hu;rcases hu with rfl|rfl|rfl|rfl|rfl<;>rfl)
def Lb (b0 base n p)(v)(xs)(nm)(A:Nat->Option Addr)(N C:Nat->Nat)(W U w2:World)(a:adN U w2)(b:U.heap=(W.alloc (.cells #[.string nm,.slice (A 0) (N 0) (C 0),.slice (A 1) (N 1) (C 1),.slice (A 2) (N 2) (C 2),.slice (A 3) (N 3) (C 3)] 98)).heap)(h:w2.ownsRow b0 98 5 v n xs)(i:U.heap.size<=b0)(hb:base<=U.heap.size)(c:n<=1000)(hp:p<=n)(f:∀u∈xs,u.oneCell'=true):
 adO 90 #[v,.int .i64 p,.slice (some ⟨W.heap.size,0,none⟩) 1 1] w2 λe w'=>∃v',e=.returned v'/\w'.ownsRow base 98 5 v' (n+1) (xs.take (p*5)++[.string nm,.slice (A 0) (N 0) (C 0),.slice (A 1) (N 1) (C 1),.slice (A 2) (N 2) (C 2),.slice (A 3) (N 3) (C 3)]++xs.drop (p*5))/\Below base w2 w':=by
 have g:U.heap.size=W.heap.size+1:=by rw[b];simp
 have d:w2.heap[W.heap.size]? =some (.cells #[.string nm,.slice (A 0) (N 0) (C 0),.slice (A 1) (N 1) (C 1),.slice (A 2) (N 2) (C 2),.slice (A 3) (N 3) (C 3)] 98 (0,0)):=(a.block _ (by omega)).trans (by rw[b];exact aae _ _);exact uG base n p W.heap.size v xs [.string nm,.slice (A 0) (N 0) (C 0),.slice (A 1) (N 1) (C 1),.slice (A 2) (N 2) (C 2),.slice (A 3) (N 3) (C 3)] _ (aB h (by omega)) (ZP hb a.size) c hp rfl d (λe=>by have:=(h.lt _ e).1;omega) f (by intro u hu;simp at hu;rcases hu with rfl|rfl|rfl|rfl|rfl<;>rfl)
def D8 (base bb p)(s)(nm)(A:Nat->Option Addr)(N C:Nat->Nat)(vc vr vb vo)(d)(ys)(K)(w)(h:PS w base bb s vc vr vb vo d ys K)(hp:p<=s.bs.length):
 adO 57 #[.pointer (some ⟨bb,0,none⟩),.int .i64 p,.agg #[.string nm,.slice (A 0) (N 0) (C 0),.slice (A 1) (N 1) (C 1),.slice (A 2) (N 2) (C 2),.slice (A 3) (N 3) (C 3)]] w λe w'=>∃v',e=.returned v'/\w'.ownsRow w.heap.size 98 5 v' (s.bs.length+1) (aR (s.bs.take p)++[.string nm,.slice (A 0) (N 0) (C 0),.slice (A 1) (N 1) (C 1),.slice (A 2) (N 2) (C 2),.slice (A 3) (N 3) (C 3)]++aR (s.bs.drop p))/\adN w w':=by
 have v:=av h;have f:=h.lt;have u:w.cell? ⟨bb,6,none⟩=some vb:=h.cell 6;obtain⟨m,c,rfl⟩:=aj h.boxes;clear h
 go_enter (pf func57 (by rfl)),ntmps57
 go_wp2_with fail;obtain⟨W,hW⟩:∃W,W=w.alloc (.cells #[.string nm,.slice (A 0) (N 0) (C 0),.slice (A 1) (N 1) (C 1),.slice (A 2) (N 2) (C 2),.slice (A 3) (N 3) (C 3)] 98):=⟨_,rfl⟩
 have r:SI w bb (.slice m s.bs.length c) #[.string nm,.slice (A 0) (N 0) (C 0),.slice (A 1) (N 1) (C 1),.slice (A 2) (N 2) (C 2),.slice (A 3) (N 3) (C 3)] W:=by
  have hA:adN w W:=by rw[hW];exact(aab _ _).alloc (ZL _) _
  refine⟨keeps hA u,λj=>?_,hA,by rw[hW];simp⟩;rw[hW];exact(blk (aae _ _)).1 j
 have l:Hid (∀U,adN w U->s.bs.length<=c/\(0<s.bs.length->∃b o,m=some ⟨b,o,none⟩/\fG U b o (aR s.bs))):=λU z=>by
  obtain⟨ao,cap,e,E,F,D,_⟩:=dV (v.out.below z).boxes;cases e;exact⟨E,λx=>let ⟨g,e,_,_,y⟩:=D x;⟨g,0,e,y⟩⟩
 have hlen:s.bs.length<=12:=v.out.ok.many;have q:Hid (w.heap.size+1<=W.heap.size):=r.2.2.2;rw[<-hW];clear hW u
 go_region_held3(λw'=>w'.cell? ⟨bb,6,none⟩=some (.slice m s.bs.length c)/\(∀j,w'.cell? ⟨w.heap.size,j,none⟩= #[.string nm,.slice (A 0) (N 0) (C 0),.slice (A 1) (N 1) (C 1),.slice (A 2) (N 2) (C 2),.slice (A 3) (N 3) (C 3)][j]?)/\adN w w'/\w.heap.size<w'.heap.size) (with_reducible (first|exact Gm r|exact zt r f|exact Qk (by assumption) f (by assumption)|exact Gp (by assumption) f|exact DN (by assumption) f (by assumption)))
  (first
   |(go_at_call 46;refine(uM m s.bs.length c (aR s.bs) _ (by omega) (fe _) iD (l.out _ (Gn (by assumption))).1 (l.out _ (Gn (by assumption))).2).mono ?_;rintro e w2 ⟨a2,c2,rfl,i,k⟩)
   |(go_at_call 90;first
    |(refine(Iy _ (w.heap.size+1) s.bs.length p _ (aR s.bs) nm A N C w2 i q.out (ZP q.out k.size) (by omega) hp iD).mono ?_;rintro e w3 ⟨v3,rfl,a,n⟩)
    |(refine(Lb _ (w.heap.size+1) s.bs.length p _ (aR s.bs) nm A N C W _ w2 k rfl i (ZL _) (Ng q.out) (by omega) hp iD).mono ?_;rintro e w3 ⟨v3,rfl,a,n⟩)))
 all_goals
  rename_i K t B;simp only[Exit.then];refine t _ _ ?_;clear t;rw[pP,pQ]at a;go_wp2_with fail;go_ret;exact⟨_,rfl,aB a (by omega),B.2.2.1⟩
def za (l)(p):(aR l).take (p*5)++(aR l).drop ((p+1)*5)=aR (l.eraseIdx p):=by
 rw[pP,pQ,<-iE,List.eraseIdx_eq_take_drop_succ]
def D7 (base bb p)(s)(vc vr vb vo)(d)(ys)(K)(w)(h:PS w base bb s vc vr vb vo d ys K)(hp:p<s.bs.length):
 adO 58 #[.pointer (some ⟨bb,0,none⟩),.int .i64 p] w λe w'=>∃v',e=.returned v'/\w'.ownsRow w.heap.size 98 5 v' (s.bs.length-1) (aR (s.bs.eraseIdx p))/\NZ v'/\adN w w':=by
 have v:w.cell? ⟨bb,6,none⟩=some vb:=h.cell 6;have hlen:s.bs.length<=12:=h.ok.many;obtain⟨ao,cap,rfl,t,x,l,r⟩:=dV h.boxes;have u:Hid (0<s.bs.length->∃b o,ao=some ⟨b,o,none⟩/\fG w b o (aR s.bs)):=λn=>let ⟨g,e,_,_,q⟩:=l n;⟨g,0,e,q⟩
 have m:IntKind.i64.wrap ((p:Int)+1)=(p:Int)+1:=by rw[IntKind.wrap_i64];omega
 have i:((p+1:Nat):Int)=(p:Int)+1:=by omega
 clear h l r
 go_enter (pf func58 (by rfl)),ntmps58
 go_wp2_with fail;refine(uM ao s.bs.length cap (aR s.bs) w (by omega) (fe _) iD t u.out).mono ?_;rintro e w2 ⟨a2,c2,rfl,c,f⟩;go_wp2_with fail;have hd:=Au w.heap.size s.bs.length p _ _ w2 c f.size (by omega) hp iD;rw[i]at hd;refine hd.mono ?_;rintro e w3 ⟨v3,rfl,a,j,k⟩;rw[za]at a;go_wp2_with fail;go_ret;exact⟨_,rfl,a,j,f.trans k⟩
def L5 (bb base:Nat)(c0 e c2 c3 c4 c5 d v:Value)(no:Nat)(fl:Bool)(ah:Int)(f:TypeId)(g:Value)(w:World)(r:Value)(w':World):Prop:=
 (fl=true/\ah<4/\∃c b a,r=.iface 195 (.pointer (some ⟨c,0,none⟩))/\w'.cell? ⟨c,1,none⟩=some (.iface f g)/\w.heap.size<=c/\bY bb base c0 e c2 c3 c4 c5 d v w (no+ah.toNat) false 0 b a w')\/
 (¬(fl=true/\ah<4)/\r=.nilIface/\∃b a,bY bb base c0 e c2 c3 c4 c5 d v w (no+4) fl (BJ fl ah 4) b a w')
def rW.ret {bb base}{c0 j c2 c3 c4 c5 i v}{no}{fl}{ah}{f}{g}{w w'}{e}(h:rW bb base c0 j c2 c3 c4 c5 i v no fl ah f g w e w'):∃r,e=.returned r/\L5 bb base c0 j c2 c3 c4 c5 i v no fl ah f g w r w':=by
 rcases h with⟨d,l,k,b,a,rfl,c⟩|⟨d,rfl,c⟩
 .exact⟨_,rfl,.inl ⟨d,l,k,b,a,rfl,c⟩⟩
 .exact⟨_,rfl,.inr ⟨d,rfl,c⟩⟩
structure dJ (w w':World)(K K':Nat->Nat):Prop where
 os:w'.os=w.os
 tape:w'.tape=w.tape
 output:w'.output=w.output
 size:w.heap.size<=w'.heap.size
 block:∀b,b<w.heap.size->K b=0\/K b=2->w'.heap[b]? =w.heap[b]?
 tag:∀b,b<w.heap.size->K' b=K b
def dJ.refl (w)(K):dJ w w K K:=⟨rfl,rfl,rfl,ZL _,λ_ _ _=>rfl,λ_ _=>rfl⟩
def dJ.trans {a b c}{g f e}(h:dJ a b g f)(k:dJ b c f e):dJ a c g e:=
 ⟨k.os.trans h.os,k.tape.trans h.tape,k.output.trans h.output,ZP h.size k.size,λx hx d=>(k.block x (ZO hx h.size) (by rw[h.tag x hx];exact d)).trans (h.block x hx d),λx hx=>(k.tag x (ZO hx h.size)).trans (h.tag x hx)⟩
def dJ.fq {w w'}{K}(h:adN w w'):dJ w w' K K:=⟨h.os,h.tape,h.output,h.size,λb hb _=>h.block b hb,λ_ _=>rfl⟩
def Bd (w:World)(base bb:Nat)(s:BS)(K:Nat->Nat):Prop:=∃vc vr vb vo d ys,PS w base bb s vc vr vb vo d ys K
def Bd.below {w w'}{base bb}{s}{K}(h:Bd w base bb s K)(hb:adN w w'):Bd w' base bb s K:=let ⟨vc,vr,vb,vo,d,ys,h⟩:=h;⟨vc,vr,vb,vo,d,ys,h.below hb⟩
def rowsOf (v:Value)(l:List fH):List (Option Nat):=v.ownBlock::l.flatMap λx=>[(x.sl 0).ownBlock,(x.sl 1).ownBlock,(x.sl 2).ownBlock,(x.sl 3).ownBlock]
def xz {v}{l}{x}(hx:x∈l){q}(a:q<4):(x.sl q).ownBlock∈rowsOf v l:=by
 refine ac1 _ (List.mem_flatMap.2 ⟨x,hx,?_⟩);obtain rfl|rfl|rfl|rfl:q=0\/q=1\/q=2\/q=3:=by omega
 all_goals simp
def qO {v}{l}{o}(h:o∈rowsOf v l):o=v.ownBlock\/∃x∈l,∃q,q<4/\o=(x.sl q).ownBlock:=by
 rcases ZW.1 h with h|h
 .exact .inl h
 .obtain⟨x,hx,h⟩:=List.mem_flatMap.1 h
  simp only[ZW,adm,or_false]at h;rcases h with h|h|h|h
  .exact .inr ⟨x,hx,0,by omega,h⟩
  .exact .inr ⟨x,hx,1,by omega,h⟩
  .exact .inr ⟨x,hx,2,by omega,h⟩
  .exact .inr ⟨x,hx,3,by omega,h⟩
def retag (K:Nat->Nat)(z0:Nat)(v:Value)(t:Nat)(R:List (Option Nat))(b:Nat):Nat:=if b<z0 then K b else if v.ownBlock=some b then t else if some b∈R then 2 else 0
def BS.written (s:BS)(l:List fH):BS:={s with bs:=l,no:=s.no+4,ah:=BJ s.fl s.ah 4}
def BS.failed (s:BS):BS:={s with no:=s.no+s.ah.toNat,fl:=false,ah:=0}
def BS.jQ (s:BS):Prop:=s.fl=true/\s.ah<4
def BS.UO {s s':BS}(h:s.D.ok)(hm:s'.m=s.m)(c:s'.dn=s.dn)(b:s'.dN=s.dN)(a:s'.dH=s.dH):s'.D.ok:=by
 obtain⟨m,dn,dN,dH,bs,no,fl,ah⟩:=s;obtain⟨m',f,g,i,j,d,e,k⟩:=s';simp only at hm c b a;subst hm c b a;exact⟨h.qF,h.nodes,h.res,h.dC⟩
def BS.Gz {s:BS}{l}(h:s.ok)(c:s.no+4<=1000000000)(hl:l.length<=12)(hs:∀x∈l,x.small)(hf:¬s.jQ):(s.written l).ok:=by
 refine⟨h.M8,BS.UO h.d rfl rfl rfl rfl,hl,hs,c,?_⟩;have b:=h.ah.1;have f:=h.ah.2;unfold In64 at b;show In64 (BJ s.fl s.ah 4)/\(s.fl=true->0<=BJ s.fl s.ah 4)
 unfold BJ In64
 by_cases a:s.fl=true
 .rw[if_pos a]
  have e:¬s.ah<4:=λh=>hf ⟨a,h⟩
  omega
 .rw[if_neg a]
  exact⟨b,λh=>absurd h a⟩
def BS.Lm {s:BS}(h:s.ok)(a:s.no+4<=1000000000)(hf:s.jQ):s.failed.ok:=by
 refine⟨h.M8,BS.UO h.d rfl rfl rfl rfl,h.many,h.small,?_,?_⟩
 .have:=hf.2;have:=h.ah.2 hf.1;show s.no+s.ah.toNat<=_;omega
 .show In64 0/\_
  unfold In64;exact⟨by omega,λh=>by cases h⟩
def PS.OL {l w1 w3}{base bb}{s s'}{vc vr vb vo vb' i}{d}{ys A}{K}(c:PS l base bb s vc vr vb vo d ys K)(hb:adN l w1)
 (H:∀b,b<w1.heap.size->b≠bb->vo.ownBlock≠some b->w3.heap[b]? =w1.heap[b]?)(L:w1.heap.size<=w3.heap.size)(N:w3.os=w1.os)(J:w3.tape=w1.tape)(M:w3.output=w1.output)
 (D:w3.heap[bb]? =some (.cells (Q9 s' vc vr vb' i d) 95 (0,0)))(y:w3.ownsRow base 156 4 i s'.no A)(G:∀b,i.ownBlock=some b->vo.ownBlock=some b\/w1.heap.size<=b)
 (hm:s'.m=s.m)(I:s'.dn=s.dn)(V:s'.dN=s.dN)(U:s'.dH=s.dH)
 (v:w1.ownsRow base 98 5 vb' s'.bs.length (aR s'.bs))(C:∀b,vb'.ownBlock=some b->K b=2\/l.heap.size<=b)
 (f:∀x∈s'.bs,x.Ik base w1)(w:∀x∈s'.bs,∀q,q<4->∀b,(x.sl q).ownBlock=some b->K b=2\/l.heap.size<=b)(O:s'.ok):
 PS w3 base bb s' vc vr vb' i d A (retag K l.heap.size i 8 (rowsOf vb' s'.bs))/\dJ l w3 K (retag K l.heap.size i 8 (rowsOf vb' s'.bs)):=by
 have z:=hb.size;have old:∀b,b<l.heap.size->retag K l.heap.size i 8 (rowsOf vb' s'.bs) b=K b:=λb h=>if_pos h
 have g:∀{b},K b≠0->b<l.heap.size:=λh=>(c.tk _ h).2
 have o:∀b,vo.ownBlock=some b->K b=8:=c.tq
 have safe:∀b,b<w1.heap.size->(K b=2\/l.heap.size<=b)->some b∈rowsOf vb' s'.bs->w3.heap[b]? =w1.heap[b]?/\retag K l.heap.size i 8 (rowsOf vb' s'.bs) b=2:=λb hl Q hR=>by
  rcases Q with h|h
  .refine⟨H b hl (λe=>?_) (λe=>?_),?_⟩
   .rw[e,c.tb]at h;omega
   .rw[o b e]at h;omega
   .rw[old b (g (by omega))];exact h
  .refine⟨H b hl (λe=>?_) (λe=>?_),?_⟩
   .have:=c.lt;omega
   .have:=g (b:=b) (by rw[o b e];omega);omega
   .unfold retag
    rw[if_neg (by omega),if_neg (λe=>?_),if_pos hR];rcases G b e with T|T
    .have:=g (b:=b) (by rw[o b T];omega);omega
    .omega
 have kept:∀b,K b≠0->K b≠1->K b≠8->w3.heap[b]? =l.heap[b]?:=λb S I R=>(H b (ZO (g S) z) (λe=>I (by rw[e];exact c.tb)) (λe=>R (o b e))).trans (hb.block b (g S))
 have u:oq s'.m=oq s.m/\vk s'.m=vk s.m/\s'.m.n=s.m.n/\s'.m.r=s.m.r:=by rw[hm];exact⟨rfl,rfl,rfl,rfl⟩
 have B:∀k,rO s' k=rO s k/\s'.dn k=s.dn k:=λk=>by
  have e:∀j,iB s' k j=iB s k j:=λj=>by unfold iB;rw[V,U]
  exact⟨by unfold rO;rw[I];exact List.map_congr_left λj _=>e j,by rw[I]⟩
 refine⟨⟨D,?_,?_,λk p=>?_,aJ v λb a=>(safe b (v.lt b a).2 (C b a) (a▸ZX)).1,λx hx q t=>⟨aJ (f x hx q t).1 λb a=>(safe b ((f x hx q t).1.lt b a).2 (w x hx q t b a) (a▸xz hx t)).1,(f x hx q t).2⟩,y,
  (old bb c.lt).trans c.tb,λb a=>?_,λb a=>?_,λb a=>(safe b (v.lt b a).2 (C b a) (a▸ZX)).2,λx hx q t b a=>(safe b ((f x hx q t).1.lt b a).2 (w x hx q t b a) (a▸xz hx t)).2,λk p b a=>?_,λb a=>?_,λb a=>?_,O⟩,⟨N.trans hb.os,J.trans hb.tape,M.trans hb.output,ZP z L,λb E F=>?_,old⟩⟩
 .rw[u.2.2.1,u.1];exact aJ c.dA λb a=>kept b (by rw[c.tc b a];omega) (by rw[c.tc b a];omega) (by rw[c.tc b a];omega)
 .rw[u.2.2.2,u.2.1];exact aJ c.res λb a=>kept b (by rw[c.tr b a];omega) (by rw[c.tr b a];omega) (by rw[c.tr b a];omega)
 .rw[(B k).2,(B k).1];exact aJ (c.dC k p) λb a=>kept b (by rw[c.td k p b a];omega) (by rw[c.td k p b a];omega) (by rw[c.td k p b a];omega)
 .have h:=c.tc b a;rw[old b (g (by omega))];exact h
 .have h:=c.tr b a;rw[old b (g (by omega))];exact h
 .have h:=c.td k p b a;rw[old b (g (by omega))];exact h
 .rcases G b a with h|h
  .have R:=o b h;rw[old b (g (by omega))];exact R
  .unfold retag;rw[if_neg (by omega),if_pos a]
 .have P:base<=l.heap.size:=ZP c.left (Nat.le_of_lt c.lt)
  unfold retag at a;split at a
  .have:=c.tk b a;exact⟨this.1,by omega⟩
  .split at a
   .exact y.lt b (by assumption)
   .split at a
    .rcases qO (by assumption)with h|⟨x,hx,q,t,h⟩
     .have:=v.lt b h.symm;exact⟨this.1,by omega⟩
     .have:=(f x hx q t).1.lt b h.symm;exact⟨this.1,by omega⟩
    .exact absurd rfl a
 .refine(H b (ZO E z) (λe=>?_) (λe=>?_)).trans (hb.block b E)
  .rw[e,c.tb]at F;omega
  .rw[o b e]at F;omega
def o5 (s:BS)(l:List fH)(r:Value)(s':BS):Prop:=(s.jQ/\r=.int .i64 11/\s'=s.failed)\/(¬s.jQ/\r=.int .i64 0/\s'=s.written l)
def zC (a w:World)(base bb:Nat)(s:BS)(K:Nat->Nat)(v:Value)(l:List fH)(r:Value)(w':World):Prop:=∃s' K',o5 s l r s'/\Bd w' base bb s' K'/\dJ a w' K K'/\w.heap.size<=w'.heap.size/\(∀b,a.heap.size<=b->b<w.heap.size->w'.heap[b]? =w.heap[b]?)/\
 ∀b,a.heap.size<=b->b<w.heap.size->v.ownBlock≠some b->(∀x∈l,∀q,q<4->(x.sl q).ownBlock≠some b)->K' b=0
def xA {K}{z0 b}{v v'}{t}{l}(f:z0<=b)(e:v.ownBlock≠some b)(d:v'.ownBlock≠some b)(c:∀x∈l,∀q,q<4->(x.sl q).ownBlock≠some b):retag K z0 v t (rowsOf v' l) b=0:=by
 unfold retag;rw[if_neg (by omega),if_neg e,if_neg];intro h;rcases qO h with h|⟨x,hx,q,a,h⟩
 .exact d h.symm
 .exact c x hx q a h.symm
def uO (base bb)(s)(vc vr vb vo v)(d)(ys)(K)(l)(a)(A w)(Y:PS A base bb s vc vr vb vo d ys K)(hb:adN A w)
 (o:w.ownsRow A.heap.size 98 5 v l.length (aR l))(U:NZ v)(n:∀x∈l,x.Ik base w)(E:∀x∈l,∀q,q<4->∀b,(x.sl q).ownBlock=some b->K b=2\/A.heap.size<=b)(F:∀x∈l,x.small)(hl:l.length<=12)(G:s.no+4<=1000000000)
 (Z:A.cell? ⟨0,0,none⟩=some (.iface 345 (.pointer (some a))))(M:0<base):
 adO 56 #[.pointer (some ⟨bb,0,none⟩),v] w (RJ (zC A w base bb s K v l) AA):=by
 have γ:bb<w.heap.size:=ZO Y.lt hb.size;have bd:adN w w.drew:=(aab _ _).drew;have hT:je w.drew (CB w.drew) v l.length 10000:=Jj (w:=w.drew) (base2:=base) o U n F (by omega);have f:=av (aaa Y (aaa hb (aaa o (aaa n (aaa E (aaa F Z))))));have HT:=av hT;obtain⟨D,j,rfl⟩:=aj o
 have HR:Hid (∀u,adN w u->adO 87 #[.pointer (some ⟨bb,7,none⟩),.string ⟨#[98,111,120,101,115]⟩,.nilFunc] u λe w'=>rW bb base vc vr (.int .i64 s.m.p) (d 0) (d 1) (d 2) vb vo s.no s.fl s.ah 345 (.pointer (some a)) u e w'):=λu hu=>by
  have c:=f.out.1.below (ai f.out.2.1 hu);refine Ct bb base s.no vc vr (.int .i64 s.m.p) (d 0) (d 1) (d 2) vb vo (.pointer (some a)) 345 s.fl s.ah ys ⟨#[98,111,120,101,115]⟩ u (by decide) c.blk (λh=>⟨c.ok.ah.2 h,c.ok.ah.1.2⟩) (λe=>?_) (ZP c.left (Nat.le_of_lt c.lt)) c.ops (by omega) (keeps (ai f.out.2.1 hu) Z) (Nat.ne_of_lt (ZO M c.left)) (λe=>?_)
  .have k:=c.tb
   rw[c.tq bb e]at k;omega
  .have:=(c.ops.lt _ e).1
   omega
 go_enter (pf func56 (by rfl)),ntmps56
 go_wp2_with fail
 go_region_law(first
  |(go_simp;go_at_call 88;refine(Ks _ l.length 10000 w.drew HT.out).mono ?_;intro e w1 he;rcases e with r|ch|_;rotate_left;(first|exact⟨rfl,he⟩|(simp;exact⟨rfl,he⟩));(exact he.elim);(obtain⟨rfl,V,J⟩:=he);have H1:=av (bd.trans (J:Below w.heap.size w.drew w1));clear V J;dsimp only)
  |(go_simp;go_at_call 87;refine(HR.out w1 H1.out).mono ?_;rintro e w2 y;obtain⟨r,rfl,X⟩:=y.ret;have H2:=av X;clear X y;dsimp only))
 all_goals
  have c:=f.out.1.below (ai f.out.2.1 H1.out);have H:vo.ownBlock≠some bb:=λe=>by have k:=c.tb;rw[c.tq bb e]at k;omega
  have B:=ZP f.out.1.left (Nat.le_of_lt f.out.1.lt);have N:=keeps (ai f.out.2.1 H1.out) f.out.2.2.2.2.2.2;have L:vo.ownBlock≠some 0:=λe=>by have:=(c.ops.lt _ e).1;omega
  have z:=Nat.ne_of_lt (ZO M c.left);have O:=ai f.out.2.1 H1.out;rcases H2.out with⟨f1,f2,pb,C,Q,rfl,T,β,hd⟩|⟨hf,rfl,C,Q,hd⟩
  .have W:=hd.Fs N z L
   have g:=av (aaa hd (aaa c (aaa H O)));have P:Hid (s.jQ):=⟨f1,f2⟩;go_wp2_with(go_at_call 89;refine(Am pb a w2 T).mono ?_;rintro e w3 ⟨rfl,hw⟩;obtain rfl:=hw.symm);go_ret;obtain⟨R,p2⟩:=PS.OL (s':=s.failed) f.out.1 g.out.2.2.2 (λb hb k t=>g.out.1.block b hb k t) g.out.1.size g.out.1.os g.out.1.tape g.out.1.output g.out.1.blk g.out.1.own g.out.1.at_ rfl rfl rfl rfl g.out.2.1.boxes (λb hb=>.inl (f.out.1.tx b hb)) g.out.2.1.rows (λx hx q S b hb=>.inl (f.out.1.tl x hx q S b hb)) (BS.Lm f.out.1.ok G P.out);refine⟨_,_,.inl ⟨P.out,rfl,rfl⟩,⟨_,_,_,_,_,_,R⟩,p2,ZP H1.out.size g.out.1.size,λb k t=>?_,λb k t _ _=>?_⟩
   .refine(g.out.1.block b (ZO t H1.out.size) (λe=>?_) (λe=>?_)).trans (H1.out.block b t)
    .have:=f.out.1.lt;omega
    .have:=(f.out.1.ops.lt b e).2;omega
   .refine xA k (λe=>?_) (λe=>?_) (λx hx q S e=>?_)
    .rcases g.out.1.at_ b e with h|h
     .have:=(f.out.1.ops.lt b h).2;omega
     .have:=H1.out.size;omega
    .have:=(f.out.1.boxes.lt b e).2;omega
    .have:=((f.out.1.rows x hx q S).1.lt b e).2;omega
  .have W:=hd.Fs N z L
   have g:=av (aaa hd (aaa c (aaa H O)));have P:Hid (¬s.jQ):=hf;obtain⟨q0,α⟩:=blk hd.blk;go_wp2_with(go_at_call 89;refine(Ir _ _ w2).mono ?_;rintro e w3 ⟨rfl,hw⟩;obtain rfl:=hw.symm);go_ret
   have I:(w2.setCell ⟨bb,6,none⟩ (.slice D l.length j)).heap[bb]? =some (.cells (Q9 (s.written l) vc vr (.slice D l.length j) C d) 95 (0,0)):=by
        have:=aD (i:=6) (.slice D l.length j) g.out.1.blk;simp at this;exact this
   obtain⟨R,p2⟩:=PS.OL (s':=s.written l) (vb':=.slice D l.length j) (w3:=w2.setCell ⟨bb,6,none⟩ (.slice D l.length j)) f.out.1 g.out.2.2.2 (λb hb k t=>(aad _ _ _ _ k).trans (g.out.1.block b hb k t)) (by simpa using g.out.1.size) g.out.1.os g.out.1.tape g.out.1.output I
        (ownsRow_setCell_other g.out.1.own (g.out.1.ne g.out.2.2.1 (ZO f.out.1.lt g.out.2.2.2.size)) _) g.out.1.at_ rfl rfl rfl rfl (aB (au f.out.2.2.1 H1.out) B) (λb hb=>.inr (f.out.2.2.1.lt b hb).1) (λx hx=>(f.out.2.2.2.1 x hx).below H1.out) f.out.2.2.2.2.1 (BS.Gz f.out.1.ok G hl f.out.2.2.2.2.2.1 P.out)
   refine⟨_,_,.inr ⟨P.out,rfl,rfl⟩,⟨_,_,_,_,_,_,R⟩,p2,by simpa using ZP H1.out.size g.out.1.size,λb k t=>?_,λb k t h3 h4=>?_⟩
   .refine(aad _ _ _ _ (λe=>?_)).trans ((g.out.1.block b (ZO t H1.out.size) (λe=>?_) (λe=>?_)).trans (H1.out.block b t))
    .have:=f.out.1.lt;have e':b=bb:=e;omega
    .have:=f.out.1.lt;omega
    .have:=(f.out.1.ops.lt b e).2;omega
   .refine xA k (λe=>?_) h3 h4
    rcases g.out.1.at_ b e with h|h
    .have:=(f.out.1.ops.lt b h).2;omega
    .have:=H1.out.size;omega
def aaz (x y:fH):Prop:=Dv x.nm y.nm<0
def Apart (x y:fH):Prop:=∀q,q<4->∀i∈x.T q,i∉y.T q
def Apart.symm {x y:fH}(h:Apart x y):Apart y x:=λq a i c b=>h q a i b c
def aaz.trans {x y z:fH}(h:aaz x y)(k:aaz y z):aaz x z:=aa2 h k
def fH.fine (x:fH)(m:cz):Prop:=1<=x.nm.size/\x.nm.size<=20/\(∃q,q<4/\x.T q≠[])/\∀q,q<4->(x.T q).Pairwise (· < ·)/\∀i∈x.T q,if q=0 then i<m.n/\¬among m.R m.r i else i<16
structure BS.fine (s:BS):Prop where
 box:∀x∈s.bs,x.fine s.m
 aaR:s.bs.Pairwise aaz
 apart:s.bs.Pairwise Apart
def BS.ins (s:BS)(p:Nat)(x:fH):BS:={s with bs:=s.bs.take p++x::s.bs.drop p}
def BS.del (s:BS)(p:Nat):BS:={s with bs:=s.bs.eraseIdx p}
def qZ {l:List fH}{p}{x y}(h:y∈l.take p++x::l.drop p):y=x\/y∈l:=by
 rcases abz.1 h with h|h
 .exact .inr (List.mem_of_mem_take h)
 .rcases ZW.1 h with h|h
  .exact .inl h
  .exact .inr (List.mem_of_mem_drop h)
def aaT {l:List fH}{R:fH->fH->Prop}{p:Nat}{x:fH}(h:l.Pairwise R)(i:∀y∈l.take p,R y x)(g:∀y∈l.drop p,R x y):(l.take p++x::l.drop p).Pairwise R:=by
 have d:=h;rw[<-List.take_append_drop p l]at d;obtain⟨k1,f,e⟩:=List.pairwise_append.1 d;refine List.pairwise_append.2 ⟨k1,List.pairwise_cons.2 ⟨g,f⟩,λa c b hb=>?_⟩;rcases ZW.1 hb with rfl|hb
 .exact i a c
 .exact e a c b hb
def jw.ahead {l:List fH}{x:fH}{p:Nat}(h:l.Pairwise aaz)(hf:jw l.length (mU l) x.nm p false):(∀y∈l.take p,aaz y x)/\∀y∈l.drop p,aaz x y:=by
 obtain⟨i,f,d,c⟩:=hf;have a:=adk.1 h;refine⟨λy hy=>?_,λy hy=>?_⟩
 .obtain⟨j,b,rfl⟩:=ado.1 hy
  rw[adh]at b;rw[List.getElem_take];have hp:p-1<l.length:=by omega
  have k:aaz l[p-1] x:=by
   have:=f (by omega);rw[M4 hp]at this;exact this
  by_cases e:j=p-1
  .subst e;exact k
  .exact(a j (p-1) (by omega) hp (by omega)).trans k
 .obtain⟨j,b,rfl⟩:=ado.1 hy
  rw[List.length_drop]at b;rw[List.getElem_drop];have hp:p<l.length:=by omega
  have k:aaz x l[p]:=by
   have g:=d hp;have a2:¬(p<l.length/\Dv (mU l p) x.nm=0):=λh=>by have:=c.2 h;cases this
   rw[M4 hp]at g a2;have a3:Dv l[p].nm x.nm≠0:=λe=>a2 ⟨hp,e⟩
   have a4:=abP l[p].nm.data.toList x.nm.data.toList;show Lib.compareBytes _ _<0
   rw[a4];have a5:Dv l[p].nm x.nm=Lib.compareBytes l[p].nm.data.toList x.nm.data.toList:=rfl;omega
  by_cases e:j=0
  .subst e;exact k
  .exact k.trans (a p (p+j) hp (by omega) (by omega))
def abN {s:BS}{y:fH}{q i:Nat}(hy:y∈s.bs)(c:i∈y.T q):CE s.D q i:=by
 obtain⟨k,a,rfl⟩:=ado.1 hy;obtain⟨j,b,rfl⟩:=ado.1 c;refine⟨k,a,j,?_,?_⟩
 .show j< (KT s.bs k q).length
  rw[JI a];exact b
 .show(((KT s.bs k q)[j]?.getD 0:Nat):Int)=_
  rw[JI a,ZT b];rfl
def aaG {D:BD}{r i:Nat}(h:i∈gq D r):i∈dL D r/\¬CE D r i:=by
 unfold gq kept at h;obtain⟨b,a⟩:=adp.1 h;exact⟨b,by simpa using a⟩
def BS.fine.ins {s:BS}{p m:Nat}{x:fH}{c:Nat->Nat}(h:s.fine)(k:1<=x.nm.size/\x.nm.size<=20)(hf:jw s.bs.length (mU s.bs) x.nm p false)(g:∀q,q<4->QQ s.D m q (c q) (x.T q))(hc:∃q,q<4/\0<c q)(j:s.D.ok):(s.ins p x).fine:=by
 obtain⟨f1,f2⟩:=hf.ahead h.aaR;have d:∀y∈s.bs,Apart x y:=λy hy q a i b f=>(aaG ((g q a).2.2 i b).1).2 (abN hy f)
 refine⟨λy hy=>?_,aaT h.aaR f1 f2,aaT h.apart (λy hy=>(d y (List.mem_of_mem_take hy)).symm) λy hy=>d y (List.mem_of_mem_drop hy)⟩;rcases qZ hy with rfl|hy
 .refine⟨k.1,k.2,?_,λq a=>⟨(g q a).2.1,λi o=>?_⟩⟩
  .obtain⟨q,a,hc⟩:=hc
   exact⟨q,a,λe=>by have:=(g q a).1;rw[e]at this;simp at this;omega⟩
  .have b:=(aaG ((g q a).2.2 i o).1).1
   have f:=Mg _ _ i b
   by_cases n:q=0
   .subst n
    rw[if_pos rfl]at f⊢;refine⟨f,λr=>?_⟩;unfold dL at b;rw[if_pos rfl]at b;have l:=(adp.1 b).2;rw[(lz (OC s.D 0) i).2 r]at l;simp at l
   .rw[if_neg n]at f⊢
    have:=(j.dC (q-1) (by omega)).1;omega
 .exact h.box y hy
def BS.fine.del {s:BS}{p:Nat}(h:s.fine):(s.del p).fine:=
 ⟨λy hy=>h.box y (List.mem_of_mem_eraseIdx hy),h.aaR.sublist (List.eraseIdx_sublist _ _),h.apart.sublist (List.eraseIdx_sublist _ _)⟩
end Z
