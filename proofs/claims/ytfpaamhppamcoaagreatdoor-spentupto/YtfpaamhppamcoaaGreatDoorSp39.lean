/- Part 39 of the proof. -/
import Derived.Test.YtfpaamhppamcoaaGreatDoorSp38
import Derived.Test.YtfpaamhppamcoaaGreatDoorSp30
import Derived.Lib.AppendZerosOnto
import Derived.Lib.AppendZeros
import Derived.Lib.Overlaps
set_option linter.all false
set_option maxRecDepth 100000
set_option maxHeartbeats 60000000
namespace Go.Proofs.YtfpaamhppamcoaaGreatDoor
open Go.Proofs.Tryz
namespace Z
open Go.RowKit
attribute [local go_sem ↓] Go.wp_at_zero Go.wp_at_succ
attribute [local go_sem] After.cell After.frozen After.const
theorem run_store_nf {P}{w}{a}{m}:(store a .nilFunc m).run P w=stored P w a .nilFunc m:=run_store P w a _ m rfl
attribute [local go_sem] run_store_nf
def opCs (nm fresh:ByteArray)(x:Value):Array Value:= #[.int .i64 0,.string fresh,.string ⟨#[]⟩,x,.int .i64 1,.string fresh,.string ⟨#[]⟩,.string ⟨#[]⟩,.int .i64 2,.string fresh,.string nm,.string ⟨#[]⟩,.int .i64 3,.string ⟨#[]⟩,.string ⟨#[]⟩,.string ⟨#[]⟩]
def FourP (x:Value)(w:World)(e:Ending)(w':World):Prop:=∃nm fresh,e=.returned (.slice (some ⟨w.heap.size,0,none⟩) 4 4)/\w'=w.alloc (.cells (opCs nm fresh x) 156)
theorem replacingP_any (nm)(x)(w)(b:nm.size<=1000)(hx:byV x):
 Calls (patch ae prog) 139 #[.string nm,x] w λe w'=>FourP x w e w':=by
 rcases hx with⟨a,rfl⟩|rfl
 all_goals
  go_enter (pf func139 (by rfl)),ntmps139
  go_wp2_with fail;go_ret;exact⟨nm,_,rfl,rfl⟩
theorem do_go (bb base n)(c0 f c2 c3 c4 c5 d v x3)(fl)(k ah)(s1 s2)(xs)(w)(hb:w.heap[bb]? =some (.cells #[c0,f,c2,c3,c4,c5,d,v,.bool fl,.int .i64 ah] 95 (0,0)))(j:fl=true->1<=ah/\ah<=9223372036854775807)(b:v.ownBlock≠some bb)(c:base<=w.heap.size)(h:w.ownsRow base 156 4 v n xs)(l:n<=2000000000)(a:byV x3):
 Calls (patch ae prog) 140 #[.pointer (some ⟨bb,7,none⟩),.agg #[.int .i64 k,.string s1,.string s2,x3]] w λe w'=>e=.returned .nilIface/\∃i g,bY bb base c0 f c2 c3 c4 c5 d v w (n+1) fl (if fl then ah-1 else ah) i g w':=by
 cases fl
 .exact do_off bb base n c0 f c2 c3 c4 c5 d v x3 k ah s1 s2 xs w hb b c h l a
 .exact do_on bb base n c0 f c2 c3 c4 c5 d v x3 k ah s1 s2 xs w hb (j rfl) b c h l a
def ahN (fl:Bool)(ah:Int)(j:Nat):Int:=if fl then ah-j else ah
def Along (bb base:Nat)(c0 d c2 c3 c4 c5 c v:Value)(no:Nat)(fl:Bool)(ah:Int)(e:World)(j:Nat)(w:World):Prop:=∃b a,bY bb base c0 d c2 c3 c4 c5 c v e (no+j) fl (ahN fl ah j) b a w
def Replaced (bb base:Nat)(c0 f c2 c3 c4 c5 d v:Value)(no:Nat)(fl:Bool)(ah:Int)(g:TypeId)(h:Value)(w:World)(e:Ending)(w':World):Prop:=
 (fl=true/\ah<4/\∃c b a,e=.returned (.iface 195 (.pointer (some ⟨c,0,none⟩)))/\w'.cell? ⟨c,1,none⟩=some (.iface g h)/\w.heap.size<=c/\bY bb base c0 f c2 c3 c4 c5 d v w (no+ah.toNat) false 0 b a w')\/
 (¬(fl=true/\ah<4)/\e=.returned .nilIface/\∃b a,bY bb base c0 f c2 c3 c4 c5 d v w (no+4) fl (ahN fl ah 4) b a w')
theorem bY.ne {bb base}{c0 f c2 c3 c4 c5 d vo a}{w w'}{no}{fl}{ah}{b}(h:bY bb base c0 f c2 c3 c4 c5 d vo w no fl ah a b w')(c:vo.ownBlock≠some bb)(hb:bb<w.heap.size):a.ownBlock≠some bb:=λe=>by
 rcases h.at_ bb e with h|h
 .exact c h
 .omega
theorem bY.glob {bb base g}{c0 j c2 c3 c4 c5 i vo c x}{w w'}{no}{fl}{ah}{b}(h:bY bb base c0 j c2 c3 c4 c5 i vo w no fl ah c b w')(d:w.cell? ⟨g,0,none⟩=some x)(f:g≠bb)(e:vo.ownBlock≠some g):w'.cell? ⟨g,0,none⟩=some x:=
 (World.cell?_of_block (a:=⟨g,0,none⟩) (h.block g (aan d) f e)).trans d
theorem neq_iface_nil (te)(a)(w):(binOp .neq 148 (.iface te a) .nilIface).run (patch ae prog) w=.ok (.bool true) w:=by
 first
  |rfl
  |kernel_rfl
  |(unfold binOp;rfl)
theorem neq_nil_nil (w):(binOp .neq 148 .nilIface .nilIface).run (patch ae prog) w=.ok (.bool false) w:=by
 first
  |rfl
  |kernel_rfl
  |(unfold binOp;rfl)
theorem replaceP_any (bb base no)(c0 s c2 c3 c4 c5 r v n)(m)(fl)(ah)(ys)(nm)(w)(L:nm.size<=1000)(hb:w.heap[bb]? =some (.cells #[c0,s,c2,c3,c4,c5,r,v,.bool fl,.int .i64 ah] 95 (0,0)))
 (B:fl=true->0<=ah/\ah<=9223372036854775807)(z:v.ownBlock≠some bb)(N:base<=w.heap.size)(h:w.ownsRow base 156 4 v no ys)(hn:no<=1000000000)
 (S:w.cell? ⟨0,0,none⟩=some (.iface m n))(D:0≠bb)(C:v.ownBlock≠some 0):
 Calls (patch ae prog) 87 #[.pointer (some ⟨bb,7,none⟩),.string nm,.nilFunc] w λe w'=>Replaced bb base c0 s c2 c3 c4 c5 r v no fl ah m n w e w':=by
 have O:=(ZK.1 hb).1;have d:=av (aaa hb (aaa z (aaa h (aaa B (aaa S (aaa D C))))));have k:=replacingP_any nm .nilFunc w L (.inr rfl);have R:=neq_iface_nil m n;have Q:=neq_nil_nil;clear hb z h B S D C
 go_enter (pf func87 (by rfl)),ntmps87
 go_wp2_with fail;refine k.mono ?_;rintro e t ⟨I,fresh,rfl,g⟩;have k1:t.heap[w.heap.size]? =some (.cells (opCs I fresh .nilFunc) 156 (0,0)):=by rw[g];exact aae _ _
 have b1:Below w.heap.size w t:=by rw[g];exact(aab _ _).alloc (ZL _) _
 have Y:t.heap.size=w.heap.size+1:=by rw[g];simp
 have H1:=av (aaa k1 (aaa b1 ((b1.block bb O).trans d.out.1)));clear g k1 b1 k;go_wp2_with fail
 go_loopw [14] (λi wr=>∃j:Nat,j<=4/\i=.int .i64 j/\¬(fl=true/\ah<j)/\Along bb base c0 s c2 c3 c4 c5 r v no fl ah t j wr) (λi _=>4-(intOf i).toNat)
 case atStart=>exact⟨0,by omega,rfl,λh=>by have:=d.out.2.2.2.1 h.1;omega,v,ys,by
  have e:ahN fl ah 0=ah:=by unfold ahN;cases fl<;>simp
  refine⟨by rw[e];exact H1.out.2.2,au d.out.2.2.1 H1.out.2.1,λb hb=>.inl hb,rfl,rfl,rfl,ZL _,λ_ _ _ _=>rfl⟩⟩
 case round=>
  obtain⟨j,hj,rfl,y,v',f,hd⟩:=hrel;have K:v.ownBlock≠some w.heap.size:=λe=>by have:=(d.out.2.2.1.lt _ e).2;omega
  have J:=(hd.block w.heap.size (by omega) (by omega) K).trans H1.out.1;unfold opCs at J;obtain⟨Z,U⟩:=blk J;have l:=hd.ne d.out.2.1 (by omega);have E:=hd.glob (keeps H1.out.2.1 d.out.2.2.2.2.1) d.out.2.2.2.2.2.1 d.out.2.2.2.2.2.2
  have a:Hid (bY bb base c0 s c2 c3 c4 c5 r v t (no+j) fl (ahN fl ah j) v' f wr/\(∀o:Obj,(wr.alloc o).heap[bb]? =some (.cells #[c0,s,c2,c3,c4,c5,r,v',.bool fl,.int .i64 (ahN fl ah j)] 95 (0,0)))/\v'.ownBlock≠some bb/\(∀o:Obj,(wr.alloc o).ownsRow base 156 4 v' (no+j) f)/\(∀o:Obj,(wr.alloc o).cell? ⟨0,0,none⟩=some (.iface m n))/\(fl=true->¬(ah<j))/\base<=wr.heap.size):=
   ⟨hd,λo=>(aac wr o bb (ZK.1 hd.blk).1).trans hd.blk,l,λo=>hd.own.alloc o,λo=>keeps ((aab _ _).alloc (ZL _) _) E,λq F=>y ⟨q,F⟩,ZP N (ZP H1.out.2.1.size hd.size)⟩
  have HZ:Hid (t.heap.size<=wr.heap.size):=hd.size;clear hd J l E y
  by_cases W:j<4
  .by_cases hit:fl=true/\ah=j
   .obtain⟨rfl,rfl⟩:=hit
    have V:ahN true (j:Int) j=0:=(by unfold ahN;simp);rw[V]at a;have p:j=0\/j=1\/j=2\/j=3:=(by omega);rcases p with rfl|rfl|rfl|rfl
    all_goals
     go_wp2_with(go_at_call 140;refine(do_hit bb base _ c0 s c2 c3 c4 c5 r v' _ n m _ _ _ f _ (a.out.2.1 _) a.out.2.2.1 (a.out.2.2.2.1 _) (by first|exact .inr rfl|exact .inl ⟨_,rfl⟩) (a.out.2.2.2.2.1 _) d.out.2.2.2.2.2.1).mono ?_;rintro e w3 ⟨rfl,H,G,c⟩;have H3:=av c;clear c);go_ret;have M:=(bY.start ((aab _ _).alloc (ZL _) _) H3.out);have A:=a.out.1.trans M;have X:Below w3.heap.size w3 (w3.alloc (.cells #[.string nm,.iface m n] 197)):=(aab _ _).alloc (ZL _) _;refine .inl ⟨rfl,by decide,w3.heap.size,_,_,rfl,?_,?_,bY.start H1.out.2.1 (A.below X)⟩
     .rw[(blk (aae w3 (.cells #[.string nm,.iface m n] 197))).1 1];rfl
     .have:=A.size;omega
   .have hgo:fl=true->1<=ahN fl ah j/\ahN fl ah j<=9223372036854775807:=λh=>by
     have q:=a.out.2.2.2.2.2.1 h;have F:=d.out.2.2.2.1 h;have T:ah≠j:=λe=>hit ⟨h,e⟩
     unfold ahN;rw[if_pos h];omega
    have u:∀j:Nat,(if fl then ahN fl ah j-1 else ahN fl ah j)=ahN fl ah (j+1):=λj=>by unfold ahN;cases fl<;>simp;omega
    have x:¬(fl=true/\ah< ((j+1:Nat):Int)):=fun⟨q,F⟩=>by
     have T:=a.out.2.2.2.2.2.1 q;exact hit ⟨q,by omega⟩
    have P:=av (aaa hgo (aaa u x));clear hgo u x hit;have p:j=0\/j=1\/j=2\/j=3:=(by omega);rcases p with rfl|rfl|rfl|rfl
    all_goals
     go_wp2_with(go_at_call 140;refine(do_go bb base _ c0 s c2 c3 c4 c5 r v' _ fl _ _ _ _ f _ (a.out.2.1 _) P.out.1 a.out.2.2.1 (by have:=a.out.2.2.2.2.2.2;simp;omega) (a.out.2.2.2.1 _) (by omega) (by first|exact .inr rfl|exact .inl ⟨_,rfl⟩)).mono ?_;rintro e w3 ⟨rfl,H,G,c⟩;rw[P.out.2.1]at c;have H3:=av c;clear c);go_roundw
     case rel=>exact⟨_,by omega,by go_num,P.out.2.2,_,_,a.out.1.trans (bY.start ((aab _ _).alloc (ZL _) _) H3.out)⟩
     case measure=>simp[intOf]
  .obtain rfl:j=4:=by omega
   go_wp2_with fail;go_ret;exact .inr ⟨fun⟨q,F⟩=>by have T:=a.out.2.2.2.2.2.1 q;omega,rfl,_,_,bY.start H1.out.2.1 a.out.1⟩
theorem und_int:(patch ae prog).underlying 3=some (.int .i64):=by kernel_rfl
theorem copy_eqn {P}(w)(T elem)(g o c e)(a)(b d)(cur)(t)(cs)(k m)
 (hu:P.underlying T=some (.slice elem))(hs:(P.info? elem).map (·.size)=some k)(l:w.heap[g]? =some (.cells cur.toArray t (0,0)))(hm:Nat.min b c=m)(n:cs.length=m*k)
 (f:∀j v,cs[j]? =some v->w.cell? (a.add j)=some v)(h:o+cs.length<=cur.length)(r:∀v∈cs,v.oneCell'=true):
 ∃W,(∀ty,(Builtin.copy_ #[T,T] ty #[.slice (some ⟨g,o,none⟩) c e,.slice (some a) b d]).run P w=.ok (goInt m) W)/\Hid (W.heap[g]? =some (.cells (splice cur o cs).toArray t (0,0))/\(∀B i,B<=g->Below B i w->Below B i W)/\∀k,k≠g->W.heap[k]? =w.heap[k]?):=by
 refine⟨w.setRow g (cur.toArray.toList.take o++cs++cur.toArray.toList.drop (o+cs.length)).toArray,λty=>kL w T T ty elem g o c e a b d cur.toArray t cs k m hu hs l hm n f (by simpa using h) r,?_,λB i q hb=>below_setRow hb q _,λk p=>setRow_other w g k _ p⟩;rw[setRow_heap w g _ _ t _ l];simp[splice]
theorem splice_take {α}{L cs:List α}{o}(h:o+cs.length<=L.length):(splice L o cs).take (o+cs.length)=L.take o++cs:=by
 unfold splice;rw[<-List.append_assoc,List.take_append_of_le_length (by simp;omega),aah (by simp;omega)]
theorem insert_end (base n vb)(v)(xs x)(w:World)(h:w.ownsRow base 98 5 v n xs)(hb:base<=w.heap.size)(y:n<=1000)(hx:x.length=5)(l:fG w vb 0 x)(m:∀u∈x,u.oneCell'=true):
 Calls (patch ae prog) 90 #[v,.int .i64 n,.slice (some ⟨vb,0,none⟩) 1 1] w λe w'=>∃v',e=.returned v'/\w'.ownsRow base 98 5 v' (n+1) (xs++x)/\Below base w w':=by
 obtain⟨i,s,g,f,d⟩:=info_parts jM;have hu:=fA;have c:=av (aaa h (aaa hx (aaa (λj u r=>by rw[Addr.add_lit];exact l j u r:∀j u,x[j]? =some u->w.cell? ((⟨vb,0,none⟩:Addr).add j)=some u) m)));obtain⟨t,k,rfl⟩:=aj h;clear h hx l m;have p:(n:Int)<=n:=Int.le_refl _
 go_enter (pf func90 (by rfl)),ntmps90
 go_wp2_with(at_builtin;refine wpList_append_own _ rfl _ _ _ rfl base 98 i _ 5 112 hu s g f d rfl (by omega) _ n xs rfl c.out.1 ⟨vb,0,none⟩ 1 1 x rfl (by rw[c.out.2.1]) c.out.2.2.1 c.out.2.2.2 (by unfold maxLen;omega) (by omega) hb ?_;intro v' w1 b a _)
 all_goals
  go_ret;exact⟨_,rfl,b,(aab _ _).grown a hb λq o=>(c.out.1.lt q o).1⟩
theorem overlaps_no (w)(g vb o f cb)(cur x)(l:w.heap[g]? =some (.cells cur 98 (0,0)))(b:w.heap[vb]? =some (.cells x 98 (0,0)))(d:vb≠g)(hc:cur.size≠0):
 (callFunc 147 #[.slice (some ⟨vb,0,none⟩) 1 1,.slice (some ⟨g,o,none⟩) f cb]).run (patch ae prog) w=.ok (.value (.bool false)) w:=by
 have c:∀w,(Go.sizeOf 98).run (patch ae prog) w=.ok 5 w:=λw=>by
  obtain⟨i,k,j,a,h⟩:=info_parts jM;simp[sizeOf,typeInfo,k,a]
 rw[run_callFunc_extern (pf func147 (by rfl)) (by kernel_rfl) (by kernel_rfl) (by kernel_rfl) (e:=Extern.SlicesOverlaps.overlaps #[47,47] #[4]) (by kernel_rfl),
  Lib.run_overlaps_apart w 47 4 98 fA 5 c ⟨vb,0,none⟩ ⟨g,o,none⟩ 1 1 f cb d 98 98 x.size cur.size (by simp[World.shape?,b]) (by simp[World.shape?,l]) hc ((blk b).2 0) ((blk b).2 x.size)]
 rfl
theorem insert_shift (base g n cap p vb)(cur xs x)(w)(E:w.heap[g]? =some (.cells cur.toArray 98 (0,0)))(C:base<=g)(b:cur.length=cap*5)(f:cur.take (n*5)=xs)(hp:p<n)(I:n+1<=cap)(c:cap<=maxLen)(t:vb≠g)
 (h:w.heap[vb]? =some (.cells x.toArray 98 (0,0)))(hx:x.length=5)(D:∀u∈xs,u.oneCell'=true)(K:∀u∈x,u.oneCell'=true):
 Calls (patch ae prog) 90 #[.slice (some ⟨g,0,none⟩) n cap,.int .i64 p,.slice (some ⟨vb,0,none⟩) 1 1] w λe w'=>e=.returned (.slice (some ⟨g,0,none⟩) (n+1) cap)/\w'.heap[g]? =some (.cells (splice (splice cur ((p+1)*5) (xs.drop (p*5))) (p*5) x).toArray 98 (0,0))/\Below base w w':=by
 have hu:=fA
 have y:((patch ae prog).info? 98).map (·.size)=some 5:=by
  obtain⟨i,X,N,H,G⟩:=info_parts jM;rw[X];simp[H]
 obtain⟨cs,hcs⟩:∃cs,cs=xs.drop (p*5):=⟨_,rfl⟩;have r:xs.length=n*5:=by rw[<-f,List.length_take,b];omega
 have a:cs.length=(n-p)*5:=by rw[hcs,List.length_drop,r];omega
 have V:=λo M cb=>overlaps_no w g vb o M cb cur.toArray x.toArray E h t (by rw[List.size_toArray,b];omega)
 have R:vb<w.heap.size:=(ZK.1 h).1
 have q:Hid (w.heap[g]? =some (.cells cur.toArray 98 (0,0))/\cs.length=(n-p)*5/\(∀j v,cs[j]? =some v->w.drew.cell? ((⟨g,p*5,none⟩:Addr).add j)=some v)/\(p+1)*5+cs.length<=cur.length/\(∀v∈cs,v.oneCell'=true)/\Below base w w.drew):=by
  refine⟨E,a,λj v m=>?_,by rw[b,a];omega,λv h=>D v (by rw[hcs]at h;exact List.mem_of_mem_drop h),(aab _ _).drew⟩;rw[Addr.add_lit];have W:=(ZZ.1 m).1;rw[hcs,List.getElem?_drop,<-f,Z5]at m;split at m
  .show w.cell? _=_
   rw[(blk E).1];simpa using m
  .cases m
 have F:Hid (x.length=1*5/\(∀v∈x,v.oneCell'=true)/\(∀w',Below base w w'->w'.heap[vb]? =w.heap[vb]?->∀j v,x[j]? =some v->w'.cell? ((⟨vb,0,none⟩:Addr).add j)=some v)/\(∀l:List Value,l.length=cur.length->p*5+x.length<=l.length)):=
  ⟨by rw[hx],K,λw' _ e j u m=>by rw[Addr.add_lit,(blk (e.trans h)).1,Z8];simpa using m,λl hl=>by rw[hl,hx,b];omega⟩
 have HL:Hid ((splice cur ((p+1)*5) cs).length=cur.length):=length_splice _ _ _ q.out.2.2.2.1;have G:¬((p:Int)=(n:Int)):=by omega
 have Q:IntKind.i64.wrap ((n:Int)+1)=(n:Int)+1:=by unfold maxLen at c;rw[IntKind.wrap_i64];omega
 have O:IntKind.i64.wrap ((p:Int)+1)=(p:Int)+1:=by unfold maxLen at c;rw[IntKind.wrap_i64];omega
 have η:¬((cap:Int)< (n:Int)+1):=by omega
 have ζ:(0:Int)<=(p:Int)+1:=by omega
 have T:p<=n:=by omega
 have U:(p:Int)<=n:=by omega
 have S:((p:Int)+1).toNat=p+1:=by omega
 have J:((n:Int)+1).toNat=n+1:=by omega
 have ε:¬(cap=p+1):=by omega
 have δ:¬(cap=p):=by omega
 have γ:(p:Int)<=(n:Int)+1:=by omega
 have β:(p:Int)+1<=(n:Int)+1:=by omega
 have α:(n:Int)+1<=(cap:Int):=by omega
 have Z:(0:Int)<=(n:Int)+1:=by omega
 have A:Nat.min (n+1-p) (n+1-(p+1))=n-p:=by simp only[Nat.min_def];split<;>omega
 have k:Nat.min 1 (n+1-p)=1:=by simp only[Nat.min_def];split<;>omega
 rw[<-hcs];clear E h D K hcs f r a hx b
 go_enter (pf func90 (by rfl)),ntmps90
 go_wp2_with fail
 go_region_law(refine ky rfl _ _ 47 47 rfl 98 5 (n-p) hu y (by omega) (some ⟨g,(p+1)*5,none⟩) (some ⟨g,p*5,none⟩) (n+1-(p+1)) (cap-(p+1)) (n+1-p) (cap-p) (by simp[Act.eval,Act.put]) (by simp[Act.eval,Act.put]) g ((p+1)*5) cur 98 q.out.1 cs A q.out.2.1 (λ_=>⟨rfl,_,rfl,q.out.2.2.1⟩) q.out.2.2.2.1 q.out.2.2.2.2.1 base w q.out.2.2.2.2.2 C ?_;intro w1 B d z)
 all_goals
  have H1:=av (aaa B d);have s:w1.heap[vb]? =w.heap[vb]?:=z vb t;clear B d z;obtain⟨w2,Y,L⟩:=copy_eqn (P:=(patch ae prog)) w1 47 98 g (p*5) (n+1-p) (cap-p) ⟨vb,0,none⟩ 1 1 (splice cur ((p+1)*5) cs) 98 x 5 1 hu y H1.out.1.out k F.out.1 (F.out.2.2.1 w1 H1.out.2 s) (F.out.2.2.2 _ HL.out) F.out.2.1;go_wp2_with fail;go_ret;exact⟨rfl,L.out.1,L.out.2.1 base w C H1.out.2⟩
theorem insert_grow (base g n cap p vb)(xs x)(w)(hc:fG w g 0 xs)(k:xs.length=n*5)(hp:p<n)(ε:n<=cap)(l:cap<n+1)(hn:n<=1000)(hb:base<=w.heap.size)
 (s:fG w vb 0 x)(hx:x.length=5)(F:∀u∈xs,u.oneCell'=true)(U:∀u∈x,u.oneCell'=true):
 Calls (patch ae prog) 90 #[.slice (some ⟨g,0,none⟩) n cap,.int .i64 p,.slice (some ⟨vb,0,none⟩) 1 1] w λe w'=>∃(G:Nat) (ROW:List Value),e=.returned (.slice (some ⟨w.heap.size,0,none⟩) (n+1) G)/\w'.heap[w.heap.size]? =some (.cells (splice (splice ROW (p*5) x) ((p+1)*5) (xs.drop (p*5))).toArray 98 (0,0))/\ROW.take (p*5)=xs.take (p*5)/\ROW.length=G*5/\n+1<=G/\G<=maxLen/\Below base w w':=by
 have hu:=fA;obtain⟨i0,C,K,y,i⟩:=info_parts jM;have z:((patch ae prog).info? 98).map (·.size)=some 5:=by rw[C];simp[y]
 obtain⟨cs,hcs⟩:∃cs,cs=xs.drop (p*5):=⟨_,rfl⟩;have b:cs.length=(n-p)*5:=by rw[hcs,List.length_drop,k];omega
 have O:g<w.heap.size:=aan (hc 0 _ (ZT (by omega)));have M:vb<w.heap.size:=aan (s 0 _ (ZT (by omega)))
 have hold:(Builtin.firstCells i0.size p (.slice (some ⟨g,0,none⟩) p cap)).run (patch ae prog) w.drew=.ok (xs.take (p*5)).toArray w.drew:=by
  rw[y];refine run_firstCells_some w.drew 5 p ⟨g,0,none⟩ p cap (xs.take (p*5)) (by rw[List.length_take];omega) λj v d=>?_
  rw[Addr.add_lit];rw[Z5]at d;split at d
  .exact hc j v d
  .cases d
 have o:p+(n+1-p)=n+1:=by omega
 have B:(n:Int)+1-(p:Int)=((n+1-p:Nat):Int):=by omega
 have c:∀ty,(Builtin.append_ #[47,3] ty #[.slice (some ⟨g,0,none⟩) p cap,.int .i64 ((n:Int)+1-(p:Int))]).run (patch ae prog) w=
  .ok (.slice (some ⟨w.heap.size,0,none⟩) (n+1) (grownCap w (n+1) cap 98)) (w.drew.alloc (.cells ((xs.take (p*5)).toArray++Builtin.zeroCells (Value.agg #[.string ⟨#[]⟩,.slice none 0 0,.slice none 0 0,.slice none 0 0,.slice none 0 0]).cells (n+1-p)++Builtin.zeroCells (Value.agg #[.string ⟨#[]⟩,.slice none 0 0,.slice none 0 0,.slice none 0 0,.slice none 0 0]).cells (grownCap w (n+1) cap 98-(n+1))) 98)):=λty=>by
  have h:=Lib.run_append_grow_zeros w 47 3 ty 98 i0 _ .i64 .i64 hu und_int C K (some ⟨g,0,none⟩) p cap (xs.take (p*5)) hold (n+1-p) (by omega) (by omega) (by omega) (by omega) (by rw[i];omega) (by rw[i,o];exact growslice_fits l (by omega));rw[o]at h;rw[B];exact h
 have E:=grownCap_ge w (n+1) cap 98;have r:=grownCap_le_maxLen w (n+1) cap 98 (by unfold maxLen;omega);obtain⟨G,T⟩:∃G,G=grownCap w (n+1) cap 98:=⟨_,rfl⟩;rw[<-T]at c E r;obtain⟨ROW,a⟩:∃ROW:List Value,ROW.toArray=(xs.take (p*5)).toArray++Builtin.zeroCells (Value.agg #[.string ⟨#[]⟩,.slice none 0 0,.slice none 0 0,.slice none 0 0,.slice none 0 0]).cells (n+1-p)++Builtin.zeroCells (Value.agg #[.string ⟨#[]⟩,.slice none 0 0,.slice none 0 0,.slice none 0 0,.slice none 0 0]).cells (G-(n+1)):=⟨_,Array.toArray_toList⟩
 have f:ROW.length=G*5:=by
  have:=congrArg Array.size a;simp[Builtin.zeroCells,Value.cells,k]at this;omega
 have D:ROW.take (p*5)=xs.take (p*5):=by
  have h:=congrArg Array.toList a;simp only[Array.toList_append]at h;rw[show ROW=_ from h,List.append_assoc,List.take_append_of_le_length (by simp;omega),aah (by simp;omega)]
 have V:=av (aaa D f);rw[<-a]at c;obtain⟨t,q⟩:∃t,t=w.drew.alloc (.cells ROW.toArray 98):=⟨_,rfl⟩;rw[<-q]at c
 have J:Hid (Below w.heap.size w t/\t.heap[w.heap.size]? =some (.cells ROW.toArray 98 (0,0))):=by
  rw[q];exact⟨(aab _ _).drew.alloc (ZL _) _,aae w.drew _⟩
 have H:Hid (x.length=1*5/\(∀v∈x,v.oneCell'=true)/\(∀j v,x[j]? =some v->t.cell? ((⟨vb,0,none⟩:Addr).add j)=some v)/\p*5+x.length<=ROW.length):=
  ⟨by rw[hx],U,λj u d=>by rw[Addr.add_lit];exact(J.out.1.cell (p:=⟨vb,_,none⟩) M).trans (s j u d),by rw[hx,f];omega⟩
 have HL:Hid ((splice ROW (p*5) x).length=ROW.length):=length_splice _ _ _ H.out.2.2.2
 have I:Hid (cs.length=(n-p)*5/\(∀v∈cs,v.oneCell'=true)/\(p+1)*5+cs.length<=(splice ROW (p*5) x).length/\∀w',Below w.heap.size w w'->∀j v,cs[j]? =some v->w'.cell? ((⟨g,p*5,none⟩:Addr).add j)=some v):=
  ⟨b,λv s=>F v (by rw[hcs]at s;exact List.mem_of_mem_drop s),by rw[HL.out,f,b];omega,λw' L j u d=>by
   rw[Addr.add_lit,L.cell (p:=⟨g,_,none⟩) O];rw[hcs,List.getElem?_drop]at d;have:=hc (p*5+j) u d
   rwa [Z8]at this⟩
 have Z:IntKind.i64.wrap ((n:Int)+1)=(n:Int)+1:=by rw[IntKind.wrap_i64];omega
 have Y:IntKind.i64.wrap ((p:Int)+1)=(p:Int)+1:=by rw[IntKind.wrap_i64];omega
 have X:IntKind.i64.wrap ((n:Int)+1-(p:Int))=(n:Int)+1-(p:Int):=by rw[IntKind.wrap_i64];omega
 have i:¬((p:Int)=(n:Int)):=by omega
 have W:(cap:Int)< (n:Int)+1:=by omega
 have β:p<=n:=by omega
 have γ:(p:Int)<=n:=by omega
 have δ:p<=cap:=by omega
 have α:((p:Int)+1).toNat=p+1:=by omega
 have κ:(0:Int)<=(p:Int)+1:=by omega
 have θ:(p:Int)+1<=(n:Int)+1:=by omega
 have ι:(p:Int)<=(n:Int)+1:=by omega
 have ν:¬(G=p):=by omega
 have μ:¬(G=p+1):=by omega
 have η:¬(cap=p):=by omega
 have S:(G:Int)<=9223372036854775807:=by unfold maxLen at r;omega
 have A:Nat.min (n-p) (n+1-(p+1))=n-p:=by simp only[Nat.min_def];split<;>omega
 have m:Nat.min 1 (n+1-p)=1:=by simp only[Nat.min_def];split<;>omega
 rw[<-hcs];clear s F U hcs k b hx hc a f D T q hold B o
 go_enter (pf func90 (by rfl)),ntmps90
 obtain⟨w2,ζ,R⟩:=copy_eqn (P:=(patch ae prog)) t 47 98 w.heap.size (p*5) (n+1-p) (G-p) ⟨vb,0,none⟩ 1 1 ROW 98 x 5 1 hu z J.out.2 m H.out.1 H.out.2.2.1 H.out.2.2.2 H.out.2.1;go_wp2_with(at_builtin;refine Lib.wpList_append_run _ rfl _ _ _ _ rfl _ _ rfl rfl _ _ (c _) ?_)
 go_region_law(refine ky rfl _ _ 47 47 rfl 98 5 (n-p) hu z (by omega) (some ⟨w.heap.size,(p+1)*5,none⟩) (some ⟨g,p*5,none⟩) (n+1-(p+1)) (G-(p+1)) (n-p) (cap-p) (by simp[Act.eval,Act.put]) (by simp[Act.eval,Act.put]) w.heap.size ((p+1)*5) (splice ROW (p*5) x) 98 R.out.1 cs A I.out.1 (λ_=>⟨rfl,_,rfl,I.out.2.2.2 _ (R.out.2.1 w.heap.size w (ZL _) J.out.1).drew⟩) I.out.2.2.1 I.out.2.1 w.heap.size w (R.out.2.1 w.heap.size w (ZL _) J.out.1).drew (ZL _) ?_;intro w3 N Q _)
 all_goals
  go_wp2_with fail;go_ret;exact⟨G,ROW,rfl,N.out,V.out.1,V.out.2,E,r,Q.mono hb⟩
theorem ins_cells {L xs x:List Value}{p n}(hx:x.length=5)(a:xs.length=n*5)(hp:p<n)(d:(n+1)*5<=L.length)(b:L.take (p*5)=xs.take (p*5)):
 ((splice (splice L (p*5) x) ((p+1)*5) (xs.drop (p*5)))).take ((n+1)*5)=xs.take (p*5)++x++xs.drop (p*5):=by
 have hd:(xs.drop (p*5)).length=(n-p)*5:=by rw[List.length_drop,a];omega
 have c:(splice L (p*5) x).length=L.length:=length_splice _ _ _ (by rw[hx];omega);have e:(n+1)*5=(p+1)*5+(xs.drop (p*5)).length:=by rw[hd];omega
 rw[e,splice_take (by rw[c,hd];omega),show(p+1)*5=p*5+x.length by rw[hx];omega,splice_take (by rw[hx];omega),b]
theorem ins_cells2 {L xs x:List Value}{p n}(hx:x.length=5)(a:xs.length=n*5)(hp:p<n)(f:(n+1)*5<=L.length)(b:L.take (p*5)=xs.take (p*5)):
 ((splice (splice L ((p+1)*5) (xs.drop (p*5))) (p*5) x)).take ((n+1)*5)=xs.take (p*5)++x++xs.drop (p*5):=by
 have hd:(xs.drop (p*5)).length=(n-p)*5:=by rw[List.length_drop,a];omega
 have g:(splice L ((p+1)*5) (xs.drop (p*5))).length=L.length:=length_splice _ _ _ (by rw[hd];omega)
 have d:(splice L ((p+1)*5) (xs.drop (p*5))).take (p*5)=xs.take (p*5):=by
  unfold splice;rw[List.take_append_of_le_length (by simp;omega),List.take_take,show min (p*5) ((p+1)*5)=p*5 by omega,b]
 have c:(splice L ((p+1)*5) (xs.drop (p*5))).drop (p*5+x.length)=xs.drop (p*5)++L.drop ((p+1)*5+(xs.drop (p*5)).length):=by
  unfold splice;rw[show p*5+x.length=(p+1)*5 by rw[hx];omega];have hl:(L.take ((p+1)*5)).length=(p+1)*5:=by rw[List.length_take];omega
  rw[List.drop_append_of_le_length (by omega),List.drop_of_length_le (by omega),List.nil_append]
 show((splice L ((p+1)*5) (xs.drop (p*5))).take (p*5)++(x++(splice L ((p+1)*5) (xs.drop (p*5))).drop (p*5+x.length))).take ((n+1)*5)=_
 rw[d,c];have e:(xs.take (p*5)++(x++xs.drop (p*5))).length=(n+1)*5:=by simp[hx,a];omega
 rw[<-List.append_assoc x,<-List.append_assoc (xs.take (p*5)),List.take_append_of_le_length (by omega),aah (by omega),List.append_assoc]
theorem insertB_any (base n p vb)(v)(xs x)(w:World)(h:w.ownsRow base 98 5 v n xs)(hb:base<=w.heap.size)(E:n<=1000)(hp:p<=n)(hx:x.length=5)(C:w.heap[vb]? =some (.cells x.toArray 98 (0,0)))(t:v.ownBlock≠some vb)(o:∀u∈xs,u.oneCell'=true)(B:∀u∈x,u.oneCell'=true):
 Calls (patch ae prog) 90 #[v,.int .i64 p,.slice (some ⟨vb,0,none⟩) 1 1] w λe w'=>∃v',e=.returned v'/\w'.ownsRow base 98 5 v' (n+1) (xs.take (p*5)++x++xs.drop (p*5))/\Below base w w':=by
 have k:fG w vb 0 x:=λj u f=>by rw[(blk C).1,Z8];simpa using f
 have hlen:=h.1
 by_cases he:p=n
 .subst he
  rw[aah (by omega),List.drop_of_length_le (by omega),List.append_nil];exact insert_end base p vb v xs x w h hb E hx k B
 .rcases h.2 with⟨_,I⟩|⟨g,cap,cur,rfl,m,F,hc,hm,hs,y⟩
  .omega
  .have s:fG w g 0 xs:=λj u f=>by
        rw[(blk F).1,Z8];rw[<-y,Z5]at f;split at f
        .simpa using f
        .cases f
   have a:p<n:=(by omega);have l:(xs.take (p*5)++x++xs.drop (p*5)).length=(n+1)*5:=(by simp[hx,hlen];omega)
   by_cases D:n+1<=cap
   .refine(insert_shift base g n cap p vb cur.toList xs x w (by simpa using F) m (by simpa using hs) y a D hm (λe=>t (by rw[e];rfl)) C hx o B).mono ?_
    rintro e w' ⟨rfl,c,d⟩;refine⟨_,rfl,⟨l,.inr ⟨g,cap,_,rfl,m,c,D,hm,?_,?_⟩⟩,d⟩
    .have q:cur.toList.length=cap*5:=by simpa using hs
     have r:(xs.drop (p*5)).length=(n-p)*5:=(by rw[List.length_drop,hlen];omega);have i:(splice cur.toList ((p+1)*5) (xs.drop (p*5))).length=cap*5:=(by rw[length_splice _ _ _ (by rw[r,q];omega),q]);rw[List.size_toArray,length_splice _ _ _ (by rw[hx,i];omega),i]
    .have q:cur.toList.length=cap*5:=by simpa using hs
     exact ins_cells2 hx hlen a (by rw[q];omega) (by rw[<-y,List.take_take,show min (p*5) (n*5)=p*5 by omega])
   .refine(insert_grow base g n cap p vb xs x w s hlen a hc (by omega) E hb k hx o B).mono ?_
    rintro e w' ⟨G,ROW,rfl,c,z,b,H,A,d⟩;refine⟨_,rfl,⟨l,.inr ⟨w.heap.size,G,_,rfl,hb,c,H,A,?_,?_⟩⟩,d⟩
    .have r:(xs.drop (p*5)).length=(n-p)*5:=by rw[List.length_drop,hlen];omega
     have i:(splice ROW (p*5) x).length=G*5:=(by rw[length_splice _ _ _ (by rw[hx,b];omega),b]);rw[List.size_toArray,length_splice _ _ _ (by rw[r,i];omega),i]
    .exact ins_cells hx hlen a (by rw[b];omega) z
theorem oz {B b}{a}(hb:B<=b):∀(vs:List Value) (o:Nat) (w:World),Below B a w->Below B a (w.setCells b o vs)
 |[],_,_,h=>h
 |v::r,o,w,h=>oz hb r (o+1) _ (h.setCell (p:=⟨b,o,none⟩) hb v)
theorem kK {g}{t}:∀(vs:List Value) (o:Nat) (w:World) (cur:Array Value),w.heap[g]? =some (.cells cur t (0,0))->
 ∃a,(w.setCells g o vs).heap[g]? =some (.cells a t (0,0))/\a.size=cur.size/\(∀j,(j<o\/o+vs.length<=j)->a[j]? =cur[j]?)/\∀j,j<vs.length->o+j<cur.size->a[o+j]? =vs[j]?
 |[],_,_,cur,h=>⟨cur,h,rfl,λ_ _=>rfl,λj b=>absurd b (ZV _)⟩
 |v::r,o,w,cur,h=>by
  obtain⟨a,f,e,c,d⟩:=kK r (o+1) (w.setCell ⟨g,o,none⟩ v) _ (aD (i:=o) v h);refine⟨a,f,by rw[e];simp,λj b=>?_,λj b k=>?_⟩
  .rw[c j (by simp at b;omega)];simp[Array.getElem?_setIfInBounds];simp at b;omega
  .cases j with
   |zero=>rw[Nat.add_zero,c o (by omega)];simp[Array.getElem?_setIfInBounds];omega
   |succ j=>
    have:=d j (by simp at b;omega) (by simp;omega);rw[show o+1+j=o+(j+1) by omega]at this;rw[this];simp
theorem clear_boxP (w)(ty)(b o n c)(hc:∀j,j<n*5->(w.cell? ⟨b,o+j,none⟩).isSome=true)(hf:∀j,j<n*5->w.frozen? ⟨b,o+j,none⟩=false):
 ∃vs,(Builtin.clear_ #[47] ty #[.slice (some ⟨b,o,none⟩) n c]).run (patch ae prog) w=.ok (.tuple #[]) (w.setCells b o vs):=by
 cases n with
 |zero=>exact⟨[],by simp[Builtin.clear_,run_underlying fA,World.setCells]⟩
 |succ m=>
  refine⟨(Builtin.zeroCells #[.string ⟨#[]⟩,.slice none 0 0,.slice none 0 0,.slice none 0 0,.slice none 0 0] (m+1)).toList,?_⟩;have hl:(Builtin.zeroCells #[.string ⟨#[]⟩,.slice none 0 0,.slice none 0 0,.slice none 0 0,.slice none 0 0] (m+1)).toList.length=(m+1)*5:=by simp[Builtin.zeroCells]
  have a:=run_storeCells_cells (P:=(patch ae prog)) b o (Builtin.zeroCells #[.string ⟨#[]⟩,.slice none 0 0,.slice none 0 0,.slice none 0 0,.slice none 0 0] (m+1)).toList 0 w (by rw[hl];simpa using hc) (by rw[hl];simpa using hf) (λv g=>by
   simp only[Builtin.zeroCells,Array.toList_map,List.mem_map]at g;obtain⟨i,_,rfl⟩:=g;have h:i%5<5:=Nat.mod_lt _ (by omega);show(#[Value.string ⟨#[]⟩,.slice none 0 0,.slice none 0 0,.slice none 0 0,.slice none 0 0][i%5]!).oneCell'=true
   generalize i%5=k at h
   match k,h with
   |0,_=>rfl
   |1,_=>rfl
   |2,_=>rfl
   |3,_=>rfl
   |4,_=>rfl)
  simp only[Nat.add_zero]at a;have e:(Value.agg #[.string ⟨#[]⟩,.slice none 0 0,.slice none 0 0,.slice none 0 0,.slice none 0 0]).cells= #[.string ⟨#[]⟩,.slice none 0 0,.slice none 0 0,.slice none 0 0,.slice none 0 0]:=rfl
  have d:∀u,(zeroValue 98).run (patch ae prog) u=.ok (.agg #[.string ⟨#[]⟩,.slice none 0 0,.slice none 0 0,.slice none 0 0,.slice none 0 0]) u:=λu=>by
   obtain⟨i,r,f,p,l⟩:=info_parts jM;simp[zeroValue,typeInfo,r,f]
  generalize q:(Builtin.zeroCells #[.string ⟨#[]⟩,.slice none 0 0,.slice none 0 0,.slice none 0 0,.slice none 0 0] (m+1)).toList=vs at a⊢;simp[Builtin.clear_,run_underlying fA,d,e,q,a]
theorem deleteOne_any (base n p)(v)(xs)(w:World)(h:w.ownsRow base 98 5 v n xs)(hb:base<=w.heap.size)(hn:n<=1000)(hp:p<n)(M:∀u∈xs,u.oneCell'=true):
 Calls (patch ae prog) 91 #[v,.int .i64 p,.int .i64 ((p+1:Nat):Int)] w λe w'=>∃v',e=.returned v'/\w'.ownsRow base 98 5 v' (n-1) (xs.take (p*5)++xs.drop ((p+1)*5))/\NZ v'/\Below base w w':=by
 have hlen:=h.1;rcases h.2 with⟨_,N⟩|⟨g,cap,cur,rfl,k,z,hc,hm,hs,y⟩
 .omega
 obtain⟨i0,E,R,C,Q⟩:=info_parts jM;have hu:=fA;obtain⟨news,a⟩:∃news,news=xs.drop ((p+1)*5):=⟨_,rfl⟩;have i:news.length=(n-(p+1))*5:=by rw[a,List.length_drop,hlen];omega
 have hcell:∀j,j<n*5->w.cell? ⟨g,j,none⟩=xs[j]?:=λj l=>by
  rw[(blk z).1,<-y,Z5,if_pos l];simp
 obtain⟨A,hA,m⟩:∃A:Addr,(if cap=p+1 then some (⟨g,0,none⟩:Addr)else some ⟨g,(p+1)*5,none⟩)=some A/\Hid (∀t u,news[t]? =some u->w.drew.cell? (A.add t)=some u):=by
  by_cases o:cap=p+1
  .refine⟨⟨g,0,none⟩,by simp[o],λt u hu=>?_⟩
   have N:news.length=0:=(by rw[i];omega);rw[List.length_eq_zero_iff.1 N]at hu;simp at hu
  .refine⟨⟨g,(p+1)*5,none⟩,by simp[o],λt u hu=>?_⟩
   have hl:=(ZZ.1 hu).1;rw[a,List.getElem?_drop]at hu;rw[Addr.add_lit];show w.cell? _=_
   rw[hcell _ (by omega)];exact hu
 have s1:Hid (news.length=(n-(p+1))*5):=i;have s2:Hid (∀u∈news,u.oneCell'=true):=λu hu=>M u (by rw[a]at hu;exact List.mem_of_mem_drop hu)
 have P:Hid (∀t,t<news.length->(w.drew.cell? ⟨g,0+p*5+t,none⟩).isSome=true/\w.drew.frozen? ⟨g,0+p*5+t,none⟩=false):=λt y=>by
  refine⟨?_,(blk z).2 _⟩;show(w.cell? _).isSome=true
  rw[hcell _ (by omega),ZT (by omega)];rfl
 obtain⟨d,f⟩:∃d,d=w.drew.setCells g (0+p*5) news:=⟨_,rfl⟩;obtain⟨b,k1,B,H,G⟩:=kK news (0+p*5) w.drew cur z;rw[<-f]at k1;have r:Below base w d:=by rw[f];exact oz k _ _ _ (aab _ _).drew
 have q:∀ty,∃vs,(Builtin.clear_ #[47] ty #[.slice (some ⟨g,(p+(n-(p+1)))*5,none⟩) (n-(p+(n-(p+1)))) (cap-(p+(n-(p+1))))]).run (patch ae prog) d=.ok (.tuple #[]) (d.setCells g ((p+(n-(p+1)))*5) vs):=λty=>
  clear_boxP d ty g _ _ _ (λj l=>by rw[(blk k1).1,ZM (by rw[B,hs];omega)];rfl) λj l=>(blk k1).2 _
 obtain⟨vs,S⟩:=q 0;have x:Hid (d.heap[g]? =some (.cells b 98 (0,0))/\b.size=cur.size/\(∀j,(j<0+p*5\/0+p*5+news.length<=j)->b[j]? =cur[j]?)/\(∀j,j<news.length->0+p*5+j<cur.size->b[0+p*5+j]? =news[j]?)/\Below base w d):=⟨k1,B,H,G,r⟩;have HW:Hid (d=w.drew.setCells g (0+p*5) news):=f;have Z:Hid (news=xs.drop ((p+1)*5)/\cur.toList.take (n*5)=xs/\xs.length=n*5/\cur.size=cap*5):=⟨a,y,hlen,hs⟩;have K:(cap:Int)<=9223372036854775807:=by unfold maxLen at hm;omega
 have T:p<=cap:=by omega
 have J:p+1<=cap:=by omega
 have I:p+1<=n:=by omega
 have F:¬(cap=p+(n-(p+1))):=by omega
 have U:¬((p:Int)=((p+1:Nat):Int)):=by omega
 have X:(0:Int)<=(p:Int)+1:=by omega
 have W:(p:Int)+1<=(n:Int):=by omega
 have V:((p:Int)+1).toNat=p+1:=by omega
 clear z a y hlen hs k1 B H G r f hcell i h M q
 go_enter (pf func91 (by rfl)),ntmps91
 go_wp2_with fail
 go_region_law(refine step_append_room rfl (.tmp 22) (.tmp 25) 47 rfl 98 i0 5 hu E C g 0 p cap (by simp[Act.eval,Act.put]) A (n-(p+1)) (cap-(p+1)) news (by simp[Act.eval,Act.put,hA]) s1.out m.out s2.out (by omega) P.out ?_;rw[<-HW.out])
 all_goals
  go_wp2_with fail;go_ret;obtain⟨s,m1,m2,m3,_⟩:=kK vs ((p+(n-(p+1)))*5) d b x.out.1;have Y:p+(n-(p+1))=n-1:=by omega
  obtain⟨x1,x2,x3,O⟩:=Z.out;have nl:=s1.out;have hl:(xs.take (p*5)++xs.drop ((p+1)*5)).length=(n-1)*5:=by rw[Z7,List.length_take,List.length_drop,x3];omega
  refine⟨.slice (some ⟨g,0,none⟩) (n-1) cap,?_,⟨hl,.inr ⟨g,cap,s,rfl,k,m1,by omega,hm,by rw[m2,x.out.2.1,O],?_⟩⟩,?_,oz k _ _ _ x.out.2.2.2.2⟩
  .show Ending.returned (.slice (some ⟨g,0,none⟩) (p+(n-(p+1))) cap)=_
   rw[Y]
  .refine List.ext_getElem? λj=>?_
   rw[Z5]
   by_cases l:j< (n-1)*5
   .rw[if_pos l,Array.getElem?_toList,m3 j (.inl (by omega))]
    by_cases D:j<p*5
    .rw[x.out.2.2.1 j (.inl (by omega)),List.getElem?_append_left (by rw[List.length_take];omega),Z5,if_pos D,<-x2,Z5,if_pos (by omega),Array.getElem?_toList]
    .have L:=x.out.2.2.2.1 (j-p*5) (by rw[nl];omega) (by omega)
     rw[show 0+p*5+(j-p*5)=j by omega]at L;rw[L,x1,List.getElem?_append_right (by rw[List.length_take];omega),List.length_take,x3,show min (p*5) (n*5)=p*5 by omega]
   .rw[if_neg l,List.getElem?_eq_none (by omega)]
  .show NZ _
   cases cap with
   |zero=>omega
   |succ c=>trivial
end Z
