/- Part 38 of the proof. -/
import Derived.Test.YtfpaamhppamcoaaGreatDoorSp37
import Derived.Deep.RegionLaw
import Derived.LaidEql
import Derived.Stop.Asserts
import Derived.RowKitTokens
set_option linter.all false
set_option maxRecDepth 100000
set_option maxHeartbeats 60000000
namespace Go.Proofs.YtfpaamhppamcoaaGreatDoor
open Go.Proofs.Tryz
namespace Z
open Go.RowKit
theorem blk_cells {w:World}{b}{cs}{t}(h:w.heap[b]? =some (.cells cs t (0,0))):(∀j,w.cell? ⟨b,j,none⟩=cs[j]?)/\∀j,w.frozen? ⟨b,j,none⟩=false:=blk h
structure fH where
 nm:ByteArray
 A:Nat->Option Addr
 C:Nat->Nat
 T:Nat->List Nat
def fH.sl (x:fH)(q:Nat):Value:=.slice (x.A q) (x.T q).length (x.C q)
def fH.cells (x:fH):List Value:=[.string x.nm,x.sl 0,x.sl 1,x.sl 2,x.sl 3]
def aR (l:List fH):List Value:=l.flatMap fH.cells
theorem fe (l):(aR l).length=l.length*5:=by
 induction l with
 |nil=>rfl
 |cons x l a=>simp only[aR,List.flatMap_cons,Z7,List.length_cons]at a⊢;rw[a];simp[fH.cells];omega
theorem iE (l k):aR (l++k)=aR l++aR k:=List.flatMap_append
theorem DD {l}{i j}(d:i<l.length)(b:j<5):(aR l)[i*5+j]? =l[i].cells[j]?:=by
 have e:l=l.take i++l[i]::l.drop (i+1):=by simp
 have a:(aR (l.take i)).length=i*5:=by rw[fe,List.length_take];congr 1;omega
 have c:aR l=aR (l.take i)++(l[i].cells++aR (l.drop (i+1))):=by
  have h:=congrArg aR e;rw[iE]at h;exact h
 rw[c,List.getElem?_append_right (by rw[a];omega),a,Nat.add_sub_cancel_left,List.getElem?_append_left (by simpa[fH.cells] using b)]
theorem pP (l)(k):(aR l).take (k*5)=aR (l.take k):=by
 by_cases h:k<=l.length
 .have e:=iE (l.take k) (l.drop k)
  rw[List.take_append_drop]at e;have hl:(aR (l.take k)).length=k*5:=by rw[fe,List.length_take];congr 1;omega
  rw[e,List.take_append_of_le_length (by omega),aah (by omega)]
 .rw[aah (by rw[fe];omega),aah (by omega)]
theorem pQ (l)(k):(aR l).drop (k*5)=aR (l.drop k):=by
 by_cases h:k<=l.length
 .have e:=iE (l.take k) (l.drop k)
  rw[List.take_append_drop]at e;have hl:(aR (l.take k)).length=k*5:=by rw[fe,List.length_take];congr 1;omega
  rw[e,List.drop_append_of_le_length (by omega),List.drop_of_length_le (by omega),List.nil_append]
 .rw[List.drop_of_length_le (by rw[fe];omega),List.drop_of_length_le (by omega)];rfl
theorem iD {l}:∀u∈aR l,u.oneCell'=true:=by
 intro u hu;obtain⟨x,_,hx⟩:=List.mem_flatMap.1 hu;simp only[fH.cells,ZW,List.not_mem_nil,or_false]at hx;rcases hx with rfl|rfl|rfl|rfl|rfl<;>rfl
def fH.lies (x:fH)(base:Nat)(w:World):Prop:=∀q,q<4->w.ownsRow base 3 1 (x.sl q) (x.T q).length (aT (x.T q))/\NZ (x.sl q)
def fH.small (x:fH):Prop:=x.nm.size<=20/\∀q,q<4->(x.T q).length<=24/\∀i∈x.T q,i<=24
theorem fH.lies.below {x:fH}{base}{w w'}(h:x.lies base w)(hb:Below w.heap.size w w'):x.lies base w':=λq a=>⟨au (h q a).1 hb,(h q a).2⟩
structure BS where
 m:cz
 dn:Nat->Nat
 dN:Nat->Nat->Int
 dH:Nat->Nat->Bool
 bs:List fH
 no:Nat
 fl:Bool
 ah:Int
def ownT (l:List fH)(i q:Nat):List Nat:=match l[i]? with
 |some x=>x.T q
 |none=>[]
def mU (l:List fH)(i:Nat):ByteArray:=match l[i]? with
 |some x=>x.nm
 |none=>⟨#[]⟩
theorem ownT_at {l}{i}(h:i<l.length)(q):ownT l i q=l[i].T q:=by unfold ownT;rw[ZT h]
theorem M4 {l}{i}(h:i<l.length):mU l i=l[i].nm:=by unfold mU;rw[ZT h]
def BS.D (s:BS):BD:=⟨s.m.n,s.m.N,s.m.r,s.m.R,s.dn,s.dN,s.dH,s.bs.length,λi q=>(ownT s.bs i q).length,λi q j=>(((ownT s.bs i q)[j]?.getD 0:Nat):Int)⟩
structure BS.ok (s:BS):Prop where
 mach:s.m.ok
 d:s.D.ok
 many:s.bs.length<=12
 small:∀x∈s.bs,x.small
 no:s.no<=1000000000
 ah:In64 s.ah/\(s.fl=true->0<=s.ah)
def iB (s:BS)(k j:Nat):Value:=if j%2=0 then .int .i64 (s.dN k (j/2))else .bool (s.dH k (j/2))
def dvL (s:BS)(k:Nat):List Value:=(List.range (s.dn k*2)).map (iB s k)
def psC (s:BS)(vc vr vb vo:Value)(d:Nat->Value):Array Value:= #[vc,vr,.int .i64 s.m.p,d 0,d 1,d 2,vb,vo,.bool s.fl,.int .i64 s.ah]
structure PS (w:World)(base bb:Nat)(s:BS)(vc vr vb vo:Value)(d:Nat->Value)(ys:List Value)(K:Nat->Nat):Prop where
 blk:w.heap[bb]? =some (.cells (psC s vc vr vb vo d) 95 (0,0))
 dA:w.ownsRow base 81 3 vc s.m.n (oq s.m)
 res:w.ownsRow base 3 1 vr s.m.r (resL s.m)
 dC:∀k,k<3->w.ownsRow base 75 2 (d k) (s.dn k) (dvL s k)
 boxes:w.ownsRow base 98 5 vb s.bs.length (aR s.bs)
 rows:∀x∈s.bs,x.lies base w
 ops:w.ownsRow base 156 4 vo s.no ys
 tb:K bb=1
 tc:∀b,vc.ownBlock=some b->K b=2
 tr:∀b,vr.ownBlock=some b->K b=2
 tx:∀b,vb.ownBlock=some b->K b=2
 tl:∀x∈s.bs,∀q,q<4->∀b,(x.sl q).ownBlock=some b->K b=2
 td:∀k,k<3->∀b,(d k).ownBlock=some b->K b=4+k
 tq:∀b,vo.ownBlock=some b->K b=8
 tk:∀b,K b≠0->base<=b/\b<w.heap.size
 ok:s.ok
theorem aJ {w w':World}{base}{e}{size}{v}{n}{xs}(h:w.ownsRow base e size v n xs)(hb:∀b,v.ownBlock=some b->w'.heap[b]? =w.heap[b]?):w'.ownsRow base e size v n xs:=by
 refine⟨h.1,?_⟩;rcases h.2 with h|⟨g,cap,cur,rfl,c,a,d⟩
 .exact .inl h
 .exact .inr ⟨g,cap,cur,rfl,c,(hb g rfl).trans a,d⟩
section
variable {w w':World}{base bb:Nat}{s:BS}{vc vr vb vo:Value}{d:Nat->Value}{ys:List Value}{K:Nat->Nat}
theorem PS.keep (h:PS w base bb s vc vr vb vo d ys K)(hs:w.heap.size<=w'.heap.size)(g:∀b,b<w.heap.size->K b≠0->w'.heap[b]? =w.heap[b]?):PS w' base bb s vc vr vb vo d ys K:=by
 have a:∀{b t},K b=t->t≠0->w'.heap[b]? =w.heap[b]?:=fun{b t} e i=>g b (h.tk b (by omega)).2 (by omega)
 exact⟨(a h.tb (by omega)).trans h.blk,aJ h.dA λb hb=>a (h.tc b hb) (by omega),aJ h.res λb hb=>a (h.tr b hb) (by omega),
  λk c=>aJ (h.dC k c) λb hb=>a (h.td k c b hb) (by omega),aJ h.boxes λb hb=>a (h.tx b hb) (by omega),
  λx hx q f=>⟨aJ (h.rows x hx q f).1 λb hb=>a (h.tl x hx q f b hb) (by omega),(h.rows x hx q f).2⟩,aJ h.ops λb hb=>a (h.tq b hb) (by omega),
  h.tb,h.tc,h.tr,h.tx,h.tl,h.td,h.tq,λb hb=>⟨(h.tk b hb).1,ZO (h.tk b hb).2 hs⟩,h.ok⟩
theorem PS.below (h:PS w base bb s vc vr vb vo d ys K)(hb:Below w.heap.size w w'):PS w' base bb s vc vr vb vo d ys K:=h.keep hb.size λb hl _=>hb.block b hl
theorem PS.lt (h:PS w base bb s vc vr vb vo d ys K):bb<w.heap.size:=(ZK.1 h.blk).1
theorem PS.left (h:PS w base bb s vc vr vb vo d ys K):base<=bb:=(h.tk bb (by rw[h.tb];omega)).1
theorem PS.cell (h:PS w base bb s vc vr vb vo d ys K)(j):w.cell? ⟨bb,j,none⟩=(psC s vc vr vb vo d)[j]?:=(blk_cells h.blk).1 j
theorem PS.thaw (h:PS w base bb s vc vr vb vo d ys K)(j):w.frozen? ⟨bb,j,none⟩=false:=(blk_cells h.blk).2 j
end
def LB (w:World)(b:Nat):Prop:=∃xs e,w.heap[b]? =some (.cells xs e)
theorem lies_LB (w):Lies w (LB w):=λ_ h=>h
theorem LB_CB {w}{b}(h:LB w b):CB w b:=let ⟨xs,e,h⟩:=h;⟨xs,e,_,h⟩
theorem dV {w}{base ty c}{v}{n}{vs}(h:w.ownsRow base ty c v n vs):∃ao cap,v=.slice ao n cap/\n<=cap/\cap<=maxLen/\(0<n->∃g,ao=some ⟨g,0,none⟩/\g<w.heap.size/\base<=g/\fG w g 0 vs)/\∀x,ao=some x->LB w x.block:=by
 rcases h.2 with⟨rfl,i⟩|⟨g,cap,cur,rfl,f,b,e,hc,hs,d⟩
 .rw[i];exact⟨none,0,rfl,ZL _,by unfold maxLen;omega,λh=>absurd h (Nat.lt_irrefl _),λx hx=>by cases hx⟩
 .refine⟨_,cap,rfl,e,hc,λ_=>⟨g,rfl,(ZK.1 b).1,f,λj u a=>?_⟩,λx hx=>by cases hx;exact⟨_,_,b⟩⟩
  rw[Z8,(blk b).1 j];rw[<-d,Z5]at a;split at a
  .simpa using a
  .cases a
theorem lC {w}{base ty b}{v}{n}{vs}{cells}(h:w.ownsRow base ty b v n vs)(a:n<=1000000)(hc:∀g,fG w g 0 vs->cells g 0 w):bZ w (LB w) v n cells:=by
 obtain⟨ao,cap,rfl,i,j,f,d⟩:=dV h;exact⟨ao,cap,rfl,i,a,λa=>let ⟨g,e,_,_,c⟩:=f a;⟨g,0,e,hc g c⟩,λx hx=>.inl (d x hx)⟩
section
variable {w w':World}{base bb:Nat}{s:BS}{vc vr vb vo:Value}{d:Nat->Value}{ys:List Value}{K:Nat->Nat}
theorem cpuL_at {w}{m}{g}(h:fG w g 0 (oq m)){i}(b:i<m.n):w.cell? ⟨g,0+i*3,none⟩=some (.int .i64 (m.S i))/\w.cell? ⟨g,0+i*3+1,none⟩=some (.int .i64 (m.N i))/\w.cell? ⟨g,0+i*3+2,none⟩=some (.int .i64 (m.C i)):=by
 have key:∀j,j<m.n*3->w.cell? ⟨g,0+j,none⟩=some (bW m.S m.N m.C j):=λj a=>h j _ (by simp[oq,a])
 refine⟨?_,?_,?_⟩
 .rw[key (i*3) (by omega)];unfold bW;rw[if_pos (by omega),show i*3/3=i by omega]
 .rw[Nat.add_assoc,key (i*3+1) (by omega)];unfold bW;rw[if_neg (by omega),if_pos (by omega),show(i*3+1)/3=i by omega]
 .rw[Nat.add_assoc,key (i*3+2) (by omega)];unfold bW;rw[if_neg (by omega),if_neg (by omega),show(i*3+2)/3=i by omega]
theorem dvL_at {w}{s}{k g}(h:fG w g 0 (dvL s k)){i}(b:i<s.dn k):w.cell? ⟨g,0+2*i,none⟩=some (.int .i64 (s.dN k i))/\w.cell? ⟨g,0+2*i+1,none⟩=some (.bool (s.dH k i)):=by
 have key:∀j,j<s.dn k*2->w.cell? ⟨g,0+j,none⟩=some (iB s k j):=λj a=>h j _ (by simp[dvL,a])
 refine⟨?_,?_⟩
 .rw[key (2*i) (by omega)];unfold iB;rw[if_pos (by omega),show 2*i/2=i by omega]
 .rw[Nat.add_assoc,key (2*i+1) (by omega)];unfold iB;rw[if_neg (by omega),show(2*i+1)/2=i by omega]
theorem box_at {w}{l}{g}(h:fG w g 0 (aR l)){i}(b:i<l.length):w.cell? ⟨g,0+5*i,none⟩=some (.string l[i].nm)/\∀q,q<4->w.cell? ⟨g,0+5*i+1+q,none⟩=some (l[i].sl q):=by
 have key:∀j,j<5->∀u,l[i].cells[j]? =some u->w.cell? ⟨g,0+(i*5+j),none⟩=some u:=λj a u hu=>h _ u (by rw[DD b a];exact hu)
 refine⟨?_,λq c=>?_⟩
 .have:=key 0 (by omega) _ rfl
  rw[show 0+5*i=0+(i*5+0) by omega];exact this
 .rw[show 0+5*i+1+q=0+(i*5+(q+1)) by omega]
  obtain rfl|rfl|rfl|rfl:q=0\/q=1\/q=2\/q=3:=by omega
  .exact key 1 (by omega) _ rfl
  .exact key 2 (by omega) _ rfl
  .exact key 3 (by omega) _ rfl
  .exact key 4 (by omega) _ rfl
theorem intV_at {w}{l}{g}(h:fG w g 0 (aT l)){j}(a:j<l.length):w.cell? ⟨g,0+j,none⟩=some (.int .i64 ((l[j]?.getD 0:Nat):Int)):=h j _ (by simp[aT,a])
theorem PS.boxRow (h:PS w base bb s vc vr vb vo d ys K){i q}(a:i<s.bs.length)(b:q<4):bZ w (LB w) (s.bs[i].sl q) (s.D.oN i q) (ownC s.D i q):=by
 have hx:=(h.rows _ (List.getElem_mem a) q b).1;have f:=((h.ok.small _ (List.getElem_mem a)).2 q b).1;have e:s.D.oN i q=(s.bs[i].T q).length:=by show(ownT s.bs i q).length=_;rw[ownT_at a]
 rw[e];refine lC hx (by omega) λg k j c=>?_
 rw[e]at c;show _=some (Value.int .i64 (((ownT s.bs i q)[j]?.getD 0:Nat):Int))
 rw[ownT_at a];exact intV_at k c
theorem PS.boxM (h:PS w base bb s vc vr vb vo d ys K):bZ w (LB w) vb s.D.bn (boxM s.D (LB w) (mU s.bs)):=by
 refine lC h.boxes (by have:=h.ok.many;show s.bs.length<=_;omega) λg c=>⟨λi a=>?_,λi a=>?_⟩
 .obtain⟨f,e⟩:=box_at c a
  exact⟨⟨_,f⟩,λq b=>⟨_,e q b,h.boxRow a b⟩⟩
 .rw[M4 a]
  exact(box_at c a).1
theorem PS.berthZ (h:PS w base bb s vc vr vb vo d ys K):bM w (LB w) bb s.D:=by
 have few:=h.ok.d.few;have a:=h.ok.d.res;refine⟨⟨vc,h.cell 0,lC h.dA (by show s.m.n<=_;have:s.m.n<=24:=few;omega) λg c i b=>?_⟩,⟨vr,h.cell 1,lC h.res (by show s.m.r<=_;have:s.m.r<=24:=a;omega) λg c i b=>c i _ (by show(resL s.m)[i]? =_;have:i<s.m.r:=b;simp[resL,this];rfl)⟩,⟨_,h.cell 2⟩,λk e=>⟨d k,?_,lC (h.dC k e) (by have:=(h.ok.d.dC k e).1;show s.dn k<=_;have:s.dn k<=16:=this;omega) λg c i b=>dvL_at c b⟩,⟨vb,h.cell 6,h.boxM.mono (λ_ h=>h) λ_ _ f=>f.1⟩⟩
 .have:=(cpuL_at c b).2.1
  rw[Nat.mul_comm 3 i];exact this
 .rw[h.cell]
  obtain rfl|rfl|rfl:k=0\/k=1\/k=2:=by omega
  all_goals rfl
theorem PS.berthF (h:PS w base bb s vc vr vb vo d ys K):kZ w (λ_=>True) bb s.D s.m.S s.m.C s.m.p:=by
 refine⟨h.berthZ.same (λ_ _=>trivial) λ_ _ h=>h,⟨vc,h.cell 0,?_⟩,h.cell 2⟩;obtain⟨ao,cap,rfl,f,_,e,_⟩:=dV h.dA;refine⟨ao,cap,rfl,f,h.ok.d.few,λa=>?_⟩;obtain⟨g,rfl,_,_,c⟩:=e a;exact⟨g,0,rfl,λi b=>cpuL_at c b⟩
end
theorem boxes_text {w}{base base2}{v}{l}(h:w.ownsRow base 98 5 v l.length (aR l))(d:NZ v)(z:∀x∈l,x.lies base2 w)(hs:∀x∈l,x.small)(hl:l.length<=13):je w (CB w) v l.length 10000:=by
 obtain⟨ao,cap,rfl,J,O,I,H⟩:=dV h;refine⟨ao,cap,rfl,J,by omega,by omega,λf=>?_,λx hx=>⟨LB_CB (H x hx),λp=>by subst hx;subst p;exact d⟩⟩;obtain⟨g,e,_,_,B⟩:=I f;refine⟨g,0,e,λi m=>?_⟩;obtain⟨b1,b2⟩:=box_at B m;have hx:=z _ (List.getElem_mem m);have a:=hs _ (List.getElem_mem m);refine⟨l[i].nm,l[i].A,λq=>(l[i].T q).length,l[i].C,λq j=>(((l[i].T q)[j]?.getD 0:Nat):Int),by rw[Nat.mul_comm i 5];exact b1,λq b=>by rw[Nat.mul_comm i 5];exact b2 q b,λq b=>?_,λq b j k=>?_,?_⟩
 .have o:=hx q b
  unfold fH.sl at o;obtain⟨K,t,r,k1,L,y,u⟩:=dV o.1;cases r;refine⟨_,_,rfl,k1,by have:=(a.2 q b).1;show(l[i].T q).length<=_;omega,λf=>?_,λx hx=>⟨LB_CB (u x hx),λp=>?_⟩⟩
  .obtain⟨g',r,_,_,n⟩:=y f
   exact⟨g',0,r,λj k=>intV_at n k⟩
  .have s:=o.2
   rw[hx,p]at s;exact s
 .have c:j< (l[i].T q).length:=k
  have N:=(a.2 q b).2 _ (List.getElem_mem c);show _<=(((l[i].T q)[j]?.getD 0:Nat):Int)/\(((l[i].T q)[j]?.getD 0:Nat):Int)<_
  rw[ZT c];simp only[Option.getD_some];omega
 .have M:=a.1
  have G:=(a.2 0 (by omega)).1;have F:=(a.2 1 (by omega)).1;have E:=(a.2 2 (by omega)).1;have D:=(a.2 3 (by omega)).1;show 22*((l[i].T 0).length+(l[i].T 1).length+(l[i].T 2).length+(l[i].T 3).length)+10*l[i].nm.size<=10000
  omega
attribute [local go_sem ↓] Go.wp_at_zero Go.wp_at_succ
attribute [local go_sem] After.cell After.frozen After.const
theorem info_op:((patch ae prog).info? 156).map (λi=>(i.zero,i.size,i.bytes))=some (some (.agg #[.int .i64 0,.string ⟨#[]⟩,.string ⟨#[]⟩,.string ⟨#[]⟩]),4,56):=by kernel_rfl
theorem und_ops:(patch ae prog).underlying 66=some (.slice 156):=by kernel_rfl
section
variable {P:Program}(w:World)
theorem append_keeps (t ty)(base)(e)(i)(z)(size bytes)(y:P.underlying t=some (.slice e))(B:P.info? e=some i)(x:i.zero=some z)
 (d:i.size=size)(q:i.bytes=bytes)(o:z.cells.size=size)(p:0<size)
 (v)(n)(xs)(k:w.ownsRow base e size v n xs)
 (ad)(m c)(news)(hl:news.length=m*size)(f:∀j u,news[j]? =some u->w.cell? (ad.add j)=some u)(E:∀u∈news,u.oneCell'=true)
 (hm:0<m)(s:n+m<=maxLen)(a:(n+m)*bytes<=140737488355328)(h:base<=w.heap.size):
 ∃v' w',(Builtin.append_ #[t,t] ty #[v,.slice (some ad) m c]).run P w=.ok v' w'/\w'.ownsRow base e size v' (n+m) (xs++news)/\w.grownBy w' v.ownBlock/\∀b,v'.ownBlock=some b->v.ownBlock=some b\/w.heap.size<=b:=by
 obtain⟨g,cap,w',A,D,C,l,F⟩:=run_append_lies (P:=P) w t ty base e i z size bytes y B x d q o p v n xs k ad m c news hl f E hm s a h w.heap.size rfl;refine⟨_,w',A,D,C,λb hb=>?_⟩;have r:g=b:=Option.some.inj hb;subst r;rcases l with l|l
 .exact .inl l
 .exact .inr (by omega)
end
theorem ib {P}{ops}{o}{a}{w}{K}{Q}{E}
 (r:o.guard=none)(s x)(t)(g:o.op=Op.call {callee:=Callee.builtin Builtin.append,args:= #[s,x],argTypes:= #[t,t]})
 (base)(e)(i)(z)(size bytes)(H:P.underlying t=some (.slice e))(G:P.info? e=some i)(F:i.zero=some z)(D:i.size=size)(C:i.bytes=bytes)(B:z.cells.size=size)(A:0<size)
 (v)(k)(xs)(hs:a.eval s=v)(f:w.ownsRow base e size v k xs)(ad)(m c)(news)(hx:a.eval x=.slice (some ad) m c)(q:news.length=m*size)
 (hc:∀j u,news[j]? =some u->w.cell? (ad.add j)=some u)(h:∀u∈news,u.oneCell'=true)(hm:0<m)(b1:k+m<=maxLen)(b2:(k+m)*bytes<=140737488355328)(I:base<=w.heap.size)
 (y:∀v' w',w'.ownsRow base e size v' (k+m) (xs++news)->w.grownBy w' v.ownBlock->(∀b,v'.ownBlock=some b->v.ownBlock=some b\/w.heap.size<=b)->K (a.put o.dst v') w'):
 if Region.wanted o (yielded ops a.tmps)=true then Oper.wp P o a w K Q else E:=by
 have hw:Region.wanted o (yielded ops a.tmps)=true:=by simp[Region.wanted,r]
 rw[if_pos hw];obtain⟨v',w',d,p,n,l⟩:=append_keeps (P:=P) w t o.type base e i z size bytes H G F D C B A v k xs f ad m c news q hc h hm b1 b2 I;unfold Oper.wp;simp[execOp,g,resolve,invoke,builtin,hs,hx,d,Result.andThen];exact y v' w' p n l
structure bY (bb base:Nat)(c0 c1 c2 c3 c4 c5 c6 vo:Value)(w:World)(no:Nat)(fl:Bool)(ah:Int)(vo':Value)(ys':List Value)(w':World):Prop where
 blk:w'.heap[bb]? =some (.cells #[c0,c1,c2,c3,c4,c5,c6,vo',.bool fl,.int .i64 ah] 95 (0,0))
 own:w'.ownsRow base 156 4 vo' no ys'
 at_:∀b,vo'.ownBlock=some b->vo.ownBlock=some b\/w.heap.size<=b
 os:w'.os=w.os
 tape:w'.tape=w.tape
 output:w'.output=w.output
 size:w.heap.size<=w'.heap.size
 block:∀b,b<w.heap.size->b≠bb->vo.ownBlock≠some b->w'.heap[b]? =w.heap[b]?
theorem bY.trans {bb base}{c0 j c2 c3 c4 c5 i vo f d}{g c}{w w1 w2}{o l}{f1 f2}{p a2}
 (h:bY bb base c0 j c2 c3 c4 c5 i vo w o f1 p f g w1)(k:bY bb base c0 j c2 c3 c4 c5 i f w1 l f2 a2 d c w2):bY bb base c0 j c2 c3 c4 c5 i vo w l f2 a2 d c w2:=by
 refine⟨k.blk,k.own,λb hb=>?_,k.os.trans h.os,k.tape.trans h.tape,k.output.trans h.output,ZP h.size k.size,λb hb a n=>?_⟩
 .rcases k.at_ b hb with a|a
  .exact h.at_ b a
  .exact .inr (ZP h.size a)
 .refine(k.block b (ZO hb h.size) a λe=>?_).trans (h.block b hb a n)
  rcases h.at_ b e with m|m
  .exact n m
  .omega
theorem bY.below {bb base}{c0 f c2 c3 c4 c5 e vo c}{a}{w w1 w2}{d}{f1}{g}
 (h:bY bb base c0 f c2 c3 c4 c5 e vo w d f1 g c a w1)(k:Below w1.heap.size w1 w2):bY bb base c0 f c2 c3 c4 c5 e vo w d f1 g c a w2:=by
 refine⟨(k.block bb (ZK.1 h.blk).1).trans h.blk,au h.own k,h.at_,k.os.trans h.os,k.tape.trans h.tape,k.output.trans h.output,ZP h.size k.size,λb hb j i=>(k.block b (ZO hb h.size)).trans (h.block b hb j i)⟩
theorem bY.start {bb base}{c0 g c2 c3 c4 c5 f vo c}{a}{w w1 w2}{e}{f1}{i}
 (k:Below w.heap.size w w1)(h:bY bb base c0 g c2 c3 c4 c5 f vo w1 e f1 i c a w2):bY bb base c0 g c2 c3 c4 c5 f vo w e f1 i c a w2:=by
 refine⟨h.blk,h.own,λb hb=>(h.at_ b hb).imp id λd=>ZP k.size d,h.os.trans k.os,h.tape.trans k.tape,h.output.trans k.output,ZP k.size h.size,λb hb d j=>(h.block b (ZO hb k.size) d j).trans (k.block b hb)⟩
def byV (x:Value):Prop:=(∃s,x=.string s)\/x=.nilFunc
theorem do_off (bb base n)(c0 K c2 c3 c4 c5 J v x3)(k ah)(s1 s2)(xs)(w)(hb:w.heap[bb]? =some (.cells #[c0,K,c2,c3,c4,c5,J,v,.bool false,.int .i64 ah] 95 (0,0)))(l:v.ownBlock≠some bb)(S:base<=w.heap.size)(h:w.ownsRow base 156 4 v n xs)(hn:n<=2000000000)(r:byV x3):
 Calls (patch ae prog) 140 #[.pointer (some ⟨bb,7,none⟩),.agg #[.int .i64 k,.string s1,.string s2,x3]] w λe w'=>e=.returned .nilIface/\∃z y,bY bb base c0 K c2 c3 c4 c5 J v w (n+1) false ah z y w':=by
 obtain⟨i0,F,C,B,A⟩:=info_parts info_op;have D:=und_ops;have Q:=h.lt;obtain⟨q,vc,rfl⟩:=aj h;have G:=(ZK.1 hb).1;have M:x3.oneCell'=true:=by rcases r with⟨s,rfl⟩|rfl<;>rfl
 have o:=(aac w (.cells #[.int .i64 k,.string s1,.string s2,x3] 156) bb G).trans hb;have m:=(aac (w.alloc (.cells #[.int .i64 k,.string s1,.string s2,x3] 156)) (.cells #[.int .i64 k,.string s1,.string s2,x3] 156) bb (by simp;omega)).trans o
 have L:((w.alloc (.cells #[.int .i64 k,.string s1,.string s2,x3] 156)).alloc (.cells #[.int .i64 k,.string s1,.string s2,x3] 156)).heap[w.heap.size+1]? =some (.cells #[.int .i64 k,.string s1,.string s2,x3] 156 (0,0)):=by
  have:=aae (w.alloc (.cells #[.int .i64 k,.string s1,.string s2,x3] 156)) (.cells #[.int .i64 k,.string s1,.string s2,x3] 156);rw[aao]at this;exact this
 have W:Hid (∀j u,[Value.int .i64 k,.string s1,.string s2,x3][j]? =some u->((w.alloc (.cells #[.int .i64 k,.string s1,.string s2,x3] 156)).alloc (.cells #[.int .i64 k,.string s1,.string s2,x3] 156)).cell? ((⟨w.heap.size+1,0,none⟩:Addr).add j)=some u):=λj u R=>by
  rw[Addr.add_lit,Z8,(blk L).1 j];simpa using R
 have x:Hid (((w.alloc (.cells #[.int .i64 k,.string s1,.string s2,x3] 156)).alloc (.cells #[.int .i64 k,.string s1,.string s2,x3] 156)).ownsRow base 156 4 (.slice q n vc) n xs/\base<=((w.alloc (.cells #[.int .i64 k,.string s1,.string s2,x3] 156)).alloc (.cells #[.int .i64 k,.string s1,.string s2,x3] 156)).heap.size/\(∀u∈[Value.int .i64 k,.string s1,.string s2,x3],u.oneCell'=true)/\n+1<=maxLen/\(n+1)*56<=140737488355328):=
  ⟨(h.alloc _).alloc _,by simp;omega,by intro u hu;simp at hu;rcases hu with rfl|rfl|rfl|rfl<;>first|rfl|exact M,by unfold maxLen;omega,by omega⟩
 have X:Hid (∀w2:World,((w.alloc (.cells #[.int .i64 k,.string s1,.string s2,x3] 156)).alloc (.cells #[.int .i64 k,.string s1,.string s2,x3] 156)).grownBy w2 (Value.slice q n vc).ownBlock->w2.heap[bb]? =some (.cells #[c0,K,c2,c3,c4,c5,J,.slice q n vc,.bool false,.int .i64 ah] 95 (0,0))/\(w2.os=w.os/\w2.tape=w.tape/\w2.output=w.output/\w.heap.size<=w2.heap.size)/\∀b,b<w.heap.size->(Value.slice q n vc).ownBlock≠some b->w2.heap[b]? =w.heap[b]?):=λw2 p=>
  ⟨(p.block bb (by simp;omega) (λe=>l e.symm)).trans m,⟨p.os,p.tape,p.output,by have:=p.size;simp at this;omega⟩,λb I H=>(p.block b (by simp;omega) (λe=>H e.symm)).trans ((aac (w.alloc _) _ b (by simp;omega)).trans (aac w _ b I))⟩
 have V:=av l;obtain⟨q0,P⟩:=blk o;obtain⟨q1,O⟩:=blk m;clear hb o m L M l;rcases r with⟨Y,rfl⟩|rfl
 all_goals
  go_enter (pf func140 (by rfl)),ntmps140
  go_wp2_with fail
  go_region_law(refine ib rfl _ _ 66 rfl base 156 i0 _ 4 56 D F C B A rfl (by omega) (.slice q n vc) n xs rfl x.out.1 ⟨w.heap.size+1,0,none⟩ 1 1 [.int .i64 k,.string s1,.string s2,_] rfl rfl W.out x.out.2.2.1 (by omega) x.out.2.2.2.1 x.out.2.2.2.2 x.out.2.1 ?_;intro v' w2 c a t;obtain⟨g,f,rfl⟩:=aj c;have d:=av (aaa c (aaa (X.out w2 ⟨a.os,a.tape,a.output,a.size,a.block⟩) t));clear c a t;obtain⟨Z,N⟩:=blk d.out.2.1.1)
  all_goals
   go_wp2_with fail;go_ret
   have E:(Value.slice g (n+1) f).ownBlock≠some bb:=λe=>by
        rcases d.out.2.2 bb e with h|h
        .exact V.out h
        .simp at h;omega
   refine⟨rfl,.slice g (n+1) f,_,⟨?_,ownsRow_setCell_other d.out.1 E _,λb hb=>(d.out.2.2 b hb).imp id λh=>by simp at h;omega,d.out.2.1.2.1.1,d.out.2.1.2.1.2.1,d.out.2.1.2.1.2.2.1,by simpa using d.out.2.1.2.1.2.2.2,λb hb U T=>(aad _ _ _ _ U).trans (d.out.2.1.2.2 b hb T)⟩⟩;have:=aD (i:=7) (.slice g (n+1) f) d.out.2.1.1;simpa only[ZN,ZS,ZR] using this
theorem do_on (bb base n)(c0 A c2 c3 c4 c5 z v x3)(k ah)(s1 s2)(xs)(w)(hb:w.heap[bb]? =some (.cells #[c0,A,c2,c3,c4,c5,z,v,.bool true,.int .i64 ah] 95 (0,0)))(Y:1<=ah/\ah<=9223372036854775807)(f:v.ownBlock≠some bb)(X:base<=w.heap.size)(h:w.ownsRow base 156 4 v n xs)(hn:n<=2000000000)(t:byV x3):
 Calls (patch ae prog) 140 #[.pointer (some ⟨bb,7,none⟩),.agg #[.int .i64 k,.string s1,.string s2,x3]] w λe w'=>e=.returned .nilIface/\∃C B,bY bb base c0 A c2 c3 c4 c5 z v w (n+1) true (ah-1) C B w':=by
 obtain⟨i0,I,F,E,D⟩:=info_parts info_op;have G:=und_ops;have V:=h.lt;obtain⟨q,vc,rfl⟩:=aj h;have J:=(ZK.1 hb).1;have O:x3.oneCell'=true:=by rcases t with⟨s,rfl⟩|rfl<;>rfl
 have p:=hb
 have m:(((w.setCell ⟨bb,9,none⟩ (.int .i64 (ah-1))).alloc (.cells #[.int .i64 k,.string s1,.string s2,x3] 156))).heap[bb]? =some (.cells #[c0,A,c2,c3,c4,c5,z,.slice q n vc,.bool true,.int .i64 (ah-1)] 95 (0,0)):=by
  have:=(aac (w.setCell ⟨bb,9,none⟩ (.int .i64 (ah-1))) (.cells #[.int .i64 k,.string s1,.string s2,x3] 156) bb (by simpa using J)).trans (aD (i:=9) (.int .i64 (ah-1)) p);simpa only[ZN,ZS,ZR] using this
 have o:=(aac ((w.setCell ⟨bb,9,none⟩ (.int .i64 (ah-1))).alloc (.cells #[.int .i64 k,.string s1,.string s2,x3] 156)) (.cells #[.int .i64 k,.string s1,.string s2,x3] 156) bb (by simp;omega)).trans m
 have N:((((w.setCell ⟨bb,9,none⟩ (.int .i64 (ah-1))).alloc (.cells #[.int .i64 k,.string s1,.string s2,x3] 156))).alloc (.cells #[.int .i64 k,.string s1,.string s2,x3] 156)).heap[w.heap.size+1]? =some (.cells #[.int .i64 k,.string s1,.string s2,x3] 156 (0,0)):=by
  have:=aae ((w.setCell ⟨bb,9,none⟩ (.int .i64 (ah-1))).alloc (.cells #[.int .i64 k,.string s1,.string s2,x3] 156)) (.cells #[.int .i64 k,.string s1,.string s2,x3] 156);simpa using this
 have HC:Hid (∀j u,[Value.int .i64 k,.string s1,.string s2,x3][j]? =some u->((((w.setCell ⟨bb,9,none⟩ (.int .i64 (ah-1))).alloc (.cells #[.int .i64 k,.string s1,.string s2,x3] 156))).alloc (.cells #[.int .i64 k,.string s1,.string s2,x3] 156)).cell? ((⟨w.heap.size+1,0,none⟩:Addr).add j)=some u):=λj u W=>by
  rw[Addr.add_lit,Z8,(blk N).1 j];simpa using W
 have y:Hid (((((w.setCell ⟨bb,9,none⟩ (.int .i64 (ah-1))).alloc (.cells #[.int .i64 k,.string s1,.string s2,x3] 156))).alloc (.cells #[.int .i64 k,.string s1,.string s2,x3] 156)).ownsRow base 156 4 (.slice q n vc) n xs/\base<=((((w.setCell ⟨bb,9,none⟩ (.int .i64 (ah-1))).alloc (.cells #[.int .i64 k,.string s1,.string s2,x3] 156))).alloc (.cells #[.int .i64 k,.string s1,.string s2,x3] 156)).heap.size/\(∀u∈[Value.int .i64 k,.string s1,.string s2,x3],u.oneCell'=true)/\n+1<=maxLen/\(n+1)*56<=140737488355328):=
  ⟨((ownsRow_setCell_other h f _).alloc _).alloc _,by simp;omega,by intro u hu;simp at hu;rcases hu with rfl|rfl|rfl|rfl<;>first|rfl|exact O,by unfold maxLen;omega,by omega⟩
 have HB:Hid (∀w2:World,((((w.setCell ⟨bb,9,none⟩ (.int .i64 (ah-1))).alloc (.cells #[.int .i64 k,.string s1,.string s2,x3] 156))).alloc (.cells #[.int .i64 k,.string s1,.string s2,x3] 156)).grownBy w2 (Value.slice q n vc).ownBlock->w2.heap[bb]? =some (.cells #[c0,A,c2,c3,c4,c5,z,.slice q n vc,.bool true,.int .i64 (ah-1)] 95 (0,0))/\(w2.os=w.os/\w2.tape=w.tape/\w2.output=w.output/\w.heap.size<=w2.heap.size)/\∀b,b<w.heap.size->b≠bb->(Value.slice q n vc).ownBlock≠some b->w2.heap[b]? =w.heap[b]?):=λw2 r=>
  ⟨(r.block bb (by simp;omega) (λe=>f e.symm)).trans o,⟨r.os,r.tape,r.output,by have:=r.size;simp at this;omega⟩,λb M K L=>(r.block b (by simp;omega) (λe=>L e.symm)).trans ((aac ((w.setCell ⟨bb,9,none⟩ (.int .i64 (ah-1))).alloc (.cells #[.int .i64 k,.string s1,.string s2,x3] 156)) _ b (by simp;omega)).trans ((aac _ _ b (by simpa using M)).trans (aad _ _ _ _ K)))⟩
 have HN:=av f;have U:IntKind.i64.wrap (ah-1)=ah-1:=by rw[IntKind.wrap_i64];omega
 have Z:¬(ah=0):=by omega
 obtain⟨q0,T⟩:=blk p;obtain⟨qS,Q⟩:=blk m;obtain⟨q1,S⟩:=blk o;clear hb p o m N O f;rcases t with⟨s3,rfl⟩|rfl
 all_goals
  go_enter (pf func140 (by rfl)),ntmps140
  go_wp2_with fail
  go_region_law(refine ib rfl _ _ 66 rfl base 156 i0 _ 4 56 G I F E D rfl (by omega) (.slice q n vc) n xs rfl y.out.1 ⟨w.heap.size+1,0,none⟩ 1 1 [.int .i64 k,.string s1,.string s2,_] rfl rfl HC.out y.out.2.2.1 (by omega) y.out.2.2.2.1 y.out.2.2.2.2 y.out.2.1 ?_;intro v' w2 c a x;obtain⟨l,g,rfl⟩:=aj c;have d:=av (aaa c (aaa (HB.out w2 ⟨a.os,a.tape,a.output,a.size,a.block⟩) x));clear c a x;obtain⟨q2,R⟩:=blk d.out.2.1.1)
  all_goals
   go_wp2_with fail;go_ret
   have H:(Value.slice l (n+1) g).ownBlock≠some bb:=λe=>by
        rcases d.out.2.2 bb e with h|h
        .exact HN.out h
        .simp at h;omega
   refine⟨rfl,.slice l (n+1) g,_,⟨?_,ownsRow_setCell_other d.out.1 H _,λb hb=>(d.out.2.2 b hb).imp id λh=>by simp at h;omega,d.out.2.1.2.1.1,d.out.2.1.2.1.2.1,d.out.2.1.2.1.2.2.1,by simpa using d.out.2.1.2.1.2.2.2,λb hb P h2=>(aad _ _ _ _ P).trans (d.out.2.1.2.2 b hb P h2)⟩⟩;have:=aD (i:=7) (.slice l (n+1) g) d.out.2.1.1;simpa only[ZN,ZS,ZR] using this
theorem do_hit (bb base n)(c0 u c2 c3 c4 c5 t v x3 g)(f)(k)(s1 s2)(xs)(w)(hb:w.heap[bb]? =some (.cells #[c0,u,c2,c3,c4,c5,t,v,.bool true,.int .i64 0] 95 (0,0)))(d:v.ownBlock≠some bb)(h:w.ownsRow base 156 4 v n xs)(m:byV x3)
 (y:w.cell? ⟨0,0,none⟩=some (.iface f g))(r:0≠bb):
 Calls (patch ae prog) 140 #[.pointer (some ⟨bb,7,none⟩),.agg #[.int .i64 k,.string s1,.string s2,x3]] w λe w'=>e=.returned (.iface f g)/\∃l j,bY bb base c0 u c2 c3 c4 c5 t v w n false 0 l j w':=by
 have o:=h.lt;obtain⟨x,vc,rfl⟩:=aj h;have p:=(ZK.1 hb).1;have c:=hb;have q:(0:Nat)<w.heap.size:=aan y;have s:(w.setCell ⟨bb,8,none⟩ (.bool false)).cell? ⟨0,0,none⟩=some (.iface f g):=(World.cell?_of_block (a:=⟨0,0,none⟩) (aad _ _ _ _ r)).trans y;have A:((w.setCell ⟨bb,8,none⟩ (.bool false)).alloc (.cells #[.int .i64 k,.string s1,.string s2,x3] 156)).cell? ⟨0,0,none⟩=some (.iface f g):=(World.cell?_of_block (a:=⟨0,0,none⟩) (aac _ _ _ (by simpa using q))).trans s
 have C:Hid (bY bb base c0 u c2 c3 c4 c5 t (.slice x n vc) w n false 0 (.slice x n vc) xs ((w.setCell ⟨bb,8,none⟩ (.bool false)).alloc (.cells #[.int .i64 k,.string s1,.string s2,x3] 156))):=by
  refine⟨?_,(ownsRow_setCell_other h d _).alloc _,λb hb=>.inl hb,rfl,rfl,rfl,by simp,λb hb B F=>(aac _ _ b (by simpa using hb)).trans (aad _ _ _ _ B)⟩;have:=(aac (w.setCell ⟨bb,8,none⟩ (.bool false)) (.cells #[.int .i64 k,.string s1,.string s2,x3] 156) bb (by simpa using p)).trans (aD (i:=8) (.bool false) c);simpa only[ZN,ZS,ZR] using this
 obtain⟨E,z⟩:=blk c;clear hb c d h o;rcases m with⟨D,rfl⟩|rfl
 all_goals
  go_enter (pf func140 (by rfl)),ntmps140
  go_wp2_with fail;go_ret;exact⟨rfl,_,_,C.out⟩
open Go.RowKit Go.Extern.Stop Go.Stop Go.Extern
theorem lJ (v)(w):(Extern.ReflectliteType.typeOf #[.iface 345 v]).run (patch ae prog) w=.ok (.iface 244 (.agg #[.pointer (some ⟨14,345,none⟩)])) w:=by kernel_rfl
def compX:Array Value->Sem Value:=Extern.ReflectliteType.method λt=>do Extern.Rtype.noPackHeld "Comparable" t;pure (.bool (<-typeInfo t).comparable)
theorem jr (w):(compX #[.agg #[.pointer (some ⟨14,345,none⟩)]]).run (patch ae prog) w=.ok (.bool true) w:=by kernel_rfl
theorem isMethodComparable (v)(w):(Go.method 476 244 v "Comparable").run (patch ae prog) w=.ok (309,v) w:=by kernel_rfl
theorem isComp:((patch ae prog).info? 345).map (·.comparable)=some true:=by kernel_rfl
theorem isSize:((patch ae prog).info? 347).map (·.size)=some 1:=by kernel_rfl
theorem noIsE (v)(a)(w):(Instr.typeAssert (.iface 345 v) a 246 true).run (patch ae prog) w=.ok (.tuple #[.nilIface,.bool false]) w:=run_typeAssert_lacksB ((ax ae prog 246).trans underlying246) (by kernel_rfl) (by kernel_rfl) v a w
theorem noIsW (v)(a)(w):(Instr.typeAssert (.iface 195 v) a 246 true).run (patch ae prog) w=.ok (.tuple #[.nilIface,.bool false]) w:=run_typeAssert_lacksB ((ax ae prog 246).trans underlying246) (by kernel_rfl) (by kernel_rfl) v a w
theorem hasUnwrapW (v)(a)(w):(Instr.typeAssert (.iface 195 v) a 249 true).run (patch ae prog) w=.ok (.tuple #[.iface 195 v,.bool true]) w:=run_typeAssert_hasB ((ax ae prog 249).trans underlying249) (by kernel_rfl) v a w
theorem methodUnwrap (v)(w):(Go.method 476 195 v "Unwrap").run (patch ae prog) w=.ok (304,v) w:=by kernel_rfl
theorem eql_nil_ifaceP (te)(a)(w):(binOp .eql 148 .nilIface (.iface te a)).run (patch ae prog) w=.ok (.bool false) w:=by
 first
  |rfl
  |kernel_rfl
  |(unfold binOp;rfl)
theorem jT (te)(a)(w):(binOp .eql 148 (.iface te a) .nilIface).run (patch ae prog) w=.ok (.bool false) w:=by
 first
  |rfl
  |kernel_rfl
  |(unfold binOp;rfl)
theorem isNilP_any (te)(a)(w):Calls (patch ae prog) 89 #[.nilIface,.iface te a] w λe w'=>e=.returned (.bool false)/\w'=w:=by
 have heq:=eql_nil_ifaceP te a
 go_enter (pf func89 (by rfl)),ntmps89
 go_wp2_with fail;go_ret;exact⟨rfl,rfl⟩
theorem unwrapF_any (a)(x)(w)(b:w.cell? ⟨a,1,none⟩=some x):Calls (patch ae prog) 304 #[.pointer (some ⟨a,0,none⟩)] w λe w'=>e=.returned x/\w'=w:=by
 go_enter (pf func304 (by rfl)),ntmps304
 go_wp2_with(first|(go_at_call 102;go_enter (pf func102 (by rfl)),ntmps102)|(go_at_call 65;go_enter (pf func65 (by rfl)),ntmps65));go_ret;exact⟨rfl,rfl⟩
theorem isWrapped1_any (c)(a)(w)(m:w.cell? ⟨c,1,none⟩=some (.iface 345 (.pointer (some a)))):
 Calls (patch ae prog) 146 #[.iface 195 (.pointer (some ⟨c,0,none⟩)),.iface 345 (.pointer (some a)),.bool true] w λe w'=>e=.returned (.bool true)/\w'=w:=by
 obtain⟨i,k,b⟩:=Option.map_eq_some_iff.1 isComp;obtain⟨j,h,g⟩:=Option.map_eq_some_iff.1 isSize;have o:=noIsE;have nW:=noIsW;have n:=hasUnwrapW;have p:=methodUnwrap;have heq:=run_eql_iface_ptr_same (P:=(patch ae prog)) w a ((ax ae prog 148).trans underlying148) ((ax ae prog 345).trans underlying345) k b h;have d:=run_eql_iface_types (P:=(patch ae prog)) 195 345 (.pointer (some ⟨c,0,none⟩)) (.pointer (some a)) ((ax ae prog 148).trans underlying148) (by decide) w;have f:=jT 345 (.pointer (some a)) w;have l:∀x u,Sem.run (patch ae prog) (callFunc 304 x) u=.ok (.enter 304 x) u:=λx u=>enters (pf func304 (by rfl)) rfl rfl x u
 go_enter (pf func146 (by rfl)),ntmps146
 go_wp2_with fail;refine wp_loop_rounds 2 ?_;rw[aal];go_wp2_with(go_at_call 304;refine(unwrapF_any c _ w m).mono ?_;rintro e w1 ⟨rfl,hw⟩;obtain rfl:=hw.symm);rw[aal];go_wp2_with fail;go_ret;exact⟨rfl,rfl⟩
theorem isWrapped_any (b)(a)(w)(c:w.cell? ⟨b,1,none⟩=some (.iface 345 (.pointer (some a)))):
 Calls (patch ae prog) 89 #[.iface 195 (.pointer (some ⟨b,0,none⟩)),.iface 345 (.pointer (some a))] w λe w'=>e=.returned (.bool true)/\w'=w:=by
 have k:= @run_callFunc_extern (patch ae prog) 145 _ Extern.ReflectliteType.typeOf (pf func145 (by rfl)) (by kernel_rfl) (by kernel_rfl) (by kernel_rfl) (by kernel_rfl);have g:= @run_callFunc_extern (patch ae prog) 309 _ compX (pf func309 (by rfl)) (by kernel_rfl) (by kernel_rfl) (by kernel_rfl) (by kernel_rfl);have i:=lJ;have l:=jr;have j:=isMethodComparable;have f:=jT 195 (.pointer (some ⟨b,0,none⟩)) w;have d:=jT 345 (.pointer (some a)) w;have h:=av c;clear c
 go_enter (pf func89 (by rfl)),ntmps89
 go_wp2_with(go_at_call 146;refine(isWrapped1_any b a w h.out).mono ?_;rintro e w1 ⟨rfl,hw⟩;obtain rfl:=hw.symm);go_ret;exact⟨rfl,rfl⟩
end Z
