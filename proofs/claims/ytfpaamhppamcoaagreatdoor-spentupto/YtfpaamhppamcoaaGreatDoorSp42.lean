/- Part 42 of the proof. -/
import Derived.Test.YtfpaamhppamcoaaGreatDoorSp41
set_option linter.all false
set_option maxRecDepth 100000
set_option maxHeartbeats 60000000
namespace Go.Proofs.YtfpaamhppamcoaaGreatDoor
open Go.Proofs.Tryz
namespace Z
open Go.RowKit
attribute [local go_sem ↓] Go.wp_at_zero Go.wp_at_succ
attribute [local go_sem] After.cell After.frozen After.const
theorem jL (x)(w):Calls (patch ae prog) 64 #[.int .i64 x] w λe w'=>e=.returned (.bool (decide (0<=x/\x<3)))/\w'=w:=by
 by_cases b:0<=x
 .by_cases a:x<3
  .go_enter (pf func64 (by rfl)),ntmps64
   go_wp2_with fail;go_ret;exact⟨by simp[b,a],rfl⟩
  .go_enter (pf func64 (by rfl)),ntmps64
   go_wp2_with fail;go_ret;exact⟨by simp[b,a],rfl⟩
 .go_enter (pf func64 (by rfl)),ntmps64
  go_wp2_with fail;go_ret;exact⟨by simp;omega,rfl⟩
theorem own_write {w:World}{base ty a}{v}{n}{xs}(h:w.ownsRow base ty a v n xs){g j}(c:v.ownBlock=some g)(k:j<n*a)(u):(w.setCell ⟨g,j,none⟩ u).ownsRow base ty a v n (xs.set j u):=by
 refine⟨by rw[List.length_set];exact h.1,?_⟩;rcases h.2 with⟨rfl,_⟩|⟨g',cap,cur,rfl,f,b,e,hc,hs,d⟩
 .cases c
 .cases c
  refine .inr ⟨g',cap,cur.setIfInBounds j u,rfl,f,aD (i:=j) u b,e,hc,by simpa using hs,?_⟩;rw[Array.toList_setIfInBounds,List.take_set,d]
theorem healthB_kind (bb)(A B)(hy)(w)(hA:¬(0<=A/\A<3)):Calls (patch ae prog) 36 #[.pointer (some ⟨bb,0,none⟩),.int .i64 A,.int .i64 B,.bool hy] w λe w'=>e=.returned (.int .i64 2)/\w'=w:=by
 have a:=av hA;clear hA
 go_enter (pf func36 (by rfl)),ntmps36
 go_wp2_with(go_at_call 64;refine(jL _ _).mono ?_;rintro e w1 ⟨he,hw⟩;rw[decide_eq_false a.out]at he;obtain rfl:=he;obtain rfl:=hw.symm);go_ret;exact⟨rfl,rfl⟩
theorem healthB_dev (bb k n cap)(ao)(B)(hy)(w:World)(f:k<3)(g:w.cell? ⟨bb,3+k,none⟩=some (.slice ao n cap))(a:¬(0<=B/\B< (n:Int))):Calls (patch ae prog) 36 #[.pointer (some ⟨bb,0,none⟩),.int .i64 k,.int .i64 B,.bool hy] w λe w'=>e=.returned (.int .i64 3)/\w'=w:=by
 have h:=av a;have b:B<0\/¬B<0/\(n:Int)<=B:=by omega
 clear a;rcases b with a|⟨a,c⟩
 all_goals have d:Hid (0<=(k:Int)/\(k:Int)<3):=⟨by omega,by omega⟩
 all_goals(obtain rfl|rfl|rfl:k=0\/k=1\/k=2:=by omega)
 all_goals(
  go_enter (pf func36 (by rfl)),ntmps36
  go_wp2_with(go_at_call 64;refine(jL _ _).mono ?_;rintro e w1 ⟨he,hw⟩;obtain rfl:=he;obtain rfl:=hw.symm)
  all_goals(
   go_ret;exact⟨rfl,rfl⟩))
theorem healthB_hit (bb k i g n cap)(hy b0)(w:World)(f:k<3)(h:i<n)(hc:n<=cap)(j:w.cell? ⟨bb,3+k,none⟩=some (.slice (some ⟨g,0,none⟩) n cap))(b:w.cell? ⟨g,i*2+1,none⟩=some (.bool b0))(hf:w.frozen? ⟨g,i*2+1,none⟩=false):
 Calls (patch ae prog) 36 #[.pointer (some ⟨bb,0,none⟩),.int .i64 k,.int .i64 i,.bool hy] w λe w'=>e=.returned (.int .i64 0)/\w'=w.setCell ⟨g,i*2+1,none⟩ (.bool hy):=by
 have a:(i:Int)<n:=by omega
 have d:¬(i:Int)<0:=by omega
 have l:Hid (0<=(i:Int)/\(i:Int)<n):=⟨by omega,a⟩;have c:Hid (0<=(k:Int)/\(k:Int)<3):=⟨by omega,by omega⟩;obtain rfl|rfl|rfl:k=0\/k=1\/k=2:=by omega
 all_goals(
  go_enter (pf func36 (by rfl)),ntmps36
  go_wp2_with(go_at_call 64;refine(jL _ _).mono ?_;rintro e w1 ⟨he,hw⟩;obtain rfl:=he;obtain rfl:=hw.symm)
  all_goals(
   go_ret;exact⟨rfl,rfl⟩))
def jV (a:Nat->Int)(b:Nat->Bool)(j:Nat):Value:=if j%2=0 then .int .i64 (a (j/2))else .bool (b (j/2))
theorem dlCell_0 (a)(b)(i):jV a b (i*2)=.int .i64 (a i):=by unfold jV;rw[if_pos (by omega),show i*2/2=i by omega]
theorem dlCell_1 (b)(a)(i):jV b a (i*2+1)=.bool (a i):=by unfold jV;rw[if_neg (by omega),show(i*2+1)/2=i by omega]
theorem dlCell_nb (a)(b)(j):NB (jV a b j):=by
 unfold jV;split
 .exact .inl ⟨_,_,rfl⟩
 .exact .inr ⟨_,rfl⟩
def dlL (n:Nat)(a:Nat->Int)(b:Nat->Bool):List Value:=(List.range (n*2)).map (jV a b)
def DevAt (w:World)(b o n:Nat)(a:Nat->Int)(c:Nat->Bool):Prop:=∀i,i<n->w.cell? ⟨b,o+i*2,none⟩=some (.int .i64 (a i))/\w.cell? ⟨b,o+i*2+1,none⟩=some (.bool (c i))
theorem DevAt.flat {w}{b o n}{a}{c}(h:DevAt w b o n a c){j}(g:j<n*2):w.cell? ⟨b,o+j,none⟩=some (jV a c j):=by
 obtain⟨f,d⟩:=h (j/2) (by omega);rcases(show j=j/2*2\/j=j/2*2+1 by omega)with e|e
 .rw[e,dlCell_0];exact f
 .rw[e,dlCell_1];exact d
theorem DevAt.keep {w w'}{b o n}{d}{e}(h:DevAt w b o n d e)(hc:∀a v,w.cell? a=some v->w'.cell? a=some v):DevAt w' b o n d e:=λi c=>⟨hc _ _ (h i c).1,hc _ _ (h i c).2⟩
theorem dlL_get {n}{b}{c}{j}{u}(h:(dlL n b c)[j]? =some u):j<n*2/\u=jV b c j:=by
 have a:j<n*2:=by
  have:=(ZZ.1 h).1;simpa[dlL] using this
 refine⟨a,?_⟩;simp[dlL,a]at h;exact h.symm
theorem infoDev:((patch ae prog).info? 75).map (λi=>(i.zero,i.size,i.bytes))=some (some (.agg #[.int .i64 0,.bool false]),2,16):=by kernel_rfl
theorem ZF2:∀u∈(Value.agg #[.int .i64 0,.bool false]).cells.toList,NB u:=λu hu=>by
 simp[Value.cells]at hu;rcases hu with rfl|rfl
 .exact .inl ⟨_,_,rfl⟩
 .exact .inr ⟨_,rfl⟩
theorem cloneDev_any (b o n cap)(xs)(w)(t:n<=16)(hl:xs.length=n*2)(hx:∀j u,xs[j]? =some u->w.cell? ⟨b,o+j,none⟩=some u)(p:∀u∈xs,NB u):
 Calls (patch ae prog) 66 #[.slice (some ⟨b,o,none⟩) n cap] w λe w'=>∃v,e=.returned v/\w'.ownsRow w.heap.size 75 2 v n xs/\Flat w' v/\Below w.heap.size w w':=by
 have heq:=fun(W:World)=>Lib.run_eql_slice_nil (P:=(patch ae prog)) W 33 75 (some ⟨b,o,none⟩) n cap 0 0 ((ax ae prog 33).trans underlying33)
 obtain⟨i,r,l,h,g⟩:=info_parts infoDev;have hu:=((ax ae prog 33).trans underlying33);have d:∀j u,xs[j]? =some u->(w.alloc (.cells #[] 75)).cell? ((⟨b,o,none⟩:Addr).add j)=some u:=λj u m=>by rw[Addr.add_lit,World.cell?_alloc_past _ _ _ (aan (hx j u m))];exact hx j u m
 have s:Hid (∀j u,xs[j]? =some u->(w.alloc (.cells #[] 75)).cell? ((⟨b,o,none⟩:Addr).add j)=some u):=d;have H1:Hid (∀u∈xs,NB u):=p;clear hx d p
 go_enter (pf func66 (by rfl)),ntmps66
 go_wp2_with(at_builtin;go_loud(refine eX rfl _ _ _ rfl w.heap.size 75 i _ 2 16 hu r l h g (by rfl) (by omega) ZF2 w.heap.size (by rfl) (aae _ _) (ZL _) ⟨b,o,none⟩ n cap xs (by rfl) hl s.out H1.out (by unfold maxLen;omega) (by omega) ?_);intro v' w1 f a c);go_ret;exact⟨_,rfl,f,c,((aab _ _).alloc (ZL _) _).grown a (by simp) (λk q=>by cases q;exact ZL _)⟩
theorem isNode_any (x)(w):Calls (patch ae prog) 65 #[.int .i64 x] w λe w'=>e=.returned (.bool (decide (0<=x/\x<4)))/\w'=w:=by
 by_cases b:0<=x
 .by_cases a:x<4
  .go_enter (pf func65 (by rfl)),ntmps65
   go_wp2_with(first|(go_at_call 102;go_enter (pf func102 (by rfl)),ntmps102)|(go_at_call 65;go_enter (pf func65 (by rfl)),ntmps65));go_ret;exact⟨by simp[b,a],rfl⟩
  .go_enter (pf func65 (by rfl)),ntmps65
   go_wp2_with(first|(go_at_call 102;go_enter (pf func102 (by rfl)),ntmps102)|(go_at_call 65;go_enter (pf func65 (by rfl)),ntmps65));go_ret;exact⟨by simp[b,a],rfl⟩
 .go_enter (pf func65 (by rfl)),ntmps65
  go_wp2_with(first|(go_at_call 102;go_enter (pf func102 (by rfl)),ntmps102)|(go_at_call 65;go_enter (pf func65 (by rfl)),ntmps65));go_ret;exact⟨by simp;omega,rfl⟩
theorem regB_ok (m:Int)(bb k b o n cap:Nat)(h)(B)(cs)(T)(w)(Q:k<3)(D:m=k)(K:n<=16)(I:n<=cap)(hd:DevAt w b o n h B)(d:∀i,i<n->0<=h i/\h i<4)(f:w.heap[bb]? =some (.cells cs T (0,0)))(hcs:5<cs.size):
 Calls (patch ae prog) 35 #[.pointer (some ⟨bb,0,none⟩),.int .i64 m,.slice (some ⟨b,o,none⟩) n cap] w λe w'=>e=.returned (.int .i64 0)/\∃v A,Below w.heap.size w A/\A.ownsRow w.heap.size 75 2 v n (dlL n h B)/\Flat A v/\w'.heap=(A.setCell ⟨bb,3+k,none⟩ v).heap/\w'.os=w.os/\w'.tape=w.tape/\w'.output=w.output:=by
 have J:¬(16:Int)<n:=by omega
 have C:=av (aaa hd (aaa d f));have E:bb<w.heap.size:=(ZK.1 f).1;clear hd d f;have r:(k=0/\m=0)\/(k=1/\m=1)\/(k=2/\m=2):=by omega
 clear D;rcases r with⟨rfl,rfl⟩|⟨rfl,rfl⟩|⟨rfl,rfl⟩
 all_goals(
  go_enter (pf func35 (by rfl)),ntmps35
  go_wp2_with(go_at_call 64;refine(jL _ _).mono ?_;rintro e w1 ⟨he,hw⟩;obtain rfl:=he;obtain rfl:=hw.symm)
  go_loopw [17] (λi wr=>∃j:Nat,j<=n/\i=.int .i64 j/\Below w.heap.size w wr) (λi _=>n-(intOf i).toNat)
  case atStart=>exact⟨0,by omega,rfl,aab _ _⟩
  case round=>
   obtain⟨j,R,rfl,hb⟩:=hrel;have x:=av hb;have z:w.heap.size<=wr.heap.size:=hb.size
   by_cases p:j<n
   .obtain⟨c0,S⟩:=C.out.1.keep (λa v hc=>keeps hb hc) j p
    have jn:(j:Int)<n:=(by omega);clear hb;have M:=av (C.out.2.1 j p);go_wp2_with(go_at_call 65;refine(isNode_any _ _).mono ?_;rintro e w1 ⟨he,hw⟩;rw[decide_eq_true M.out]at he;obtain rfl:=he;obtain rfl:=hw.symm);go_roundw
    case rel=>exact⟨j+1,by omega,by go_num,x.out.alloc z _⟩
    case measure=>simp[intOf];omega
   .have:j=n:=by omega
    subst this;clear hb
    have hx:=av (show∀q u,(dlL j h B)[q]? =some u->wr.drew.cell? ⟨b,o+q,none⟩=some u from λq u H=>by
     obtain⟨L,rfl⟩:=dlL_get H;exact(C.out.1.keep (λa v hc=>keeps x.out hc)).flat L)
    go_wp2_with fail
    go_region_law(go_simp;go_at_call 66;refine(cloneDev_any b o j cap (dlL j h B) wr.drew K (by simp[dlL]) hx.out (λu hu=>by obtain⟨q,_,rfl⟩:=List.mem_map.1 hu;exact dlCell_nb _ _ _)).mono ?_;rintro e w1 ⟨v,rfl,c,s,g⟩;obtain⟨P,G,rfl⟩:=aj c;have kb:=(g.block bb (by show bb<wr.heap.size;omega)).trans ((x.out.block bb E).trans C.out.2.2);obtain⟨y,O⟩:=blk kb;have y3:=(y 3).trans (ZM (show 3<cs.size from Nat.lt_trans (by decide) hcs));have y4:=(y 4).trans (ZM (show 4<cs.size from Nat.lt_trans (by decide) hcs));have N:=(y 5).trans (ZM hcs);clear y;have F:=av (aaa c (aaa s g));clear c s g kb;dsimp only)
    all_goals(
     have z:=x.out.size;have t:Below w.heap.size w w1:=x.out.drew.trans (F.out.2.2.mono z);have l:=av (aaa t (aaa (aB F.out.1 z) F.out.2.1));clear t;go_wp2_with fail;go_ret;exact⟨rfl,_,w1,l.out.1,l.out.2.1,l.out.2.2,rfl,l.out.1.os,l.out.1.tape,l.out.1.output⟩))
def BS.fJ (s:BS)(k i:Nat)(h:Bool):BS:={s with dH:=λk' a=>if k'=k/\a=i then h else s.dH k' a}
def BS.reg (s:BS)(k n:Nat)(a:Nat->Int)(b:Nat->Bool):BS:={s with dn:=λk'=>if k'=k then n else s.dn k',dN:=λk'=>if k'=k then a else s.dN k',dH:=λk'=>if k'=k then b else s.dH k'}
theorem dvL_get {s}{k j}(h:j<s.dn k*2):(dvL s k)[j]? =some (iB s k j):=by simp[dvL,h]
theorem my (s)(k):(dvL s k).length=s.dn k*2:=by simp[dvL]
theorem dvL_set (s)(k i)(h):(dvL s k).set (i*2+1) (.bool h)=dvL (s.fJ k i h) k:=by
 refine List.ext_getElem? λj=>?_
 rw[List.getElem?_set]
 by_cases b:j<s.dn k*2
 .rw[dvL_get (s:=s.fJ k i h) (k:=k) b,my]
  by_cases he:i*2+1=j
  .rw[if_pos he,if_pos (by omega),<-he]
   unfold iB BS.fJ;simp only;rw[if_neg (by omega),if_pos ⟨trivial,by omega⟩]
  .rw[if_neg he,dvL_get b]
   unfold iB BS.fJ;simp only
   by_cases a:j%2=0
   .rw[if_pos a,if_pos a]
   .rw[if_neg a,if_neg a,if_neg (by omega)]
 .rw[List.getElem?_eq_none (l:=dvL (s.fJ k i h) k) (by rw[my];exact Nat.le_of_not_lt b)]
  by_cases he:i*2+1=j
  .rw[if_pos he,if_neg (by rw[my];omega)]
  .rw[if_neg he,List.getElem?_eq_none (by rw[my];omega)]
theorem dvL_other (s){k k' i}(h)(a:k'≠k):dvL (s.fJ k i h) k'=dvL s k':=by
 unfold dvL;refine List.map_congr_left λj _=>?_
 unfold iB BS.fJ;simp only;rw[if_neg (c:=k'=k/\j/2=i) (λh=>a h.1)]
theorem dlL_reg (s:BS)(k n)(a)(b):dvL (s.reg k n a b) k=dlL n a b:=by
 unfold dvL dlL;have e:(s.reg k n a b).dn k=n:=by unfold BS.reg;simp
 rw[e];refine List.map_congr_left λj _=>?_
 unfold iB jV BS.reg;simp
theorem dvL_reg (s){k k' n}{a}{b}(c:k'≠k):dvL (s.reg k n a b) k'=dvL s k'/\(s.reg k n a b).dn k'=s.dn k':=by
 have e:(s.reg k n a b).dn k'=s.dn k':=by unfold BS.reg;simp[c]
 refine⟨?_,e⟩;unfold dvL;rw[e];refine List.map_congr_left λj _=>?_
 unfold iB BS.reg;simp[c]
theorem health_ok {s:BS}{k i}{h}(hs:s.ok):(s.fJ k i h).ok:=⟨hs.mach,⟨hs.d.few,hs.d.nodes,hs.d.res,hs.d.dC⟩,hs.many,hs.small,hs.no,hs.ah⟩
theorem reg_ok {s:BS}{k n}{a}{f}(hs:s.ok)(c:n<=16)(e:∀i,i<n->0<=a i/\a i<4):(s.reg k n a f).ok:=by
 refine⟨hs.mach,⟨hs.d.few,hs.d.nodes,hs.d.res,λk' b=>?_⟩,hs.many,hs.small,hs.no,hs.ah⟩;show(if k'=k then n else s.dn k')<=16/\∀i,i< (if k'=k then n else s.dn k')->0<=(if k'=k then a else s.dN k') i/\(if k'=k then a else s.dN k') i<4
 by_cases h:k'=k
 .simp only[if_pos h];exact⟨c,e⟩
 .simp only[if_neg h];exact hs.d.dC k' b
section
variable {w w':World}{base bb:Nat}{s:BS}{vc vr vb vo:Value}{d:Nat->Value}{ys:List Value}{K:Nat->Nat}
theorem PS.setDev (h:PS w base bb s vc vr vb vo d ys K){k i g}(n:k<3)(o:i<s.dn k)(m:(d k).ownBlock=some g)(b):PS (w.setCell ⟨g,i*2+1,none⟩ (.bool b)) base bb (s.fJ k i b) vc vr vb vo d ys K:=by
 have l:=h.td k n g m;have a:∀x,K x≠4+k->(w.setCell ⟨g,i*2+1,none⟩ (.bool b)).heap[x]? =w.heap[x]?:=λx hx=>aad _ _ _ _ λe=>hx (by rw[e];exact l)
 have f:∀{x},K x=2->(w.setCell ⟨g,i*2+1,none⟩ (.bool b)).heap[x]? =w.heap[x]?:=λhx=>a _ (by omega)
 refine⟨(a bb (by rw[h.tb];omega)).trans h.blk,aJ h.dA λx hx=>f (h.tc x hx),aJ h.res λx hx=>f (h.tr x hx),λk' c=>?_,aJ h.boxes λx hx=>f (h.tx x hx),λx hx q j=>⟨aJ (h.rows x hx q j).1 λy hy=>f (h.tl x hx q j y hy),(h.rows x hx q j).2⟩,
  aJ h.ops λx hx=>a x (by rw[h.tq x hx];omega),h.tb,h.tc,h.tr,h.tx,h.tl,h.td,h.tq,λx hx=>by simpa using h.tk x hx,health_ok h.ok⟩
 by_cases e:k'=k
 .subst e
  rw[<-dvL_set];exact own_write (h.dC k' c) m (by omega) _
 .rw[dvL_other s b e]
  exact aJ (h.dC k' c) λx hx=>a x (by rw[h.td k' c x hx];omega)
theorem PS.setList (h:PS w base bb s vc vr vb vo d ys K){m}(hb:Below w.heap.size w m){k n}{v}{u}{A}(J:k<3)(D:n<=16)(E:∀i,i<n->0<=u i/\u i<4)(B:m.ownsRow w.heap.size 75 2 v n (dlL n u A))
 (hw:w'.heap=(m.setCell ⟨bb,3+k,none⟩ v).heap):PS w' base bb (s.reg k n u A) vc vr vb vo (λk'=>if k'=k then v else d k') ys (retag K w.heap.size v (4+k) []):=by
 have old:∀b,b<w.heap.size->retag K w.heap.size v (4+k) [] b=K b:=λb h=>if_pos h
 have p:∀{b},K b≠0->b<w.heap.size:=λhx=>(h.tk _ hx).2
 have o:∀x,x≠bb->w'.heap[x]? =m.heap[x]?:=λx hx=>by rw[hw];exact aad _ _ _ _ hx
 have j:∀{x},K x≠0->K x≠1->w'.heap[x]? =w.heap[x]?:=fun{x} G z=>(o x (λe=>z (by rw[e];exact h.tb))).trans (hb.block x (p G))
 have r:bb<w.heap.size:=h.lt;have g:∀b,v.ownBlock=some b->w.heap.size<=b/\b<m.heap.size:=B.lt;have a:∀{x t},K x=t->t≠0->retag K w.heap.size v (4+k) [] x=t:=fun{x t} e I=>(old x (p (by omega))).trans e
 refine⟨?_,aJ h.dA λx hx=>j (by rw[h.tc x hx];omega) (by rw[h.tc x hx];omega),aJ h.res λx hx=>j (by rw[h.tr x hx];omega) (by rw[h.tr x hx];omega),λk' c=>?_,aJ h.boxes λx hx=>j (by rw[h.tx x hx];omega) (by rw[h.tx x hx];omega),λx hx q l=>⟨aJ (h.rows x hx q l).1 λy hy=>j (by rw[h.tl x hx q l y hy];omega) (by rw[h.tl x hx q l y hy];omega),(h.rows x hx q l).2⟩,
  aJ h.ops λx hx=>j (by rw[h.tq x hx];omega) (by rw[h.tq x hx];omega),a h.tb (by omega),λx hx=>a (h.tc x hx) (by omega),λx hx=>a (h.tr x hx) (by omega),λx hx=>a (h.tx x hx) (by omega),λx hx q l y hy=>a (h.tl x hx q l y hy) (by omega),λk' c b f=>?_,λx hx=>a (h.tq x hx) (by omega),λb hx=>?_,reg_ok h.ok D E⟩
 .have z:=(hb.block bb r).trans h.blk
  have F:=aD (i:=3+k) v z;rw[hw];refine F.trans ?_;obtain rfl|rfl|rfl:k=0\/k=1\/k=2:=by omega
  all_goals rfl
 .by_cases e:k'=k
  .subst e
   rw[dlL_reg,if_pos rfl];have H:(s.reg k' n u A).dn k'=n:=(by unfold BS.reg;simp);rw[H];exact aB (aJ B λx hx=>o x (by have:=(g x hx).1;omega)) (ZP h.left (Nat.le_of_lt r))
  .rw[(dvL_reg s e).1,(dvL_reg s e).2,if_neg e]
   exact aJ (h.dC k' c) λx hx=>j (by rw[h.td k' c x hx];omega) (by rw[h.td k' c x hx];omega)
 .by_cases e:k'=k
  .subst e
   rw[if_pos rfl]at f;have:=(g b f).1;unfold retag;rw[if_neg (by omega),if_pos f]
  .rw[if_neg e]at f
   exact a (h.td k' c b f) (by omega)
 .have C:w.heap.size<=w'.heap.size/\m.heap.size<=w'.heap.size:=by rw[hw];have:=hb.size;simp;omega
  unfold retag at hx;split at hx
  .have:=h.tk b hx;exact⟨this.1,by omega⟩
  .split at hx
   .have:=g b (by assumption);have:=h.left;exact⟨by omega,by omega⟩
   .simp at hx
end
def HealthEnd (s:BS)(A B:Int)(hy:Bool)(r:Int)(s':BS):Prop:=(¬(0<=A/\A<3)/\r=2/\s'=s)\/((0<=A/\A<3)/\¬(0<=B/\B<s.dn A.toNat)/\r=3/\s'=s)\/((0<=A/\A<3)/\(0<=B/\B<s.dn A.toNat)/\r=0/\s'=s.fJ A.toNat B.toNat hy)
theorem health_any (A B)(hy)(base bb)(s)(K)(w)(h:Bd w base bb s K):
 Calls (patch ae prog) 36 #[.pointer (some ⟨bb,0,none⟩),.int .i64 A,.int .i64 B,.bool hy] w λe w'=>∃r s',e=.returned (.int .i64 r)/\HealthEnd s A B hy r s'/\Bd w' base bb s' K/\dJ w w' K K:=by
 obtain⟨vc,vr,vb,vo,d,ys,f⟩:=h
 by_cases hA:0<=A/\A<3
 .obtain⟨k,rfl⟩:∃k:Nat,A=k:=⟨A.toNat,by omega⟩
  have j:k<3:=by omega
  obtain⟨ao,cap,e,v,x,u,_⟩:=dV (f.dC k j)
  have hc:w.cell? ⟨bb,3+k,none⟩=some (.slice ao (s.dn k) cap):=by
   rw[f.cell,<-e];obtain rfl|rfl|rfl:k=0\/k=1\/k=2:=by omega
   all_goals rfl
  by_cases o:0<=B/\B< (s.dn k:Int)
  .obtain⟨i,rfl⟩:∃i:Nat,B=i:=⟨B.toNat,by omega⟩
   have m:i<s.dn k:=(by omega);obtain⟨g,rfl,_,_,t⟩:=u (by omega);have a:(d k).ownBlock=some g:=(by rw[e];rfl);have l:=(dvL_at t m).2;rw[Z8,Nat.mul_comm 2 i]at l
   have c:w.frozen? ⟨g,i*2+1,none⟩=false:=by
        rcases(f.dC k j).2 with⟨h,_⟩|⟨g',p,cur,h,_,q,_⟩
        .rw[e]at h;cases h
        .rw[e]at h;cases h;exact(blk q).2 _
   refine(healthB_hit bb k i g (s.dn k) cap hy _ w j m v hc l c).mono ?_;rintro n w' ⟨rfl,rfl⟩;refine⟨0,s.fJ k i hy,rfl,.inr (.inr ⟨by omega,by rw[Int.toNat_natCast];omega,rfl,rfl⟩),⟨_,_,_,_,_,_,f.setDev j m a hy⟩,⟨rfl,rfl,rfl,by simp,λb _ hb=>?_,λ_ _=>rfl⟩⟩;refine aad _ _ _ _ λe=>?_
   have:=f.td k j g a;have n:b=g:=e;rw[n]at hb;omega
  .refine(healthB_dev bb k (s.dn k) cap ao B hy w j hc o).mono ?_
   rintro n w' ⟨rfl,rfl⟩;exact⟨3,s,rfl,.inr (.inl ⟨by omega,by rw[Int.toNat_natCast];exact o,rfl,rfl⟩),⟨_,_,_,_,_,_,f⟩,dJ.refl _ _⟩
 .refine(healthB_kind bb A B hy w hA).mono ?_
  rintro e w' ⟨rfl,rfl⟩;exact⟨2,s,rfl,.inl ⟨hA,rfl,rfl⟩,⟨_,_,_,_,_,_,f⟩,dJ.refl _ _⟩
theorem cloneDev_nil (w):Calls (patch ae prog) 66 #[.slice none 0 0] w λe w'=>e=.returned (.slice none 0 0)/\w'=w:=by
 have heq:=fun(W:World)=>Lib.run_eql_slice_nil (P:=(patch ae prog)) W 33 75 none 0 0 0 0 ((ax ae prog 33).trans underlying33)
 go_enter (pf func66 (by rfl)),ntmps66
 go_wp2_with fail;go_ret;exact⟨rfl,rfl⟩
theorem regB_nil (a:Int)(bb k:Nat)(cs)(T)(w)(i:k<3)(f:a=k)(c:w.heap[bb]? =some (.cells cs T (0,0)))(hcs:5<cs.size):
 Calls (patch ae prog) 35 #[.pointer (some ⟨bb,0,none⟩),.int .i64 a,.slice none 0 0] w λe w'=>e=.returned (.int .i64 0)/\w'.heap=(w.setCell ⟨bb,3+k,none⟩ (.slice none 0 0)).heap/\w'.os=w.os/\w'.tape=w.tape/\w'.output=w.output:=by
 obtain⟨d,h⟩:=blk c;have y3:=(d 3).trans (ZM (show 3<cs.size from Nat.lt_trans (by decide) hcs));have y4:=(d 4).trans (ZM (show 4<cs.size from Nat.lt_trans (by decide) hcs));have g:=(d 5).trans (ZM hcs);clear d;have b:(k=0/\a=0)\/(k=1/\a=1)\/(k=2/\a=2):=by omega
 clear f c;rcases b with⟨rfl,rfl⟩|⟨rfl,rfl⟩|⟨rfl,rfl⟩
 all_goals(
  go_enter (pf func35 (by rfl)),ntmps35
  go_wp2_with(go_at_call 64;refine(jL _ _).mono ?_;rintro e w1 ⟨he,hw⟩;obtain rfl:=he;obtain rfl:=hw.symm);refine wp_loop_rounds 1 ?_;rw[aal];go_wp2_with fail
  go_region_law(go_simp;go_at_call 66;refine(cloneDev_nil w.drew).mono ?_;rintro e w1 ⟨rfl,hw⟩;obtain rfl:=hw.symm;dsimp only)
  all_goals(
   go_wp2_with fail;go_ret;exact⟨rfl,rfl,rfl,rfl,rfl⟩))
def DevL (w:World)(v:Value)(n:Nat)(a:Nat->Int)(c:Nat->Bool):Prop:=(v=.slice none 0 0/\n=0)\/∃b o cap,v=.slice (some ⟨b,o,none⟩) n cap/\n<=cap/\DevAt w b o n a c
theorem register_any (base bb k n:Nat)(c)(p)(v)(s)(K)(w)(h:Bd w base bb s K)(r:k<3)(x:n<=16)(y:∀i,i<n->0<=c i/\c i<4)(z:DevL w v n c p):
 Calls (patch ae prog) 35 #[.pointer (some ⟨bb,0,none⟩),.int .i64 k,v] w λe w'=>e=.returned (.int .i64 0)/\∃m,Bd w' base bb (s.reg k n c p) m/\dJ w w' K m:=by
 obtain⟨vc,vr,vb,vo,d,ys,q⟩:=h
 have fin:∀(u:Value) (f w':World),Below w.heap.size w f->f.ownsRow w.heap.size 75 2 u n (dlL n c p)->w'.heap=(f.setCell ⟨bb,3+k,none⟩ u).heap->w'.os=w.os->w'.tape=w.tape->w'.output=w.output->∃m,Bd w' base bb (s.reg k n c p) m/\dJ w w' K m:=λu f w' hb hu hw l j g=>by
  refine⟨_,⟨_,_,_,_,_,_,q.setList hb r x y hu hw⟩,l,j,g,by rw[hw];simpa using hb.size,λb a t=>?_,λb a=>if_pos a⟩;rw[hw];refine(aad _ _ _ _ λe=>?_).trans (hb.block b a);have A:b=bb:=e;rw[A,q.tb]at t;omega
 rcases z with⟨rfl,rfl⟩|⟨b,o,cap,rfl,hc,hd⟩
 .refine(regB_nil k bb k _ _ w r rfl q.blk (by simp[psC])).mono ?_
  rintro e w' ⟨rfl,hw,l,j,g⟩;exact⟨rfl,fin _ w w' (aab _ _) (aag _ _ _ _) hw l j g⟩
 .refine(regB_ok k bb k b o n cap c p _ _ w r rfl x hc hd y q.blk (by simp[psC])).mono ?_
  rintro e w' ⟨rfl,u,f,hb,hu,_,hw,l,j,g⟩;exact⟨rfl,fin u f w' hb hu hw l j g⟩
def BS.failAt (s:BS)(n:Int):BS:={s with fl:=decide (0<=n),ah:=n}
theorem failAt_any (base bb)(n)(s)(K)(w)(h:Bd w base bb s K)(l:In64 n):
 Calls (patch ae prog) 16 #[.pointer (some ⟨bb,0,none⟩),.int .i64 n] w λe w'=>e=.returned (.tuple #[])/\Bd w' base bb (s.failAt n) K/\dJ w w' K K:=by
 obtain⟨vc,vr,vb,vo,d,ys,a⟩:=h;refine(failAtB_any bb n _ _ w (a.cell 8) (a.cell 9) (a.thaw 8) (a.thaw 9)).mono ?_;rintro e w' ⟨rfl,rfl⟩;have f:∀x,x≠bb->((w.setCell ⟨bb,8,none⟩ (.bool (decide (0<=n)))).setCell ⟨bb,9,none⟩ (.int .i64 n)).heap[x]? =w.heap[x]?:=λx hx=>(aad _ _ _ _ hx).trans (aad _ _ _ _ hx)
 have c:∀{x t},K x=t->t≠1->((w.setCell ⟨bb,8,none⟩ (.bool (decide (0<=n)))).setCell ⟨bb,9,none⟩ (.int .i64 n)).heap[x]? =w.heap[x]?:=fun{x t} hx m=>f x λe=>by rw[e,a.tb]at hx;omega
 refine⟨rfl,⟨vc,vr,vb,vo,d,ys,?_⟩,rfl,rfl,rfl,by simp,λb _ hb=>f b λe=>by rw[e,a.tb]at hb;omega,λ_ _=>rfl⟩
 refine⟨?_,aJ a.dA λx hx=>c (a.tc x hx) (by omega),aJ a.res λx hx=>c (a.tr x hx) (by omega),λk j=>aJ (a.dC k j) λx hx=>c (a.td k j x hx) (by omega),aJ a.boxes λx hx=>c (a.tx x hx) (by omega),
  λx hx q g=>⟨aJ (a.rows x hx q g).1 λy hy=>c (a.tl x hx q g y hy) (by omega),(a.rows x hx q g).2⟩,aJ a.ops λx hx=>c (a.tq x hx) (by omega),a.tb,a.tc,a.tr,a.tx,a.tl,a.td,a.tq,λb hb=>by simpa using a.tk b hb,⟨a.ok.mach,⟨a.ok.d.few,a.ok.d.nodes,a.ok.d.res,a.ok.d.dC⟩,a.ok.many,a.ok.small,a.ok.no,l,λh=>by simpa[BS.failAt] using h⟩⟩
 have:=aD (i:=9) (.int .i64 n) (aD (i:=8) (.bool (decide (0<=n))) a.blk);unfold psC at this;simp only[ZN,ZS,ZR]at this;exact this
def RawD (w:World)(v:Value)(n:Nat)(X:Nat->Int)(H:Nat->Bool):Prop:=∃ao cap,v=.slice ao n cap/\n<=cap/\(∀i,i<n->In64 (X i))/\(0<n->∃b o,ao=some ⟨b,o,none⟩/\DevAt w b o n X H)
theorem RawD.below {w w'}{v}{n}{X}{H}(h:RawD w v n X H)(hb:Below w.heap.size w w'):RawD w' v n X H:=by
 obtain⟨ao,cap,e,g,f,d⟩:=h;exact⟨ao,cap,e,g,f,λc=>let ⟨b,o,e,hd⟩:=d c;⟨b,o,e,hd.keep λa v hc=>keeps hb hc⟩⟩
def il (X:Nat->Int)(i:Nat):Int:=(aK (X i) 4:Nat)
theorem dlL_succ (n)(N)(H):dlL (n+1) N H=dlL n N H++[.int .i64 (N n),.bool (H n)]:=by
 unfold dlL;rw[show(n+1)*2=n*2+1+1 by omega,Z6,Z6];simp[dlCell_0,dlCell_1]
theorem devices_any (n)(X)(H)(v)(w)(D:RawD w v n X H)(M:n<=1099511627776):
 Calls (patch ae prog) 41 #[v] w λe w'=>∃v',e=.returned v'/\w'.ownsRow w.heap.size 75 2 v' (min n 16) (dlL (min n 16) (il X) H)/\Below w.heap.size w w':=by
 obtain⟨ao,cap,rfl,O,A,z⟩:=D;obtain⟨i0,F,s,r,p⟩:=info_parts infoDev;have hu:=((ax ae prog 33).trans underlying33);have B:=av (aaa A z);clear A z
 go_enter (pf func41 (by rfl)),ntmps41
 go_wp2_with fail
 go_loopw [3,4] (λv i wr=>∃j:Nat,j<=min n 16/\i=.int .i64 j/\wr.ownsRow w.heap.size 75 2 v j (dlL j (il X) H)/\Below w.heap.size w wr) (λ_ i _=>min n 16-(intOf i).toNat)
 case atStart=>exact⟨0,by omega,rfl,aag _ _ _ _,aab _ _⟩
 case round=>
  obtain⟨j,N,rfl,a,hb⟩:=hrel;obtain⟨vo,vc,rfl⟩:=aj a;have d:=av (aaa a hb);have y:w.heap.size<=wr.heap.size:=hb.size;clear a hb
  by_cases f:j<n
  .by_cases I:j<16
   .have jn:(j:Int)<n:=by omega
    have m:(j:Int)<16:=(by omega);obtain⟨b,o,rfl,hd⟩:=B.out.2 (by omega);have L:wr.drew.cell? ⟨b,o+j*2,none⟩=some (.int .i64 (X j)):=keeps d.out.2 (hd j f).1;have K:wr.drew.cell? ⟨b,o+j*2+1,none⟩=some (.bool (H j)):=keeps d.out.2 (hd j f).2;have G:=B.out.1 j f;clear hd;go_wp2_with fail
    have J:Hid (∀g u,[Value.int .i64 (il X j),.bool (H j)][g]? =some u->(wr.drew.alloc (.cells #[.int .i64 (il X j),.bool (H j)] 75)).cell? ((⟨wr.heap.size,0,none⟩:Addr).add g)=some u):=λg u t=>by
     rw[Addr.add_lit,Z8];have:=(blk (aae wr.drew (.cells #[.int .i64 (il X j),.bool (H j)] 75))).1 g;rw[show wr.drew.heap.size=wr.heap.size from rfl]at this;rw[this];simpa using t
    have h:Hid ((wr.drew.alloc (.cells #[.int .i64 (il X j),.bool (H j)] 75)).ownsRow w.heap.size 75 2 (.slice vo j vc) j (dlL j (il X) H)/\w.heap.size<=(wr.drew.alloc (.cells #[.int .i64 (il X j),.bool (H j)] 75)).heap.size/\Below w.heap.size w (wr.drew.alloc (.cells #[.int .i64 (il X j),.bool (H j)] 75))):=
     ⟨(au d.out.1 (aab _ _).drew).alloc _,by simp;exact Nat.le_succ_of_le y,d.out.2.drew.alloc y _⟩
    go_region_law(first
     |(go_simp;go_at_call 39;refine(dG (X j) 4 _ G (by omega)).mono ?_;rintro e w1 ⟨rfl,hw⟩;obtain rfl:=hw.symm;dsimp only)
     |(refine ib rfl _ _ 33 rfl w.heap.size 75 i0 _ 2 16 hu F s r p rfl (by omega) (.slice vo j vc) j (dlL j (il X) H) rfl h.out.1 ⟨wr.heap.size,0,none⟩ 1 1 [.int .i64 (il X j),.bool (H j)] rfl rfl J.out (by intro u hu;simp at hu;rcases hu with rfl|rfl<;>rfl) (by omega) (by unfold maxLen;omega) (by omega) h.out.2.1 ?_;intro v' w2 a c x;obtain⟨l,k,rfl⟩:=aj a;have C:Hid (w2.ownsRow w.heap.size 75 2 (.slice l (j+1) k) (j+1) (dlL (j+1) (il X) H)/\Below w.heap.size w w2):=⟨by rw[dlL_succ];exact a,h.out.2.2.grown c h.out.2.1 (λq E=>(d.out.1.lt q E).1)⟩;clear a c x))
    all_goals
     go_wp2_with fail;go_roundw
     case rel=>exact⟨j+1,by omega,by go_num,C.out.1,C.out.2⟩
     case measure=>simp[intOf];omega
   .have jn:(j:Int)<n:=by omega
    have m:¬(j:Int)<16:=(by omega);have e:j=min n 16:=(by omega);go_wp2_with fail
    all_goals(
     go_ret;rw[<-e];exact⟨_,rfl,d.out.1,d.out.2⟩)
  .have jn:¬(j:Int)<n:=by omega
   have e:j=min n 16:=(by omega);go_wp2_with fail
   all_goals(
        go_ret;rw[<-e];exact⟨_,rfl,d.out.1,d.out.2⟩)
end Z
