/- Part 13 of the proof. -/
import Derived.Test.YtfpaamhppamcoaaGreatDoorSp12
set_option linter.all false
set_option maxRecDepth 100000
set_option maxHeartbeats 60000000
namespace Go.Proofs.YtfpaamhppamcoaaGreatDoor
open Go.Proofs.Tryz
section
open Go
def idR (Z:Nat->Prop):Rel True:=λb c=>b=c/\Z b
structure BD where
 n:Nat
 N:Nat->Int
 r:Nat
 R:Nat->Int
 dn:Nat->Nat
 dN:Nat->Nat->Int
 dH:Nat->Nat->Bool
 bn:Nat
 oN:Nat->Nat->Nat
 oR:Nat->Nat->Nat->Int
structure BD.ok (D:BD):Prop where
 few:D.n<=24
 nodes:∀i,i<D.n->0<=D.N i/\D.N i<4
 res:D.r<=24
 dC:∀k,k<3->D.dn k<=16/\∀i,i<D.dn k->0<=D.dN k i/\D.dN k i<4
def bZ (w:World)(Z:Nat->Prop)(v:Value)(n:Nat)(cells:Nat->Nat->World->Prop):Prop:=∃ao cap,v=.slice ao n cap/\n<=cap/\n<=1000000/\(0<n->∃b o,ao=some ⟨b,o,none⟩/\cells b o w)/\∀x,ao=some x->Z x.block\/(n=0/\cap=0)
def cpuC (D:BD)(b o:Nat)(w:World):Prop:=∀i,i<D.n->w.cell? ⟨b,o+3*i+1,none⟩=some (.int .i64 (D.N i))
def resC (D:BD)(b o:Nat)(w:World):Prop:=∀i,i<D.r->w.cell? ⟨b,o+i,none⟩=some (.int .i64 (D.R i))
def devC (D:BD)(k:Nat)(b o:Nat)(w:World):Prop:=∀i,i<D.dn k->w.cell? ⟨b,o+2*i,none⟩=some (.int .i64 (D.dN k i))/\w.cell? ⟨b,o+2*i+1,none⟩=some (.bool (D.dH k i))
def ownC (D:BD)(i q:Nat)(b o:Nat)(w:World):Prop:=∀j,j<D.oN i q->w.cell? ⟨b,o+j,none⟩=some (.int .i64 (D.oR i q j))
def boxC (D:BD)(Z:Nat->Prop)(b o:Nat)(w:World):Prop:=∀i,i<D.bn->(∃s,w.cell? ⟨b,o+5*i,none⟩=some (.string s))/\∀q,q<4->∃v,w.cell? ⟨b,o+5*i+1+q,none⟩=some v/\bZ w Z v (D.oN i q) (ownC D i q)
structure bM (w:World)(Z:Nat->Prop)(bb:Nat)(D:BD):Prop where
 dA:∃v,w.cell? ⟨bb,0,none⟩=some v/\bZ w Z v D.n (cpuC D)
 res:∃v,w.cell? ⟨bb,1,none⟩=some v/\bZ w Z v D.r (resC D)
 pol:∃p,w.cell? ⟨bb,2,none⟩=some (.int .i64 p)
 dC:∀k,k<3->∃v,w.cell? ⟨bb,3+k,none⟩=some v/\bZ w Z v (D.dn k) (devC D k)
 boxes:∃v,w.cell? ⟨bb,6,none⟩=some v/\bZ w Z v D.bn (boxC D Z)
abbrev aW (w:World)(bb:Nat)(D:BD):Prop:=bM w (λ_=>True) bb D
def oK (Z:Nat->Prop):Value->Prop
 |.int .u8 _=>False
 |.int _ _|.bool _|.string _|.pointer none|.slice none _ _=>True
 |.pointer (some a)=>Z a.block
 |.slice (some a) l c=>Z a.block\/(l=0/\c=0)
 |_=>False
section
variable {K:Nat->Prop}{st:Prop}{p:Rel st}{w u:World}{G:Nat}
theorem bZ.simple {Z}{v}{n}{cells}(h:bZ w Z v n cells):oK Z v:=by
 obtain⟨ao,cap,rfl,e,d,c,b⟩:=h;cases ao with
 |none=>trivial
 |some a=>exact b a rfl
theorem bZ.move {Z Z'}{q:Rel st}{v x}{n}{cells d}(h:bZ w Z v n cells)(r:VR q v x)(t:∀b c,q b c->Z b->Z' c)(hc:∀b c o,q b c->Z b->cells b o w->d c o u):bZ u Z' x n d:=by
 obtain⟨ao,cap,rfl,A,z,y,m⟩:=h;obtain⟨l,rfl,f⟩:=r.bD;refine⟨l,cap,rfl,A,z,λs=>?_,λx hx=>?_⟩
 .obtain⟨b,o,rfl,hb⟩:=y s
  obtain⟨a',rfl,k⟩:=f.aO;replace k:=k.resolve_right (λh=>by omega);obtain⟨p,B,s'⟩:=a';obtain⟨j,i,g⟩:=k;simp only at j i g;subst i g;exact⟨p,o,rfl,hc b p o j ((m _ rfl).resolve_right λh=>by omega) hb⟩
 .subst hx
  cases ao with
  |none=>exact f.elim
  |some a=>
   obtain⟨a',e,f⟩:=f.aO;cases e;rcases f with f|f
   .exact(m _ rfl).imp (λh=>t _ _ f.1 h) id
   .exact .inr f.1
theorem bZ.mono {Z Z'}{v}{n}{cells a}(h:bZ w Z v n cells)(d:∀b,Z b->Z' b)(hc:∀b o,cells b o w->a b o u):bZ u Z' v n a:=by
 obtain⟨ao,cap,e,j,i,g,f⟩:=h;exact⟨ao,cap,e,j,i,λc=>let ⟨b,o,x,y⟩:=g c;⟨b,o,x,hc b o y⟩,λx hx=>(f x hx).imp (d _) id⟩
theorem bM.move {Z Z'}{q:Rel st}{bb p}{D}(h:bM w Z bb D)(hcell:∀b c i v,q b c->Z b->w.cell? ⟨b,i,none⟩=some v->oK Z v->∃x,u.cell? ⟨c,i,none⟩=some x/\VR q v x)
 (A:∀b c,q b c->Z b->Z' c)(hp:q bb p)(r:Z bb):bM u Z' p D:=by
 have t:∀b c i (n:Int),q b c->Z b->w.cell? ⟨b,i,none⟩=some (.int .i64 n)->u.cell? ⟨c,i,none⟩=some (.int .i64 n):=λb c i n a hb hc=>by
  obtain⟨x,e,d⟩:=hcell b c i _ a hb hc trivial;rw[d.bT]at e;exact e
 have C:∀b c i n,q b c->Z b->w.cell? ⟨b,i,none⟩=some (.bool n)->u.cell? ⟨c,i,none⟩=some (.bool n):=λb c i n a hb hc=>by
  obtain⟨x,e,d⟩:=hcell b c i _ a hb hc trivial;rw[d.j3]at e;exact e
 refine⟨?_,?_,?_,λk F=>?_,?_⟩
 .obtain⟨v,e,d⟩:=h.dA
  obtain⟨x,l,g⟩:=hcell bb p 0 v hp r e d.simple;exact⟨x,l,d.move g A λb c o a hb f i hl=>t _ _ _ _ a hb (f i hl)⟩
 .obtain⟨v,e,d⟩:=h.res
  obtain⟨x,l,g⟩:=hcell bb p 1 v hp r e d.simple;exact⟨x,l,d.move g A λb c o a hb f i hl=>t _ _ _ _ a hb (f i hl)⟩
 .obtain⟨n,e⟩:=h.pol
  exact⟨n,t _ _ _ _ hp r e⟩
 .obtain⟨v,e,d⟩:=h.dC k F
  obtain⟨x,l,g⟩:=hcell bb p (3+k) v hp r e d.simple;exact⟨x,l,d.move g A λb c o a hb f i hl=>⟨t _ _ _ _ a hb (f i hl).1,C _ _ _ _ a hb (f i hl).2⟩⟩
 .obtain⟨v,e,d⟩:=h.boxes
  obtain⟨x,l,g⟩:=hcell bb p 6 v hp r e d.simple;refine⟨x,l,d.move g A λb c o a hb f i hl=>?_⟩;obtain⟨⟨s,f1⟩,f2⟩:=f i hl;refine⟨?_,λj G=>?_⟩
  .obtain⟨y,g1,g2⟩:=hcell b c _ _ a hb f1 trivial
   rw[g2.bO]at g1;exact⟨s,g1⟩
  .obtain⟨v',f3,f4⟩:=f2 j G
   obtain⟨y,g1,g2⟩:=hcell b c _ _ a hb f3 f4.simple;exact⟨y,g1,f4.move g2 A λJ I H z E B m hm=>t _ _ _ _ z E (B m hm)⟩
theorem bM.same {Z Z'}{bb}{D}(h:bM w Z bb D)(g:∀b,Z b->Z' b)(hc:∀a v,w.cell? a=some v->u.cell? a=some v):bM u Z' bb D:=by
 refine⟨?_,?_,?_,λk m=>?_,?_⟩
 .obtain⟨v,d,f⟩:=h.dA
  exact⟨v,hc _ _ d,f.mono g λb o c i e=>hc _ _ (c i e)⟩
 .obtain⟨v,d,f⟩:=h.res
  exact⟨v,hc _ _ d,f.mono g λb o c i e=>hc _ _ (c i e)⟩
 .obtain⟨q,d⟩:=h.pol
  exact⟨q,hc _ _ d⟩
 .obtain⟨v,d,f⟩:=h.dC k m
  exact⟨v,hc _ _ d,f.mono g λb o c i e=>⟨hc _ _ (c i e).1,hc _ _ (c i e).2⟩⟩
 .obtain⟨v,d,f⟩:=h.boxes
  refine⟨v,hc _ _ d,f.mono g λb o c i e=>?_⟩;obtain⟨⟨s,f1⟩,f2⟩:=c i e;refine⟨⟨s,hc _ _ f1⟩,λq l=>?_⟩;obtain⟨v',f3,f4⟩:=f2 q l;exact⟨v',hc _ _ f3,f4.mono g λb o c j n=>hc _ _ (c j n)⟩
theorem bM.any {Z}{bb}{D}(h:bM w Z bb D):aW w bb D:=h.same (λ_ _=>trivial) λ_ _ h=>h
end
theorem junk_ex {st}{p:Rel st}:∀v:Value,∃v',VR p v' v/\noU8 v'
 |.bool b=>⟨_,VR.bool b,trivial⟩
 |.int k n=>by cases k<;>first|exact⟨_,VR.int _ n,trivial⟩|exact⟨.nilFunc,VR.gU rfl,trivial⟩
 |.string s=>⟨_,VR.string s,trivial⟩
 |.nilIface=>⟨.nilIface,VR.nilIface,trivial⟩
 |.agg cs=>by
  have h:∀i:Nat,∃v',∀x,cs[i]? =some x->VR p v' x:=λi=>by
   by_cases a:i<cs.size
   .obtain⟨v',c,_⟩:=junk_ex (p:=p) cs[i]
    refine⟨v',λx hx=>?_⟩;rw[ZM a]at hx;cases hx;exact c
   .exact⟨undef,λx hx=>by rw[Array.getElem?_eq_none (by omega)]at hx;cases hx⟩
  exact⟨.agg ((Array.range cs.size).map λi=>(h i).choose),VR.agg ⟨by simp,λi x y hx hy=>by
   rw[Array.getElem?_map]at hx;cases a:(Array.range cs.size)[i]? with
   |none=>rw[a]at hx;cases hx
   |some k=>
    rw[a]at hx;simp only[Option.map_some,Option.some.injEq]at hx
    have d:k=i:=by
       obtain⟨f,e⟩:=ZK.1 a;simpa using e.symm
    subst d;subst hx;exact(h k).choose_spec y hy⟩,trivial⟩
 |.tuple cs=>by
  have h:∀i:Nat,∃v',∀x,cs[i]? =some x->VR p v' x:=λi=>by
   by_cases a:i<cs.size
   .obtain⟨v',c,_⟩:=junk_ex (p:=p) cs[i]
    refine⟨v',λx hx=>?_⟩;rw[ZM a]at hx;cases hx;exact c
   .exact⟨undef,λx hx=>by rw[Array.getElem?_eq_none (by omega)]at hx;cases hx⟩
  exact⟨.tuple ((Array.range cs.size).map λi=>(h i).choose),VR.tuple ⟨by simp,λi x y hx hy=>by
   rw[Array.getElem?_map]at hx;cases a:(Array.range cs.size)[i]? with
   |none=>rw[a]at hx;cases hx
   |some k=>
    rw[a]at hx;simp only[Option.map_some,Option.some.injEq]at hx
    have d:k=i:=by
       obtain⟨f,e⟩:=ZK.1 a;simpa using e.symm
    subst d;subst hx;exact(h k).choose_spec y hy⟩,trivial⟩
 |.float _ _=>⟨.nilFunc,VR.gU rfl,trivial⟩
 |.complex _ _ _=>⟨.nilFunc,VR.gU rfl,trivial⟩
 |.pointer _=>⟨.nilFunc,VR.gU rfl,trivial⟩
 |.slice _ _ _=>⟨.nilFunc,VR.gU rfl,trivial⟩
 |.map _=>⟨.nilFunc,VR.gU rfl,trivial⟩
 |.chan _=>⟨.nilFunc,VR.gU rfl,trivial⟩
 |.func _ _ _=>⟨.nilFunc,VR.gU rfl,trivial⟩
 |.nilFunc=>⟨.nilFunc,VR.gU rfl,trivial⟩
 |.iface _ _=>⟨.nilFunc,VR.gU rfl,trivial⟩
def Lies (w:World)(Z:Nat->Prop):Prop:=∀b,Z b->∃xs e,w.heap[b]? =some (.cells xs e)
theorem simple_noU8 {st}{p:Rel st}{Z}{v u}(h:VR p v u)(hs:oK Z v):noU8 u:=by
 cases v with
 |int k n=>obtain rfl:=h.bT;cases k<;>first|exact hs.elim|trivial
 |bool b=>obtain rfl:=h.j3;trivial
 |string b=>obtain rfl:=h.bO;trivial
 |pointer o=>obtain⟨a,rfl,d⟩:=h.bV;trivial
 |slice o l c=>obtain⟨a,rfl,d⟩:=h.bD;trivial
 |_=>exact hs.elim
theorem simple_self {st st'}(e:st'){p:Rel st}{q:Rel st'}{Z}{v u}(h:VR p v u)(hs:oK Z v)(g:∀b c,p b c->Z b->q c c):VR q u u:=by
 cases v with
 |int k n=>obtain rfl:=h.bT;exact VR.int _ _
 |bool b=>obtain rfl:=h.j3;exact VR.bool _
 |string b=>obtain rfl:=h.bO;exact VR.string _
 |pointer o=>
  obtain⟨i,rfl,f⟩:=h.bV;cases o with
  |none=>obtain rfl:=f.aV;exact VR.ptr trivial
  |some a=>
   obtain⟨a',rfl,d⟩:=f.aO;exact VR.ptr ⟨g _ _ d.1 hs,rfl,rfl⟩
 |slice o l c=>
  obtain⟨i,rfl,f⟩:=h.bD;cases o with
  |none=>obtain rfl:=f.aV;exact VR.slice trivial
  |some a=>
   obtain⟨a',rfl,d⟩:=f.aO;rcases d with d|d
   .rcases hs with hs|hs
    .exact VR.kJ (.inl ⟨g _ _ d.1 hs,rfl,rfl⟩)
    .exact VR.kJ (.inr ⟨hs,e⟩)
   .exact VR.kJ (.inr ⟨d.1,e⟩)
 |_=>exact hs.elim
theorem frozen_copy (K:Nat->Prop)(ok:Nat->Nat->Prop)(u:World):
 ∃(b:World) (a:Value->Value),(∀v,VR (st:=True) (idR λ_=>False) (a v) v/\noU8 (a v))/\b.heap.size=u.heap.size/\(∀c ys e g,K c->u.heap[c]? =some (.cells ys e g)->∃xs,b.heap[c]? =some (.cells xs e (0,max ys.size g.2))/\xs.size=ys.size/\∀(i:Nat) y,ys[i]? =some y->(ok c i->xs[i]? =some y)/\(¬ok c i->xs[i]? =some (a y)))/\∀c,¬K c->b.heap[c]? =u.heap[c]?:=by
 classical
 obtain⟨a,d⟩:∃a:Value->Value,∀v,VR (st:=True) (idR λ_=>False) (a v) v/\noU8 (a v):=⟨λv=>(junk_ex v).choose,λv=>(junk_ex v).choose_spec⟩;refine⟨{u with heap:=u.heap.mapIdx λc o=>if K c then(match o with|.cells ys e g=>.cells (ys.mapIdx λi y=>if ok c i then y else a y) e (0,max ys.size g.2)|o=>o)else o},a,d,by simp,λc ys e g hc hu=>?_,λc hc=>?_⟩
 .refine⟨ys.mapIdx λi y=>if ok c i then y else a y,?_,by simp,λi y hy=>⟨λh=>?_,λh=>?_⟩⟩
  .show(u.heap.mapIdx _)[c]? =_
   rw[Array.getElem?_mapIdx,hu];simp[hc]
  .rw[Array.getElem?_mapIdx,hy];simp[h]
  .rw[Array.getElem?_mapIdx,hy];simp[h]
 .show(u.heap.mapIdx _)[c]? =_
  rw[Array.getElem?_mapIdx];cases u.heap[c]? with
  |none=>rfl
  |some o=>simp[hc]
theorem lL {w:World}{c i}{xs}{e}{g}(h:w.heap[c]? =some (.cells xs e g)):w.cell? ⟨c,i,none⟩=xs[i]?:=by
 unfold World.cell?;rw[h];simp
theorem worker_copy {G}{K0}{st}{p:Rel st}{w u}(hw:WR G K0 p w u){k}(hz:Lies w k){B B' bb o r}{x y}{t1 t2 t3}(hB:p B B')(V:k B){D}(hD:bM w k B D)
 (O:u.heap[bb]? =some (.cells #[.pointer (some ⟨B',0,none⟩)] t1))(R:u.heap[o]? =some (.cells #[.int .i64 x] t2))(S:u.heap[r]? =some (.cells #[.int .i64 y] t3))
 (hp:∀b,¬p b bb)(hr:∀b,¬p b o)(hn:∀b,¬p b r)(α:bb≠o)(β:bb≠r):
 ∃A,WR G (λc=>(∃b,p b c/\k b)\/c=bb) (idR λc=>((∃b,p b c/\k b)\/c=bb)\/c=o\/c=r) A u/\aW A B' D/\A.cell? ⟨bb,0,none⟩=some (.pointer (some ⟨B',0,none⟩))/\A.cell? ⟨o,0,none⟩=some (.int .i64 x)/\A.cell? ⟨r,0,none⟩=some (.int .i64 y):=by
 have J:∀b c,p b c->k b->∃xs ys e f,w.heap[b]? =some (.cells xs e)/\u.heap[c]? =some (.cells ys e f)/\aF (VR p) xs ys:=λb c j hb=>by
  obtain⟨xs,e,g1⟩:=hz b hb;rcases hw.rows b c j with⟨γ,ys,e',f,g,m1,m2,m3,m4,m5⟩|⟨a,a',l,m1,_⟩|⟨a,a',l,m1,_⟩
  .rw[g1]at m1
   simp only[Option.some.injEq,Obj.cells.injEq]at m1;obtain⟨rfl,rfl,rfl⟩:=m1;exact⟨_,ys,_,g,g1,m2,m3⟩
  .rw[g1]at m1;cases m1
  .rw[g1]at m1;cases m1
 obtain⟨A,jk,T,hs,X,M⟩:=frozen_copy (λc=>(∃b,p b c/\k b)\/c=bb) (λc i=>∀b v,p b c->k b->w.cell? ⟨b,i,none⟩=some v->oK k v) u
 have W:∀c,(c=o\/c=r)->¬((∃b,p b c/\k b)\/c=bb):=λc hc hx=>by
  rcases hc with rfl|rfl
  .rcases hx with⟨b,d,_⟩|h
   .exact hr b d
   .exact α h.symm
  .rcases hx with⟨b,d,_⟩|h
   .exact hn b d
   .exact β h.symm
 refine⟨A,⟨λb c s c' h h'=>?_,λb c h=>?_,λc hc=>⟨rfl,.inl hc⟩,λb c h Y=>absurd h.1 Y,⟨by rw[hs];exact hw.big.2,hw.big.2⟩⟩,?_,?_,?_,?_⟩
 .obtain⟨rfl,_⟩:=h
  obtain⟨rfl,_⟩:=h';exact Iff.rfl
 .obtain⟨rfl,hc⟩:=h
  rcases hc with hc|hc
  .rcases hc with⟨b0,I,F⟩|rfl
   .obtain⟨xs,ys,e,f,g1,g2,g3⟩:=J b0 b I F
    obtain⟨zs,k1,C,K⟩:=X b ys e f (.inl ⟨b0,I,F⟩) g2
    have key:∀(i:Nat) z P,zs[i]? =some z->ys[i]? =some P->VR (st:=True) (idR λc=>((∃b,p b c/\k b)\/c=bb)\/c=o\/c=r) z P/\noU8 z:=λi z P E L=>by
     obtain⟨q1,q2⟩:=K i P L;have N:i<ys.size:=(ZK.1 L).1;have U:i<xs.size:=(by rw[g3.1];exact N)
     by_cases m:∀s v,p s b->k s->w.cell? ⟨s,i,none⟩=some v->oK k v
     .rw[q1 m]at E
      cases E;have n:=g3.2 i xs[i] _ (ZM U) L;have H:=m b0 xs[i] I F (by rw[lL g1];exact ZM U);exact⟨simple_self trivial (p:=p) (Z:=k) n H λb c j hZ=>⟨rfl,.inl (.inl ⟨b,j,hZ⟩)⟩,simple_noU8 (p:=p) (Z:=k) n H⟩
     .rw[q2 m]at E
      cases E;exact⟨(T _).1.mono λb c h=>h.2.elim,(T _).2⟩
    refine .inl ⟨zs,ys,e,_,f,k1,g2,⟨C,λi z P d h2=>(key i z P d h2).1⟩,λ_=>⟨rfl,by rw[C];exact Nat.le_max_left _ _,Nat.le_max_right _ _,λi z d=>?_⟩,λhx=>absurd (.inl ⟨b0,I,F⟩) hx⟩;have N:i<ys.size:=(by rw[<-C];exact(ZK.1 d).1);exact(key i z _ d (ZM N)).2
   .obtain⟨zs,k1,C,K⟩:=X b _ _ _ (.inr rfl) O
    have one:∀(i:Nat) (v:Value),zs[i]? =some v->i=0/\v=.pointer (some ⟨B',0,none⟩):=λi v n=>by
     have N:i=0:=by
         have:=(ZK.1 n).1;rw[C]at this;simp at this;exact this
     subst N;have:=(K 0 (.pointer (some ⟨B',0,none⟩)) (by simp)).1 λs v d _ _=>absurd d (hp s)
     rw[n]at this;exact⟨rfl,by simpa using this⟩
    refine .inl ⟨zs,_,_,_,_,k1,O,⟨C,λi v u' n hu=>?_⟩,λ_=>⟨rfl,by rw[C];exact Nat.le_max_left _ _,Nat.le_max_right _ _,λi v n=>?_⟩,λhx=>absurd (.inr rfl) hx⟩
    .obtain⟨rfl,rfl⟩:=one i v n
     have:u'=.pointer (some ⟨B',0,none⟩):=by simpa using hu.symm
     subst this;exact VR.ptr ⟨⟨rfl,.inl (.inl ⟨B,hB,V⟩)⟩,rfl,rfl⟩
    .obtain⟨rfl,rfl⟩:=one i v n
     trivial
  .have d:=M b (W b hc)
   have key:∀z t,u.heap[b]? =some (.cells #[.int .i64 z] t)->Mate (λc=>(∃b,p b c/\k b)\/c=bb) (idR λc=>((∃b,p b c/\k b)\/c=bb)\/c=o\/c=r) A u b b:=λz t hu=>by
        rw[hu]at d;refine .inl ⟨_,_,_,_,_,d,hu,⟨rfl,λi v u' n Q=>?_⟩,λhx=>absurd hx (W b hc),λ_=>rfl⟩;rw[n]at Q;obtain rfl:=Option.some.inj Q
        have N:i=0:=by
         have:=(ZK.1 n).1;simp at this;exact this
        subst N;have:v=.int .i64 z:=by simpa using n.symm
        subst this;exact VR.int _ _
   rcases hc with rfl|rfl
   .exact key x t2 R
   .exact key y t3 S
 .refine(hD.move (u:=A) (q:=p) (Z':=λ_=>True) (λb c i v j hb hc H=>?_) (λ_ _ _ _=>trivial) hB V)
  obtain⟨x',d,h2⟩:=hw.cell (a:=⟨b,i,none⟩) (b:=⟨c,i,none⟩) ⟨j,rfl,rfl⟩ hc;refine⟨x',?_,h2⟩;obtain⟨xs,ys,e,f,g1,g2,g3⟩:=J b c j hb;obtain⟨zs,k1,C,K⟩:=X c ys e f (.inl ⟨b,j,hb⟩) g2;rw[lL g2]at d;rw[lL k1];refine(K i x' d).1 λs v' h3 _ h5=>?_
  obtain rfl:=(hw.fit s c b c h3 j).2 rfl;rw[hc]at h5;cases h5;exact H
 .obtain⟨zs,k1,C,K⟩:=X bb _ _ _ (.inr rfl) O
  rw[lL k1];exact(K 0 _ (by simp)).1 λs v d _ _=>absurd d (hp s)
 .rw[lL ((M o (W o (.inl rfl))).trans R)];rfl
 .rw[lL ((M r (W r (.inr rfl))).trans S)];rfl
end
namespace Z
open Go.RowKit
attribute [local go_sem ↓] Go.wp_at_zero Go.wp_at_succ
attribute [local go_sem] After.cell After.frozen After.const
def mk0 (D:BD)(p:Int):cz:=⟨none,0,0,D.n,D.n,λ_=>0,D.N,λ_=>0,none,0,0,D.r,D.r,D.R,p⟩
def dL (D:BD)(r:Nat):List Nat:=if r=0 then bS (mk0 D 0) D.n else(List.range (D.dn (r-1))).filter (λi=>D.dH (r-1) i)
def dX (D:BD)(k i:Nat):List Nat:=(List.range i).filter (λj=>D.dH k j)
def aT (l:List Nat):List Value:=l.map λi:Nat=>.int .i64 (i:Int)
def bG (D:BD)(r i:Nat):Int:=if r=0 then D.N i else D.dN (r-1) i
def dz (D:BD)(r:Nat)(l:List Nat)(k:Nat):Int:=(l.countP (λi=>bG D r i==(k:Int)):Nat)
theorem devN_hit {D}{k i}(h:D.dH k i=true):dX D k (i+1)=dX D k i++[i]:=by
 unfold dX;rw[Z6,aaj];simp[h]
theorem devN_miss {D}{k i}(h:D.dH k i=false):dX D k (i+1)=dX D k i:=by
 unfold dX;rw[Z6,aaj];simp[h]
theorem devN_le (D)(k i):(dX D k i).length<=i:=by
 unfold dX;exact ZP (aai _ _) (by simp)
theorem keeps {w w'}(h:Below w.heap.size w w'){a}{v}(hc:w.cell? a=some v):w'.cell? a=some v:=by
 by_cases hl:a.block<w.heap.size
 .exact(h.cell hl).trans hc
 .have:w.heap[a.block]? =none:=Array.getElem?_eq_none_iff.2 (by omega)
  simp[World.cell?,this]at hc
theorem bM.below {w w'}{Z}{bb}{D}(h:bM w Z bb D)(hb:Below w.heap.size w w'):bM w' Z bb D:=h.same (λ_ h=>h) λ_ _ hc=>keeps hb hc
theorem aW.below {w w'}{bb}{D}(h:aW w bb D)(hb:Below w.heap.size w w'):aW w' bb D:=bM.below h hb
theorem bZ.ints {w}{Z}{v}{D}(h:bZ w Z v D.r (resC D)):Ints w v D.r D.R:=by
 obtain⟨ao,cap,e,f,g,d,_⟩:=h;exact⟨ao,cap,e,f,by omega,λa=>let ⟨b,o,q,c⟩:=d a;⟨b,o,q,c⟩⟩
theorem nodeOf0_any (bb i)(D)(w)(hb:aW w bb D)(a:D.ok)(h:i<D.n):
 Calls (patch ae prog) 116 #[.pointer (some ⟨bb,0,none⟩),.int .i64 0,.int .i64 i] w λe w'=>e=.returned (.int .i64 (D.N i))/\w'=w:=by
 obtain⟨v,j,ao,cap,rfl,c,d,f,_⟩:=hb.dA;obtain⟨b,o,rfl,hc⟩:=f (by omega);have g:=hc i h;rw[Nat.mul_comm 3 i]at g;clear hc f hb a
 go_enter (pf func116 (by rfl)),ntmps116
 go_wp2_with fail;go_ret;exact⟨rfl,rfl⟩
theorem nodeOf1_any (bb i)(D)(w)(hb:aW w bb D)(a:D.ok)(h:i<D.dn 0):
 Calls (patch ae prog) 116 #[.pointer (some ⟨bb,0,none⟩),.int .i64 1,.int .i64 i] w λe w'=>e=.returned (.int .i64 (D.dN 0 i))/\w'=w:=by
 obtain⟨v,j,ao,cap,rfl,c,d,f,_⟩:=hb.dC 0 (by omega);have hd:=(a.dC 0 (by omega)).1;obtain⟨b,o,rfl,hc⟩:=f (by omega);have g:=(hc i h).1;rw[Nat.mul_comm 2 i]at g;clear hc f hb a
 go_enter (pf func116 (by rfl)),ntmps116
 go_wp2_with fail;go_ret;exact⟨rfl,rfl⟩
theorem nodeOf2_any (bb i)(D)(w)(hb:aW w bb D)(a:D.ok)(h:i<D.dn 1):
 Calls (patch ae prog) 116 #[.pointer (some ⟨bb,0,none⟩),.int .i64 2,.int .i64 i] w λe w'=>e=.returned (.int .i64 (D.dN 1 i))/\w'=w:=by
 obtain⟨v,j,ao,cap,rfl,c,d,f,_⟩:=hb.dC 1 (by omega);have hd:=(a.dC 1 (by omega)).1;obtain⟨b,o,rfl,hc⟩:=f (by omega);have g:=(hc i h).1;rw[Nat.mul_comm 2 i]at g;clear hc f hb a
 go_enter (pf func116 (by rfl)),ntmps116
 go_wp2_with fail;go_ret;exact⟨rfl,rfl⟩
theorem nodeOf3_any (bb i)(D)(w)(hb:aW w bb D)(a:D.ok)(h:i<D.dn 2):
 Calls (patch ae prog) 116 #[.pointer (some ⟨bb,0,none⟩),.int .i64 3,.int .i64 i] w λe w'=>e=.returned (.int .i64 (D.dN 2 i))/\w'=w:=by
 obtain⟨v,j,ao,cap,rfl,c,d,f,_⟩:=hb.dC 2 (by omega);have hd:=(a.dC 2 (by omega)).1;obtain⟨b,o,rfl,hc⟩:=f (by omega);have g:=(hc i h).1;rw[Nat.mul_comm 2 i]at g;clear hc f hb a
 go_enter (pf func116 (by rfl)),ntmps116
 go_wp2_with fail;go_ret;exact⟨rfl,rfl⟩
theorem nodeOf_any (bb i r)(D)(w)(c:r<4)(hb:aW w bb D)(a:D.ok)(b:if r=0 then i<D.n else i<D.dn (r-1)):
 Calls (patch ae prog) 116 #[.pointer (some ⟨bb,0,none⟩),.int .i64 r,.int .i64 i] w λe w'=>e=.returned (.int .i64 (bG D r i))/\w'=w:=by
 obtain rfl|rfl|rfl|rfl:r=0\/r=1\/r=2\/r=3:=by omega
 .exact nodeOf0_any bb i D w hb a b
 .exact nodeOf1_any bb i D w hb a b
 .exact nodeOf2_any bb i D w hb a b
 .exact nodeOf3_any bb i D w hb a b
theorem kV (w:World)(A)(v)(t):∀j u,[v][j]? =some u->((w.alloc A).alloc (.cells #[v] t)).cell? ((⟨w.heap.size+1,0,none⟩:Addr).add j)=some u:=by
 have h:=cell_one_new (w.alloc A) v t;intro j u a;have:=h j u a;simpa using this
theorem usableB0_any (bb)(D)(w)(hb:aW w bb D)(b:D.ok):
 Calls (patch ae prog) 72 #[.pointer (some ⟨bb,0,none⟩),.int .i64 0] w λe w'=>∃v,e=.returned v/\w'.ownsRow w.heap.size 3 1 v (dL D 0).length (aT (dL D 0))/\Below w.heap.size w w':=by
 obtain⟨vc,l,ao,cap,rfl,f,g,m,_⟩:=hb.dA;obtain⟨vr,k,d⟩:=hb.res;obtain⟨p,j⟩:=hb.pol;have i:=av (bZ.ints d);have h:=b.few;clear hb d b
 go_enter (pf func72 (by rfl)),ntmps72
 go_wp2_with(go_at_call 117;refine(unreserved_any (mk0 D p) (.slice ao D.n cap) vr ao cap _ rfl h i.out).mono ?_;rintro e w1 ⟨v,rfl,a,c⟩);go_ret;exact⟨_,rfl,a,c⟩
theorem usableB1_any (bb)(D)(w)(hb:aW w bb D)(g:D.ok):
 Calls (patch ae prog) 72 #[.pointer (some ⟨bb,0,none⟩),.int .i64 1] w λe w'=>∃v,e=.returned v/\w'.ownsRow w.heap.size 3 1 v (dL D 1).length (aT (dL D 1))/\Below w.heap.size w w':=by
 obtain⟨vc,C,ao,cap,rfl,s,t,x,_⟩:=hb.dC 0 (by omega);have hd:=(g.dC 0 (by omega)).1;obtain⟨i0,B,n,m,l⟩:=info_parts Tryz.gQ;have hu:=((ax ae prog 23).trans underlying23);have H3:Hid (0<D.dn 0->∃b o,ao=some ⟨b,o,none⟩/\devC D 0 b o w):=x;clear hb g x
 go_enter (pf func72 (by rfl)),ntmps72
 go_wp2_with fail
 go_loopw [5,23] (λv i wr=>∃j:Nat,j<=D.dn 0/\i=.int .i64 j/\wr.ownsRow w.heap.size 3 1 v (dX D 0 j).length (aT (dX D 0 j))/\Below w.heap.size w wr) (λ_ i _=>D.dn 0-(intOf i).toNat)
 case atStart=>exact⟨0,by omega,rfl,aag _ _ _ _,aab _ _⟩
 case round=>
  obtain⟨j,E,rfl,a,hb⟩:=hrel;have d:Hid (wr.ownsRow w.heap.size 3 1 u5 (dX D 0 j).length (aT (dX D 0 j))/\Below w.heap.size w wr):=⟨a,hb⟩;clear a hb;have hlen:=devN_le D 0 j
  by_cases h:j<D.dn 0
  .obtain⟨b,o,rfl,hc⟩:=H3.out (by omega)
   have z:=keeps d.out.2 (hc j h).1;have k:=keeps d.out.2 (hc j h).2;rw[Nat.mul_comm 2 j]at z k;clear hc;have r:w.heap.size<=wr.heap.size:=d.out.2.size;cases f:D.dH 0 j
   .rw[f]at k
    have p:=av f;clear f;go_wp2_with fail;go_roundw
    case rel=>exact⟨j+1,by omega,by go_num,by rw[devN_miss p.out];exact d.out.1.alloc _,d.out.2.alloc r _⟩
    case measure=>simp[intOf];omega
   .rw[f]at k
    have p:=av f;clear f;go_wp2_with(at_builtin;refine wpList_append_own _ rfl _ _ _ rfl w.heap.size 3 i0 _ 1 8 hu B n m l rfl (by omega) _ (dX D 0 j).length (aT (dX D 0 j)) rfl ((d.out.1.alloc _).alloc _) ⟨wr.heap.size+1,0,none⟩ 1 1 [.int .i64 j] rfl rfl (kV _ _ _ _) (by intro u hu;simp at hu;subst hu;rfl) (by unfold maxLen;omega) (by omega) (by simp;omega) ?_;intro v' w1 a c _)
    have y:Hid (w1.ownsRow w.heap.size 3 1 v' (dX D 0 (j+1)).length (aT (dX D 0 (j+1)))/\Below w.heap.size w w1):=by
     refine⟨?_,((d.out.2.alloc r _).alloc (by simp;omega) _).grown c (by simp;omega) (λq A=>(d.out.1.lt q A).1)⟩;unfold aT;rw[devN_hit p.out];simpa[aT] using a
    clear a c;go_wp2_with fail;go_roundw
    case rel=>exact⟨j+1,by omega,by go_num,y.out.1,y.out.2⟩
    case measure=>simp[intOf];omega
  .have:j=D.dn 0:=by omega
   rw[this]at d;go_wp2_with fail;go_ret;exact⟨_,rfl,d.out.1,d.out.2⟩
theorem usableB2_any (bb)(D)(w)(hb:aW w bb D)(g:D.ok):
 Calls (patch ae prog) 72 #[.pointer (some ⟨bb,0,none⟩),.int .i64 2] w λe w'=>∃v,e=.returned v/\w'.ownsRow w.heap.size 3 1 v (dL D 2).length (aT (dL D 2))/\Below w.heap.size w w':=by
 obtain⟨vc,C,ao,cap,rfl,s,t,x,_⟩:=hb.dC 1 (by omega);have hd:=(g.dC 1 (by omega)).1;obtain⟨i0,B,n,m,l⟩:=info_parts Tryz.gQ;have hu:=((ax ae prog 23).trans underlying23);have H3:Hid (0<D.dn 1->∃b o,ao=some ⟨b,o,none⟩/\devC D 1 b o w):=x;clear hb g x
 go_enter (pf func72 (by rfl)),ntmps72
 go_wp2_with fail
 go_loopw [5,23] (λv i wr=>∃j:Nat,j<=D.dn 1/\i=.int .i64 j/\wr.ownsRow w.heap.size 3 1 v (dX D 1 j).length (aT (dX D 1 j))/\Below w.heap.size w wr) (λ_ i _=>D.dn 1-(intOf i).toNat)
 case atStart=>exact⟨0,by omega,rfl,aag _ _ _ _,aab _ _⟩
 case round=>
  obtain⟨j,E,rfl,a,hb⟩:=hrel;have d:Hid (wr.ownsRow w.heap.size 3 1 u5 (dX D 1 j).length (aT (dX D 1 j))/\Below w.heap.size w wr):=⟨a,hb⟩;clear a hb;have hlen:=devN_le D 1 j
  by_cases h:j<D.dn 1
  .obtain⟨b,o,rfl,hc⟩:=H3.out (by omega)
   have z:=keeps d.out.2 (hc j h).1;have k:=keeps d.out.2 (hc j h).2;rw[Nat.mul_comm 2 j]at z k;clear hc;have r:w.heap.size<=wr.heap.size:=d.out.2.size;cases f:D.dH 1 j
   .rw[f]at k
    have p:=av f;clear f;go_wp2_with fail;go_roundw
    case rel=>exact⟨j+1,by omega,by go_num,by rw[devN_miss p.out];exact d.out.1.alloc _,d.out.2.alloc r _⟩
    case measure=>simp[intOf];omega
   .rw[f]at k
    have p:=av f;clear f;go_wp2_with(at_builtin;refine wpList_append_own _ rfl _ _ _ rfl w.heap.size 3 i0 _ 1 8 hu B n m l rfl (by omega) _ (dX D 1 j).length (aT (dX D 1 j)) rfl ((d.out.1.alloc _).alloc _) ⟨wr.heap.size+1,0,none⟩ 1 1 [.int .i64 j] rfl rfl (kV _ _ _ _) (by intro u hu;simp at hu;subst hu;rfl) (by unfold maxLen;omega) (by omega) (by simp;omega) ?_;intro v' w1 a c _)
    have y:Hid (w1.ownsRow w.heap.size 3 1 v' (dX D 1 (j+1)).length (aT (dX D 1 (j+1)))/\Below w.heap.size w w1):=by
     refine⟨?_,((d.out.2.alloc r _).alloc (by simp;omega) _).grown c (by simp;omega) (λq A=>(d.out.1.lt q A).1)⟩;unfold aT;rw[devN_hit p.out];simpa[aT] using a
    clear a c;go_wp2_with fail;go_roundw
    case rel=>exact⟨j+1,by omega,by go_num,y.out.1,y.out.2⟩
    case measure=>simp[intOf];omega
  .have:j=D.dn 1:=by omega
   rw[this]at d;go_wp2_with fail;go_ret;exact⟨_,rfl,d.out.1,d.out.2⟩
theorem usableB3_any (bb)(D)(w)(hb:aW w bb D)(g:D.ok):
 Calls (patch ae prog) 72 #[.pointer (some ⟨bb,0,none⟩),.int .i64 3] w λe w'=>∃v,e=.returned v/\w'.ownsRow w.heap.size 3 1 v (dL D 3).length (aT (dL D 3))/\Below w.heap.size w w':=by
 obtain⟨vc,C,ao,cap,rfl,s,t,x,_⟩:=hb.dC 2 (by omega);have hd:=(g.dC 2 (by omega)).1;obtain⟨i0,B,n,m,l⟩:=info_parts Tryz.gQ;have hu:=((ax ae prog 23).trans underlying23);have H3:Hid (0<D.dn 2->∃b o,ao=some ⟨b,o,none⟩/\devC D 2 b o w):=x;clear hb g x
 go_enter (pf func72 (by rfl)),ntmps72
 go_wp2_with fail
 go_loopw [5,23] (λv i wr=>∃j:Nat,j<=D.dn 2/\i=.int .i64 j/\wr.ownsRow w.heap.size 3 1 v (dX D 2 j).length (aT (dX D 2 j))/\Below w.heap.size w wr) (λ_ i _=>D.dn 2-(intOf i).toNat)
 case atStart=>exact⟨0,by omega,rfl,aag _ _ _ _,aab _ _⟩
 case round=>
  obtain⟨j,E,rfl,a,hb⟩:=hrel;have d:Hid (wr.ownsRow w.heap.size 3 1 u5 (dX D 2 j).length (aT (dX D 2 j))/\Below w.heap.size w wr):=⟨a,hb⟩;clear a hb;have hlen:=devN_le D 2 j
  by_cases h:j<D.dn 2
  .obtain⟨b,o,rfl,hc⟩:=H3.out (by omega)
   have z:=keeps d.out.2 (hc j h).1;have k:=keeps d.out.2 (hc j h).2;rw[Nat.mul_comm 2 j]at z k;clear hc;have r:w.heap.size<=wr.heap.size:=d.out.2.size;cases f:D.dH 2 j
   .rw[f]at k
    have p:=av f;clear f;go_wp2_with fail;go_roundw
    case rel=>exact⟨j+1,by omega,by go_num,by rw[devN_miss p.out];exact d.out.1.alloc _,d.out.2.alloc r _⟩
    case measure=>simp[intOf];omega
   .rw[f]at k
    have p:=av f;clear f;go_wp2_with(at_builtin;refine wpList_append_own _ rfl _ _ _ rfl w.heap.size 3 i0 _ 1 8 hu B n m l rfl (by omega) _ (dX D 2 j).length (aT (dX D 2 j)) rfl ((d.out.1.alloc _).alloc _) ⟨wr.heap.size+1,0,none⟩ 1 1 [.int .i64 j] rfl rfl (kV _ _ _ _) (by intro u hu;simp at hu;subst hu;rfl) (by unfold maxLen;omega) (by omega) (by simp;omega) ?_;intro v' w1 a c _)
    have y:Hid (w1.ownsRow w.heap.size 3 1 v' (dX D 2 (j+1)).length (aT (dX D 2 (j+1)))/\Below w.heap.size w w1):=by
     refine⟨?_,((d.out.2.alloc r _).alloc (by simp;omega) _).grown c (by simp;omega) (λq A=>(d.out.1.lt q A).1)⟩;unfold aT;rw[devN_hit p.out];simpa[aT] using a
    clear a c;go_wp2_with fail;go_roundw
    case rel=>exact⟨j+1,by omega,by go_num,y.out.1,y.out.2⟩
    case measure=>simp[intOf];omega
  .have:j=D.dn 2:=by omega
   rw[this]at d;go_wp2_with fail;go_ret;exact⟨_,rfl,d.out.1,d.out.2⟩
theorem usableB_any (bb r:Nat)(D)(w)(b:r<4)(hb:aW w bb D)(a:D.ok):
 Calls (patch ae prog) 72 #[.pointer (some ⟨bb,0,none⟩),.int .i64 r] w λe w'=>∃v,e=.returned v/\w'.ownsRow w.heap.size 3 1 v (dL D r).length (aT (dL D r))/\Below w.heap.size w w':=by
 obtain rfl|rfl|rfl|rfl:r=0\/r=1\/r=2\/r=3:=by omega
 .exact usableB0_any bb D w hb a
 .exact usableB1_any bb D w hb a
 .exact usableB2_any bb D w hb a
 .exact usableB3_any bb D w hb a
theorem dh {w}{base}{v}{l}(h:w.ownsRow base 3 1 v l.length (aT l)):Ints w v l.length (λj=>((l[j]?.getD 0:Nat):Int)):=by
 rcases h.2 with⟨rfl,a⟩|⟨g,cap,cur,rfl,_,f,c,hc,hs,b⟩
 .rw[a];exact⟨none,0,rfl,ZL _,by omega,λh=>absurd h (Nat.lt_irrefl _)⟩
 .refine⟨_,cap,rfl,c,by unfold maxLen at hc;omega,λa=>⟨g,0,rfl,λi d=>?_⟩⟩
  have e:(aT l)[i]? =some (.int .i64 ((l[i]?.getD 0:Nat):Int)):=by simp[aT,d]
  rw[Z8,cell_of_row w g i cur _ (0,0) f];rw[<-b,Z5]at e;split at e
  .simpa using e
  .cases e
end Z
