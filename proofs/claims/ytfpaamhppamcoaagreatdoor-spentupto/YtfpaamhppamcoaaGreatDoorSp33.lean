/- Part 33 of the proof. -/
import Derived.Test.YtfpaamhppamcoaaGreatDoorSp32
import Derived.Shelf.Strings.BuilderF
set_option linter.all false
set_option maxRecDepth 100000
set_option maxHeartbeats 60000000
namespace Go.Proofs.YtfpaamhppamcoaaGreatDoor
open Go.Proofs.Tryz
section
open Go.RowKit
attribute [local go_sem ↓] Go.wp_at_zero Go.wp_at_succ
attribute [local go_sem] After.cell After.frozen After.const
theorem head_any (n:Nat)(s)(w)(i:n<=9223372036854775807)(hs:s.size<=140737488355328)(a:gY w):
 Calls prog 143 #[.int .i64 n,.string s] w λe w'=>iF 100 e/\Below w.heap.size w w':=by
 have d:Hid (gY w):=a;clear a
 go_enter func143,ntmps143
 go_wp2_with(first
  |(go_at_call 177;refine(itoa_any (n:Int) w ⟨by omega,by omega⟩ d.out).mono ?_;rintro e w1 ⟨b,t1,rfl,g⟩;have h:t1.size<=1000:=by omega)
  |(go_at_call 179;refine(checkSum_any s _ hs).mono ?_;rintro e w2 ⟨⟨x,rfl,x0,x1⟩,hw⟩;obtain rfl:=hw.symm)
  |(go_at_call 178;refine(formatUint_any x _ x0 x1 (d.out.ext b)).mono ?_;rintro e w3 ⟨⟨t3,rfl,f⟩,c⟩))
 go_ret;refine⟨⟨_,rfl,?_⟩,b.trans (c.mono b.size)⟩;simp only[ByteArray.size_append];have l:(⟨#[98,111,120,101,115,32]⟩:ByteArray).size=6:=rfl;have k:(⟨#[32]⟩:ByteArray).size=1:=rfl;have j:(⟨#[10]⟩:ByteArray).size=1:=rfl;omega
def BoxAt (w:World)(b o D:Nat):Prop:=∃(nm:ByteArray) (A:Nat->Option Addr) (N C:Nat->Nat) (R:Nat->Nat->Int),
 w.cell? ⟨b,o,none⟩=some (.string nm)/\w.cell? ⟨b,o+1,none⟩=some (.slice (A 0) (N 0) (C 0))/\w.cell? ⟨b,o+2,none⟩=some (.slice (A 1) (N 1) (C 1))/\w.cell? ⟨b,o+3,none⟩=some (.slice (A 2) (N 2) (C 2))/\w.cell? ⟨b,o+4,none⟩=some (.slice (A 3) (N 3) (C 3))/\
 zA w A N C R/\(∀q,q<4->∀i,i<N q->I64 (R q i))/\22*(N 0+N 1+N 2+N 3)+10*nm.size<=D
def Boxes (w:World)(v:Value)(n D:Nat):Prop:=∃ao cap,v=.slice ao n cap/\n<=cap/\n<=9223372036854775807/\(0<n->∃b o,ao=some ⟨b,o,none⟩/\b<w.heap.size/\∀i,i<n->BoxAt w b (o+i*5) D)
theorem BoxAt.ext {w w'}{b o D}(h:BoxAt w b o D)(hl:b<w.heap.size)(hb:Below w.heap.size w w'):BoxAt w' b o D:=by
 obtain⟨nm,A,N,C,R,l,k,i,g,f,d,a,e⟩:=h;have c:∀j,w'.cell? ⟨b,j,none⟩=w.cell? ⟨b,j,none⟩:=λj=>hb.cell (p:=⟨b,j,none⟩) hl
 exact⟨nm,A,N,C,R,(c _).trans l,(c _).trans k,(c _).trans i,(c _).trans g,(c _).trans f,d.ext hb,a,e⟩
theorem Boxes.ext {w w'}{v}{n D}(h:Boxes w v n D)(hb:Below w.heap.size w w'):Boxes w' v n D:=by
 obtain⟨ao,cap,rfl,f,e,d⟩:=h;refine⟨ao,cap,rfl,f,e,λg=>?_⟩;obtain⟨b,o,rfl,hl,c⟩:=d g;exact⟨b,o,rfl,ZO hl hb.size,λi a=>(c i a).ext hl hb⟩
theorem bld_below {B b}{bs}{w w1}(h:Lib.IsBuilderF 200 5 B b bs w)(hb:Below w.heap.size w w1):Lib.IsBuilderF 200 5 B b bs w1:=by
 have e:w.grownBy w1 none:=⟨hb.os,hb.tape,hb.output,hb.size,λk d _=>hb.block k d⟩
 have one:∀p,Lib.BuilderAtF 200 5 B b p bs w->Lib.BuilderAtF 200 5 B b p bs w1:=by
  rintro p ⟨f,v,hw,a,c⟩;refine⟨f,v,(hb.block _ (ZK.1 hw).1).trans hw,a.kept e ?_,c⟩;cases i:v.ownBlock with
  |none=>exact .inl rfl
  |some g=>exact .inr (by simp)
 exact h.elim (λx=>.inl (one _ x)) (λx=>.inr (one _ x))
theorem layB:Lays.n166 prog Tryz.lays156_ren:={Tryz.lays156 with}
theorem text_any (v)(n D)(w)(h:Boxes w v n D)(hn:n*(D+12)<=140737488355000)(X:n<=1099511627776)(hD:D<=1099511627776)(p:gY w):
 Calls prog 88 #[v] w λe w'=>iF (n*(D+12)+100) e/\Below w.heap.size w w':=by
 have hF:=h;obtain⟨ao,cap,rfl,_,hm,_⟩:=h;have K:Hid (Boxes w (.slice ao n cap) n D/\gY w):=⟨hF,p⟩;clear hF p
 go_enter func88,ntmps88
 go_wp2_with fail;obtain⟨x,m⟩:∃x,x=w.alloc (.cells #[.pointer none,.slice none 0 0] 200):=⟨_,rfl⟩;rw[<-m];have a:Lib.IsBuilderF 200 5 w.heap.size w.heap.size (Lib.byteCells []) x:=.inl ⟨ZL _,.slice none 0 0,by rw[m];exact heap_alloc_new _ _,World.ownsRowF_nil _ _ _ _,by simp[Value.ownBlock]⟩;have G:Below w.heap.size w x:=by rw[m];exact(Below.refl _ _).alloc (ZL _) _
 have S:Hid (Lib.IsBuilderF 200 5 w.heap.size w.heap.size (Lib.byteCells []) x/\Below w.heap.size w x):=⟨a,G⟩;clear a G m
 go_loopw [8] (λi wr=>∃(k:Nat) (l:List UInt8),k<=n/\i=.int .i64 k/\Lib.IsBuilderF 200 5 w.heap.size w.heap.size (Lib.byteCells l) wr/\l.length<=k*(D+12)/\Below w.heap.size w wr) (λi _=>n-(intOf i).toNat)
 case atStart=>exact⟨0,[],by omega,rfl,S.out.1,by simp,S.out.2⟩
 case round=>
  obtain⟨k,l,hk,rfl,a,hl,hb⟩:=hrel;have j:Hid (Lib.IsBuilderF 200 5 w.heap.size w.heap.size (Lib.byteCells l) wr/\Below w.heap.size w wr/\l.length<=k*(D+12)/\w.heap.size<=wr.heap.size):=⟨a,hb,hl,hb.size⟩;have α:k*(D+12)<=n*(D+12):=Nat.mul_le_mul_right _ hk
  by_cases y:k<n
  .have kn:(k:Int)<n:=by omega
   have L:(k+1)*(D+12)<=n*(D+12):=Nat.mul_le_mul_right _ y;have Z:(k+1)*(D+12)=k*(D+12)+(D+12):=Nat.succ_mul _ _;obtain⟨γ,Q,he,_,_,hF⟩:=K.out.1.ext hb;cases he;obtain⟨b,o,I,M,F⟩:=hF (by omega);subst I;obtain⟨nm,A,N,C,R,e0,e1,e2,e3,e4,P,O,β⟩:=F k y;have J:Hid (zA wr A N C R/\(∀q,q<4->∀i,i<N q->I64 (R q i))/\gY wr):=⟨P,O,K.out.2.ext hb⟩
   have E:∀q,q<4->N q<=1099511627776:=λq hq=>by
        have:q=0\/q=1\/q=2\/q=3:=(by omega);rcases this with rfl|rfl|rfl|rfl<;>omega
   have HN:Hid (∀q,q<4->N q<=1099511627776):=E;clear hF F hb P O E a hl;go_wp2_with fail;have d:Below wr.heap.size wr (wr.alloc (.cells #[.string nm,.slice (A 0) (N 0) (C 0),.slice (A 1) (N 1) (C 1),.slice (A 2) (N 2) (C 2),.slice (A 3) (N 3) (C 3)] 98)):=(Below.refl _ _).alloc (ZL _) _;refine(line_any nm A N C R _ (J.out.1.ext d) J.out.2.1 (by omega) HN.out (J.out.2.2.ext d)).mono ?_;rintro e w3 ⟨⟨t,rfl,V⟩,g⟩;have f:Below wr.heap.size wr w3:=d.trans (g.mono d.size);have H:Hid (Below wr.heap.size wr w3/\t.size<=D+12/\wr.heap.size<=w3.heap.size):=⟨f,by omega,f.size⟩;clear d g f V;go_wp2_with(go_at_call 141;refine(Any.Builder_WriteString_f layB Tryz.Builder_Extra_156 w.heap.size w.heap.size (Lib.byteCells l) t w3 (bld_below j.out.1 H.out.1) (by have:=H.out.2.1;have:=j.out.2.2.1;simp only[Lib.byteCells,List.length_map];omega) (by have:=H.out.2.2;have:=j.out.2.2.2;omega)).mono ?_;rintro e w4 ⟨rfl,r,c⟩;have u:Hid (_/\Below w.heap.size w3 w4):=⟨r,c⟩;clear r c);go_roundw
   case rel=>exact⟨k+1,l++t.data.toList,by omega,by go_num,by rw[Lib.byteCells_append,<-Lib.strCells_eq];exact .inr u.out.1,by have:=H.out.2.1;have:=j.out.2.2.1;have e:=Lib.size_eq t;simp only[Z7];omega,j.out.2.1.trans ((H.out.1.mono j.out.2.2.2).trans u.out.2)⟩
   case measure=>simp[intOf];omega
  .obtain rfl:k=n:=by omega
   clear hb a hl;go_wp2_with fail;refine(Tryz.Builder_String_any_f w.heap.size w.heap.size l wr j.out.1 j.out.2.2.2).mono ?_;rintro e w3 ⟨rfl,s,g⟩;have H3:Hid (Lib.IsBuilderF 200 5 w.heap.size w.heap.size (Lib.byteCells l) w3/\Below w.heap.size w w3):=⟨s,j.out.2.1.trans g⟩;clear s g;go_wp2_with fail;have W:(⟨l.toArray⟩:ByteArray).size<=k*(D+12):=by have:=j.out.2.2.1;simpa[ByteArray.size] using this
   refine(head_any k ⟨l.toArray⟩ w3 hm (by omega) (K.out.2.ext H3.out.2)).mono ?_;rintro e w4 ⟨⟨t4,rfl,U⟩,c⟩;have u:Hid (Below w3.heap.size w3 w4/\w.heap.size<=w3.heap.size/\w3.heap.size<=w4.heap.size):=⟨c,H3.out.2.size,c.size⟩;clear c;go_wp2_with fail;refine(Tryz.Builder_String_any_f w.heap.size w.heap.size l w4 (bld_below H3.out.1 u.out.1) (by have:=u.out.2.1;have:=u.out.2.2;omega)).mono ?_;rintro e T ⟨rfl,z,B⟩;have H5:Hid (Below w.heap.size w4 T):=B;clear z B;have Y:t4.size+(⟨l.toArray⟩:ByteArray).size<=9223372036854775807:=(by omega);go_wp2;go_ret;refine⟨⟨_,rfl,?_⟩,H3.out.2.trans ((u.out.1.mono u.out.2.1).trans H5.out)⟩;simp only[ByteArray.size_append];omega
end
section
open Go Go.Conc Go.ConcN Go.RowKit
open Go.ConcR (KK wgBlock WgAt stA smA rd wr mk Payload DC0)
def t8L:List Nat:=[4,5,12,13]
abbrev T8 (c:Nat):Prop:=c∈t8L
def errL:List Nat:=[0]
structure EnvX (w:World)(Z:Nat->Prop):Prop where
 env:gY w
 err:∀g,g∈errL->∃t a,w.cell? ⟨g,0,none⟩=some (.iface t (.pointer (some a)))/\okIb t=true/\Z a.block
 tabs:∀g,T8 g->∃xs e f,w.heap[g]? =some (.cells xs e f)/\∀v∈xs.toList,∃k n,v=.int k n
 globs:∀g,g∈glX->Z g
theorem t8_glX {g}(h:T8 g):g∈glX:=by
 have key:(t8L.all λg=>glX.contains g)=true:=by decide
 exact List.mem_of_elem_eq_true (ZU.1 key g h)
theorem cell_heap {w:World}{g}{cs}{e}{f}(h:w.heap[g]? =some (.cells cs e f))(n)(a:prog.globalNamed n=some g):w.var? prog n=some cs:=by
 unfold World.var?;rw[a];simp[h]
theorem EnvX.copy {st}{w k}{Z}{lv}(h:EnvX w Z)(hl:Copies st Z lv)(hs:k.heap.size=w.heap.size)
 (hF:∀b xs e g,¬T8 b->w.heap[b]? =some (.cells xs e g)->k.heap[b]? =some (.cells (xs.map lv) e (0,max xs.size g.2)))(hc:∀a v,w.cell? a=some v->(T8 a.block->k.cell? a=some v)/\(¬T8 a.block->k.cell? a=some (lv v))):gY k:=by
 have same:∀a v,w.cell? a=some v->jH Z v->k.cell? a=some v:=λa v d hp=>by
  obtain⟨p,n⟩:=hc a v d
  by_cases q:T8 a.block
  .exact p q
  .rw[n q,hl.same v hp]
 refine⟨by rw[hs];exact h.env.size,?_,⟨λc m=>?_,λi r=>?_⟩,λj s=>?_⟩
 .have d:=h.env.pow
  unfold Lib.TabIs World.var? at d;rw[Tryz.oL]at d;simp only[Option.bind_some]at d;cases l:w.heap[(3:Nat)]? with
  |none=>rw[l]at d;cases d
  |some o=>
   rw[l]at d;cases o with
   |cells cs e f=>
    simp only[Option.some.injEq]at d;have p:=hF _ cs e f (by decide) l
    have n:cs.map lv=cs:=by
     rw[d];refine Array.ext (by simp) λi t i2=>?_
     simp only[List.map_toArray,List.map_map,List.getElem_toArray,List.getElem_map,Function.comp];exact hl.same _ trivial
    unfold Lib.TabIs;rw[cell_heap p _ Tryz.oL,n,d]
   |_=>cases d
 .exact(hc _ _ (h.env.utf.1 c m)).1 (show(4:Nat)∈t8L by decide)
 .exact⟨(hc _ _ (h.env.utf.2 i r).1).1 (show(5:Nat)∈t8L by decide),(hc _ _ (h.env.utf.2 i r).2).1 (show(5:Nat)∈t8L by decide)⟩
 .exact(hc _ _ (h.env.db64 j s)).1 (show(13:Nat)∈t8L by decide)
theorem ints_of_rowI {w}{Z}{v}{n}{R}(h:RowI w Z v n R):Ints w v n R:=by
 obtain⟨ao,cap,e,c,b,a,_⟩:=h;exact⟨ao,cap,e,c,b,a⟩
theorem boxes_of_textC {w}{Z}{v}{n D}(h:je w Z v n D):Boxes w v n D/\n<=1000000/\D<=1000000:=by
 obtain⟨ao,cap,e,k,j,f,g,_⟩:=h;refine⟨⟨ao,cap,e,k,by omega,λd=>?_⟩,j,f⟩;obtain⟨b,o,x,y⟩:=g d;refine⟨b,o,x,?_,λi c=>?_⟩
 .obtain⟨nm,A,N,C,R,f1,_⟩:=y 0 d
  exact block_lt_of_cell f1
 .obtain⟨nm,A,N,C,R,f1,f2,f3,f4,f5⟩:=y i c
  exact⟨nm,A,N,C,R,f1,f2 0 (by omega),f2 1 (by omega),f2 2 (by omega),f2 3 (by omega),λq a=>ints_of_rowI (f3 q a),λq a i c=>⟨(f4 q a i c).1,by have:=(f4 q a i c).2;omega⟩,f5⟩
theorem text_size {n D}(a:n<=1000000)(b:D<=1000000):n*(D+12)<=140737488355000:=by
 have:n*(D+12)<=1000000*(1000000+12):=Nat.mul_le_mul a (by omega);omega
def IvT (u0:World)(Z:Nat->Prop)(p:Rel False)(u:World):Prop:=
 (u.tape=u0.tape/\u.os=u0.os/\u.output=u0.output/\u0.heap.size<=u.heap.size)/\(∀b c,p b c->c<u0.heap.size->b=c/\Z c)/\∀c,c<u0.heap.size->¬T8 c->u.heap[c]? =u0.heap[c]?
theorem ivT_step {u0}{Z}:∀p q u u',IvT u0 Z p u->dE (λc=>Z c/\¬T8 c) p q u u'->IvT u0 Z q u':=by
 intro p q u u' ⟨⟨k,j,i,h⟩,d,f⟩ g;refine⟨⟨g.tape.trans k,g.os.trans j,g.output.trans i,ZP h g.size⟩,λb c e hc=>?_,λc hc a=>?_⟩
 .by_cases hp:p b c
  .exact d b c hp hc
  .have:=g.fresh b c e hp;omega
 .exact(g.keep c (by omega) λb hb=>⟨(d b c hb hc).2,a⟩).trans (f c hc a)
theorem fn_text:prog.funcs[88]? =some f88:=func88
def RX (a:World)(v:Value)(w':World):Prop:=(∃s,v=.string s)/\∀c,c<a.heap.size->w'.heap[c]? =a.heap[c]?
theorem text_company {Z S}{gs}{u}{sl}{t}{q}{b}{bs}{y}{n D}
 (ρ:∀c,Z c->CB u c)(σ:∀c,Z c->¬S c)(d:EnvX u Z)(hT:je u Z y n D)(hF:ni prog S gs u.heap.size t q)(h0:gs[0]? =some (df (Frame.enter prog 88 #[y] .normal) (b::bs))):
 ∃(N:Nat) (E:Array Goroutine) (u':World) (W:Option (Nat×Nat)) (t':Trace) (q':Nat->Nat) (s:ByteArray),runNT prog N (crowd gs u sl) t=(.next (crowd E u' W),t')/\E[0]? =some (df (b.finish (.string s)) bs)/\ni prog S E u'.heap.size t' q'/\
  u'.tape=u.tape/\u'.os=u.os/\u'.output=u.output/\u.heap.size<=u'.heap.size/\∀c,c<u.heap.size->u'.heap[c]? =u.heap[c]?:=by
 have η:prog.globals.size=14:=by kernel_rfl
 obtain⟨H,lv,hl,τ,r,hs,rT,rF,hc⟩:=twin_world False prog.globals.size T8 Z u (by rw[η];exact d.env.size) ρ (c0:=4) (d.globs _ (by decide)) d.tabs
 have same:=λa v p hp=>by
  obtain⟨R,Q⟩:=hc a v p
  by_cases ht:T8 a.block
  .exact R ht
  .rw[Q ht,hl.same v hp]
 have j:=d.copy hl hs rF hc;have β:=hT.same (λ_ h=>h) same;obtain⟨κ,hn,hD⟩:=boxes_of_textC β
 have I:aF (VR (idS Z)) #[y] #[y]:=aF.same λv p=>by
  simp at p;rw[p];exact pure_self (λb hb=>⟨rfl,hb⟩) hT.pure
 have L:∀g,g∈glX->idS Z g g:=λg hg=>⟨rfl,d.globs g hg⟩
 have tree:Tree prog (RX H) (Frame.enter prog 88 #[y] .normal) [] H:=by
  refine pz (C:=cfgX) (K:=λ_=>False) (st:=False) trivial plainX twinX (.inr ⟨λ_ h=>h,λh=>h⟩) rfl (λ_=>rfl)
   ⟨idS Z,Frame.enter prog 88 #[y] .normal,[],H,⟨FR.enter plainX (by exact List.mem_of_elem_eq_true (show lX.contains 88=true by kernel_rfl)) (by simp[cfgX]) I L,.inl rfl,trivial,⟨λh=>absurd rfl h,λ_=>⟨rfl,rfl,λh=>by cases h⟩⟩⟩,r⟩ λT=>?_
  refine(text_any y n D (ay H T) κ (text_size hn hD) (by omega) (by omega) ⟨j.size,j.pow,j.utf,j.db64⟩).mono ?_;rintro e w' ⟨⟨s,rfl,_⟩,hb⟩;exact⟨⟨s,rfl⟩,λc hc=>hb.block c hc⟩
 obtain⟨c,hb,ε,γ,k,m⟩:=text_body;have M:Frame.enter prog 88 #[y] .normal=(base 88).at ⟨#[y]++Array.replicate (Func.ntmps f88-(#[y]:Array Value).size) undef,[]⟩ [.code c]:=enter_at _ fn_text hb
 have A:Live cfgXr prog (idS Z) (Frame.enter prog 88 #[y] .normal) [] (Frame.enter prog 88 #[y] .normal) []:=by
  rw[M];refine⟨⟨⟨_,fn_text⟩,TmR.of ?_,aU.of ε (λ_ hy=>by cases hy),rfl,rfl,rfl,?_,λ_=>?_,λ_=>trivial,(λe=>by cases e),L⟩,.inl rfl,trivial,⟨λh=>absurd rfl h,λ_=>⟨rfl,rfl,λ_=>rfl⟩⟩⟩
  .refine aF.append I (aF.same λv p=>?_)
   rw[(Array.mem_replicate.1 p).2];exact VR.undef
  .simp only[Frame.at,List.map_cons,List.map_nil,sgI,γ]
  .show(#[y]++Array.replicate _ undef).getD 1000000 undef=undef
   rw[ZY,Array.getElem?_eq_none (by rw[Array.size_append,Array.size_replicate];simp)];simp
 have υ:IvT u Z (idS Z) u:=⟨⟨rfl,rfl,rfl,ZL _⟩,λb c h _=>⟨h.1,h.1▸h.2⟩,λ_ _ _=>rfl⟩;obtain⟨N,ψ,u1,V,t1,q1,p1,a1,b1,w1,r1,r2,l,Y,φ,Γ,⟨⟨X,i2,i3,i4⟩,i6,i7⟩,B,hext⟩:=drive_leaf (C:=cfgXr) (Iv:=IvT u Z) (λ_ _ _ h=>h) ivT_step trivial plainXr twinX (.inr λh=>h) (λ_=>rfl) rfl (cs:=b::bs) tree (idS Z) _ [] gs u sl t q S A τ h0 hF (λb c h=>h.1▸σ _ h.2) υ;obtain⟨m1,_,_,fn,T,v,f1,f2,⟨s,rfl⟩,f3⟩:=B;obtain⟨ο,ν,μ⟩:=l.deep.2 rfl;have O:a1.fn=88:=μ rfl;rw[O,fn_text]at f1;cases f1;have ζ:=l.fr.mode.trans m1;have ξ:=l.fr.fn.trans O
 have hval:∀(x:Array Value) (w:World),(results f88 x).runT prog w #[]=(.ok (x.getD k undef) w,#[]):=λx w=>by
  rw[Sem.runT_eq,results_tmp m,events_results_tmp m]
 have p:Value.string s=a1.tmps.getD k undef:=by
  rw[<-Sem.runT_fst _ _ _ #[],hval]at f2;simp only[Result.ok.injEq,and_true]at f2;exact f2.symm
 have α:b1.tmps.getD k undef=.string s:=by
  have:=(l.fr.tmps.get k).resolve_left λh=>by cases h.2
  rw[<-p]at this;exact this.bO
 have kb:=ν;have rb:b1.roundOf=none:=by rw[l.fr.same];exact l.fr.ra
 have ι:=ο
 have J:aC prog true (λ_=>False) (λg _ _=>g=df (b.finish (.string s)) bs) (df b1 (b::bs)) u1 (λ_=>False):=by
  refine aC.ctl (g':=df (b.finish (.string s)) bs) rfl (λaz=>?_) (aC.stop λ_ _=>rfl);have θ:prog.funcs[b1.fn]? =some f88:=by rw[ξ];exact fn_text
  have δ:(results f88 b1.tmps).run prog az=.ok (.string s) az:=by
   have:=hval b1.tmps az;rw[Sem.runT_eq,Prod.mk.injEq]at this;rw[this.1,α]
  have e:df b1 (b::bs)=G {b1.at ⟨b1.tmps,[]⟩ b1.todo with mode:=.returning} (b::bs):=by
   obtain⟨fn,tmps,todo,defers,mode,kind,ro⟩:=b1;subst ζ ι rb;rfl
  rw[e];exact stepG_leave (b:=b1) (a:=⟨b1.tmps,[]⟩) kb rfl θ δ (events_results_tmp m _ _)
 obtain⟨N2,χ,g2,u2,U,t2,q2,M2,x1,x2,rfl,x4,F⟩:=drive0 J ψ V t1 q1 φ r2 (λc h=>h.elim (λh=>h.elim) λh=>h.elim)
 have z:∀c,c<u.heap.size->u1.heap[c]? =u.heap[c]?:=λc o=>by
  by_cases P:T8 c
  .obtain⟨xs,e,g,g1,g2⟩:=d.tabs c P
   have R:=rT c xs e g P g1;have Q:w1.heap[c]? =H.heap[c]?:=f3 c (by rw[hs];exact o);obtain⟨ω,ys,e',f,g',k1,k2,k3,_,k5⟩|⟨_,_,_,k1,_⟩|⟨_,_,_,k1,_⟩:=Y.rows c c (hext _ _ ⟨rfl,d.globs _ (t8_glX P)⟩)
   .rw[Q,R]at k1
    simp at k1;obtain⟨rfl,rfl,rfl⟩:=k1;obtain rfl:=k5 λhk=>hk.2 P
    have:ys=xs:=by
     refine Array.ext k3.1.symm λi X i2=>?_
     have:=k3.2 i xs[i] ys[i] (ZM i2) (ZM X);obtain⟨kd,n,hx⟩:=g2 xs[i] (by simp);rw[hx]at this⊢;exact this.bT
    rw[k2,g1,this]
   .rw[Q,R]at k1;cases k1
   .rw[Q,R]at k1;cases k1
  .exact i7 c o P
 refine⟨N+N2,χ,u2,U,t2,q2,s,?_,x2,x4,F.tape.trans X,F.os.trans i2,F.output.trans i3,ZP i4 F.size,λc o=>(F.keep c (ZO o i4) (λh=>h)).trans (z c o)⟩;rw[runNT_add,r1];exact x1
end
section
open Go Go.Conc Go.ConcN Go.RowKit Go.Conc.Lib
attribute [local go_sem ↓] Go.wp_at_zero Go.wp_at_succ
attribute [local go_sem] After.cell After.frozen After.const
theorem wp_region_tape {P}{id}{ops}{Q}{a}{w}(c:∀j q,w.tape j q=0)
 (h:wpOps P ops Q (Region.schedule (P.follows .mixedOrders) ops 0) a w.drew):(Code.region id ops true).wp P Q a w:=λb k cs=>by
 obtain⟨e,a',w',q,r⟩:=wp_ops _ a _ h b k cs;refine⟨e,a',w',q,.of_steps (.one ?_) r⟩;have hs:=step_region_draw (P:=P) (b:=b) (a:=a) (k:=k) (cs:=cs) (id:=id) (ops:=ops) (w:=w);rw[c]at hs;exact hs
theorem wp_coin {P}{t}{id}(b:t=22\/t=23\/t=1){Q}{a}{w}(c:∀j q,w.tape j q=0)
 (h:Q .normal ((a.put (some t) (.bool true)).put (some t) (.bool false)) w.drew):(Code.region id (CO t) true).wp P Q a w:=by
 refine wp_region_tape c ?_;have hs:Region.schedule (P.follows .mixedOrders) (CO t) 0=[0,1]:=(sched0 (P.follows .mixedOrders) t b).1;rw[hs];have e:(CO t)[0]? =some (bg (some t) (.move (.const (.bool true)))):=rfl;have d:(CO t)[1]? =some (bg (some t) (.move (.const (.bool false)))):=rfl;have hw:∀(v:Value) y,Region.wanted (bg (some t) (.move (.const v))) y=true:=λ_ _=>rfl
 simp only[wpOps,e,d,hw,if_true];exact .inl (.inl h)
theorem textL_any (x0)(w)(a:∀j q,w.tape j q=0):Calls (patch ae prog) 88 #[x0] w fun|.returned v,w'=>v=.nilFunc/\w'.heap=w.heap|_,_=>False:=by
 refine calls_of_wp ptext lh ?_;have hp:(#[x0]:Array Value)++Array.replicate ((textS 342 f88).ntmps-(#[x0]:Array Value).size) undef= #[x0,undef,undef]:=rfl;rw[hp];unfold bodyT;refine wp_seq (wp_coin (.inr (.inr rfl)) a ?_);simp only[Exit.then,Act.put,ZN,ZS,ZR];refine wp_seq (wp_cond_false rfl (wp_skip ?_));simp only[Exit.then];refine wp_seq (wp_region ?_);have c:(#[bg (some 2) (.move (.const .nilFunc))]:Array Oper)[0]? =some (bg (some 2) (.move (.const .nilFunc))):=rfl;have b:List.range (#[bg (some 2) (.move (.const .nilFunc))]:Array Oper).size=[0]:=rfl;have hw:∀(v:Value) y,Region.wanted (bg (some 2) (.move (.const v))) y=true:=λ_ _=>rfl
 rw[b];simp only[wpOps,c,hw,if_true];refine .inl ?_;refine wp_ret ?_;refine⟨rfl,.nilFunc,?_,rfl,rfl⟩;rw[results_tmp (t:=2) rfl];rfl
theorem WR.lone {G}{K}{st}{p:Rel st}{w a u}(h:WR G K p w u)(e:a.heap=w.heap):WR G K p a u:=
 ⟨h.fit,λb c d=>by have:=h.rows b c d;unfold Mate at this⊢;rw[e];exact this,h.kin,h.low,by rw[e];exact h.big⟩
def IvX (u0:World)(p:Rel True)(u:World):Prop:=
 (u.tape=u0.tape/\u.os=u0.os/\u.output=u0.output/\u0.heap.size<=u.heap.size)/\(∀b c,p b c->c<u0.heap.size->b=c/\CB u0 c)/\(∀c,CB u0 c->p c c)/\∀c,c<u0.heap.size->u.heap[c]? =u0.heap[c]?
theorem ivX_at {u0}:∀p u d,IvX u0 p u->IvX u0 p (u.at d):=λ_ _ _ h=>h
theorem ivX_step {u0}:∀p q u u',IvX u0 p u->dE (CB u0) p q u u'->IvX u0 q u':=by
 intro p q u u' ⟨⟨k,j,i,h⟩,a,f,e⟩ g;refine⟨⟨g.tape.trans k,g.os.trans j,g.output.trans i,ZP h g.size⟩,λb c d hc=>?_,λc hc=>g.ext _ _ (f c hc),λc hc=>?_⟩
 .by_cases hp:p b c
  .exact a b c hp hc
  .have:=g.fresh b c d hp;omega
 .exact(g.keep c (by omega) λb hb=>(a b c hb hc).2).trans (e c hc)
theorem cell_old {u0 u:World}(h:∀c,c<u0.heap.size->u.heap[c]? =u0.heap[c]?){a}{v}(b:u0.cell? a=some v):u.cell? a=some v:=by
 have hl:a.block<u0.heap.size:=block_lt_of_cell b;unfold World.cell? at b⊢;rw[h _ hl];exact b
theorem cb_lt {w}{c}(h:CB w c):c<w.heap.size:=let ⟨_,_,_,h⟩:=h;(ZK.1 h).1
theorem cb_lone {K}{st}{p:Rel st}{w u}{G b c}(hw:WR G K p w u)(hp:p b c)(h:CB u c):CB w b:=by
 obtain⟨xs,e,g,hb⟩:=h;obtain⟨d,ys,j,f,g',i,a,_⟩|⟨_,_,_,_,a,_⟩|⟨_,_,_,_,a,_⟩:=hw.rows b c hp
 .exact⟨d,j,f,i⟩
 .rw[hb]at a;cases a
 .rw[hb]at a;cases a
theorem envX_of {u0 u w}{p}{K}{G}(h:EnvX u0 (CB u0))(q:IvX u0 p u)(hw:WR G K p w u):EnvX u (Img p u (CB w)):=by
 obtain⟨⟨o,i2,i3,i4⟩,i5,k,i⟩:=q;have hb:Below u0.heap.size u0 u:=⟨i2,o,i3,i4,i⟩
 have l:∀c,CB u0 c->Img p u (CB w) c:=λc hc=>by
  have d:CB u c:=by
   obtain⟨xs,e,g,m⟩:=hc;exact⟨xs,e,g,(i c (cb_lt ⟨xs,e,g,m⟩)).trans m⟩
  exact⟨d,c,k c hc,cb_lone hw (k c hc) d⟩
 refine⟨h.env.ext hb,λg b=>?_,λg b=>?_,λg b=>l g (h.globs g b)⟩
 .obtain⟨t,a,k1,j,n⟩:=h.err g b
  exact⟨t,a,cell_old i k1,j,l _ n⟩
 .obtain⟨xs,e,f,k1,j⟩:=h.tabs g b
  exact⟨xs,e,f,(i g (cb_lt ⟨xs,e,f,k1⟩)).trans k1,j⟩
theorem edgeT {u0}(O:EnvX u0 (CB u0)){C C0}{R}(hC:j6 C)(P:88∉C0.sp)(k:∀f,f∈C0.sp->f=340\/f=341\/f=342)(K:∀f,f∈C0.sp->f∉C.fns/\f≠C.root)(J:C.jh=true)
 {x y}{a}{fs}{b}{bs}{w u}{gs}{sl}{t}{q}{S}{p}
 (Y:bI (patch ae prog) C0 R JJ (Frame.enter (patch ae prog) 88 x .normal) (a::fs) w)(j:aF (VR p) x y)(hx:x.size=1)(r:CR C (patch ae prog) p (a::fs) (b::bs))(hw:WR (patch ae prog).globals.size (CB u0) p w u)(hF:ni prog S gs u.heap.size t q)
 (h0:gs[0]? =some (df (Frame.enter prog 88 y .normal) (b::bs)))(Z:∀b c,p b c->¬S c)(B:IvX u0 p u):
 ∃N m' F n s',runNT prog N (crowd gs u sl) t=(.next m',F)/\Down (patch ae prog) C0 n ⟨Frame.enter (patch ae prog) 88 x .normal,a::fs,w⟩ s'/\Runs C (patch ae prog) prog (CB u0) (IvX u0) s' m' F:=by
 obtain⟨x0,rfl⟩:=ji hx;obtain⟨n,D,hT⟩:=(learnT P Y).2.2 rfl;have M:je w (CB w) x0 n D:=hT;obtain⟨V,rfl⟩:=ji (j.1.symm.trans hx);have L:je u (Img p u (CB w)) V n D:=M.carry hw (λ_ h=>h) (j.2 0 x0 V rfl rfl);obtain⟨N,Q,u',G,F,q',s,r1,r2,r3,r4,r5,r6,X,W⟩:=text_company (sl:=sl) (λc hc=>hc.1) (λc ⟨_,b,hb,_⟩=>Z b c hb) (envX_of O B hw) L hF h0
 have A:∀f x fs w,f∈C0.sp->¬bI (patch ae prog) C0 R JJ (Frame.enter (patch ae prog) f x .normal) fs w:=λf x fs w hf=>by
  rcases k f hf with rfl|rfl|rfl
  .exact(ig x w).lZ fs
  .exact(gH x w).lZ fs
  .exact(gG x w).lZ fs
 have z:∀f x fs cs w n fr w',f∈C0.sp->(∀y∈fs,y.mode=.run/\y.defers=[]/\∃fn,(patch ae prog).funcs[y.fn]? =some fn)->runN (patch ae prog) n (lone (Frame.enter (patch ae prog) f x .normal) (fs++[stop (patch ae prog)]) w)=.next (lone fr cs w')->fr.mode≠.returning:=λf x fs cs w n fr w' hf g H=>by
  rcases k f hf with rfl|rfl|rfl
  .exact(ig x w).lost fs g H
  .exact(gH x w).lost fs g H
  .exact(gG x w).lost fs g H
 have o:∀v f x,f∈C0.sp->a.finish v≠Frame.enter (patch ae prog) f x .normal:=λv f x hf e=>by
  have h1:=congrArg Frame.fn e;rw[(oU a v).1]at h1;have E:a.fn=f:=h1;obtain⟨n1,n2⟩:=K f hf;obtain⟨_,_,_,d⟩:=r.1
  by_cases m:fs=[]
  .exact n2 (E.symm.trans ((d.2 m).2.2 J))
  .exact n1 (E▸(d.1 m).2.2.1)
 obtain⟨n,v,w',⟨rfl,g1⟩,hd⟩:=down_calls (C0:=C0) A z (T:=λ_ _=>0) Y rfl o (textL_any x0 (ay w λ_ _=>0) (λ_ _=>rfl));obtain⟨⟨I,l,i,d⟩,hcs⟩:=r;have U:w'.heap=w.heap:=g1;obtain⟨⟨i1,i2,i3,i4⟩,i5,i6,i7⟩:=B;refine⟨N,_,F,n,_,r1,hd,p,b.finish (.string s),bs,Q,u',G,q',S,rfl,r2,⟨?_,.inl ((jd _ _).trans l),hcs,d.finish _ _⟩,?_,r3,Z,⟨r4.trans i1,r5.trans i2,r6.trans i3,ZP i4 X⟩,i5,i6,λc hc=>(W c (ZO hc i4)).trans (i7 c hc)⟩
 .exact I.finish hC (VR.gU rfl) i
 .exact(hw.lone U).keep (λb c h=>W c (hw.lt h).2) X
end
namespace Z
open Go.RowKit
attribute [local go_sem ↓] Go.wp_at_zero Go.wp_at_succ
attribute [local go_sem] After.cell After.frozen After.const
theorem judgeL_any (D)(B)(c)(w)(hb:aW w B D)(a:D.ok)(b:∀j q,w.tape j q=0):
 Calls (patch ae prog) 42 #[ptr B,.agg (aQ c)] w fun|.returned v,w'=>dm (λi=>vdB D i (c i)) c w v w'|_,_=>False:=by
 refine calls_of_wp pjudge jK ?_
 have hp:(#[ptr B,.agg (aQ c)]:Array Value)++Array.replicate ((eD 340 f42).ntmps-(#[ptr B,.agg (aQ c)]:Array Value).size) undef= #[ptr B,.agg (aQ c),undef,undef,undef,undef,undef,undef,undef,undef,undef,undef,undef,undef,undef,undef,undef,undef,undef,undef,undef,undef,undef,undef,undef,undef,undef,undef]:=by
  rw[ntmpsJL];simp only[List.size_toArray,List.length_cons,List.length_nil,Nat.reduceAdd,Nat.reduceSub,Array.replicate_succ,Array.replicate_zero,List.push_toArray,List.append_toArray,List.cons_append,List.nil_append]
 rw[hp];have d:=judgeR_any D B c (.bool false) (.bool false) w.drew.drew (hb.same (λ_ h=>h) λ_ _ h=>h) a;have e:∀v w',dm (λi=>vdB D i (c i)) c w.drew.drew v w'->dm (λi=>vdB D i (c i)) c w v w':=λv w' h=>h
 generalize rest4 ((eD 340 f42).body.getD .skip)=c4 at d⊢;refine wp_seq (wp_coin (.inl rfl) b ?_);simp only[Exit.then,Act.put,ZN,ZS,ZR];refine wp_seq (wp_cond_false rfl (wp_skip ?_));simp only[Exit.then];refine wp_seq (wp_coin (.inr (.inl rfl)) (λj q=>b j q) ?_);simp only[Exit.then,Act.put,ZN,ZS,ZR];refine wp_seq (wp_cond_false rfl (wp_skip ?_));simp only[Exit.then];exact d
end Z
