/- Part 15 of the proof. -/
import Derived.Test.YtfpaamhppamcoaaGreatDoorSp14
import Derived.Deep.LoopGhost
set_option linter.all false
set_option maxRecDepth 100000
set_option maxHeartbeats 60000000
namespace Go.Proofs.YtfpaamhppamcoaaGreatDoor
open Go.Proofs.Tryz
namespace Z
open Go.RowKit
attribute [local go_sem ↓] Go.wp_at_zero Go.wp_at_succ
attribute [local go_sem] After.cell After.frozen After.const
def dO (w:World)(v:Value)(n:Nat)(S N C:Nat->Int):Prop:=∃ao cap,v=.slice ao n cap/\n<=cap/\n<=24/\(0<n->∃b o,ao=some ⟨b,o,none⟩/\∀i,i<n->w.cell? ⟨b,o+i*3,none⟩=some (.int .i64 (S i))/\w.cell? ⟨b,o+i*3+1,none⟩=some (.int .i64 (N i))/\w.cell? ⟨b,o+i*3+2,none⟩=some (.int .i64 (C i)))
theorem dO.keep {w w'}{v}{n}{S N C}(h:dO w v n S N C)(hc:∀a x,w.cell? a=some x->w'.cell? a=some x):dO w' v n S N C:=by
 obtain⟨ao,cap,rfl,k,j,g⟩:=h;refine⟨ao,cap,rfl,k,j,λd=>?_⟩;obtain⟨b,o,rfl,f⟩:=g d;exact⟨b,o,rfl,λi e=>let ⟨a,l,c⟩:=f i e;⟨hc _ _ a,hc _ _ l,hc _ _ c⟩⟩
theorem dO.below {w w'}{v}{n}{S N C}(h:dO w v n S N C)(hb:Below w.heap.size w w'):dO w' v n S N C:=dO.keep h λ_ _ hx=>keeps hb hx
def boolV (f:Nat->Bool)(i:Nat):Value:=.bool (f i)
theorem bJ {w1 w3}{o}{b:Nat}(hb:Below w1.heap.size w1 w3)(h:w1.heap[b]? =some o):w3.heap[b]? =some o:=(hb.block _ (ZK.1 h).1).trans h
structure aX (w:World)(ob tb n:Nat)(vc:Value)(op:Nat->Bool)(wt:Int)(tk:List Nat):Prop where
 hd:∃vt,w.heap[tb]? =some (.cells #[vc,.slice (some ⟨ob,0,none⟩) n n,.int .i64 wt,vt] 235 (0,0))/\w.ownsRow (tb+1) 3 1 vt tk.length (aT tk)
 open_:w.rowIs ob 4 n (boolV op)
 apart:ob<tb/\(tk=[]->w.cell? ⟨tb,3,none⟩=some (.slice none 0 0))
theorem aX.below {w w'}{b tb n}{vc}{op}{a}{tk}(h:aX w b tb n vc op a tk)(hb:Below w.heap.size w w'):aX w' b tb n vc op a tk:=by
 obtain⟨⟨f,i,g⟩,d,c⟩:=h;exact⟨⟨f,bJ hb i,au g hb⟩,d.of_block (hb.block _ d.lt),c.1,λe=>keeps hb (c.2 e)⟩
theorem placeS_any (S N C:Nat->Int)(i)(w):Calls (patch ae prog) 169 #[.agg #[.int .i64 (S i),.int .i64 (N i),.int .i64 (C i)]] w λe w'=>e=.returned (.int .i64 (S i))/\Below w.heap.size w w':=by
 go_enter (pf func169 (by rfl)),ntmps169
 go_wp2_with fail;go_ret;exact⟨rfl,(aab _ _).alloc (ZL _) _⟩
theorem placeC_any (S N C:Nat->Int)(i)(w):Calls (patch ae prog) 170 #[.agg #[.int .i64 (S i),.int .i64 (N i),.int .i64 (C i)]] w λe w'=>e=.returned (.int .i64 (C i))/\Below w.heap.size w w':=by
 go_enter (pf func170 (by rfl)),ntmps170
 go_wp2_with fail;go_ret;exact⟨rfl,(aab _ _).alloc (ZL _) _⟩
def bN (n:Nat)(f:Nat->Int)(p:Int):List Nat:=(List.range n).filter λi=>f i==p
theorem memN_hit {n}{f}{p}(h:f n=p):bN (n+1) f p=bN n f p++[n]:=by
 unfold bN;rw[Z6,aaj];simp[h]
theorem memN_miss {n}{f}{p}(h:f n≠p):bN (n+1) f p=bN n f p:=by
 unfold bN;rw[Z6,aaj];simp[h]
theorem memN_le (n)(f)(p):(bN n f p).length<=n:=by
 unfold bN;exact ZP (aai _ _) (by simp)
theorem membersS_any (D tb n)(vc)(S N C)(op)(A p)(tk)(w)(E:aX w D tb n vc op A tk)(hc:dO w vc n S N C):
 Calls (patch ae prog) 193 #[.pointer (some ⟨tb,0,none⟩),.int .i64 p,.func (.func 169) #[] #[]] w λe w'=>∃v,e=.returned v/\w'.ownsRow w.heap.size 3 1 v (bN n S p).length (aT (bN n S p))/\Below w.heap.size w w':=by
 obtain⟨ao,cap,rfl,P,O,x⟩:=hc;obtain⟨⟨I,k1,_⟩,_,_⟩:=E;obtain⟨t0,B⟩:=blk k1;obtain⟨i0,H,r,m,l⟩:=info_parts Tryz.gQ;have hu:=((ax ae prog 23).trans underlying23);have H3:Hid (0<n->∃b o,ao=some ⟨b,o,none⟩/\∀i,i<n->w.cell? ⟨b,o+i*3,none⟩=some (.int .i64 (S i))/\w.cell? ⟨b,o+i*3+1,none⟩=some (.int .i64 (N i))/\w.cell? ⟨b,o+i*3+2,none⟩=some (.int .i64 (C i))):=x;clear x k1
 go_enter (pf func193 (by rfl)),ntmps193
 go_wp2_with fail
 go_loopw [7,15] (λv i wr=>∃j:Nat,j<=n/\i=.int .i64 j/\wr.ownsRow w.heap.size 3 1 v (bN j S p).length (aT (bN j S p))/\Below w.heap.size w wr) (λ_ i _=>n-(intOf i).toNat)
 case atStart=>exact⟨0,by omega,rfl,by simpa[bN,aT] using aag _ _ _ _,aab _ _⟩
 case round=>
  obtain⟨j,M,rfl,a,hb⟩:=hrel;obtain⟨vo,h,rfl⟩:=aj a;have g:Hid (wr.ownsRow w.heap.size 3 1 (.slice vo (bN j S p).length h) (bN j S p).length (aT (bN j S p))/\Below w.heap.size w wr):=⟨a,hb⟩;have hle:=memN_le j S p;have t:w.heap.size<=wr.heap.size:=hb.size;clear a hb
  by_cases s:j<n
  .obtain⟨b,o,rfl,hc⟩:=H3.out (by omega)
   obtain⟨c0,y,c2⟩:=hc j s;have L:=keeps g.out.2 c0;have K:=keeps g.out.2 y;have J:=keeps g.out.2 c2;have jn:(j:Int)< (n:Int):=(by omega);clear hc c0 y c2
   by_cases hp:S j=p
   .have k:=av hp
    clear hp
    go_wp2_with(first
     |(at_builtin;refine wpList_append_own _ rfl _ _ _ rfl w.heap.size 3 i0 _ 1 8 hu H r m l rfl (by omega) _ (bN j S p).length (aT (bN j S p)) rfl (c.out.1.alloc _) ⟨w1.heap.size,0,none⟩ 1 1 [.int .i64 j] rfl rfl (cell_one_new _ _ _) (by intro u hu;simp at hu;subst hu;rfl) (by unfold maxLen;omega) (by omega) (by have:=c.out.2.2;simp;omega) ?_;intro v' w2 a f _)
     |(go_at_call 169;refine(placeS_any S N C j _).mono ?_;rintro e w1 ⟨rfl,d⟩;rw[k.out];have c:Hid (w1.ownsRow w.heap.size 3 1 (.slice vo (bN j S p).length h) (bN j S p).length (aT (bN j S p))/\Below w.heap.size w w1/\w.heap.size<=w1.heap.size):=⟨au (g.out.1.alloc _) d,(g.out.2.alloc t _).trans (d.mono (by simp;omega)),ZP (by simp;omega) d.size⟩;clear d))
    have z:Hid (w2.ownsRow w.heap.size 3 1 v' (bN (j+1) S p).length (aT (bN (j+1) S p))/\Below w.heap.size w w2):=by
     refine⟨?_,(c.out.2.1.alloc c.out.2.2 _).grown f (by have:=c.out.2.2;simp;omega) (λq F=>(c.out.1.lt q F).1)⟩;rw[memN_hit k.out];simpa[aT] using a
    clear a f;go_wp2_with fail;go_roundw
    case rel=>exact⟨j+1,by omega,by go_num,z.out.1,z.out.2⟩
    case measure=>simp[intOf];omega
   .have k:=av hp
    have G:(S j==p)=false:=beq_eq_false_iff_ne.2 hp;go_wp2_with(go_at_call 169;refine(placeS_any S N C j _).mono ?_;rintro e w1 ⟨rfl,d⟩;have c:Hid (w1.ownsRow w.heap.size 3 1 (.slice vo (bN j S p).length h) (bN j S p).length (aT (bN j S p))/\Below w.heap.size w w1):=⟨au (g.out.1.alloc _) d,(g.out.2.alloc t _).trans (d.mono (by simp;omega))⟩;clear d);go_roundw
    case rel=>exact⟨j+1,by omega,by go_num,by rw[memN_miss k.out];exact c.out.1,c.out.2⟩
    case measure=>simp[intOf];omega
  .have:j=n:=by omega
   subst this;go_wp2_with fail;go_ret;exact⟨_,rfl,g.out.1,g.out.2⟩
theorem membersC_any (D tb n)(vc)(S N C)(op)(A p)(tk)(w)(E:aX w D tb n vc op A tk)(hc:dO w vc n S N C):
 Calls (patch ae prog) 193 #[.pointer (some ⟨tb,0,none⟩),.int .i64 p,.func (.func 170) #[] #[]] w λe w'=>∃v,e=.returned v/\w'.ownsRow w.heap.size 3 1 v (bN n C p).length (aT (bN n C p))/\Below w.heap.size w w':=by
 obtain⟨ao,cap,rfl,P,O,x⟩:=hc;obtain⟨⟨I,k1,_⟩,_,_⟩:=E;obtain⟨t0,B⟩:=blk k1;obtain⟨i0,H,r,m,l⟩:=info_parts Tryz.gQ;have hu:=((ax ae prog 23).trans underlying23);have H3:Hid (0<n->∃b o,ao=some ⟨b,o,none⟩/\∀i,i<n->w.cell? ⟨b,o+i*3,none⟩=some (.int .i64 (S i))/\w.cell? ⟨b,o+i*3+1,none⟩=some (.int .i64 (N i))/\w.cell? ⟨b,o+i*3+2,none⟩=some (.int .i64 (C i))):=x;clear x k1
 go_enter (pf func193 (by rfl)),ntmps193
 go_wp2_with fail
 go_loopw [7,15] (λv i wr=>∃j:Nat,j<=n/\i=.int .i64 j/\wr.ownsRow w.heap.size 3 1 v (bN j C p).length (aT (bN j C p))/\Below w.heap.size w wr) (λ_ i _=>n-(intOf i).toNat)
 case atStart=>exact⟨0,by omega,rfl,by simpa[bN,aT] using aag _ _ _ _,aab _ _⟩
 case round=>
  obtain⟨j,M,rfl,a,hb⟩:=hrel;obtain⟨vo,h,rfl⟩:=aj a;have g:Hid (wr.ownsRow w.heap.size 3 1 (.slice vo (bN j C p).length h) (bN j C p).length (aT (bN j C p))/\Below w.heap.size w wr):=⟨a,hb⟩;have hle:=memN_le j C p;have t:w.heap.size<=wr.heap.size:=hb.size;clear a hb
  by_cases s:j<n
  .obtain⟨b,o,rfl,hc⟩:=H3.out (by omega)
   obtain⟨c0,y,c2⟩:=hc j s;have L:=keeps g.out.2 c0;have K:=keeps g.out.2 y;have J:=keeps g.out.2 c2;have jn:(j:Int)< (n:Int):=(by omega);clear hc c0 y c2
   by_cases hp:C j=p
   .have k:=av hp
    clear hp
    go_wp2_with(first
     |(at_builtin;refine wpList_append_own _ rfl _ _ _ rfl w.heap.size 3 i0 _ 1 8 hu H r m l rfl (by omega) _ (bN j C p).length (aT (bN j C p)) rfl (c.out.1.alloc _) ⟨w1.heap.size,0,none⟩ 1 1 [.int .i64 j] rfl rfl (cell_one_new _ _ _) (by intro u hu;simp at hu;subst hu;rfl) (by unfold maxLen;omega) (by omega) (by have:=c.out.2.2;simp;omega) ?_;intro v' w2 a f _)
     |(go_at_call 170;refine(placeC_any S N C j _).mono ?_;rintro e w1 ⟨rfl,d⟩;rw[k.out];have c:Hid (w1.ownsRow w.heap.size 3 1 (.slice vo (bN j C p).length h) (bN j C p).length (aT (bN j C p))/\Below w.heap.size w w1/\w.heap.size<=w1.heap.size):=⟨au (g.out.1.alloc _) d,(g.out.2.alloc t _).trans (d.mono (by simp;omega)),ZP (by simp;omega) d.size⟩;clear d))
    have z:Hid (w2.ownsRow w.heap.size 3 1 v' (bN (j+1) C p).length (aT (bN (j+1) C p))/\Below w.heap.size w w2):=by
     refine⟨?_,(c.out.2.1.alloc c.out.2.2 _).grown f (by have:=c.out.2.2;simp;omega) (λq F=>(c.out.1.lt q F).1)⟩;rw[memN_hit k.out];simpa[aT] using a
    clear a f;go_wp2_with fail;go_roundw
    case rel=>exact⟨j+1,by omega,by go_num,z.out.1,z.out.2⟩
    case measure=>simp[intOf];omega
   .have k:=av hp
    have G:(C j==p)=false:=beq_eq_false_iff_ne.2 hp;go_wp2_with(go_at_call 170;refine(placeC_any S N C j _).mono ?_;rintro e w1 ⟨rfl,d⟩;have c:Hid (w1.ownsRow w.heap.size 3 1 (.slice vo (bN j C p).length h) (bN j C p).length (aT (bN j C p))/\Below w.heap.size w w1):=⟨au (g.out.1.alloc _) d,(g.out.2.alloc t _).trans (d.mono (by simp;omega))⟩;clear d);go_roundw
    case rel=>exact⟨j+1,by omega,by go_num,by rw[memN_miss k.out];exact c.out.1,c.out.2⟩
    case measure=>simp[intOf];omega
  .have:j=n:=by omega
   subst this;go_wp2_with fail;go_ret;exact⟨_,rfl,g.out.1,g.out.2⟩
theorem allOpen_any (z tb n)(vc v)(op)(t)(tk l:List Nat)(w)(A:aX w z tb n vc op t tk)(hl:Ints w v l.length (λj=>((l[j]?.getD 0:Nat):Int)))(m:∀i∈l,i<n)(_:n<=24):
 Calls (patch ae prog) 194 #[.pointer (some ⟨tb,0,none⟩),v] w λe w'=>e=.returned (.bool (l.all op))/\w'=w:=by
 obtain⟨ao,cap,rfl,G,F,r⟩:=hl;obtain⟨⟨D,k1,_⟩,d,_⟩:=A;obtain⟨t0,u⟩:=blk k1;have H3:Hid (0<l.length->∃b o,ao=some ⟨b,o,none⟩/\gM w b o l.length (λj=>((l[j]?.getD 0:Nat):Int))):=r;have B:=av d;clear r k1 d
 go_enter (pf func194 (by rfl)),ntmps194
 go_wp2_with fail
 go_loopw [9] (λi wr=>∃j:Nat,j<=l.length/\i=.int .i64 j/\wr=w/\(l.take j).all op=true) (λi _=>l.length-(intOf i).toNat)
 case atStart=>exact⟨0,by omega,rfl,rfl,by simp⟩
 case round=>
  obtain⟨j,E,rfl,hw,a⟩:=hrel;subst hw;have q:=av a;clear a
  by_cases f:j<l.length
  .obtain⟨x,hx⟩:∃x,l[j]? =some x:=⟨_,ZT f⟩
   have k:x<n:=m x (aak hx);obtain⟨H,ol,rfl,g⟩:=H3.out (by omega);have y:=g j f;simp only[hx,Option.getD_some]at y;have h:=B.out.cell k;simp only[boolV]at h;have s:=av hx;have jn:(j:Int)< (l.length:Int):=(by omega);have C:(x:Int)< (n:Int):=(by omega);clear g hx;cases c:op x
   .rw[c]at h
    have p:=av c;clear c;go_wp2_with fail;go_ret
    have:l.all op=false:=by
     rw[List.all_eq_false];exact⟨x,aak s.out,by rw[p.out];simp⟩
    exact⟨by rw[this];rfl,rfl⟩
   .rw[c]at h
    have p:=av c;clear c;go_wp2_with fail;go_roundw
    case rel=>exact⟨j+1,by omega,by go_num,by trivial,by rw[List.take_add_one,s.out,List.all_append,q.out];simp[p.out]⟩
    case measure=>simp[intOf];omega
  .have:j=l.length:=by omega
   rw[this,List.take_length]at q;go_wp2_with fail;go_ret;exact⟨by rw[q.out];rfl,rfl⟩
def cu (op:Nat->Bool)(l:List Nat)(i:Nat):Bool:=op i&& !l.contains i
theorem aX.shut {w}{b tb n}{vc}{op}{d}{tk l:List Nat}{j x}(h:aX w b tb n vc (cu op (l.take j)) d tk)(hx:l[j]? =some x)(k:x<n):aX (w.setCell ⟨b,x,none⟩ (.bool false)) b tb n vc (cu op (l.take (j+1))) d tk:=by
 obtain⟨⟨g,p,o⟩,m,f⟩:=h;have c:=f.1;refine⟨⟨g,(aad _ _ _ _ (by show tb≠b;omega)).trans p,aaf o (by show b<tb+1;omega) _⟩,(m.set x _).congr λi _=>?_,c,λe=>(World.cell?_of_block (a:=⟨tb,3,none⟩) (aad _ _ _ _ (by show tb≠b;omega))).trans (f.2 e)⟩;unfold boolV cu;rw[List.take_add_one,hx]
 by_cases he:i=x
 .subst he;simp
 .rw[if_neg he];simp[he]
theorem aS {w:World}{base}{v}{n}{xs}{b i}{u}(h:w.ownsRow base 3 1 v n xs)(hb:b<base):(w.setCell ⟨b,i,none⟩ u).ownsRow base 3 1 v n xs:=aaf h hb _
theorem take_any (d tb n)(vc v)(op)(h)(tk l)(w)(K:aX w d tb n vc op h tk)(hl:w.ownsRow (tb+1) 3 1 v l.length (aT l))(M:∀i∈l,i<n)(_:n<=24)(hlen:l.length<=24)(L:0<l.length)(W:tk.length<=1000)(V:0<=h/\h<=1000):
 Calls (patch ae prog) 195 #[.pointer (some ⟨tb,0,none⟩),v] w λe w'=>∃u,e=.returned u/\aX w' d tb n vc (cu op l) (h-l.length) (tk++l)/\Below d w w':=by
 have HI:=av (dh hl)
 have HT:Hid (aX w d tb n vc (cu op (l.take 0)) h tk):=by
  have e:cu op (l.take 0)=op:=by funext i;simp[cu]
  rw[e];exact K
 have HL:=av hl;obtain⟨ao,cap,rfl⟩:=aj hl;obtain⟨i0,Z,I,H,G⟩:=info_parts Tryz.gQ;have hu:=((ax ae prog 23).trans underlying23);have N:=K.apart.1;clear hl K
 go_enter (pf func195 (by rfl)),ntmps195
 go_wp2_with fail
 go_loopw [5,8] (λ_ i wr=>∃j:Nat,j<=l.length/\i=.int .i64 j/\aX wr d tb n vc (cu op (l.take j)) h tk/\wr.ownsRow (tb+1) 3 1 (.slice ao l.length cap) l.length (aT l)/\Below d w wr) (λ_ i _=>l.length-(intOf i).toNat)
 case atStart=>exact⟨0,by omega,rfl,HT.out,HL.out,aab _ _⟩
 case round=>
  obtain⟨j,hj,rfl,P,a,hb⟩:=hrel;have p:=av (aaa P (aaa a hb));obtain⟨⟨vt,k1,D⟩,C,_⟩:=P;obtain⟨t0,R⟩:=blk k1;have B:=av (aaa k1 D)
  by_cases z:j<l.length
  .obtain⟨x,hx⟩:∃x,l[j]? =some x:=⟨_,ZT z⟩
   have t:x<n:=M x (aak hx);obtain⟨α,A,e,_,_,o⟩:=dh a;cases e;obtain⟨bl,ol,rfl,m⟩:=o (by omega);have U:=m j z;simp only[hx,Option.getD_some]at U;have q1:=C.cell t;have T:=C.frozen x;have HX:=av hx;have jn:(j:Int)< (l.length:Int):=(by omega);have xn:(x:Int)< (n:Int):=(by omega);clear o m hx k1 D C a hb;go_wp2_with fail;go_roundw
   case rel=>exact⟨j+1,by omega,by go_num,p.out.1.shut HX.out t,aS p.out.2.1 (by omega),p.out.2.2.setCell (ZL _) _⟩
   case measure=>simp[intOf];omega
  .have:j=l.length:=by omega
   subst this
   obtain⟨g,Q,e,hg⟩:∃g Q,ao=some ⟨g,0,none⟩/\Q=cap:=by
        rcases a.2 with⟨e,h0⟩|⟨g',A,cur,e,_⟩
        .omega
        .cases e;exact⟨g',_,rfl,rfl⟩
   subst e;have Y:(l.length:Int)<=24:=(by omega);obtain⟨tq,tc,rfl⟩:=aj D;have F:tb<wr.heap.size:=(ZK.1 k1).1;clear k1 D C hb a;go_wp2_with(at_builtin;refine wpList_append_own _ rfl _ _ _ rfl (tb+1) 3 i0 _ 1 8 hu Z I H G rfl (by omega) _ tk.length (aT tk) rfl (aS B.out.2 (Z4 _)) ⟨g,0,none⟩ l.length cap (aT l) rfl (by simp[aT]) (World.ownsRowF.cells (World.ownsRowF_of (aS p.out.2.1 (Z4 _))) rfl) (by intro u hu;simp only[aT,List.mem_map]at hu;obtain⟨y,_,rfl⟩:=hu;rfl) (by unfold maxLen;omega) (by omega) (by simp;omega) ?_;intro v' w1 f c _;obtain⟨s,r,J⟩:=aj f;subst J;have k:=(c.block tb (by simpa using F) (λe=>by have:=((aS (b:=tb) (i:=2) (u:=.int .i64 (h-(l.length:Int))) B.out.2 (Z4 _)).lt _ e.symm).1;omega)).trans (aD (i:=2) (.int .i64 (h-(l.length:Int))) B.out.1);simp only[ZN,ZS,ZR]at k;obtain⟨s0,S⟩:=blk k;have E:=av (aaa f (aaa c k));clear f c k)
   go_end0
   refine⟨_,rfl,⟨⟨.slice s (tk.length+l.length) r,?_,?_⟩,?_,N,λe=>absurd (congrArg List.length (List.append_eq_nil_iff.1 e).2) (Nat.ne_of_gt L)⟩,?_⟩
   .have:=aD (i:=3) (.slice s (tk.length+l.length) r) E.out.2.2
    simpa only[ZN,ZS,ZR] using this
   .rw[Z7]
    have:=aS (b:=tb) (i:=3) (u:=.slice s (tk.length+l.length) r) E.out.1 (Z4 _);simpa[aT] using this
   .have O:=p.out.1.open_
    rw[List.take_length]at O;refine O.of_block ((aad _ _ _ _ (by show d≠tb;omega)).trans ((E.out.2.1.block d (by have:=O.lt;simpa using this) (λe=>by have:=((aS (b:=tb) (i:=2) (u:=.int .i64 (h-(l.length:Int))) B.out.2 (Z4 _)).lt _ e.symm).1;omega)).trans (aad _ _ _ _ (by show d≠tb;omega))))
   .refine Below.setCell ((p.out.2.2.setCell (by show d<=tb;omega) _).grown E.out.2.1 ?_ ?_) (by show d<=tb;omega) _
    .have:=p.out.2.2.size;have:=p.out.1.open_.lt;simp;omega
    .exact λq X=>by have:=((aS (b:=tb) (i:=2) (u:=.int .i64 (h-(l.length:Int))) B.out.2 (Z4 _)).lt q X).1;omega
theorem nH (q tb n)(vc)(S N C)(op)(m p)(tk)(w)(y:aX w q tb n vc op m tk)(hc:dO w vc n S N C):
 Calls (patch ae prog) 216 #[.pointer (some ⟨tb,0,none⟩),.int .i64 p] w λe w'=>(∃z:Nat,e=.returned (.int .i64 z)/\z<=24)/\Below w.heap.size w w':=by
 have t:=av (aaa y hc);have K:n<=24:=by obtain⟨_,_,_,_,h,_⟩:=hc;exact h
 clear y hc
 go_enter (pf func216 (by rfl)),ntmps216
 go_wp2_with(go_at_call 193;refine(membersC_any q tb n vc S N C op m p tk _ t.out.1 t.out.2).mono ?_;rintro e w1 ⟨v,rfl,a,b⟩;obtain⟨ao,cap,rfl⟩:=aj a;have H1:Hid (Ints w1 (.slice ao (bN n C p).length cap) (bN n C p).length (λj=>(((bN n C p)[j]?.getD 0:Nat):Int))/\Below w.heap.size w w1/\aX w1 q tb n vc op m tk):=⟨dh a,b,t.out.1.below b⟩;clear a b);have hle:=memN_le n C p;have d:∀i∈bN n C p,i<n:=λi A=>by unfold bN at A;exact Z9.1 (List.mem_filter.1 A).1
 generalize bN n C p=l at*
 go_loopw [5,12] (λc i wr=>∃j z:Nat,j<=l.length/\z<=j/\i=.int .i64 j/\c=.int .i64 z/\wr=w1) (λ_ i _=>l.length-(intOf i).toNat)
 case atStart=>exact⟨0,0,by omega,by omega,rfl,rfl,rfl⟩
 case round=>
  obtain⟨j,z,L,J,rfl,rfl,hw⟩:=hrel;subst hw
  by_cases f:j<l.length
  .obtain⟨x,hx⟩:∃x,l[j]? =some x:=⟨_,ZT f⟩
   have r:x<n:=d x (aak hx);obtain⟨G,D,e,_,_,B⟩:=H1.out.1;cases e;obtain⟨M,ol,rfl,g⟩:=B (by omega);have F:=g j f;simp only[hx,Option.getD_some]at F;have s:=H1.out.2.2;obtain⟨⟨I,k1,_⟩,u,_⟩:=s;obtain⟨t0,E⟩:=blk k1;have o:=u.cell r;simp only[boolV]at o;have jn:(j:Int)< (l.length:Int):=(by omega);have H:(x:Int)< (n:Int):=(by omega);clear g B hx k1 u;cases k:op x
   .rw[k]at o
    clear k;go_wp2_with fail;go_roundw
    case rel=>exact⟨j+1,z,by omega,by omega,by go_num,rfl,by trivial⟩
    case measure=>simp[intOf];omega
   .rw[k]at o
    clear k;go_wp2_with fail;go_roundw
    case rel=>exact⟨j+1,z+1,by omega,by omega,by go_num,by go_num,by trivial⟩
    case measure=>simp[intOf];omega
  .have:j=l.length:=by omega
   go_wp2_with fail;go_ret;exact⟨⟨z,rfl,by omega⟩,H1.out.2.1⟩
theorem mostAlone_any (u tb n)(vc)(S N C)(op)(t)(tk)(w)(F:aX w u tb n vc op t tk)(hc:dO w vc n S N C):
 Calls (patch ae prog) 196 #[.pointer (some ⟨tb,0,none⟩)] w λe w'=>(∃(x:Nat) (f:Bool),e=.returned (.tuple #[.int .i64 x,.bool f])/\(f=true->x<n/\op x=true)/\(f=false->∀i,i<n->op i=false))/\Below w.heap.size w w':=by
 have H:=av (aaa F hc);obtain⟨ao,cap,rfl,J,O,G⟩:=hc;obtain⟨⟨L,k1,_⟩,_,_⟩:=F;obtain⟨t0,m⟩:=blk k1;have H3:Hid (0<n->∃b o,ao=some ⟨b,o,none⟩/\∀i,i<n->w.cell? ⟨b,o+i*3,none⟩=some (.int .i64 (S i))/\w.cell? ⟨b,o+i*3+1,none⟩=some (.int .i64 (N i))/\w.cell? ⟨b,o+i*3+2,none⟩=some (.int .i64 (C i))):=G;clear G k1
 go_enter (pf func196 (by rfl)),ntmps196
 go_wp2_with fail;clear t0 m
 go_loopw [4,5,6,15] (λb f g i wr=>∃(j x z:Nat) (fd:Bool),j<=n/\i=.int .i64 j/\b=.int .i64 x/\f=.int .i64 z/\g=.bool fd/\z<=24/\(fd=true->x<n/\op x=true)/\(fd=false->∀i,i<j->op i=false)/\Below w.heap.size w wr) (λ_ _ _ i _=>n-(intOf i).toNat)
 case atStart=>exact⟨0,0,0,false,by omega,rfl,rfl,rfl,rfl,by omega,λh=>Bool.noConfusion h,λ_ i B=>absurd B (ZV _),aab _ _⟩
 case round=>
  obtain⟨j,x,z,fd,P,rfl,rfl,rfl,rfl,E,q,p,hb⟩:=hrel;have d:Hid ((fd=true->x<n/\op x=true)/\(fd=false->∀i,i<j->op i=false)/\Below w.heap.size w wr):=⟨q,p,hb⟩;have s:Hid (aX wr u tb n (.slice ao n cap) op t tk/\dO wr (.slice ao n cap) n S N C):=⟨H.out.1.below hb,H.out.2.below hb⟩;clear q p hb
  by_cases k:j<n
  .obtain⟨b,o,rfl,r⟩:=H3.out (by omega)
   obtain⟨_,_,c2⟩:=r j k;have M:=keeps d.out.2.2 c2;obtain⟨⟨I,k1,_⟩,D,_⟩:=s.out.1;obtain⟨t0,m⟩:=blk k1;have A:=D.cell k;simp only[boolV]at A;have jn:(j:Int)< (n:Int):=(by omega);clear r c2 k1 D;cases l:op j
   .rw[l]at A
    have v:=av l;clear l;go_wp2_with fail;go_roundw
    case rel=>exact⟨j+1,x,z,fd,by omega,by go_num,rfl,rfl,rfl,E,d.out.1,λh i B=>by
     rcases Nat.lt_succ_iff_lt_or_eq.1 B with K|rfl
     .exact d.out.2.1 h i K
     .exact v.out,d.out.2.2⟩
    case measure=>simp[intOf];omega
   .rw[l]at A
    have v:=av l;clear l;cases fd
    .go_wp2_with(go_at_call 216;refine(nH u tb n _ S N C op t (C j) tk _ s.out.1 s.out.2).mono ?_;rintro e w1 ⟨⟨y,rfl,hy⟩,c⟩;have a:=av (aaa (ai d.out.2.2 c) hy);clear c)
     go_roundw
     case rel=>exact⟨j+1,j,y,true,by omega,by go_num,rfl,rfl,rfl,a.out.2,λ_=>⟨k,v.out⟩,λh=>Bool.noConfusion h,a.out.1⟩
     case measure=>simp[intOf];omega
    .go_wp2_with(go_at_call 216;refine(nH u tb n _ S N C op t (C j) tk _ s.out.1 s.out.2).mono ?_;rintro e w1 ⟨⟨y,rfl,hy⟩,c⟩;have a:=av (aaa (ai d.out.2.2 c) hy);clear c)
     all_goals first
       |exact⟨⟨j+1,j,y,true,by omega,by go_num,rfl,rfl,rfl,a.out.2,λ_=>⟨k,v.out⟩,λh=>Bool.noConfusion h,a.out.1⟩,by simp[intOf];omega⟩
       |exact⟨⟨j+1,x,z,true,by omega,by go_num,rfl,rfl,rfl,E,λ_=>d.out.1 (by trivial),λh=>Bool.noConfusion h,a.out.1⟩,by simp[intOf];omega⟩
  .have:j=n:=by omega
   subst this;go_wp2_with fail;go_ret2;exact⟨⟨x,fd,rfl,d.out.1,d.out.2.1⟩,d.out.2.2⟩
structure gB (n:Nat)(lF:Nat->Bool)(W:Nat)(wt:Int)(tk:List Nat):Prop where
 nodup:tk.Nodup
 mem:∀i∈tk,i<n/\lF i=true
 sum:wt+(tk.length:Int)=W
 wt0:0<=wt
theorem shutN_app (op)(tk l):cu (cu op tk) l=cu op (tk++l):=by
 funext i
 unfold cu
 by_cases b:i∈tk<;>by_cases a:i∈l<;>simp[b,a]
theorem gB.take {n W}{lF}{d}{tk l}(h:gB n lF W d tk)(e:l.Nodup)(hl:∀i∈l,i<n/\cu lF tk i=true)(hle:(l.length:Int)<=d):gB n lF W (d-(l.length:Int)) (tk++l):=by
 refine⟨List.nodup_append.2 ⟨h.nodup,e,λa f b hb=>?_⟩,λi c=>?_,?_,by omega⟩
 .rintro rfl
  have:=(hl a hb).2;unfold cu at this;simp[f]at this
 .rcases aaz.1 c with c|c
  .exact h.mem i c
  .have:=(hl i c).2
   unfold cu at this;exact⟨(hl i c).1,by simp at this;exact this.1⟩
 .have:=h.sum
  rw[Z7];omega
theorem own_one (w:World)(x:Nat)(base)(hb:base<=w.heap.size):(w.alloc (.cells #[.int .i64 (x:Int)] 3)).ownsRow base 3 1 (.slice (some ⟨w.heap.size,0,none⟩) 1 1) 1 (aT [x]):=
 ⟨rfl,.inr ⟨w.heap.size,1,_,rfl,hb,aae _ _,ZL _,by decide,rfl,rfl⟩⟩
theorem aX.lt {w}{b tb n}{vc}{op}{a}{tk}(h:aX w b tb n vc op a tk):tb<w.heap.size:=by
 obtain⟨⟨_,c,_⟩,_,_⟩:=h;exact(ZK.1 c).1
theorem takeSingly_any (d tb n W)(vc)(S N C)(lF)(t)(tk)(w)(A:aX w d tb n vc (cu lF tk) t tk)(hc:∀w',Below d w w'->dO w' vc n S N C)(hp:gB n lF W t tk)(hW:W<=1000)(H:n<=24):
 Calls (patch ae prog) 171 #[.pointer (some ⟨tb,0,none⟩)] w λe w'=>∃u a b,e=.returned u/\aX w' d tb n vc (cu lF b) a b/\gB n lF W a b/\(a=0\/∀i,i<n->cu lF b i=false)/\Below d w w':=by
 have K:=av hc;have E:=av (aaa A hp);clear hc A hp
 go_enter (pf func171 (by rfl)),ntmps171
 go_wp2_with fail
 go_loopg [2,3] (t.toNat) (λJ _ _ wr=>∃(a:Int) (b:List Nat),a.toNat<=J/\aX wr d tb n vc (cu lF b) a b/\gB n lF W a b/\Below d w wr)
 case atStart=>exact⟨t,tk,ZL _,E.out.1,E.out.2,aab _ _⟩
 case round=>
  obtain⟨a,b,M,j,g,hb⟩:=hrel;have c:=av (aaa j (aaa g hb));obtain⟨⟨L,k1,_⟩,_,I⟩:=j;have B:=g.sum;have G:=g.wt0;have y:tb<wr.heap.size:=(ZK.1 k1).1;obtain⟨t0,F⟩:=blk k1;clear k1 g hb
  by_cases D:0<a
  .go_wp2_with(go_at_call 196;refine(mostAlone_any d tb n vc S N C _ a b _ c.out.1 (K.out _ c.out.2.2)).mono ?_;rintro e w1 ⟨⟨x,f,rfl,q,p⟩,h⟩;have H1:=av (aaa q (aaa p (aaa (c.out.1.below h) (c.out.2.2.trans (h.mono (by have:=c.out.1.open_.lt;omega))))));have k:tb<w1.heap.size:=ZO y h.size;clear q p h;cases f)
   .refine bodyPost_ret (results_none rfl _ _ _) rfl ?_
    first
     |exact⟨_,_,_,rfl,H1.out.2.2.1,c.out.2.1,.inr (H1.out.2.1 (by trivial)),H1.out.2.2.2⟩
     |exact⟨_,_,H1.out.2.2.1,c.out.2.1,.inr (H1.out.2.1 (by trivial)),H1.out.2.2.2⟩
   .have hx:=H1.out.1 (by trivial)
    have s:=(aab w1.heap.size w1).alloc (ZL _) (.cells #[.int .i64 (x:Int)] 3);refine(take_any d tb n vc _ _ a b [x] _ (H1.out.2.2.1.below s) (own_one w1 x (tb+1) k) (λi o=>by simp at o;rw[o];exact hx.1) H (by simp) (by simp) (by omega) ⟨by omega,by omega⟩).mono ?_;rintro e w2 ⟨u2,rfl,m,r⟩
    have z:Hid (aX w2 d tb n vc (cu lF (b++[x])) (a-1) (b++[x])/\gB n lF W (a-1) (b++[x])/\Below d w w2):=by
     refine⟨by rw[<-shutN_app];simpa using m,by simpa using c.out.2.1.take (l:=[x]) (by simp) (λi o=>by simp at o;rw[o];exact hx) (by simp;omega),?_⟩;exact(H1.out.2.2.2.trans (s.mono (by omega))).trans r
    clear m r;go_wp2_with fail
    go_roundg ((a-1).toNat)
    case measure=>omega
    case rel=>exact⟨a-1,b++[x],ZL _,z.out.1,z.out.2.1,z.out.2.2⟩
  .have v:a=0:=by omega
   go_wp2_with fail
   go_end0
   first
        |exact⟨_,_,_,rfl,c.out.1,c.out.2.1,.inl v,c.out.2.2⟩
        |exact⟨_,_,_,c.out.1,c.out.2.1,.inl v,c.out.2.2⟩
        |exact⟨⟨_,rfl⟩,_,_,c.out.1,c.out.2.1,.inl v,c.out.2.2⟩
        |exact⟨_,_,⟨_,rfl⟩,c.out.1,c.out.2.1,.inl v,c.out.2.2⟩
theorem takeWholeS_any (f tb n W k:Nat)(vc)(S N C)(lF)(z)(tk)(w)(F:aX w f tb n vc (cu lF tk) z tk)(hc:∀w',Below f w w'->dO w' vc n S N C)(hp:gB n lF W z tk)(hW:W<=1000)(H:n<=24)(V:k<=100):
 Calls (patch ae prog) 168 #[.pointer (some ⟨tb,0,none⟩),.int .i64 k,.func (.func 169) #[] #[]] w λe w'=>∃u b a,e=.returned u/\aX w' f tb n vc (cu lF a) b a/\gB n lF W b a/\Below f w w':=by
 have T:=av hc;have I:=av (aaa F hp);clear hc F hp
 go_enter (pf func168 (by rfl)),ntmps168
 go_wp2_with fail
 go_loopw [9] (λi wr=>∃(j:Nat) (b:Int) (a:List Nat),j<=k/\i=.int .i64 j/\aX wr f tb n vc (cu lF a) b a/\gB n lF W b a/\Below f w wr) (λi _=>k-(intOf i).toNat)
 case atStart=>exact⟨0,z,tk,by omega,rfl,I.out.1,I.out.2,aab _ _⟩
 case round=>
  obtain⟨j,b,a,X,rfl,m,o,hb⟩:=hrel;have d:=av (aaa m (aaa o hb));have Q:=m.apart.1;have B:=m.open_.lt;have G:=o.sum;have K:=o.wt0;clear m o hb
  by_cases M:j<k
  .have jn:(j:Int)< (k:Int):=by omega
   have L:tb<wr.heap.size:=d.out.1.lt;go_wp2_with fail;refine(membersS_any f tb n vc S N C _ b (j:Int) a _ d.out.1 (T.out _ d.out.2.2)).mono ?_;rintro e w1 ⟨v,rfl,g,q⟩;obtain⟨ao,cap,rfl⟩:=aj g;have hle:=memN_le n S (j:Int);have c:Hid ((∀i∈bN n S (j:Int),i<n)/\(bN n S (j:Int)).Nodup):=⟨λi x=>by unfold bN at x;exact Z9.1 (List.mem_filter.1 x).1,List.Pairwise.filter _ List.nodup_range⟩;have H1:Hid (w1.ownsRow wr.heap.size 3 1 (.slice ao (bN n S (j:Int)).length cap) (bN n S (j:Int)).length (aT (bN n S (j:Int)))/\aX w1 f tb n vc (cu lF a) b a/\Below f w w1):=⟨g,d.out.1.below q,d.out.2.2.trans (q.mono (Nat.le_of_lt B))⟩;clear g q;obtain⟨l,t⟩:∃l,l=bN n S (j:Int):=⟨_,rfl⟩;rw[<-t]at H1 hle c⊢;clear t;obtain⟨⟨U,k1,_⟩,_,_⟩:=H1.out.2.1;obtain⟨t0,J⟩:=blk k1;clear k1
   by_cases R:0<l.length
   .have D:(0:Int)< (l.length:Int):=by omega
    by_cases h:(l.length:Int)<=b
    .go_wp2_with(go_at_call 194;refine(allOpen_any f tb n vc _ (cu lF a) b a l _ H1.out.2.1 (dh H1.out.1) c.out.1 H).mono ?_;rintro e w2 ⟨rfl,A⟩;obtain rfl:=A.symm;cases p:l.all (cu lF a))
     .exact⟨⟨j+1,b,a,by omega,by go_num,H1.out.2.1,d.out.2.1,H1.out.2.2⟩,by simp[intOf];omega⟩
     .have r:=av p
      clear p;refine(take_any f tb n vc _ _ b a l _ H1.out.2.1 (aB H1.out.1 (by omega)) c.out.1 H (by omega) R (by omega) ⟨by omega,by omega⟩).mono ?_;rintro e w2 ⟨u2,rfl,s,y⟩
      have E:Hid (aX w2 f tb n vc (cu lF (a++l)) (b-(l.length:Int)) (a++l)/\gB n lF W (b-(l.length:Int)) (a++l)/\Below f w w2):=by
          refine⟨by rw[<-shutN_app];exact s,d.out.2.1.take c.out.2 (λi x=>⟨c.out.1 i x,ZU.1 r.out i x⟩) h,H1.out.2.2.trans y⟩
      clear s y;go_wp2_with fail;go_roundw
      case rel=>exact⟨j+1,_,_,by omega,by go_num,E.out.1,E.out.2.1,E.out.2.2⟩
      case measure=>simp[intOf];omega
    .have O:¬(l.length:Int)<=b:=h
     have P:decide ((l.length:Int)<=b)=false:=decide_eq_false h;go_wp2_with fail;go_roundw
     case rel=>exact⟨j+1,b,a,by omega,by go_num,H1.out.2.1,d.out.2.1,H1.out.2.2⟩
     case measure=>simp[intOf];omega
   .have D:¬(0:Int)< (l.length:Int):=by omega
    go_wp2_with fail;go_roundw
    case rel=>exact⟨j+1,b,a,by omega,by go_num,H1.out.2.1,d.out.2.1,H1.out.2.2⟩
    case measure=>simp[intOf];omega
  .have:j=k:=by omega
   go_wp2_with fail
   go_end0
   first
        |exact⟨_,_,_,rfl,d.out.1,d.out.2.1,d.out.2.2⟩
        |exact⟨⟨_,rfl⟩,_,_,d.out.1,d.out.2.1,d.out.2.2⟩
theorem takeWholeC_any (f tb n W k:Nat)(vc)(S N C)(lF)(z)(tk)(w)(F:aX w f tb n vc (cu lF tk) z tk)(hc:∀w',Below f w w'->dO w' vc n S N C)(hp:gB n lF W z tk)(hW:W<=1000)(H:n<=24)(V:k<=100):
 Calls (patch ae prog) 168 #[.pointer (some ⟨tb,0,none⟩),.int .i64 k,.func (.func 170) #[] #[]] w λe w'=>∃u b a,e=.returned u/\aX w' f tb n vc (cu lF a) b a/\gB n lF W b a/\Below f w w':=by
 have T:=av hc;have I:=av (aaa F hp);clear hc F hp
 go_enter (pf func168 (by rfl)),ntmps168
 go_wp2_with fail
 go_loopw [9] (λi wr=>∃(j:Nat) (b:Int) (a:List Nat),j<=k/\i=.int .i64 j/\aX wr f tb n vc (cu lF a) b a/\gB n lF W b a/\Below f w wr) (λi _=>k-(intOf i).toNat)
 case atStart=>exact⟨0,z,tk,by omega,rfl,I.out.1,I.out.2,aab _ _⟩
 case round=>
  obtain⟨j,b,a,X,rfl,m,o,hb⟩:=hrel;have d:=av (aaa m (aaa o hb));have Q:=m.apart.1;have B:=m.open_.lt;have G:=o.sum;have K:=o.wt0;clear m o hb
  by_cases M:j<k
  .have jn:(j:Int)< (k:Int):=by omega
   have L:tb<wr.heap.size:=d.out.1.lt;go_wp2_with fail;refine(membersC_any f tb n vc S N C _ b (j:Int) a _ d.out.1 (T.out _ d.out.2.2)).mono ?_;rintro e w1 ⟨v,rfl,g,q⟩;obtain⟨ao,cap,rfl⟩:=aj g;have hle:=memN_le n C (j:Int);have c:Hid ((∀i∈bN n C (j:Int),i<n)/\(bN n C (j:Int)).Nodup):=⟨λi x=>by unfold bN at x;exact Z9.1 (List.mem_filter.1 x).1,List.Pairwise.filter _ List.nodup_range⟩;have H1:Hid (w1.ownsRow wr.heap.size 3 1 (.slice ao (bN n C (j:Int)).length cap) (bN n C (j:Int)).length (aT (bN n C (j:Int)))/\aX w1 f tb n vc (cu lF a) b a/\Below f w w1):=⟨g,d.out.1.below q,d.out.2.2.trans (q.mono (Nat.le_of_lt B))⟩;clear g q;obtain⟨l,t⟩:∃l,l=bN n C (j:Int):=⟨_,rfl⟩;rw[<-t]at H1 hle c⊢;clear t;obtain⟨⟨U,k1,_⟩,_,_⟩:=H1.out.2.1;obtain⟨t0,J⟩:=blk k1;clear k1
   by_cases R:0<l.length
   .have D:(0:Int)< (l.length:Int):=by omega
    by_cases h:(l.length:Int)<=b
    .go_wp2_with(go_at_call 194;refine(allOpen_any f tb n vc _ (cu lF a) b a l _ H1.out.2.1 (dh H1.out.1) c.out.1 H).mono ?_;rintro e w2 ⟨rfl,A⟩;obtain rfl:=A.symm;cases p:l.all (cu lF a))
     .exact⟨⟨j+1,b,a,by omega,by go_num,H1.out.2.1,d.out.2.1,H1.out.2.2⟩,by simp[intOf];omega⟩
     .have r:=av p
      clear p;refine(take_any f tb n vc _ _ b a l _ H1.out.2.1 (aB H1.out.1 (by omega)) c.out.1 H (by omega) R (by omega) ⟨by omega,by omega⟩).mono ?_;rintro e w2 ⟨u2,rfl,s,y⟩
      have E:Hid (aX w2 f tb n vc (cu lF (a++l)) (b-(l.length:Int)) (a++l)/\gB n lF W (b-(l.length:Int)) (a++l)/\Below f w w2):=by
          refine⟨by rw[<-shutN_app];exact s,d.out.2.1.take c.out.2 (λi x=>⟨c.out.1 i x,ZU.1 r.out i x⟩) h,H1.out.2.2.trans y⟩
      clear s y;go_wp2_with fail;go_roundw
      case rel=>exact⟨j+1,_,_,by omega,by go_num,E.out.1,E.out.2.1,E.out.2.2⟩
      case measure=>simp[intOf];omega
    .have O:¬(l.length:Int)<=b:=h
     have P:decide ((l.length:Int)<=b)=false:=decide_eq_false h;go_wp2_with fail;go_roundw
     case rel=>exact⟨j+1,b,a,by omega,by go_num,H1.out.2.1,d.out.2.1,H1.out.2.2⟩
     case measure=>simp[intOf];omega
   .have D:¬(0:Int)< (l.length:Int):=by omega
    go_wp2_with fail;go_roundw
    case rel=>exact⟨j+1,b,a,by omega,by go_num,H1.out.2.1,d.out.2.1,H1.out.2.2⟩
    case measure=>simp[intOf];omega
  .have:j=k:=by omega
   go_wp2_with fail
   go_end0
   first
        |exact⟨_,_,_,rfl,d.out.1,d.out.2.1,d.out.2.2⟩
        |exact⟨⟨_,rfl⟩,_,_,d.out.1,d.out.2.1,d.out.2.2⟩
end Z
