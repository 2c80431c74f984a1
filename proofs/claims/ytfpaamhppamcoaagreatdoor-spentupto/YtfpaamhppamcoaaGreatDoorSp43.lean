/- Part 43 of the proof. -/
import Derived.Test.YtfpaamhppamcoaaGreatDoorSp42
import Derived.Laws.BytesString
set_option linter.all false
set_option maxRecDepth 100000
set_option maxHeartbeats 60000000
namespace Go.Proofs.YtfpaamhppamcoaaGreatDoor
open Go.Proofs.Tryz
namespace Z
open Go.RowKit
attribute [local go_sem ↓] Go.wp_at_zero Go.wp_at_succ
attribute [local go_sem] After.cell After.frozen After.const
def dD (r:Nat->Int)(i:Nat):Nat:=if aK (r 0) 25=0/\aK (r 1) 17=0/\aK (r 2) 17=0/\aK (r 3) 17=0 then(if i=0 then 1 else 0)else(if i=0 then aK (r 0) 25 else aK (r i) 17)
theorem need_any (r)(w)(E:∀i,i<4->In64 (r i)):
 Calls (patch ae prog) 11 #[.agg #[.int .i64 (r 0),.int .i64 (r 1),.int .i64 (r 2),.int .i64 (r 3)]] w λe w'=>e=.returned (.agg #[.int .i64 (dD r 0:Nat),.int .i64 (dD r 1:Nat),.int .i64 (dD r 2:Nat),.int .i64 (dD r 3:Nat)])/\Below w.heap.size w w':=by
 have x:Hid (∀u,Calls (patch ae prog) 39 #[.int .i64 (r 0),.int .i64 25] u λe w'=>e=.returned (.int .i64 (aK (r 0) 25:Nat))/\w'=u):=λu=>dG (r 0) 25 u (E 0 (by omega)) (by omega)
 have d:Hid (∀i,0<i->i<4->∀u,Calls (patch ae prog) 39 #[.int .i64 (r i),.int .i64 17] u λe w'=>e=.returned (.int .i64 (aK (r i) 17:Nat))/\w'=u):=λi _ Y u=>dG (r i) 17 u (E i Y) (by omega)
 obtain⟨p0,I⟩:∃p,p=aK (r 0) 25:=⟨_,rfl⟩;obtain⟨a,H⟩:∃p,p=aK (r 1) 17:=⟨_,rfl⟩;obtain⟨p2,G⟩:∃p,p=aK (r 2) 17:=⟨_,rfl⟩;obtain⟨p3,F⟩:∃p,p=aK (r 3) 17:=⟨_,rfl⟩
 have HN:Hid (∀i,dD r i=if p0=0/\a=0/\p2=0/\p3=0 then(if i=0 then 1 else 0)else(if i=0 then p0 else if i=1 then a else if i=2 then p2 else if i=3 then p3 else aK (r i) 17)):=λi=>by
  rw[I,H,G,F];unfold dD
  congr 1
  by_cases A:i=0
  .rw[if_pos A,if_pos A]
  .rw[if_neg A,if_neg A]
   by_cases M:i=1
   .subst M;rfl
   .rw[if_neg M]
    by_cases L:i=2
    .subst L;rfl
    .rw[if_neg L]
     by_cases K:i=3
     .subst K;rfl
     .rw[if_neg K]
 have P0:Hid (∀u,Calls (patch ae prog) 39 #[.int .i64 (r 0),.int .i64 25] u λe w'=>e=.returned (.int .i64 p0)/\w'=u):=by rw[I];exact x
 have P1:Hid (∀u,Calls (patch ae prog) 39 #[.int .i64 (r 1),.int .i64 17] u λe w'=>e=.returned (.int .i64 a)/\w'=u):=by rw[H];exact d.out 1 (by omega) (by omega)
 have P2:Hid (∀u,Calls (patch ae prog) 39 #[.int .i64 (r 2),.int .i64 17] u λe w'=>e=.returned (.int .i64 p2)/\w'=u):=by rw[G];exact d.out 2 (by omega) (by omega)
 have P3:Hid (∀u,Calls (patch ae prog) 39 #[.int .i64 (r 3),.int .i64 17] u λe w'=>e=.returned (.int .i64 p3)/\w'=u):=by rw[F];exact d.out 3 (by omega) (by omega)
 clear I H G F x d E;have f:Func.results f11= #[.cell 2 29]:=by kernel_rfl
 obtain⟨b0,V⟩:∃b,decide (0<p0)=b:=⟨_,rfl⟩;obtain⟨b1,U⟩:∃b,decide (0<a)=b:=⟨_,rfl⟩;obtain⟨b2,T⟩:∃b,decide (0<p2)=b:=⟨_,rfl⟩;obtain⟨Z,n3⟩:∃b,decide (0<p3)=b:=⟨_,rfl⟩;have J:=av (aaa V (aaa U (aaa T n3)));cases b0<;>cases b1<;>cases b2<;>cases Z
 all_goals
  go_enter (pf func11 (by rfl)),ntmps11
  go_wp2_with(go_at_call 39;refine(P0.out _).mono ?_;rintro e w1 ⟨rfl,c⟩;obtain rfl:=c.symm);obtain⟨W,hW⟩:∃W,W=((w.alloc (.cells #[.int .i64 (r 0),.int .i64 (r 1),.int .i64 (r 2),.int .i64 (r 3)] 29)).alloc (.cells #[.int .i64 0,.int .i64 0,.int .i64 0,.int .i64 0] 29)).alloc (.cells #[.int .i64 p0,.int .i64 0,.int .i64 0,.int .i64 0] 29):=⟨_,rfl⟩
  have q:Hid (Below w.heap.size w W/\W.heap[w.heap.size]? =some (.cells #[.int .i64 (r 0),.int .i64 (r 1),.int .i64 (r 2),.int .i64 (r 3)] 29 (0,0))/\W.heap[w.heap.size+1]? =some (.cells #[.int .i64 0,.int .i64 0,.int .i64 0,.int .i64 0] 29 (0,0))/\W.heap[w.heap.size+1+1]? =some (.cells #[.int .i64 p0,.int .i64 0,.int .i64 0,.int .i64 0] 29 (0,0))):=by
   rw[hW];refine⟨(((aab _ _).alloc (ZL _) _).alloc (by simp) _).alloc (by simp;omega) _,?_,?_,?_⟩
   .exact(aac _ _ _ (by simp;omega)).trans (aap _ _ _)
   .exact(aac _ _ _ (by simp)).trans (aam _ _ _)
   .have:=aae ((w.alloc (.cells #[.int .i64 (r 0),.int .i64 (r 1),.int .i64 (r 2),.int .i64 (r 3)] 29)).alloc (.cells #[.int .i64 0,.int .i64 0,.int .i64 0,.int .i64 0] 29)) (.cells #[.int .i64 p0,.int .i64 0,.int .i64 0,.int .i64 0] 29)
    simpa using this
  rw[<-hW];clear hW;refine wp_loop_rounds 4 ?_;rw[aal];obtain⟨s,t⟩:=blk q.out.2.1;obtain⟨k,l⟩:=blk q.out.2.2.2;have k1:=aD (i:=1) (.int .i64 a) q.out.2.2.2;simp only[ZN,ZR,ZS]at k1;obtain⟨h,j⟩:=blk k1;have B:=av k1;clear k1;go_wp2_with(go_at_call 39;refine(P1.out _).mono ?_;rintro e w1 ⟨rfl,c⟩;obtain rfl:=c.symm)
  have o:Hid (Below w.heap.size w (W.setCell ⟨w.heap.size+1+1,1,none⟩ (.int .i64 a))/\((W.setCell ⟨w.heap.size+1+1,1,none⟩ (.int .i64 a))).heap[w.heap.size]? =some (.cells #[.int .i64 (r 0),.int .i64 (r 1),.int .i64 (r 2),.int .i64 (r 3)] 29 (0,0))/\((W.setCell ⟨w.heap.size+1+1,1,none⟩ (.int .i64 a))).heap[w.heap.size+1]? =some (.cells #[.int .i64 0,.int .i64 0,.int .i64 0,.int .i64 0] 29 (0,0))/\((W.setCell ⟨w.heap.size+1+1,1,none⟩ (.int .i64 a))).heap[w.heap.size+1+1]? =some (.cells #[.int .i64 p0,.int .i64 a,.int .i64 0,.int .i64 0] 29 (0,0))):=
   ⟨q.out.1.setCell (by show w.heap.size<=w.heap.size+1+1;omega) _,(aad _ _ _ _ (by show w.heap.size≠w.heap.size+1+1;omega)).trans q.out.2.1,(aad _ _ _ _ (by show w.heap.size+1≠w.heap.size+1+1;omega)).trans q.out.2.2.1,B.out⟩
  clear s t k l h j B;rw[aal];obtain⟨s,t⟩:=blk o.out.2.1;obtain⟨k,l⟩:=blk o.out.2.2.2;have z:=aD (i:=2) (.int .i64 p2) o.out.2.2.2;simp only[ZN,ZR,ZS]at z;obtain⟨h,j⟩:=blk z;have O:=av z;clear z;go_wp2_with(go_at_call 39;refine(P2.out _).mono ?_;rintro e w1 ⟨rfl,c⟩;obtain rfl:=c.symm)
  have n:Hid (Below w.heap.size w ((W.setCell ⟨w.heap.size+1+1,1,none⟩ (.int .i64 a)).setCell ⟨w.heap.size+1+1,2,none⟩ (.int .i64 p2))/\(((W.setCell ⟨w.heap.size+1+1,1,none⟩ (.int .i64 a)).setCell ⟨w.heap.size+1+1,2,none⟩ (.int .i64 p2))).heap[w.heap.size]? =some (.cells #[.int .i64 (r 0),.int .i64 (r 1),.int .i64 (r 2),.int .i64 (r 3)] 29 (0,0))/\(((W.setCell ⟨w.heap.size+1+1,1,none⟩ (.int .i64 a)).setCell ⟨w.heap.size+1+1,2,none⟩ (.int .i64 p2))).heap[w.heap.size+1]? =some (.cells #[.int .i64 0,.int .i64 0,.int .i64 0,.int .i64 0] 29 (0,0))/\(((W.setCell ⟨w.heap.size+1+1,1,none⟩ (.int .i64 a)).setCell ⟨w.heap.size+1+1,2,none⟩ (.int .i64 p2))).heap[w.heap.size+1+1]? =some (.cells #[.int .i64 p0,.int .i64 a,.int .i64 p2,.int .i64 0] 29 (0,0))):=
   ⟨o.out.1.setCell (by show w.heap.size<=w.heap.size+1+1;omega) _,(aad _ _ _ _ (by show w.heap.size≠w.heap.size+1+1;omega)).trans o.out.2.1,(aad _ _ _ _ (by show w.heap.size+1≠w.heap.size+1+1;omega)).trans o.out.2.2.1,O.out⟩
  clear s t k l h j O;rw[aal];obtain⟨s,t⟩:=blk n.out.2.1;obtain⟨k,l⟩:=blk n.out.2.2.2;have y:=aD (i:=3) (.int .i64 p3) n.out.2.2.2;simp only[ZN,ZR,ZS]at y;obtain⟨h,j⟩:=blk y;have N:=av y;clear y;go_wp2_with(go_at_call 39;refine(P3.out _).mono ?_;rintro e w1 ⟨rfl,c⟩;obtain rfl:=c.symm)
  have m:Hid (Below w.heap.size w (((W.setCell ⟨w.heap.size+1+1,1,none⟩ (.int .i64 a)).setCell ⟨w.heap.size+1+1,2,none⟩ (.int .i64 p2)).setCell ⟨w.heap.size+1+1,3,none⟩ (.int .i64 p3))/\((((W.setCell ⟨w.heap.size+1+1,1,none⟩ (.int .i64 a)).setCell ⟨w.heap.size+1+1,2,none⟩ (.int .i64 p2)).setCell ⟨w.heap.size+1+1,3,none⟩ (.int .i64 p3))).heap[w.heap.size]? =some (.cells #[.int .i64 (r 0),.int .i64 (r 1),.int .i64 (r 2),.int .i64 (r 3)] 29 (0,0))/\((((W.setCell ⟨w.heap.size+1+1,1,none⟩ (.int .i64 a)).setCell ⟨w.heap.size+1+1,2,none⟩ (.int .i64 p2)).setCell ⟨w.heap.size+1+1,3,none⟩ (.int .i64 p3))).heap[w.heap.size+1]? =some (.cells #[.int .i64 0,.int .i64 0,.int .i64 0,.int .i64 0] 29 (0,0))/\((((W.setCell ⟨w.heap.size+1+1,1,none⟩ (.int .i64 a)).setCell ⟨w.heap.size+1+1,2,none⟩ (.int .i64 p2)).setCell ⟨w.heap.size+1+1,3,none⟩ (.int .i64 p3))).heap[w.heap.size+1+1]? =some (.cells #[.int .i64 p0,.int .i64 a,.int .i64 p2,.int .i64 p3] 29 (0,0))):=
   ⟨n.out.1.setCell (by show w.heap.size<=w.heap.size+1+1;omega) _,(aad _ _ _ _ (by show w.heap.size≠w.heap.size+1+1;omega)).trans n.out.2.1,(aad _ _ _ _ (by show w.heap.size+1≠w.heap.size+1+1;omega)).trans n.out.2.2.1,N.out⟩
  clear s t k l h j N;rw[aal];obtain⟨k,l⟩:=blk m.out.2.2.2;obtain⟨P,Q⟩:=blk m.out.2.2.1;have D:=aD (i:=0) (.int .i64 1) m.out.2.2.2;simp only[ZN,ZR,ZS]at D;obtain⟨h,j⟩:=blk D;have k1:=(aad _ (⟨w.heap.size+1+1,0,none⟩:Addr) (.int .i64 1) (w.heap.size+1) (by show w.heap.size+1≠w.heap.size+1+1;omega)).trans m.out.2.2.1;obtain⟨R,S⟩:=blk k1;have B:=av k1;clear D k1;go_wp2_with fail;clear k l P Q h j R S;have g:=HN.out;have X:=J.out;simp only[decide_eq_true_eq,decide_eq_false_iff_not]at X
  first
  |(
   have hc:¬(p0=0/\a=0/\p2=0/\p3=0):=(by omega);have z3:=aD (i:=3) (.int .i64 p3) (aD (i:=2) (.int .i64 p2) (aD (i:=1) (.int .i64 a) (aD (i:=0) (.int .i64 p0) m.out.2.2.1)));simp only[ZN,ZR,ZS]at z3;obtain⟨C,_⟩:=blk z3;refine bodyPost_ret (v:=.agg #[.int .i64 p0,.int .i64 a,.int .i64 p2,.int .i64 p3]) (by simp[results,f,go_sem,C]) rfl ?_;refine⟨?_,(((m.out.1.setCell (by show w.heap.size<=w.heap.size+1;omega) _).setCell (by show w.heap.size<=w.heap.size+1;omega) _).setCell (by show w.heap.size<=w.heap.size+1;omega) _).setCell (by show w.heap.size<=w.heap.size+1;omega) _⟩;rw[g 0,g 1,g 2,g 3,if_neg hc,if_neg hc,if_neg hc,if_neg hc];rfl)
  |(
   have hc:p0=0/\a=0/\p2=0/\p3=0:=(by omega);have z3:=aD (i:=3) (.int .i64 p3) (aD (i:=2) (.int .i64 p2) (aD (i:=1) (.int .i64 a) (aD (i:=0) (.int .i64 1) B.out)));simp only[ZN,ZR,ZS]at z3;obtain⟨C,_⟩:=blk z3;refine bodyPost_ret (v:=.agg #[.int .i64 1,.int .i64 a,.int .i64 p2,.int .i64 p3]) (by simp[results,f,go_sem,C]) rfl ?_;refine⟨?_,((((m.out.1.setCell (by show w.heap.size<=w.heap.size+1+1;omega) (.int .i64 1)).setCell (by show w.heap.size<=w.heap.size+1;omega) _).setCell (by show w.heap.size<=w.heap.size+1;omega) _).setCell (by show w.heap.size<=w.heap.size+1;omega) _).setCell (by show w.heap.size<=w.heap.size+1;omega) _⟩;rw[g 0,g 1,g 2,g 3,if_pos hc,if_pos hc,if_pos hc,if_pos hc,hc.2.1,hc.2.2.1,hc.2.2.2];rfl)
def mV (a:Int):ByteArray:=⟨#[UInt8.ofNat (97+aK a 16)]⟩
theorem und_bytes:(patch ae prog).underlying 165=some (.slice 5):=by kernel_rfl
theorem und_byte:(patch ae prog).underlying 5=some (.int .u8):=by kernel_rfl
theorem und_string:(patch ae prog).underlying 9=some .string:=by kernel_rfl
theorem byte_string (w)(b p)(h:w.cell? ⟨b,0,none⟩=some (.int .u8 (97+(p:Int)))):Sem.run (patch ae prog) (convert 165 9 (.slice (some ⟨b,0,none⟩) 1 1)) w=.ok (.string ⟨#[UInt8.ofNat (97+p)]⟩) w:=by
 rw[run_convert_bytes_string w _ _ _ _ _ _ und_bytes und_byte und_string]
 have hl:=run_loadCells_list (P:=(patch ae prog)) w ⟨b,0,none⟩ [.int .u8 (97+(p:Int))] (λj v a=>by
  match j with
  |0=>simp at a;subst a;exact h
  |j+1=>simp at a)
 rw[run_bytesToString w _ 1 1 [97+(p:Int)] hl];have e:(97+(p:Int)).toNat=97+p:=by omega
 simp only[List.foldl_cons,List.foldl_nil,e];rfl
theorem name_any (a)(w)(f:In64 a):Calls (patch ae prog) 67 #[.int .i64 a] w λe w'=>e=.returned (.string (mV a))/\Below w.heap.size w w':=by
 have c:=ik a (show 0<16 by omega);have d:Hid (∀u,Calls (patch ae prog) 39 #[.int .i64 a,.int .i64 16] u λe w'=>e=.returned (.int .i64 (aK a 16:Nat))/\w'=u):=λu=>dG a 16 u f (by omega)
 unfold mV;generalize aK a 16=p at c d⊢
 go_enter (pf func67 (by rfl)),ntmps67
 go_wp2_with(go_at_call 39;refine(d.out _).mono ?_;rintro e w1 ⟨rfl,b⟩;obtain rfl:=b.symm);rw[byte_string _ w.heap.size p ((blk (aae w _)).1 0)];go_wp2_with fail;go_ret;exact⟨by simp,(aab _ _).alloc (ZL _) _⟩
structure eU where
 kind:Int
 A:Int
 B:Int
 r:Nat->Int
 ao:Option Addr
 n:Nat
 cap:Nat
 X:Nat->Int
 H:Nat->Bool
 yes:Bool
def eU.cells (t:eU):Array Value:= #[.int .i64 t.kind,.int .i64 t.A,.int .i64 t.B,.int .i64 (t.r 0),.int .i64 (t.r 1),.int .i64 (t.r 2),.int .i64 (t.r 3),.slice t.ao t.n t.cap,.bool t.yes]
structure eU.at (t:eU)(w:World):Prop where
 kind:In64 t.kind
 A:In64 t.A
 B:In64 t.B
 r:∀i,i<4->In64 (t.r i)
 dC:RawD w (.slice t.ao t.n t.cap) t.n t.X t.H
 few:t.n<=1099511627776
theorem eU.at.below {t:eU}{w w'}(h:t.at w)(hb:Below w.heap.size w w'):t.at w':=⟨h.kind,h.A,h.B,h.r,h.dC.below hb,h.few⟩
def AdmitDid (s:BS)(nm:ByteArray)(c:Nat->Int)(s':BS):Prop:=(s'=s/\∃code,AdmitNo s nm c code)\/(∃m p x,sj s nm c m p x/\s.jQ/\s'=s.failed)\/∃m p x,sj s nm c m p x/\¬s.jQ/\s'=s.written (s.bs.take p++x::s.bs.drop p)
theorem zD.did {s s'}{nm}{c}{r}{w'}{e}(h:zD s nm c r s' w' e):AdmitDid s nm c s'/\∃(A:Nat->Option Addr) (N C:Nat->Nat) (code:Int),r=.tuple #[.agg #[.slice (A 0) (N 0) (C 0),.slice (A 1) (N 1) (C 1),.slice (A 2) (N 2) (C 2),.slice (A 3) (N 3) (C 3)],.int .i64 code]:=by
 rcases h with⟨code,rfl,b,a⟩|⟨m,p,x,b,a,rfl,d⟩|⟨m,p,x,g,f,z,b,a,d,rfl,_⟩
 .exact⟨.inl ⟨b,code,a⟩,λ_=>none,λ_=>0,λ_=>0,code,rfl⟩
 .exact⟨.inr (.inl ⟨m,p,x,b,a,d⟩),λ_=>none,λ_=>0,λ_=>0,11,rfl⟩
 .exact⟨.inr (.inr ⟨m,p,x,b,a,d⟩),g,aN c,f,0,rfl⟩
def needC (t:eU)(i:Nat):Int:=(dD t.r i:Nat)
def StepDid (s:BS)(t:eU)(s':BS):Prop:=
 (aK t.kind 5=0/\AdmitDid s (mV t.A) (needC t) s')\/(aK t.kind 5=1/\∃r,qD s (mV t.A) r s')\/(aK t.kind 5=2/\s'=s.reg (aK t.A 3) (min t.n 16) (il t.X) t.H)\/
    (aK t.kind 5=3/\∃r,HealthEnd s (aK t.A 3:Nat) (aK t.B 16:Nat) t.yes r s')\/(aK t.kind 5=4/\s'=s.failAt ((aK t.A 12:Nat)-1))
theorem nameB_size (a):(mV a).size=1:=rfl
theorem nameB_small (a):(mV a).size<=281474976710656:=by rw[nameB_size];omega
theorem Bd.fresh {w}{base bb}{s}{K}(h:Bd w base bb s K){b}(hb:w.heap.size<=b):K b=0:=by
 obtain⟨_,_,_,_,_,_,h⟩:=h
 by_cases a:K b=0
 .exact a
 .have:=(h.tk b a).2;omega
theorem dJ.kept {u w'}{K c}{b}{o}(h:dJ u w' K c)(hb:K b=0)(a:u.heap[b]? =some o):w'.heap[b]? =some o/\c b=0:=
 have hl:=(ZK.1 a).1
 ⟨(h.block b hl (.inl hb)).trans a,(h.tag b hl).trans hb⟩
theorem nodeP_in (X)(i):0<=il X i/\il X i<4:=by
 unfold il;have:=ik (X i) (show 0<4 by omega);omega
theorem devL_own {w}{base n}{v}{N}{H}(h:w.ownsRow base 75 2 v n (dlL n N H)):DevL w v n N H:=by
 rcases h.2 with⟨rfl,e⟩|⟨g,cap,cur,rfl,k,d,c,hc,hs,b⟩
 .exact .inl ⟨rfl,e⟩
 .have key:∀j,j<n*2->w.cell? ⟨g,0+j,none⟩=some (jV N H j):=λj a=>by
   rw[(blk d).1,Z8,<-Array.getElem?_toList];have:(cur.toList.take (n*2))[j]? =(dlL n N H)[j]?:=(by rw[b]);rw[Z5,if_pos a]at this;rw[this];simp[dlL,a]
  exact .inr ⟨g,0,cap,rfl,c,λi f=>⟨by rw[key (i*2) (by omega),dlCell_0],by rw[Nat.add_assoc,key (i*2+1) (by omega),dlCell_1]⟩⟩
theorem cells_kept {u w'}{K c}{b}{cs}{T}(h:dJ u w' K c)(hb:K b=0)(a:u.heap[b]? =some (.cells cs T (0,0))):∀j,w'.cell? ⟨b,j,none⟩=cs[j]?:=(blk (h.kept hb a).1).1
theorem fin_alloc {w w4}{base bb}{s'}{K a}{o}(h:Bd w4 base bb s' a)(b:dJ w w4 K a):Bd (w4.alloc o) base bb s' a/\dJ w (w4.alloc o) K a:=
 have hb:Below w4.heap.size w4 (w4.alloc o):=(aab _ _).alloc (ZL _) _
 ⟨h.below hb,b.trans (dJ.fq hb)⟩
theorem fin_set4 {w w4}{base bb b}{s'}{K a}{v0 v1 v2 v3}(h:Bd w4 base bb s' a)(hb:a b=0)(c:dJ w w4 K a)(hl:w.heap.size<=b):Bd ((((w4.setCell ⟨b,0,none⟩ v0).setCell ⟨b,1,none⟩ v1).setCell ⟨b,2,none⟩ v2).setCell ⟨b,3,none⟩ v3) base bb s' a/\dJ w ((((w4.setCell ⟨b,0,none⟩ v0).setCell ⟨b,1,none⟩ v1).setCell ⟨b,2,none⟩ v2).setCell ⟨b,3,none⟩ v3) K a:=
 ⟨rQ _ _ _ _ _ h hb,lG _ _ _ _ _ c hl⟩
theorem relEnd_int {s s'}{nm}{r}(h:qD s nm r s'):∃z,r=.int .i64 z:=by
 rcases h with⟨_,rfl,_⟩|⟨p,_,⟨_,rfl,_⟩|⟨_,rfl,_⟩⟩
 all_goals exact⟨_,rfl⟩
def StepPost (w:World)(base bb:Nat)(s:BS)(K:Nat->Nat)(t:eU)(r:Value)(w':World):Prop:=(∃z,r=.int .i64 z)/\∃s' a,StepDid s t s'/\Bd w' base bb s' a/\dJ w w' K a
theorem do_any (base bb)(s)(K)(t)(a)(w)(h:Bd w base bb s K)(U:t.at w)(M:s.no+4<=1000000000)
 (T:w.cell? ⟨0,0,none⟩=some (.iface 345 (.pointer (some a))))(J:0<base):
 Calls (patch ae prog) 40 #[.pointer (some ⟨bb,0,none⟩),.agg #[.int .i64 t.kind,.int .i64 t.A,.int .i64 t.B,.int .i64 (t.r 0),.int .i64 (t.r 1),.int .i64 (t.r 2),.int .i64 (t.r 3),.slice t.ao t.n t.cap,.bool t.yes]] w (RJ (StepPost w base bb s K t) AA):=by
 have p:=av (aaa h (aaa U (aaa T J)));have HK:=av (dG t.kind 5 · U.kind (by omega));have R:Hid (∀u,Below w.heap.size w u->Calls (patch ae prog) 21 #[.pointer (some ⟨bb,0,none⟩),.string (mV t.A),.agg #[.int .i64 (dD t.r 0:Nat),.int .i64 (dD t.r 1:Nat),.int .i64 (dD t.r 2:Nat),.int .i64 (dD t.r 3:Nat)]] u (RJ (AdmitPost u base bb s K (mV t.A) (needC t)) AA)):=λu hu=>LX base bb s K (mV t.A) (needC t) a u (h.below hu) (nameB_small _) M (keeps hu T) J
 have Q:Hid (∀u,Below w.heap.size w u->Calls (patch ae prog) 24 #[.pointer (some ⟨bb,0,none⟩),.string (mV t.A)] u (RJ (ReleasePost u base bb s K (mV t.A)) AA)):=λu hu=>release_any base bb s K (mV t.A) a u (h.below hu) M (keeps hu T) J
 clear h U T
 go_enter (pf func40 (by rfl)),ntmps40
 go_wp2_with fail;obtain⟨W,hW⟩:∃W,W=w.alloc (.cells #[.int .i64 t.kind,.int .i64 t.A,.int .i64 t.B,.int .i64 (t.r 0),.int .i64 (t.r 1),.int .i64 (t.r 2),.int .i64 (t.r 3),.slice t.ao t.n t.cap,.bool t.yes] 84):=⟨_,rfl⟩
 have x:Hid (Below w.heap.size w W/\W.heap[w.heap.size]? =some (.cells #[.int .i64 t.kind,.int .i64 t.A,.int .i64 t.B,.int .i64 (t.r 0),.int .i64 (t.r 1),.int .i64 (t.r 2),.int .i64 (t.r 3),.slice t.ao t.n t.cap,.bool t.yes] 84 (0,0))):=by
  rw[hW];exact⟨(aab _ _).alloc (ZL _) _,aae _ _⟩
 rw[<-hW];clear hW;refine(HK.out W).mono ?_;rintro e w1 ⟨rfl,hw⟩;obtain rfl:=hw.symm;obtain⟨S,C⟩:=blk x.out.2;have O:=ik t.kind (show 0<5 by omega);obtain l|l|l|l|l:aK t.kind 5=0\/aK t.kind 5=1\/aK t.kind 5=2\/aK t.kind 5=3\/aK t.kind 5=4:=by omega
 .have m:=av l
  rw[l];clear l O;go_wp2_with fail;refine(need_any t.r W p.out.2.1.r).mono ?_;rintro e w2 ⟨rfl,k⟩;have q:=av (aaa (ai x.out.1 k) (bJ k x.out.2));clear k S C;go_wp2_with fail;obtain⟨W2,D⟩:∃W,W=w2.alloc (.cells #[.int .i64 (dD t.r 0:Nat),.int .i64 (dD t.r 1:Nat),.int .i64 (dD t.r 2:Nat),.int .i64 (dD t.r 3:Nat)] 29):=⟨_,rfl⟩
  have L:Hid (Below w.heap.size w W2):=by
   rw[D];exact q.out.1.alloc q.out.1.size _
  have H3:Hid (Below w.heap.size w W2.drew/\W2.drew.heap[w.heap.size]? =some (.cells #[.int .i64 t.kind,.int .i64 t.A,.int .i64 t.B,.int .i64 (t.r 0),.int .i64 (t.r 1),.int .i64 (t.r 2),.int .i64 (t.r 3),.slice t.ao t.n t.cap,.bool t.yes] 84 (0,0))/\W2.drew.heap[w2.heap.size]? =some (.cells #[.int .i64 (dD t.r 0:Nat),.int .i64 (dD t.r 1:Nat),.int .i64 (dD t.r 2:Nat),.int .i64 (dD t.r 3:Nat)] 29 (0,0))):=by
   rw[D];exact⟨(q.out.1.alloc q.out.1.size _).drew,(aac _ _ _ (ZK.1 q.out.2).1).trans q.out.2,aae _ _⟩
  rw[<-D];clear D
  have F:Hid (Below w.heap.size w (W2.alloc (.cells #[.slice none 0 0,.slice none 0 0,.slice none 0 0,.slice none 0 0] 41)).drew/\(W2.alloc (.cells #[.slice none 0 0,.slice none 0 0,.slice none 0 0,.slice none 0 0] 41)).drew.heap[w.heap.size]? =some (.cells #[.int .i64 t.kind,.int .i64 t.A,.int .i64 t.B,.int .i64 (t.r 0),.int .i64 (t.r 1),.int .i64 (t.r 2),.int .i64 (t.r 3),.slice t.ao t.n t.cap,.bool t.yes] 84 (0,0))/\(W2.alloc (.cells #[.slice none 0 0,.slice none 0 0,.slice none 0 0,.slice none 0 0] 41)).drew.heap[w2.heap.size]? =some (.cells #[.int .i64 (dD t.r 0:Nat),.int .i64 (dD t.r 1:Nat),.int .i64 (dD t.r 2:Nat),.int .i64 (dD t.r 3:Nat)] 29 (0,0))):=
   ⟨(L.out.alloc L.out.size _).drew,(aac _ _ _ (ZK.1 H3.out.2.1).1).trans H3.out.2.1,(aac _ _ _ (ZK.1 H3.out.2.2).1).trans H3.out.2.2⟩
  have HF:Hid (∀b,w.heap.size<=b->K b=0):=λb hb=>p.out.1.fresh hb
  obtain⟨x0,θ⟩:=blk H3.out.2.1;obtain⟨y0,ζ⟩:=blk H3.out.2.2;obtain⟨x1,η⟩:=blk F.out.2.1;obtain⟨y1,ε⟩:=blk F.out.2.2
  go_region_law(first
   |(go_simp;go_at_call 67;refine(name_any t.A _ p.out.2.1.A).mono ?_;rintro e w3 ⟨rfl,v⟩;have g:Hid (Below w.heap.size w w3/\w3.heap[w2.heap.size]? =some (.cells #[.int .i64 (dD t.r 0:Nat),.int .i64 (dD t.r 1:Nat),.int .i64 (dD t.r 2:Nat),.int .i64 (dD t.r 3:Nat)] 29 (0,0))):=(by first|exact⟨ai H3.out.1 v,bJ v H3.out.2.2⟩|exact⟨ai F.out.1 v,bJ v F.out.2.2⟩);obtain⟨z0,δ⟩:=blk g.out.2;obtain⟨z1,γ⟩:=blk ((aac w3 (.cells #[.slice none 0 0,.slice none 0 0,.slice none 0 0,.slice none 0 0] 41) _ (ZK.1 g.out.2).1).trans g.out.2);try(have Z:=av (fw v));clear v;dsimp only)
   |(go_simp;go_at_call 21;refine(R.out _ (by first|exact g.out.1|exact g.out.1.alloc g.out.1.size _)).mono ?_;intro e w4 he;rcases e with r|ch|_;rotate_left;(first|exact⟨rfl,he⟩|(simp only[Exit.then,Exit.inBlock];exact⟨rfl,he⟩));(exact he.elim);(obtain⟨s',P,f,d,c⟩:=he);(obtain⟨z,A',N',C',code,rfl⟩:=f.did);try(first|have E:=av (c.kept (HF.out _ g.out.1.size) (aae w3 _))|have E:=av (c.kept (HF.out _ (by have:=H3.out.1.size;exact this)) Z.out));try(obtain⟨p0,ι⟩:=blk E.out.1);have o:=av (aaa z (aaa d c));clear z d c f;dsimp only))
  all_goals
   go_wp2_with fail;go_ret
   try(have o:=av (aaa z (aaa d c)))
   refine⟨⟨_,rfl⟩,s',P,.inl ⟨m.out,o.out.1⟩,?_⟩;have I:=o.out.2.1;have G:=o.out.2.2
   first
        |with_reducible exact fin_alloc I (dJ.trans (dJ.fq g.out.1) G)
        |with_reducible exact fin_set4 I E.out.2 (dJ.trans (dJ.fq (Below.alloc g.out.1 g.out.1.size _)) G) g.out.1.size
        |with_reducible exact fin_set4 I E.out.2 (dJ.trans (dJ.fq g.out.1) G) L.out.size
 .have m:=av l
  rw[l];clear l O;go_wp2_with fail;refine(name_any t.A W p.out.2.1.A).mono ?_;rintro e w2 ⟨rfl,k⟩;have q:=av (ai x.out.1 k);clear k S C;go_wp2_with fail;refine(Q.out w2 q.out).mono ?_;intro e w4 he;cases e with
  |outgrown=>exact he.elim
  |panicked ch=>exact⟨rfl,he⟩
  |returned r=>
   obtain⟨s',P,f,d,c⟩:=he;have o:=av (aaa f (aaa d c));clear f d c;go_wp2_with fail;go_ret;exact⟨relEnd_int o.out.1,s',P,.inr (.inl ⟨m.out,r,o.out.1⟩),o.out.2.1,(dJ.fq q.out).trans o.out.2.2⟩
 .have m:=av l
  rw[l];clear l O;go_wp2_with fail;refine(devices_any t.n t.X t.H _ W (p.out.2.1.dC.below x.out.1) p.out.2.1.few).mono ?_;rintro e w2 ⟨v2,rfl,y,k⟩;obtain⟨va,vc,rfl⟩:=aj y;have q:=av (aaa (ai x.out.1 k) (aaa (bJ k x.out.2) y));clear k y S C;obtain⟨S,C⟩:=blk q.out.2.1;go_wp2_with fail;refine(dG t.A 3 w2 p.out.2.1.A (by omega)).mono ?_;rintro e w3 ⟨rfl,hw⟩;obtain rfl:=hw.symm;have h3:=ik t.A (show 0<3 by omega);go_wp2_with fail;refine(register_any base bb (aK t.A 3) (min t.n 16) (il t.X) t.H _ s K w2 (p.out.1.below q.out.1) h3 (by omega) (λi _=>nodeP_in t.X i) (devL_own q.out.2.2)).mono ?_;rintro e w4 ⟨rfl,P,d,c⟩;have o:=av (aaa d c);clear d c;go_wp2_with fail;go_ret;exact⟨⟨_,rfl⟩,_,P,.inr (.inr (.inl ⟨m.out,rfl⟩)),o.out.1,(dJ.fq q.out.1).trans o.out.2⟩
 .have m:=av l
  rw[l];clear l O;have β:Hid (∀u,Calls (patch ae prog) 39 #[.int .i64 t.A,.int .i64 3] u λe w'=>e=.returned (.int .i64 (aK t.A 3:Nat))/\w'=u):=λu=>dG t.A 3 u p.out.2.1.A (by omega)
  have α:Hid (∀u,Calls (patch ae prog) 39 #[.int .i64 t.B,.int .i64 16] u λe w'=>e=.returned (.int .i64 (aK t.B 16:Nat))/\w'=u):=λu=>dG t.B 16 u p.out.2.1.B (by omega)
  have q1:=(blk (show W.drew.heap[w.heap.size]? =_ from x.out.2)).1;go_wp2_with fail;have Y:∀j,W.drew.cell? ⟨w.heap.size,j,none⟩=(#[.int .i64 t.kind,.int .i64 t.A,.int .i64 t.B,.int .i64 (t.r 0),.int .i64 (t.r 1),.int .i64 (t.r 2),.int .i64 (t.r 3),.slice t.ao t.n t.cap,.bool t.yes]:Array Value)[j]?:=q1
  go_region_held3(λw'=>∀j,w'.cell? ⟨w.heap.size,j,none⟩=(#[.int .i64 t.kind,.int .i64 t.A,.int .i64 t.B,.int .i64 (t.r 0),.int .i64 (t.r 1),.int .i64 (t.r 2),.int .i64 (t.r 3),.slice t.ao t.n t.cap,.bool t.yes]:Array Value)[j]?) (first|exact Y|exact V)
   (first
        |(go_at_call 39;first|(with_reducible refine(β.out _).mono ?_;rintro e w3 ⟨rfl,hw⟩;obtain rfl:=hw.symm)|(with_reducible refine(α.out _).mono ?_;rintro e w3 ⟨rfl,hw⟩;obtain rfl:=hw.symm))
        |(go_at_call 36;refine(health_any _ _ t.yes base bb s K W.drew (p.out.1.below x.out.1.drew)).mono ?_;rintro e w4 ⟨r,s',rfl,f,d,c⟩;have V:=cells_kept c (p.out.1.fresh (ZL _)) (show W.drew.heap[w.heap.size]? =_ from x.out.2);have o:=av (aaa f (aaa d c));clear f d c))
  rename_i K1 N κ hH;simp only[Exit.then];refine N _ _ ?_;clear N;go_wp2_with fail;go_ret;exact⟨⟨_,rfl⟩,s',K,.inr (.inr (.inr (.inl ⟨m.out,r,o.out.1⟩))),o.out.2.1,(dJ.fq x.out.1.drew).trans o.out.2.2⟩
 .have m:=av l
  rw[l];clear l O;have ν:=ik t.A (show 0<12 by omega);have μ:IntKind.i64.wrap ((aK t.A 12:Nat)-1:Int)=(aK t.A 12:Nat)-1:=by rw[IntKind.wrap_i64];omega
  go_wp2_with fail;refine(dG t.A 12 W p.out.2.1.A (by omega)).mono ?_;rintro e w3 ⟨rfl,hw⟩;obtain rfl:=hw.symm;go_wp2_with fail;refine(failAt_any base bb ((aK t.A 12:Nat)-1) s K W (p.out.1.below x.out.1) (by unfold In64;omega)).mono ?_;rintro e w4 ⟨rfl,d,c⟩;have o:=av (aaa d c);clear d c;go_wp2_with fail;go_ret;exact⟨⟨_,rfl⟩,_,K,.inr (.inr (.inr (.inr ⟨m.out,rfl⟩))),o.out.1,(dJ.fq x.out.1).trans o.out.2⟩
theorem res_few {n r}{R}(h:okRs n R r)(e:n<=24):r<=24:=by
 have key:∀i,i<r->(i:Int)<=R i:=by
  intro i
  induction i with
  |zero=>intro a;have:=(h 0 a).1;omega
  |succ i c=>
   intro a;have d:=c (by omega);have b:=(h (i+1) a).2.2 (by omega);rw[Nat.add_sub_cancel]at b;omega
 by_cases f:r=0
 .omega
 .have d:=key (r-1) (by omega)
  have b:=(h (r-1) (by omega)).2.1;omega
structure kX (w:World)(base:Nat)(m:cz)(vc vr:Value):Prop where
 ok:m.ok
 dA:w.ownsRow base 81 3 vc m.n (oq m)
 res:w.ownsRow base 3 1 vr m.r (resL m)
theorem kX.below {w w'}{base}{m}{vc vr}(h:kX w base m vc vr)(hb:Below w.heap.size w w'):kX w' base m vc vr:=⟨h.ok,au h.dA hb,au h.res hb⟩
theorem kX.few {w}{base}{m}{vc vr}(h:kX w base m vc vr):1<=m.n/\m.n<=24/\m.r<=24:=⟨h.ok.1,h.ok.2.1,res_few h.ok.2.2.2.1 h.ok.2.1⟩
def blkOf (a:Option Addr):Nat:=match a with
 |some x=>x.block
 |none=>0
def cz.lie (m:cz)(a:Option Addr)(b:Nat)(ra:Option Addr)(rc:Nat):cz:=⟨a,blkOf a,0,m.n,b,m.S,m.N,m.C,ra,blkOf ra,0,m.r,rc,m.R,m.p⟩
theorem kX.at {w}{base}{m}{o ra}{k rc}(h:kX w base m (.slice o m.n k) (.slice ra m.r rc)):(m.lie o k ra rc).At w:=by
 obtain⟨f1,f2,f3⟩:=h.few;obtain⟨ao,cap,e,t,_,s,_⟩:=dV h.dA;cases e;obtain⟨u,l,e,k1,_,j,_⟩:=dV h.res;cases e;obtain⟨g,q,_,_,f⟩:=s (by omega);subst q;refine⟨t,by show m.n*24<=_;omega,λ_=>rfl,λi c=>cpuL_at f c,k1,by show m.r*8<=_;omega,λp=>?_,λi c=>?_⟩
 .obtain⟨g',a,_⟩:=j p
  subst a;rfl
 .have d:i<m.r:=c
  clear c;obtain⟨g',a,_,_,b⟩:=j (by omega);subst a;show w.cell? ⟨g',0+i,none⟩=some (.int .i64 (m.R i))
  exact b i _ (by simp[resL,d])
theorem copyM_any (m)(l ra)(C rc base)(w)(h:kX w base m (.slice l m.n C) (.slice ra m.r rc)):
 Calls (patch ae prog) 61 #[.agg #[.slice l m.n C,.slice ra m.r rc,.int .i64 m.p]] w λe w'=>∃D b d c,e=.returned (.agg #[.slice D m.n b,.slice d m.r c,.int .i64 m.p])/\
  kX w' w.heap.size m (.slice D m.n b) (.slice d m.r c)/\Below w.heap.size w w':=by
 obtain⟨f1,f2,f3⟩:=h.few;obtain⟨ao,cap,e,B,_,N,_⟩:=dV h.dA;cases e;obtain⟨α,P,e,k1,_,K,_⟩:=dV h.res;cases e;obtain⟨g,Z,G,_,z⟩:=N (by omega);subst Z
 have Q:Hid (∀W,Below w.heap.size w W->(∀j u,(oq m)[j]? =some u->W.cell? ⟨g,0+j,none⟩=some u)/\Ints W (.slice ra m.r rc) m.r m.R):=λW hW=>⟨λj u L=>keeps hW (z j u L),ra,rc,rfl,k1,by omega,λX=>by
  obtain⟨g',H,M,_,y⟩:=K X;exact⟨g',0,H,λi Y=>keeps hW (y i _ (by simp[resL,Y]))⟩⟩
 have F:=av h.ok;have hf:=av (aaa f1 (aaa f2 f3));clear h B N k1 K z G f1 f2 f3
 go_enter (pf func61 (by rfl)),ntmps61
 go_wp2_with fail;refine(clone22_any g 0 m.n C (oq m) _ (by have:=hf.out;omega) (by simp[oq]) (Q.out _ (((aab _ _).alloc (ZL _) _).alloc (by simp) _)).1 (λu hu=>?_)).mono ?_
 .obtain⟨j,L,rfl⟩:=List.mem_map.1 hu
  exact .inl ⟨_,_,rfl⟩
 rintro e w1 ⟨vc,rfl,B,_,k⟩;obtain⟨l,b,rfl⟩:=aj B;have q:Below w.heap.size w w1:=(((aab _ _).alloc (ZL _) _).alloc (by simp) _).trans (k.mono (by simp;omega))
 have o:w1.heap[w.heap.size]? =some (.cells #[.slice (some ⟨g,0,none⟩) m.n C,.slice ra m.r rc,.int .i64 m.p] 25 (0,0)):=by
  rw[k.block _ (by simp;omega)];exact aap _ _ _
 have k1:w1.heap[w.heap.size+1]? =some (.cells #[.slice none 0 0,.slice none 0 0,.int .i64 0] 25 (0,0)):=by
  rw[k.block _ (by simp)];exact aam _ _ _
 have H1:Hid (w1.ownsRow (w.heap.size+2) 81 3 (.slice l m.n b) m.n (oq m)/\Below w.heap.size w w1/\w1.heap[w.heap.size]? =some (.cells #[.slice (some ⟨g,0,none⟩) m.n C,.slice ra m.r rc,.int .i64 m.p] 25 (0,0))/\
  w1.heap[w.heap.size+1]? =some (.cells #[.slice none 0 0,.slice none 0 0,.int .i64 0] 25 (0,0))/\w.heap.size+1<w1.heap.size):=⟨by simpa using B,q,o,k1,by have:=k.size;simp at this;omega⟩
 obtain⟨J,t⟩:=blk o;clear k B q o k1;go_wp2_with fail;refine(jW ra m.r rc m.R _ (Q.out _ (H1.out.2.1.setCell (ZL _) _)).2 (by have:=hf.out;omega)).mono ?_;rintro e w2 ⟨d,c,rfl,O,f⟩;have A:=au (aaf H1.out.1 (a:=⟨w.heap.size,0,none⟩) (by show w.heap.size<w.heap.size+2;omega) (.slice l m.n b)) f;have o:=(f.block w.heap.size (by have:=H1.out.2.2.2.2;simp;omega)).trans (aD (.slice l m.n b) H1.out.2.2.1);have k1:=(f.block (w.heap.size+1) (by have:=H1.out.2.2.2.2;simp;omega)).trans (dP (.slice l m.n b) H1.out.2.2.2.1 (by simp));simp only[ZN,ZR]at o
 have I:Hid (w2.ownsRow (w.heap.size+2) 3 1 (.slice d m.r c) m.r (resL m)/\w2.ownsRow (w.heap.size+2) 81 3 (.slice l m.n b) m.n (oq m)/\Below w.heap.size w w2):=
  ⟨aB O (by have:=H1.out.2.2.2.2;simp;omega),A,(H1.out.2.1.setCell (ZL _) _).trans (f.mono (by have:=H1.out.2.2.2.2;simp;omega))⟩
 clear f O A J t;obtain⟨J,t⟩:=blk o;obtain⟨q1,V⟩:=blk k1;have s:=aD (i:=1) (.slice d m.r c) o;have x:=dP (a:=⟨w.heap.size,1,none⟩) (.slice d m.r c) k1 (by simp);simp only[ZN,ZR,ZS]at s;obtain⟨r0,U⟩:=blk s;obtain⟨E,T⟩:=blk x;clear o k1 s x;go_wp2_with fail;obtain⟨z0,S,z2⟩:=set3 (.slice l m.n b) (.slice d m.r c) (.int .i64 m.p) (E 0) (E 1) (E 2);refine bodyPost_ret (v:=.agg #[.slice l m.n b,.slice d m.r c,.int .i64 m.p]) ?_ rfl ⟨_,_,_,_,rfl,⟨F.out,?_,?_⟩,?_⟩
 .simp[results,results61,go_sem,z0,S,z2]
 .exact aB (aaf (aaf (aaf (aaf I.out.2.1 (by show w.heap.size<w.heap.size+2;omega) _) (by show w.heap.size+1<w.heap.size+2;omega) _) (by show w.heap.size+1<w.heap.size+2;omega) _) (by show w.heap.size+1<w.heap.size+2;omega) _) (by omega)
 .exact aB (aaf (aaf (aaf (aaf I.out.1 (by show w.heap.size<w.heap.size+2;omega) _) (by show w.heap.size+1<w.heap.size+2;omega) _) (by show w.heap.size+1<w.heap.size+2;omega) _) (by show w.heap.size+1<w.heap.size+2;omega) _) (by omega)
 .exact(((I.out.2.2.setCell (ZL _) _).setCell (by show w.heap.size<=w.heap.size+1;omega) _).setCell (by show w.heap.size<=w.heap.size+1;omega) _).setCell (by show w.heap.size<=w.heap.size+1;omega) _
def BS.new (m:cz):BS:=⟨m,λ_=>0,λ_ _=>0,λ_ _=>false,[],0,false,0⟩
theorem BS.new_ok {m}(h:m.ok):(BS.new m).ok:=
 ⟨h,⟨h.2.1,λi a=>⟨((h.2.2.1 i a).1).2.2.1,((h.2.2.1 i a).1).2.2.2.1⟩,res_few h.2.2.2.1 h.2.1,λk _=>⟨Nat.zero_le _,λi a=>absurd a (ZV _)⟩⟩,Nat.zero_le _,λx hx=>(by cases hx),Nat.zero_le _,⟨(by show In64 0;unfold In64;omega),λh=>(by cases h)⟩⟩
theorem bd_new {w}{base}{m}{vc vr}(h:kX w base m vc vr)(hb:base<=w.heap.size):∃K,Bd (w.alloc (.cells #[vc,vr,.int .i64 m.p,.slice none 0 0,.slice none 0 0,.slice none 0 0,.slice none 0 0,.slice none 0 0,.bool false,.int .i64 0] 95)) base w.heap.size (BS.new m) K:=by
 have d:∀b,vc.ownBlock=some b->base<=b/\b<w.heap.size:=λb hb=>h.dA.lt b hb
 have c:∀b,vr.ownBlock=some b->base<=b/\b<w.heap.size:=λb hb=>h.res.lt b hb
 refine⟨λb=>if b=w.heap.size then 1 else if vc.ownBlock=some b\/vr.ownBlock=some b then 2 else 0,vc,vr,.slice none 0 0,.slice none 0 0,λ_=>.slice none 0 0,[],?_⟩;refine⟨aae _ _,h.dA.alloc _,h.res.alloc _,λk _=>aag _ _ _ _,aag _ _ _ _,λx hx=>(by cases hx),aag _ _ _ _,if_pos rfl,λb hb=>?_,λb hb=>?_,λb hb=>(by cases hb),λx hx=>(by cases hx),λk _ b hb=>(by cases hb),λb hb=>(by cases hb),λb f=>?_,BS.new_ok h.ok⟩
 .have:=(d b hb).2
  show(if b=w.heap.size then 1 else _)=2
  rw[if_neg (by omega),if_pos (.inl hb)]
 .have:=(c b hb).2
  show(if b=w.heap.size then 1 else _)=2
  rw[if_neg (by omega),if_pos (.inr hb)]
 .rw[aao]
  by_cases e:b=w.heap.size
  .subst e;exact⟨hb,by omega⟩
  .by_cases a:vc.ownBlock=some b\/vr.ownBlock=some b
   .rcases a with a|a
    .have:=d b a;omega
    .have:=c b a;omega
   .exact absurd (by rw[if_neg e,if_neg a]) f
theorem startM_any (m)(d ra)(c rc base)(w)(h:kX w base m (.slice d m.n c) (.slice ra m.r rc)):
 Calls (patch ae prog) 33 #[.agg #[.slice d m.n c,.slice ra m.r rc,.int .i64 m.p]] w λe w'=>∃bb K,e=.returned (.tuple #[.pointer (some ⟨bb,0,none⟩),.int .i64 0])/\Bd w' w.heap.size bb (BS.new m) K/\Below w.heap.size w w':=by
 have q:Hid (m.ok/\(m.lie d c ra rc).At w/\kX w base m (.slice d m.n c) (.slice ra m.r rc)):=⟨h.ok,h.at,h⟩;clear h
 go_enter (pf func33 (by rfl)),ntmps33
 go_wp2_with fail;refine(valid_any (m.lie d c ra rc) _ (q.out.2.1.ext ((aab _ _).alloc (ZL _) _))).mono ?_;rintro e w1 ⟨he,b⟩;obtain rfl:=he.fP q.out.1;clear he;have a:Below w.heap.size w w1:=ai ((aab _ _).alloc (ZL _) _) b
 have t:w1.heap[w.heap.size]? =some (.cells #[.slice d m.n c,.slice ra m.r rc,.int .i64 m.p] 25 (0,0)):=by
  rw[b.block _ (by simp)];exact aae _ _
 obtain⟨y,v⟩:=blk t;have s:Hid (Below w.heap.size w w1):=a;clear b t a;go_wp2_with fail;refine(copyM_any m d ra c rc base _ (q.out.2.2.below s.out)).mono ?_;rintro e w2 ⟨o,l,k,j,rfl,u,g⟩;have i:Hid (kX w2 w1.heap.size m (.slice o m.n l) (.slice k m.r j)/\Below w.heap.size w w2):=⟨u,ai s.out g⟩;clear u g;go_wp2_with fail;go_ret2;have hs:w.heap.size<=w1.heap.size:=s.out.size;have f:w.heap.size<=w2.heap.size:=i.out.2.size;obtain⟨K,x⟩:=bd_new (w:=w2) (base:=w.heap.size) ⟨i.out.1.ok,aB i.out.1.dA hs,aB i.out.1.res hs⟩ f;exact⟨_,K,rfl,x,i.out.2.alloc f _⟩
end Z
