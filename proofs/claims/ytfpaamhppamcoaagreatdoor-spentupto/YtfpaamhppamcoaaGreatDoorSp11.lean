/- Part 11 of the proof. -/
import Derived.Test.YtfpaamhppamcoaaGreatDoorSp10
import Derived.Test.YtfpaamhppamcoaaGreatDoorRows
import Derived.WalkSpells
import Derived.WalkLawsBesides
import Derived.Deep.QuietTactic
import Derived.BigQuiet
import Derived.Deep.RegionWith
import Derived.Deep.RegionHeld3
import Derived.Deep.DrawnRows
import Derived.Deep.OwnRows
import Derived.Laws.CopyOwn
set_option linter.all false
set_option maxRecDepth 100000
set_option maxHeartbeats 60000000
namespace Go.Proofs.YtfpaamhppamcoaaGreatDoor
open Go.Proofs.Tryz
section
open Go
def ae:List Nat:=[62,63]
abbrev PC (n:Nat):Prop:=∀(args:Array Value) (w:World),Sem.run (patch ae prog) (callFunc n args) w=.ok (.enter n args) w
theorem aZ {n}{f}(h:prog.funcs[n]? =some f)(k:(!(f.name== "runtime.NumGoroutine")&& !f.body.isNone)=true):PC n:=λargs w=>by
 simp only[ZQ,Bool.not_eq_true']at k;exact patch_enter h k.1 k.2 args w
@[go_sem] theorem pcall8:PC 8:=aZ func8 (by kernel_rfl)
@[go_sem] theorem pcall9:PC 9:=aZ func9 (by kernel_rfl)
@[go_sem] theorem pcall11:PC 11:=aZ func11 (by kernel_rfl)
@[go_sem] theorem pcall16:PC 16:=aZ func16 (by kernel_rfl)
@[go_sem] theorem pcall17:PC 17:=aZ func17 (by kernel_rfl)
@[go_sem] theorem pcall18:PC 18:=aZ func18 (by kernel_rfl)
@[go_sem] theorem pcall21:PC 21:=aZ func21 (by kernel_rfl)
@[go_sem] theorem pcall22:PC 22:=aZ func22 (by kernel_rfl)
@[go_sem] theorem pcall24:PC 24:=aZ func24 (by kernel_rfl)
@[go_sem] theorem pcall26:PC 26:=aZ func26 (by kernel_rfl)
@[go_sem] theorem pcall30:PC 30:=aZ func30 (by kernel_rfl)
@[go_sem] theorem pcall33:PC 33:=aZ func33 (by kernel_rfl)
@[go_sem] theorem pcall35:PC 35:=aZ func35 (by kernel_rfl)
@[go_sem] theorem pcall36:PC 36:=aZ func36 (by kernel_rfl)
@[go_sem] theorem pcall39:PC 39:=aZ func39 (by kernel_rfl)
@[go_sem] theorem pcall40:PC 40:=aZ func40 (by kernel_rfl)
@[go_sem] theorem pcall41:PC 41:=aZ func41 (by kernel_rfl)
@[go_sem] theorem pcall42:PC 42:=aZ func42 (by kernel_rfl)
@[go_sem] theorem pcall43:PC 43:=aZ func43 (by kernel_rfl)
@[go_sem] theorem pcall45:PC 45:=aZ func45 (by kernel_rfl)
@[go_sem] theorem pcall46:PC 46:=aZ func46 (by kernel_rfl)
@[go_sem] theorem pcall47:PC 47:=aZ func47 (by kernel_rfl)
@[go_sem] theorem pcall48:PC 48:=aZ func48 (by kernel_rfl)
@[go_sem] theorem pcall50:PC 50:=aZ func50 (by kernel_rfl)
@[go_sem] theorem pcall51:PC 51:=aZ func51 (by kernel_rfl)
@[go_sem] theorem pcall52:PC 52:=aZ func52 (by kernel_rfl)
@[go_sem] theorem pcall53:PC 53:=aZ func53 (by kernel_rfl)
@[go_sem] theorem pcall54:PC 54:=aZ func54 (by kernel_rfl)
@[go_sem] theorem pcall55:PC 55:=aZ func55 (by kernel_rfl)
@[go_sem] theorem pcall56:PC 56:=aZ func56 (by kernel_rfl)
@[go_sem] theorem pcall57:PC 57:=aZ func57 (by kernel_rfl)
@[go_sem] theorem pcall58:PC 58:=aZ func58 (by kernel_rfl)
@[go_sem] theorem pcall60:PC 60:=aZ func60 (by kernel_rfl)
@[go_sem] theorem pcall61:PC 61:=aZ func61 (by kernel_rfl)
@[go_sem] theorem pcall64:PC 64:=aZ func64 (by kernel_rfl)
@[go_sem] theorem pcall65:PC 65:=aZ func65 (by kernel_rfl)
@[go_sem] theorem pcall66:PC 66:=aZ func66 (by kernel_rfl)
@[go_sem] theorem pcall67:PC 67:=aZ func67 (by kernel_rfl)
@[go_sem] theorem pcall69:PC 69:=aZ func69 (by kernel_rfl)
@[go_sem] theorem pcall71:PC 71:=aZ func71 (by kernel_rfl)
@[go_sem] theorem pcall72:PC 72:=aZ func72 (by kernel_rfl)
@[go_sem] theorem pcall73:PC 73:=aZ func73 (by kernel_rfl)
@[go_sem] theorem pcall75:PC 75:=aZ func75 (by kernel_rfl)
@[go_sem] theorem pcall76:PC 76:=aZ func76 (by kernel_rfl)
@[go_sem] theorem pcall77:PC 77:=aZ func77 (by kernel_rfl)
@[go_sem] theorem pcall78:PC 78:=aZ func78 (by kernel_rfl)
@[go_sem] theorem pcall79:PC 79:=aZ func79 (by kernel_rfl)
@[go_sem] theorem pcall80:PC 80:=aZ func80 (by kernel_rfl)
@[go_sem] theorem pcall81:PC 81:=aZ func81 (by kernel_rfl)
@[go_sem] theorem pcall82:PC 82:=aZ func82 (by kernel_rfl)
@[go_sem] theorem pcall83:PC 83:=aZ func83 (by kernel_rfl)
@[go_sem] theorem pcall84:PC 84:=aZ func84 (by kernel_rfl)
@[go_sem] theorem pcall85:PC 85:=aZ func85 (by kernel_rfl)
@[go_sem] theorem pcall86:PC 86:=aZ func86 (by kernel_rfl)
@[go_sem] theorem pcall87:PC 87:=aZ func87 (by kernel_rfl)
@[go_sem] theorem pcall88:PC 88:=aZ func88 (by kernel_rfl)
@[go_sem] theorem pcall89:PC 89:=aZ func89 (by kernel_rfl)
@[go_sem] theorem pcall90:PC 90:=aZ func90 (by kernel_rfl)
@[go_sem] theorem pcall91:PC 91:=aZ func91 (by kernel_rfl)
@[go_sem] theorem pcall93:PC 93:=aZ func93 (by kernel_rfl)
@[go_sem] theorem pcall94:PC 94:=aZ func94 (by kernel_rfl)
@[go_sem] theorem pcall95:PC 95:=aZ func95 (by kernel_rfl)
@[go_sem] theorem pcall102:PC 102:=aZ func102 (by kernel_rfl)
@[go_sem] theorem pcall116:PC 116:=aZ func116 (by kernel_rfl)
@[go_sem] theorem pcall117:PC 117:=aZ func117 (by kernel_rfl)
@[go_sem] theorem pcall118:PC 118:=aZ func118 (by kernel_rfl)
@[go_sem] theorem pcall119:PC 119:=aZ func119 (by kernel_rfl)
@[go_sem] theorem pcall120:PC 120:=aZ func120 (by kernel_rfl)
@[go_sem] theorem pcall126:PC 126:=aZ func126 (by kernel_rfl)
@[go_sem] theorem pcall127:PC 127:=aZ func127 (by kernel_rfl)
@[go_sem] theorem pcall128:PC 128:=aZ func128 (by kernel_rfl)
@[go_sem] theorem pcall129:PC 129:=aZ func129 (by kernel_rfl)
@[go_sem] theorem pcall130:PC 130:=aZ func130 (by kernel_rfl)
@[go_sem] theorem pcall132:PC 132:=aZ func132 (by kernel_rfl)
@[go_sem] theorem pcall133:PC 133:=aZ func133 (by kernel_rfl)
@[go_sem] theorem pcall134:PC 134:=aZ func134 (by kernel_rfl)
@[go_sem] theorem pcall135:PC 135:=aZ func135 (by kernel_rfl)
@[go_sem] theorem pcall136:PC 136:=aZ func136 (by kernel_rfl)
@[go_sem] theorem pcall137:PC 137:=aZ func137 (by kernel_rfl)
@[go_sem] theorem pcall138:PC 138:=aZ func138 (by kernel_rfl)
@[go_sem] theorem pcall139:PC 139:=aZ func139 (by kernel_rfl)
@[go_sem] theorem pcall140:PC 140:=aZ func140 (by kernel_rfl)
@[go_sem] theorem pcall146:PC 146:=aZ func146 (by kernel_rfl)
@[go_sem] theorem pcall149:PC 149:=aZ func149 (by kernel_rfl)
@[go_sem] theorem pcall150:PC 150:=aZ func150 (by kernel_rfl)
@[go_sem] theorem pcall157:PC 157:=aZ func157 (by kernel_rfl)
@[go_sem] theorem pcall163:PC 163:=aZ func163 (by kernel_rfl)
@[go_sem] theorem pcall164:PC 164:=aZ func164 (by kernel_rfl)
@[go_sem] theorem pcall166:PC 166:=aZ func166 (by kernel_rfl)
@[go_sem] theorem pcall168:PC 168:=aZ func168 (by kernel_rfl)
@[go_sem] theorem pcall169:PC 169:=aZ func169 (by kernel_rfl)
@[go_sem] theorem pcall170:PC 170:=aZ func170 (by kernel_rfl)
@[go_sem] theorem pcall171:PC 171:=aZ func171 (by kernel_rfl)
@[go_sem] theorem pcall172:PC 172:=aZ func172 (by kernel_rfl)
@[go_sem] theorem pcall181:PC 181:=aZ func181 (by kernel_rfl)
@[go_sem] theorem pcall192:PC 192:=aZ func192 (by kernel_rfl)
@[go_sem] theorem pcall193:PC 193:=aZ func193 (by kernel_rfl)
@[go_sem] theorem pcall194:PC 194:=aZ func194 (by kernel_rfl)
@[go_sem] theorem pcall195:PC 195:=aZ func195 (by kernel_rfl)
@[go_sem] theorem pcall196:PC 196:=aZ func196 (by kernel_rfl)
@[go_sem] theorem pcall215:PC 215:=aZ func215 (by kernel_rfl)
@[go_sem] theorem pcall216:PC 216:=aZ func216 (by kernel_rfl)
end
section
open Go.RowKit
abbrev aaa:=@And.intro
abbrev aab:=@Below.refl
abbrev aac:=@Below.heap_alloc
abbrev aad:=@Below.heap_setCell
abbrev aae:=@heap_alloc_new
abbrev aaf:=@ownsRow_setCell_below
abbrev aag:=@World.ownsRow_nil
abbrev aah:=@List.take_of_length_le
abbrev aai:=@List.length_filter_le
abbrev aaj:=@List.filter_append
abbrev aak:=@List.mem_of_getElem?
abbrev aal:=@rounds_succ
abbrev aam:=@heap_alloc2_new
abbrev aan:=@block_lt_of_cell
abbrev aao:=@World.size_alloc
abbrev aap:=@heap_alloc2_old
end
namespace Z
open Go.RowKit
structure After (W:World) where
 val:World
 later:Below W.heap.size W val
theorem After.cell {W}(x:After W){b o}(h:b<W.heap.size):x.val.cell? ⟨b,o,none⟩=W.cell? ⟨b,o,none⟩:=x.later.cell (p:=⟨b,o,none⟩) h
theorem After.frozen {W}(x:After W){b o}(h:b<W.heap.size):x.val.frozen? ⟨b,o,none⟩=W.frozen? ⟨b,o,none⟩:=x.later.frozen (p:=⟨b,o,none⟩) h
theorem _root_.Go.RowKit.Below.drewN {B:Nat}{a w:World}(h:Below B a w)(n:Nat):Below B a (w.drewN n):=⟨h.os,h.tape,h.output,h.size,h.block⟩
theorem After.const {W}{p}:(After W->p)↔p:=⟨λh=>h ⟨W,aab _ _⟩,λh _=>h⟩
theorem bcell {W w1}(hb:Below W.heap.size W w1):(∀b o,b<W.heap.size->w1.cell? ⟨b,o,none⟩=W.cell? ⟨b,o,none⟩)/\(∀b o,b<W.heap.size->w1.frozen? ⟨b,o,none⟩=W.frozen? ⟨b,o,none⟩):=
 ⟨λb o h=>hb.cell (p:=⟨b,o,none⟩) h,λb o h=>hb.frozen (p:=⟨b,o,none⟩) h⟩
theorem ai {a b c}(h:Below a.heap.size a b)(k:Below b.heap.size b c):Below a.heap.size a c:=h.trans (k.mono h.size)
theorem dx {P}{id}{Q}{a}{w}{l}(hm:P.follows .mixedOrders=true)(b:Region.lexB .any l.toArray=true)
 (h:wpQuiet P l.toArray (λw'=>∃x:After w,w'=x.val) (λa'=>∀w',(∃x:After w,w'=x.val)->Q .normal a' w') l a):(Code.region id l.toArray true).wp P Q a w:=
 wp_region_quiet (C:=λw'=>∃x:After w,w'=x.val) hm b ⟨⟨w.drew,(aab _ _).drew⟩,rfl⟩ (by simpa using h)
theorem Calls.after {P}{f}{args}{W}{x:After W}{v}
 (h:Calls P f args x.val λe w'=>e=.returned v/\Below x.val.heap.size x.val w'):Calls P f args x.val λe a=>e=.returned v/\∃y:After W,a=y.val:=
 h.mono λ_ w' ⟨he,hm⟩=>⟨he,⟨w',ai x.later hm⟩,rfl⟩
def Ans (P:Prop)(e:Ending):Prop:=∃r:Bool,e=.returned (.bool r)/\(r=true↔P)
theorem Ans.yes {P}(h:P):Ans P (.returned (.bool true)):=⟨true,rfl,by simp[h]⟩
theorem Ans.no {P}(h:¬P):Ans P (.returned (.bool false)):=⟨false,rfl,by simp[h]⟩
theorem Ans.fP {P}{e}(h:Ans P e)(hp:P):e=.returned (.bool true):=by
 obtain⟨r,rfl,a⟩:=h;rw[a.2 hp]
theorem Ans.is_false {P}{e}(h:Ans P e)(hp:¬P):e=.returned (.bool false):=by
 obtain⟨r,rfl,a⟩:=h;cases r
 .rfl
 .exact absurd (a.1 rfl) hp
theorem Calls.iU {P}{f}{args}{W}{x:After W}{A}(hA:A)
 (h:Calls P f args x.val λe w'=>Ans A e/\Below x.val.heap.size x.val w'):Calls P f args x.val λe a=>e=.returned (.bool true)/\∃y:After W,a=y.val:=
 Calls.after (h.mono λ_ _ ⟨he,hm⟩=>⟨he.fP hA,hm⟩)
theorem Calls.after_no {P}{f}{args}{W}{x:After W}{A}(hA:¬A)
 (h:Calls P f args x.val λe w'=>Ans A e/\Below x.val.heap.size x.val w'):Calls P f args x.val λe a=>e=.returned (.bool false)/\∃y:After W,a=y.val:=
 Calls.after (h.mono λ_ _ ⟨he,hm⟩=>⟨he.is_false hA,hm⟩)
def pop (m:Nat):Nat:=m%2+m/2%2+m/4%2+m/8%2
theorem onesCount64_any (m:Nat)(h:m<16)(w):Calls (patch ae prog) 215 #[.int .u64 m] w λe w'=>e=.returned (.int .i64 (pop m))/\w'=w:=by
 obtain rfl|rfl|rfl|rfl|rfl|rfl|rfl|rfl|rfl|rfl|rfl|rfl|rfl|rfl|rfl|rfl:m=0\/m=1\/m=2\/m=3\/m=4\/m=5\/m=6\/m=7\/m=8\/m=9\/m=10\/m=11\/m=12\/m=13\/m=14\/m=15:=by omega
 all_goals(
  go_enter (pf func215 (by rfl)),ntmps215
  go_wp2_with fail;go_ret;exact⟨by kernel_rfl,rfl⟩)
theorem iI (m:Nat)(h:m<16)(w):Calls (patch ae prog) 163 #[.int .u64 m] w λe w'=>e=.returned (.int .i64 (pop m))/\w'=w:=by
 go_enter (pf func163 (by rfl)),ntmps163
 go_wp2_with(first
  |(go_at_call 192;go_enter (pf func192 (by rfl)),ntmps192)
  |(go_at_call 215;refine(onesCount64_any m h _).mono ?_;rintro e w1 ⟨he,hw⟩;obtain rfl:=he;obtain rfl:=hw.symm))
 go_ret;exact⟨rfl,rfl⟩
def has (m k:Nat):Bool:=m/2^k%2==1
theorem has_any (m k:Nat)(h:m<16)(a:k<4)(w):Calls (patch ae prog) 164 #[.int .u64 m,.int .i64 k] w λe w'=>e=.returned (.bool (has m k))/\w'=w:=by
 obtain rfl|rfl|rfl|rfl:k=0\/k=1\/k=2\/k=3:=by omega
 all_goals(
  obtain rfl|rfl|rfl|rfl|rfl|rfl|rfl|rfl|rfl|rfl|rfl|rfl|rfl|rfl|rfl|rfl:m=0\/m=1\/m=2\/m=3\/m=4\/m=5\/m=6\/m=7\/m=8\/m=9\/m=10\/m=11\/m=12\/m=13\/m=14\/m=15:=by omega
  all_goals(
   go_enter (pf func164 (by rfl)),ntmps164
   go_wp2_with fail;go_ret;exact⟨by kernel_rfl,rfl⟩))
def fM (c:Nat->Int)(m:Nat):Nat->Int
 |0=>0
 |k+1=>fM c m k+if has m k then c k else 0
theorem wsum_le {c}(m){b}(hb:0<=b)(h:∀k,k<4->0<=c k/\c k<=b):∀j,j<=4->0<=fM c m j/\fM c m j<=j*b
 |0,_=>⟨Int.le_refl _,by simp[fM]⟩
 |j+1,a=>by
  have f:=wsum_le m hb h j (by omega);have d:=h j (by omega);unfold fM;have e:((j+1:Nat):Int)*b=j*b+b:=by rw[Int.natCast_add,Int.add_mul];simp
  rw[e];split<;>constructor<;>omega
theorem index0 (a b c d)(w):Sem.run (patch ae prog) (Instr.index 131 (.agg #[a,b,c,d]) (.int .i64 0)) w=.ok a w:=by kernel_rfl
theorem index1 (a b c d)(w):Sem.run (patch ae prog) (Instr.index 131 (.agg #[a,b,c,d]) (.int .i64 1)) w=.ok b w:=by kernel_rfl
theorem index2 (a b c d)(w):Sem.run (patch ae prog) (Instr.index 131 (.agg #[a,b,c,d]) (.int .i64 2)) w=.ok c w:=by kernel_rfl
theorem index3 (a b c d)(w):Sem.run (patch ae prog) (Instr.index 131 (.agg #[a,b,c,d]) (.int .i64 3)) w=.ok d w:=by kernel_rfl
theorem nN (c)(m:Nat)(hm:m<16)(hc:∀k,k<4->0<=c k/\c k<=24)(w):
 Calls (patch ae prog) 120 #[.agg #[.int .i64 (c 0),.int .i64 (c 1),.int .i64 (c 2),.int .i64 (c 3)],.int .u64 m] w λe w'=>e=.returned (.int .i64 (fM c m 4))/\Below w.heap.size w w':=by
 have p:Hid (∀k,k<4->0<=c k/\c k<=24):=hc;clear hc;have x0:=index0;have x1:=index1;have x2:=index2;have x3:=index3
 go_enter (pf func120 (by rfl)),ntmps120
 go_wp2_with fail
 go_loop [5,9] (λs i=>∃j:Nat,j<=4/\i=.int .i64 j/\s=.int .i64 (fM c m j)) (λ_ i=>4-(intOf i).toNat)
 case atStart=>exact⟨0,by omega,rfl,rfl⟩
 case round=>
  obtain⟨j,q,rfl,rfl⟩:=hrel;have hs:=wsum_le m (b:=24) (by omega) p.out j q;obtain⟨s,d⟩:∃s,s=fM c m j:=⟨_,rfl⟩;rw[<-d]at hs⊢
  by_cases h:j<4
  .have r:=p.out j h
   have a:fM c m (j+1)=s+if has m j then c j else 0:=by rw[d];rfl
   obtain⟨g,f⟩:∃g,g=j+1:=⟨_,rfl⟩;rw[<-f]at a;have o:Hid (fM c m g=s+if has m j then c j else 0):=a;have HJ:Hid (g=j+1/\g<=4):=⟨f,by omega⟩;clear a d f;have l:j=0\/j=1\/j=2\/j=3:=(by omega);cases n:has m j
   all_goals(
        rcases l with rfl|rfl|rfl|rfl
        all_goals(
         go_wp2_with(go_at_call 164;refine(has_any m _ hm (by omega) _).mono ?_;rintro e w1 ⟨he,hw⟩;rw[n]at he;obtain rfl:=he;obtain rfl:=hw.symm);go_roundw
         case rel=>exact⟨g,HJ.out.2,by rw[HJ.out.1];rfl,by first|(simp[o.out,n];done)|(rw[o.out,n];go_num)⟩
         case measure=>simp[intOf]))
  .have:j=4:=by omega
   subst this;go_wp2_with fail;go_ret;exact⟨by first|rfl|(rw[d];rfl),(aab _ _).alloc (ZL _) _⟩
attribute [local go_sem ↓] Go.wp_at_zero Go.wp_at_succ
def fI (W M:Nat):List Nat:=(List.range W).flatMap (λk=>(List.range 16).filter λm=>pop m==k&&decide (0<m))++(List.range M).filter λm=>pop m==W&&decide (0<m)
def ordV (W M:Nat):List Value:=(fI W M).map λm:Nat=>Value.int .u64 (m:Int)
theorem ordTo_hit {W M}(h:pop M=W)(a:0<M):fI W (M+1)=fI W M++[M]:=by
 unfold fI;rw[show List.range (M+1)=List.range M++[M]from Z6,aaj,<-List.append_assoc];simp[h,a]
theorem ordTo_miss {W M}(h:pop M≠W):fI W (M+1)=fI W M:=by
 unfold fI;rw[show List.range (M+1)=List.range M++[M]from Z6,aaj,<-List.append_assoc];simp[h]
theorem ordTo_next (W):fI (W+1) 1=fI W 16:=by
 unfold fI;rw[show List.range (W+1)=List.range W++[W]from Z6,List.flatMap_append,List.append_assoc]
 congr 1
 have e:List.range 1=[0]:=rfl;rw[e];simp
theorem ordTo_le {W M}(a:M<=16):(fI W M).length<=16*W+16:=by
 unfold fI;rw[Z7,List.length_flatMap];have d:((List.range M).filter λm=>pop m==W&&decide (0<m)).length<=16:=ZP (aai _ _) (by simpa using a)
 have b:∀l:List Nat,(l.map λk=>((List.range 16).filter λm=>pop m==k&&decide (0<m)).length).sum<=16*l.length:=λl=>by
  induction l with
  |nil=>simp
  |cons k l c=>
   have:=aai (λm=>pop m==k&&decide (0<m)) (List.range 16);simp only[List.map_cons,List.sum_cons,List.length_cons,List.length_range]at this⊢;omega
 have:=b (List.range W);rw[List.length_range]at this;omega
theorem infoMask:((patch ae prog).info? 143).map (λi=>(i.zero,i.size,i.bytes))=some (some (.int .u64 0),1,8):=by kernel_rfl
theorem gW (w):Calls (patch ae prog) 119 #[] w λe w'=>∃v,e=.returned v/\w'.ownsRow w.heap.size 143 1 v (fI 5 1).length (ordV 5 1)/\Below w.heap.size w w':=by
 obtain⟨i0,s,j,g,f⟩:=info_parts infoMask;have hu:=((ax ae prog 180).trans underlying180)
 go_enter (pf func119 (by rfl)),ntmps119
 go_wp2_with fail
 go_loopw [1,2] (λv i wr=>∃W:Nat,1<=W/\W<=5/\i=.int .i64 W/\wr.ownsRow w.heap.size 143 1 v (fI W 1).length (ordV W 1)/\Below w.heap.size w wr) (λ_ i _=>5-(intOf i).toNat)
 case atStart=>exact⟨1,by omega,by omega,rfl,aag _ _ _ _,aab _ _⟩
 case round=>
  obtain⟨W,x,t,rfl,a,hb⟩:=hrel;have d:Hid (wr.ownsRow w.heap.size 143 1 u1 (fI W 1).length (ordV W 1)/\Below w.heap.size w wr):=⟨a,hb⟩;clear a hb
  by_cases r:W<=4
  .have l:decide ((W:Int)<=4)=true:=decide_eq_true (by omega)
   go_wp2_with fail
   go_loopw [1,3] (λv i k=>∃M:Nat,1<=M/\M<=16/\i=.int .u64 M/\k.ownsRow w.heap.size 143 1 v (fI W M).length (ordV W M)/\Below w.heap.size w k) (λ_ i _=>16-(intOf i).toNat)
   case atStart=>exact⟨1,by omega,by omega,rfl,d.out.1,d.out.2⟩
   case round=>
        obtain⟨M,y,m,rfl,a,hb⟩:=hrel;have c:Hid (wr.ownsRow w.heap.size 143 1 u1 (fI W M).length (ordV W M)/\Below w.heap.size w wr):=⟨a,hb⟩;have z:w.heap.size<=wr.heap.size:=hb.size;clear a hb
        by_cases A:M<=15
        .have hlen:=ordTo_le (W:=W) (M:=M) (by omega)
         by_cases hp:pop M=W
         .go_wp2_with(first
           |(go_at_call 163;refine(iI M (by omega) _).mono ?_;rintro e w1 ⟨he,hw⟩;rw[hp]at he;obtain rfl:=he;obtain rfl:=hw.symm)
           |(at_builtin;refine wpList_append_own _ rfl _ _ _ rfl w.heap.size 143 i0 _ 1 8 hu s j g f rfl (by omega) _ (fI W M).length (ordV W M) rfl (c.out.1.alloc _) ⟨wr.heap.size,0,none⟩ 1 1 [.int .u64 M] rfl rfl (cell_one_new _ _ _) (by intro u hu;simp at hu;subst hu;rfl) (by unfold maxLen;omega) (by omega) (by simp;omega) ?_;intro v' w1 a b _))
          have n:Hid (w1.ownsRow w.heap.size 143 1 v' (fI W (M+1)).length (ordV W (M+1))/\Below w.heap.size w w1):=by
           refine⟨?_,(c.out.2.alloc (by omega) _).grown b (by simp;omega) (λq o=>(c.out.1.lt q o).1)⟩;unfold ordV;rw[ordTo_hit hp (by omega)];simpa[ordV] using a
          clear a b;go_wp2_with fail;go_roundw
          case rel=>exact⟨M+1,by omega,by omega,by go_num,n.out.1,n.out.2⟩
          case measure=>simp[intOf];omega
         .have p:¬(pop M:Int)=W:=λh=>hp (by exact_mod_cast h)
          go_wp2_with(go_at_call 163;refine(iI M (by omega) _).mono ?_;rintro e w1 ⟨he,hw⟩;obtain rfl:=he;obtain rfl:=hw.symm);go_roundw
          case rel=>exact⟨M+1,by omega,by omega,by go_num,by unfold ordV;rw[ordTo_miss hp];exact c.out.1,c.out.2⟩
          case measure=>simp[intOf];omega
        .have:M=16:=by omega
         subst this;go_wp2_with fail;go_roundw
         case rel=>exact⟨W+1,by omega,by omega,by go_num,by unfold ordV;rw[ordTo_next];exact c.out.1,c.out.2⟩
         case measure=>simp[intOf];omega
  .have:W=5:=by omega
   subst this;go_wp2_with fail;go_ret;exact⟨_,rfl,d.out.1,d.out.2⟩
def place (s n c:Int):Prop:=0<=s/\s<4/\0<=n/\n<4/\0<=c/\c<24
def agr (s n c s' a b:Int):Prop:=¬(c=b/\n≠a)/\(n≠a\/s=s')
def okCs (S N C:Nat->Int)(n:Nat):Prop:=∀i,i<n->place (S i) (N i) (C i)/\∀j,j<i->agr (S i) (N i) (C i) (S j) (N j) (C j)
def okRs (n:Nat)(R:Nat->Int)(r:Nat):Prop:=∀i,i<r->0<=R i/\R i<n/\(0<i->R (i-1)<R i)
def okM (n:Nat)(S N C:Nat->Int)(r:Nat)(R:Nat->Int)(p:Int):Prop:=1<=n/\n<=24/\okCs S N C n/\okRs n R r/\0<=p/\p<=3
def dK (w:World)(b o n:Nat)(S N C:Nat->Int):Prop:=
 ∀i,i<n->w.cell? ⟨b,o+i*3,none⟩=some (.int .i64 (S i))/\w.cell? ⟨b,o+i*3+1,none⟩=some (.int .i64 (N i))/\w.cell? ⟨b,o+i*3+2,none⟩=some (.int .i64 (C i))
def gM (w:World)(b o n:Nat)(R:Nat->Int):Prop:=∀i,i<n->w.cell? ⟨b,o+i,none⟩=some (.int .i64 (R i))
theorem dK.ext {w w'}{b o n}{S N C}(h:dK w b o n S N C)(hb:Below w.heap.size w w'):dK w' b o n S N C:=λi d=>by
 obtain⟨c,f,e⟩:=h i d;have a:b<w.heap.size:=aan c;exact⟨(hb.cell (p:=⟨b,_,none⟩) a).trans c,(hb.cell (p:=⟨b,_,none⟩) a).trans f,(hb.cell (p:=⟨b,_,none⟩) a).trans e⟩
theorem gM.ext {w w'}{b o n}{R}(h:gM w b o n R)(hb:Below w.heap.size w w'):gM w' b o n R:=λi d=>by
 have c:=h i d;have a:b<w.heap.size:=aan c;exact(hb.cell (p:=⟨b,_,none⟩) a).trans c
theorem dK.after {w W}{b o n}{S N C}(h:dK w b o n S N C)(hb:Below w.heap.size w W)(x:After W):dK x.val b o n S N C:=h.ext (ai hb x.later)
theorem dK.mono {w}{b o n m}{S N C}(h:dK w b o n S N C)(hm:m<=n):dK w b o m S N C:=λi a=>h i (by omega)
theorem agree_any (s n c s' a b)(w):
 Calls (patch ae prog) 181 #[.agg #[.int .i64 s,.int .i64 n,.int .i64 c],.agg #[.int .i64 s',.int .i64 a,.int .i64 b]] w λe w'=>
  Ans (agr s n c s' a b) e/\Below w.heap.size w w':=by
 by_cases hc:c=b<;>by_cases d:n=a<;>by_cases hs:s=s'<;>(
  go_enter (pf func181 (by rfl)),ntmps181
  go_wp2_with fail;go_ret;exact⟨⟨_,rfl,by simp[agr,hc,d,hs]⟩,((aab _ _).alloc (ZL _) _).alloc (by simp) _⟩)
theorem eu (s n c)(b o k cap)(S N C)(w)(E:k<=9223372036854775807)(hcell:dK w b o k S N C):
 Calls (patch ae prog) 150 #[.agg #[.int .i64 s,.int .i64 n,.int .i64 c],.slice (some ⟨b,o,none⟩) k cap] w λe w'=>
  Ans ((∀i,i<k->agr s n c (S i) (N i) (C i))) e/\Below w.heap.size w w':=by
 go_enter (pf func150 (by rfl)),ntmps150
 go_wp2_with fail
 go_loopw [9] (λi wr=>∃j:Nat,j<=k/\i=.int .i64 j/\Below w.heap.size w wr/\wr.cell? ⟨w.heap.size,0,none⟩=some (.int .i64 s)/\wr.cell? ⟨w.heap.size,1,none⟩=some (.int .i64 n)/\wr.cell? ⟨w.heap.size,2,none⟩=some (.int .i64 c)/\∀i,i<j->agr s n c (S i) (N i) (C i))
  (λi _=>k-(intOf i).toNat)
 case atStart=>exact⟨0,Nat.zero_le _,rfl,(aab _ _).alloc (ZL _) _,by simp,by simp,by simp,λi v=>absurd v (ZV _)⟩
 case round=>
  obtain⟨j,F,rfl,hb,x,D,B,d⟩:=hrel;have z:Hid (∀i,i<j->agr s n c (S i) (N i) (C i)):=d;clear d;have l:w.heap.size<wr.heap.size:=aan x
  by_cases q:j<k
  .obtain⟨c0,y,c2⟩:=hcell j q
   have m:b<w.heap.size:=aan c0;have c0:=(hb.cell (p:=⟨b,o+j*3,none⟩) m).trans c0;have y:=(hb.cell (p:=⟨b,o+j*3+1,none⟩) m).trans y;have c2:=(hb.cell (p:=⟨b,o+j*3+2,none⟩) m).trans c2;go_wp2_with fail;refine(agree_any s n c (S j) (N j) (C j) _).mono ?_;rintro e w1 ⟨⟨r,rfl,u⟩,t⟩;have a:Below w.heap.size w w1:=(hb.alloc (by omega) _).trans (t.mono (by simp;omega));obtain⟨g,A⟩:=bcell t;cases r
   .have f:Hid (¬agr s n c (S j) (N j) (C j)):=λh=>by simp[h]at u
    clear u;go_wp2_with fail;go_ret;exact⟨.no (λh=>f.out (h j q)),a⟩
   .have f:Hid (agr s n c (S j) (N j) (C j)):=u.1 rfl
    clear u;go_wp2_with fail;go_roundw
    case rel=>exact⟨j+1,by omega,by go_num,a,by rw[g _ _ (by simp;omega)];simpa[World.cell?_alloc_past _ _ _ l] using x,by rw[g _ _ (by simp;omega)];simpa[World.cell?_alloc_past _ _ _ l] using D,by rw[g _ _ (by simp;omega)];simpa[World.cell?_alloc_past _ _ _ l] using B,λi v=>by
     rcases Nat.lt_succ_iff_lt_or_eq.1 v with h|h
     .exact z.out i h
     .subst h;exact f.out⟩
    case measure=>simp[intOf];omega
  .have:j=k:=by omega
   subst this;go_wp2_with fail;go_ret;exact⟨.yes z.out,hb⟩
theorem dF (s n c)(w):
 Calls (patch ae prog) 149 #[.agg #[.int .i64 s,.int .i64 n,.int .i64 c]] w λe w'=>
  Ans (place s n c) e/\Below w.heap.size w w':=by
 go_enter (pf func149 (by rfl)),ntmps149
 go_wp2_with(first|(go_at_call 102;go_enter (pf func102 (by rfl)),ntmps102)|(go_at_call 65;go_enter (pf func65 (by rfl)),ntmps65))
 all_goals(go_ret;exact⟨⟨_,rfl,by simp only[place];simp;omega⟩,(aab _ _).alloc (ZL _) _⟩)
theorem dR (ao)(b o k cap n:Nat)(R)(w)(x:k<=9223372036854775807)(v:n<=24)(u:0<k->ao=some ⟨b,o,none⟩)(hcell:gM w b o k R):
 Calls (patch ae prog) 94 #[.slice ao k cap,.int .i64 n] w λe w'=>
  Ans (okRs n R k) e/\w'=w:=by
 go_enter (pf func94 (by rfl)),ntmps94
 go_wp2_with fail
 go_loop [5,10] (λl i=>∃j:Nat,∃last:Int,j<=k/\i=.int .i64 j/\l=.int .i64 last/\-1<=last/\last<24/\(last=if j=0 then -1 else R (j-1))/\okRs n R j)
  (λ_ i=>k-(intOf i).toNat)
 case atStart=>exact⟨0,-1,Nat.zero_le _,rfl,rfl,by omega,by omega,rfl,λi p=>absurd p (ZV _)⟩
 case round=>
  obtain⟨j,last,y,rfl,rfl,t,s,f,d⟩:=hrel;have g:Hid (okRs n R j/\last=if j=0 then -1 else R (j-1)):=⟨d,f⟩;clear d f
  by_cases c:j<k
  .have c0:=hcell j c
   have q:=u (by omega);subst q
   by_cases A:R j<=last
   .go_wp2_with fail
    go_ret;refine⟨.no λh=>?_,rfl⟩;have r:=h j c;have a:=g.out.2
    by_cases m:j=0
    .subst m;simp at a;omega
    .rw[if_neg m]at a;have:=r.2.2 (by omega);omega
   .by_cases z:(n:Int)<=R j
    .go_wp2_with fail
     go_ret;refine⟨.no λh=>?_,rfl⟩;have r:=h j c;omega
    .go_wp2_with fail
     go_round
     case rel=>exact⟨j+1,R j,by omega,by go_num,rfl,by omega,by omega,by simp,λi p=>by
      rcases Nat.lt_succ_iff_lt_or_eq.1 p with h|h
      .exact g.out.1 i h
      .subst h
       refine⟨by omega,by omega,λm=>?_⟩;have a:=g.out.2;rw[if_neg (by omega)]at a;omega⟩
     case measure=>simp[intOf];omega
  .have:j=k:=by omega
   subst this;go_wp2_with fail;go_ret;exact⟨.yes g.out.1,rfl⟩
attribute [local go_sem] After.cell After.frozen After.const
theorem eB (ao)(b o n cap)(S N C)(w)(A:n<=9223372036854775807)(hc:n<=cap)(x:0<n->ao=some ⟨b,o,none⟩)(hcell:dK w b o n S N C):
 Calls (patch ae prog) 93 #[.slice ao n cap] w λe w'=>
  Ans (1<=n/\n<=24/\okCs S N C n) e/\Below w.heap.size w w':=by
 by_cases v:n<1
 .have:n=0:=by omega
  subst this
  go_enter (pf func93 (by rfl)),ntmps93
  go_wp2_with fail;go_ret;exact⟨.no (by omega),aab _ _⟩
 have m:=x (by omega);subst m
 by_cases r:24<n
 .go_enter (pf func93 (by rfl)),ntmps93
  go_wp2_with fail;go_ret;exact⟨.no (by omega),aab _ _⟩
 go_enter (pf func93 (by rfl)),ntmps93
 go_wp2_with fail
 go_loopw [15] (λi wr=>∃j:Nat,j<=n/\i=.int .i64 j/\Below w.heap.size w wr/\okCs S N C j) (λi _=>n-(intOf i).toNat)
 case atStart=>exact⟨0,Nat.zero_le _,rfl,aab _ _,λi l=>absurd l (ZV _)⟩
 case round=>
  obtain⟨j,B,rfl,hb,g⟩:=hrel;have u:Hid (okCs S N C j):=g;clear g;have z:=hb.size
  by_cases d:j<n
  .obtain⟨c0,s,c2⟩:=hcell j d
   have f:b<w.heap.size:=aan c0;have t:Hid (dK wr b o j S N C):=(hcell.mono (by omega)).ext hb;have c0:=(hb.cell (p:=⟨b,o+j*3,none⟩) f).trans c0;have s:=(hb.cell (p:=⟨b,o+j*3+1,none⟩) f).trans s;have c2:=(hb.cell (p:=⟨b,o+j*3+2,none⟩) f).trans c2;have i0:(0:Int)<=(j:Int):=(by omega);have y:(j:Int)<=(cap:Int):=(by omega);clear hcell;have q:Hid (Below w.heap.size w wr):=hb
   by_cases hp:place (S j) (N j) (C j)
   .by_cases k:∀i,i<j->agr (S j) (N j) (C j) (S i) (N i) (C i)
    .have c:Hid (place (S j) (N j) (C j)/\∀i,i<j->agr (S j) (N j) (C j) (S i) (N i) (C i)):=⟨hp,k⟩
     clear hp k;go_wp2_with fail;refine dx (by kernel_rfl) (by kernel_rfl) ?_
     repeat(go_big_quiet_step (first
      |(go_at_call 149;exact Calls.iU c.out.1 (dF _ _ _ _))
      |(go_at_call 150;exact Calls.iU c.out.2 (eu (S j) (N j) (C j) b o j cap S N C _ (by omega) (t.out.after ((aab _ _).alloc (ZL _) _) _)))))
     refine wpQuiet_nil ?_;rintro _ ⟨⟨w1,a⟩,rfl⟩;go_wp2_with fail;go_roundw
     case rel=>exact⟨j+1,by omega,by go_num,ai q.out (ai ((aab _ _).alloc (ZL _) _) a),λi l=>by
      rcases Nat.lt_succ_iff_lt_or_eq.1 l with h|h
      .exact u.out i h
      .subst h;exact c.out⟩
     case measure=>simp[intOf];omega
    .have c:Hid (place (S j) (N j) (C j)/\¬∀i,i<j->agr (S j) (N j) (C j) (S i) (N i) (C i)):=⟨hp,k⟩
     clear hp k;go_wp2_with fail;refine dx (by kernel_rfl) (by kernel_rfl) ?_
     repeat(go_big_quiet_step (first
      |(go_at_call 149;exact Calls.iU c.out.1 (dF _ _ _ _))
      |(go_at_call 150;exact Calls.after_no c.out.2 (eu (S j) (N j) (C j) b o j cap S N C _ (by omega) (t.out.after ((aab _ _).alloc (ZL _) _) _)))))
     refine wpQuiet_nil ?_;rintro _ ⟨⟨w1,a⟩,rfl⟩;go_wp2_with fail;go_ret;exact⟨.no λh=>c.out.2 (h.2.2 j d).2,ai q.out (ai ((aab _ _).alloc (ZL _) _) a)⟩
   .have c:Hid (¬place (S j) (N j) (C j)):=hp
    clear hp;go_wp2_with fail;refine dx (by kernel_rfl) (by kernel_rfl) ?_
    repeat(go_big_quiet_step (first
     |(go_at_call 149;exact Calls.after_no c.out (dF _ _ _ _))))
    refine wpQuiet_nil ?_;rintro _ ⟨⟨w1,a⟩,rfl⟩;go_wp2_with fail;go_ret;exact⟨.no λh=>c.out (h.2.2 j d).1,ai q.out (ai ((aab _ _).alloc (ZL _) _) a)⟩
  .have:j=n:=by omega
   subst this;go_wp2_with fail;go_ret;exact⟨.yes ⟨by omega,by omega,u.out⟩,hb⟩
structure cz where
 ao:Option Addr
 b:Nat
 o:Nat
 n:Nat
 cap:Nat
 S:Nat->Int
 N:Nat->Int
 C:Nat->Int
 ro:Option Addr
 rb:Nat
 rp:Nat
 r:Nat
 gD:Nat
 R:Nat->Int
 p:Int
def cz.val (m:cz):Value:=.agg #[.slice m.ao m.n m.cap,.slice m.ro m.r m.gD,.int .i64 m.p]
structure cz.At (m:cz)(w:World):Prop where
 ncap:m.n<=m.cap
 nmax:m.n*24<=140737488355328
 addr:0<m.n->m.ao=some ⟨m.b,m.o,none⟩
 dA:dK w m.b m.o m.n m.S m.N m.C
 rc:m.r<=m.gD
 rmax:m.r*8<=140737488355328
 raddr:0<m.r->m.ro=some ⟨m.rb,m.rp,none⟩
 ints:gM w m.rb m.rp m.r m.R
theorem cz.At.ext {m:cz}{w w'}(h:m.At w)(hb:Below w.heap.size w w'):m.At w':=⟨h.ncap,h.nmax,h.addr,h.dA.ext hb,h.rc,h.rmax,h.raddr,h.ints.ext hb⟩
def cz.ok (m:cz):Prop:=okM m.n m.S m.N m.C m.r m.R m.p
theorem valid_any (m:cz)(w)(hm:m.At w):
 Calls (patch ae prog) 60 #[m.val] w λe w'=>Ans m.ok e/\Below w.heap.size w w':=by
 obtain⟨ao,b,o,n,cap,S,N,C,ro,rb,rp,r,gD,R,p⟩:=m;obtain⟨ncap,nmax,addr,dA,rc,rmax,raddr,ints⟩:=hm;simp only[cz.val,cz.ok]at*;have f:Hid (gM w rb rp r R):=ints;have d:Hid (dK w b o n S N C):=dA;clear ints dA
 by_cases i:1<=n/\n<=24/\okCs S N C n
 .have q:n<=24:=i.2.1
  by_cases l:okRs n R r
  .have g:Hid ((1<=n/\n<=24/\okCs S N C n)/\okRs n R r):=⟨i,l⟩
   clear i l
   go_enter (pf func60 (by rfl)),ntmps60
   go_wp2_with(first
        |(go_at_call 93;refine(eB ao b o n cap S N C _ (by omega) ncap addr (d.out.ext ((aab _ _).alloc (ZL _) _))).mono ?_;rintro e w1 ⟨he,c⟩;obtain rfl:=he.fP g.out.1;clear he;obtain⟨k,j⟩:=bcell c;have a:=ai ((aab _ _).alloc (ZL _) _) c)
        |(go_at_call 94;refine(dR ro rb rp r gD n R _ (by omega) q raddr (f.out.ext a)).mono ?_;rintro e w2 ⟨he,rfl⟩;obtain rfl:=he.fP g.out.2;clear he))
   all_goals(go_ret;refine⟨⟨_,rfl,?_⟩,a⟩;simp only[okM];simp[g.out.1,g.out.2];omega)
  .have g:Hid ((1<=n/\n<=24/\okCs S N C n)/\¬okRs n R r):=⟨i,l⟩
   clear i l
   go_enter (pf func60 (by rfl)),ntmps60
   go_wp2_with(first
        |(go_at_call 93;refine(eB ao b o n cap S N C _ (by omega) ncap addr (d.out.ext ((aab _ _).alloc (ZL _) _))).mono ?_;rintro e w1 ⟨he,c⟩;obtain rfl:=he.fP g.out.1;clear he;obtain⟨k,j⟩:=bcell c;have a:=ai ((aab _ _).alloc (ZL _) _) c)
        |(go_at_call 94;refine(dR ro rb rp r gD n R _ (by omega) q raddr (f.out.ext a)).mono ?_;rintro e w2 ⟨he,rfl⟩;obtain rfl:=he.is_false g.out.2;clear he))
   go_ret;exact⟨.no λh=>g.out.2 h.2.2.2.1,a⟩
 .have g:Hid (¬(1<=n/\n<=24/\okCs S N C n)):=i
  clear i
  go_enter (pf func60 (by rfl)),ntmps60
  go_wp2_with(go_at_call 93;refine(eB ao b o n cap S N C _ (by omega) ncap addr (d.out.ext ((aab _ _).alloc (ZL _) _))).mono ?_;rintro e w1 ⟨he,c⟩;obtain rfl:=he.is_false g.out;clear he;obtain⟨k,j⟩:=bcell c;have a:=ai ((aab _ _).alloc (ZL _) _) c);go_ret;exact⟨.no λh=>g.out ⟨h.1,h.2.1,h.2.2.1⟩,a⟩
def among (R:Nat->Int)(k:Nat)(x:Int):Prop:=∃i,i<k/\R i=x
theorem set3 {w:World}{B}{x0 x1 x2}(v0 v1 v2)(c:w.cell? ⟨B,0,none⟩=some x0)(b:w.cell? ⟨B,1,none⟩=some x1)(a:w.cell? ⟨B,2,none⟩=some x2):
 (((w.setCell ⟨B,0,none⟩ v0).setCell ⟨B,1,none⟩ v1).setCell ⟨B,2,none⟩ v2).cell? ⟨B,0,none⟩=some v0/\(((w.setCell ⟨B,0,none⟩ v0).setCell ⟨B,1,none⟩ v1).setCell ⟨B,2,none⟩ v2).cell? ⟨B,1,none⟩=some v1/\
 (((w.setCell ⟨B,0,none⟩ v0).setCell ⟨B,1,none⟩ v1).setCell ⟨B,2,none⟩ v2).cell? ⟨B,2,none⟩=some v2:=by
 refine⟨?_,?_,?_⟩
 .rw[World.cell?_setCell_other _ _ _ _ (by simp),World.cell?_setCell_other _ _ _ _ (by simp),World.cell?_setCell_same _ _ _ c]
 .rw[World.cell?_setCell_other _ _ _ _ (by simp)]
  exact World.cell?_setCell_same _ _ _ ((World.cell?_setCell_other _ _ _ _ (by simp)).trans b)
 .exact World.cell?_setCell_same _ _ _ ((World.cell?_setCell_other _ _ _ _ (by simp)).trans ((World.cell?_setCell_other _ _ _ _ (by simp)).trans a))
theorem blk {w:World}{k}{cs}{t}(h:w.heap[k]? =some (.cells cs t (0,0))):(∀j,w.cell? ⟨k,j,none⟩=cs[j]?)/\(∀j,w.frozen? ⟨k,j,none⟩=false):=
 ⟨λj=>cell_of_row w k j cs t (0,0) h,λj=>frozen_of_row w k j cs t h⟩
theorem aD {w:World}{k i}{cs}{t}(v)(h:w.heap[k]? =some (.cells cs t (0,0))):(w.setCell ⟨k,i,none⟩ v).heap[k]? =some (.cells (cs.setIfInBounds i v) t (0,0)):=heap_setCell_same w k i cs t v h
theorem dP {w:World}{k}{a}{o}(v)(h:w.heap[k]? =o)(b:k≠a.block):(w.setCell a v).heap[k]? =o:=(heap_setCell_other w a k v b).trans h
theorem Tryz.info22:((patch ae prog).info? 81).map (λi=>(i.zero,i.size,i.bytes))=some (some (.agg #[.int .i64 0,.int .i64 0,.int .i64 0]),3,24):=by kernel_rfl
theorem Tryz.gQ:((patch ae prog).info? 3).map (λi=>(i.zero,i.size,i.bytes))=some (some (.int .i64 0),1,8):=by kernel_rfl
end Z
