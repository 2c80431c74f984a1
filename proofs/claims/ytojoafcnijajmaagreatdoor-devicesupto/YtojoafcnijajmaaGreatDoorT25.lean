/- Part 25 of the proof that Devices answers true and leaves its input as it was, for input of bulk at most the bound of its row: ZL3 ZM0 ZD4 ZD5. -/
import Derived.Test.YtojoafcnijajmaaGreatDoorT8
import Derived.Test.YtojoafcnijajmaaGreatDoorT24
import Derived.Deep.OwnRows
import Derived.Laws.CopyOwn
namespace Go.Proofs.YtojoafcnijajmaaGreatDoor.Z
open Go.RowKit
attribute [local go_sem ↓] Go.wp_at_zero Go.wp_at_succ
attribute [local go_sem] After.cell After.frozen After.const
structure Mach where
  ao:Option Addr
  b:Nat
  o:Nat
  n:Nat
  cap:Nat
  S:Nat → Int
  N:Nat → Int
  C:Nat → Int
  ro:Option Addr
  rb:Nat
  rp:Nat
  r:Nat
  rcap:Nat
  R:Nat → Int
  p:Int
def Mach.val (m:Mach):Value:=.agg #[.slice m.ao m.n m.cap,.slice m.ro m.r m.rcap,.int .i64 m.p]
structure Mach.At (m:Mach) (w:World):Prop where
  ncap:m.n ≤ m.cap
  nmax:m.n * 24 ≤ 140737488355328
  addr:0 < m.n → m.ao = some ⟨m.b,m.o,none⟩
  cpus:CpuAt w m.b m.o m.n m.S m.N m.C
  rc:m.r ≤ m.rcap
  rmax:m.r * 8 ≤ 140737488355328
  raddr:0 < m.r → m.ro = some ⟨m.rb,m.rp,none⟩
  ints:IntAt w m.rb m.rp m.r m.R
theorem Mach.At.ext {m:Mach} {w w':World} (h:m.At w) (hb:Below w.heap.size w w'):m.At w':=⟨h.ncap,h.nmax,h.addr,h.cpus.ext hb,h.rc,h.rmax,h.raddr,h.ints.ext hb⟩
def Mach.ok (m:Mach):Prop:=okM m.n m.S m.N m.C m.r m.R m.p
set_option maxHeartbeats 1000000 in
theorem valid_any (m:Mach) (w:World) (hm:m.At w) :
    Calls (patch shutL Tryz.prog) 45 #[m.val] w fun e w'=>Ans m.ok e ∧ Below w.heap.size w w':=by
  obtain ⟨ao,b,o,n,cap,S,N,C,ro,rb,rp,r,rcap,R,p⟩:=m
  obtain ⟨ncap,nmax,addr,cpus,rc,rmax,raddr,ints⟩:=hm
  simp only [Mach.val,Mach.ok] at *
  have ints':Hid (IntAt w rb rp r R):=ints
  have cpus':Hid (CpuAt w b o n S N C):=cpus
  clear ints cpus
  by_cases h1:1 ≤ n ∧ n ≤ 24 ∧ okCs S N C n
  · have hn:n ≤ 24:=h1.2.1
    by_cases h2:okRs n R r
    · have HP:Hid ((1 ≤ n ∧ n ≤ 24 ∧ okCs S N C n) ∧ okRs n R r):=⟨h1,h2⟩
      clear h1 h2
      go_enter (pf Tryz.func45 (by rfl)),Tryz.ntmps45
      go_wp2_with (first
        | (go_at_call 97; refine (validCPUs_any ao b o n cap S N C _ (by omega) ncap addr (cpus'.out.ext ((Below.refl _ _).alloc (Nat.le_refl _) _))).mono ?_; rintro e w1 ⟨he,hb1⟩; obtain rfl:=he.is_true HP.out.1; clear he; obtain ⟨hc1,hf1⟩:=bcell hb1; have hb1':=ext_trans ((Below.refl _ _).alloc (Nat.le_refl _) _) hb1)
        | (go_at_call 98; refine (validReserved_any ro rb rp r rcap n R _ (by omega) hn raddr (ints'.out.ext hb1')).mono ?_; rintro e w2 ⟨he,rfl⟩; obtain rfl:=he.is_true HP.out.2; clear he))
      all_goals (go_ret; refine ⟨⟨_,rfl,?_⟩,hb1'⟩; simp only [okM]; simp [HP.out.1,HP.out.2]; omega)
    · have HP:Hid ((1 ≤ n ∧ n ≤ 24 ∧ okCs S N C n) ∧ ¬ okRs n R r):=⟨h1,h2⟩
      clear h1 h2
      go_enter (pf Tryz.func45 (by rfl)),Tryz.ntmps45
      go_wp2_with (first
        | (go_at_call 97; refine (validCPUs_any ao b o n cap S N C _ (by omega) ncap addr (cpus'.out.ext ((Below.refl _ _).alloc (Nat.le_refl _) _))).mono ?_; rintro e w1 ⟨he,hb1⟩; obtain rfl:=he.is_true HP.out.1; clear he; obtain ⟨hc1,hf1⟩:=bcell hb1; have hb1':=ext_trans ((Below.refl _ _).alloc (Nat.le_refl _) _) hb1)
        | (go_at_call 98; refine (validReserved_any ro rb rp r rcap n R _ (by omega) hn raddr (ints'.out.ext hb1')).mono ?_; rintro e w2 ⟨he,rfl⟩; obtain rfl:=he.is_false HP.out.2; clear he))
      go_ret
      exact ⟨.no fun h=>HP.out.2 h.2.2.2.1,hb1'⟩
  · have HP:Hid (¬ (1 ≤ n ∧ n ≤ 24 ∧ okCs S N C n)):=h1
    clear h1
    go_enter (pf Tryz.func45 (by rfl)),Tryz.ntmps45
    go_wp2_with (go_at_call 97; refine (validCPUs_any ao b o n cap S N C _ (by omega) ncap addr (cpus'.out.ext ((Below.refl _ _).alloc (Nat.le_refl _) _))).mono ?_; rintro e w1 ⟨he,hb1⟩; obtain rfl:=he.is_false HP.out; clear he; obtain ⟨hc1,hf1⟩:=bcell hb1; have hb1':=ext_trans ((Below.refl _ _).alloc (Nat.le_refl _) _) hb1)
    go_ret
    exact ⟨.no fun h=>HP.out ⟨h.1,h.2.1,h.2.2.1⟩,hb1'⟩
set_option maxHeartbeats 400000 in
theorem num_any (a:Int) (w:World) :
    Calls (patch shutL Tryz.prog) 29 #[.int .i64 a] w fun e w'=>e = .returned (.int .i64 a) ∧ w' = w:=by
  go_enter (pf Tryz.func29 (by rfl)),Tryz.ntmps29
  go_wp2_with (first | (go_at_call 185; go_enter (pf Tryz.func185 (by rfl)),Tryz.ntmps185) | (go_at_call 110; go_enter (pf Tryz.func110 (by rfl)),Tryz.ntmps110))
  go_ret
  exact ⟨rfl,rfl⟩
set_option maxHeartbeats 400000 in
theorem within_any (a b:Int) (w:World) :
    Calls (patch shutL Tryz.prog) 59 #[.int .i64 a,.int .i64 b] w fun e w'=>Ans (0 ≤ a ∧ a < b) e ∧ w' = w:=by
  by_cases h0:0 ≤ a <;> by_cases h1:a < b <;> (
    go_enter (pf Tryz.func59 (by rfl)),Tryz.ntmps59
    go_wp2_with (first | (go_at_call 185; go_enter (pf Tryz.func185 (by rfl)),Tryz.ntmps185) | (go_at_call 110; go_enter (pf Tryz.func110 (by rfl)),Tryz.ntmps110))
    go_ret
    exact ⟨⟨_,rfl,by simp [h0,h1]⟩,rfl⟩)
def among (R:Nat → Int) (k:Nat) (x:Int):Prop:=∃ i,i < k ∧ R i = x
set_option maxHeartbeats 400000 in
theorem in_any (ao:Option Addr) (b o k cap:Nat) (R:Nat → Int) (x:Int) (w:World) (hk:k ≤ 9223372036854775807) (ha:0 < k → ao = some ⟨b,o,none⟩) (hcell:IntAt w b o k R) :
    Calls (patch shutL Tryz.prog) 146 #[.slice ao k cap,.int .i64 x] w fun e w'=>Ans (among R k x) e ∧ w' = w:=by
  go_enter (pf Tryz.func146 (by rfl)),Tryz.ntmps146
  go_wp2_with (first | (go_at_call 185; go_enter (pf Tryz.func185 (by rfl)),Tryz.ntmps185) | (go_at_call 110; go_enter (pf Tryz.func110 (by rfl)),Tryz.ntmps110))
  go_loop [5] (fun i=>∃ j:Nat,j ≤ k ∧ i = .int .i64 j ∧ ∀ i,i < j → R i ≠ x) (fun i=>k - (intOf i).toNat)
  case atStart=>exact ⟨0,Nat.zero_le _,rfl,fun i hi=>absurd hi (Nat.not_lt_zero _)⟩
  case round =>
    obtain ⟨j,hj,rfl,hall⟩:=hrel
    have HA:Hid (∀ i,i < j → R i ≠ x):=hall
    clear hall
    by_cases hlt:j < k
    · have c0:=hcell j hlt
      have ha':=ha (by omega)
      subst ha'
      by_cases h1:R j = x
      · have HX:Hid (R j = x):=h1
        have hb1:(R j == x) = true:=by simp [h1]
        clear h1
        go_wp2_with (first | (go_at_call 185; go_enter (pf Tryz.func185 (by rfl)),Tryz.ntmps185) | (go_at_call 110; go_enter (pf Tryz.func110 (by rfl)),Tryz.ntmps110))
        go_ret
        exact ⟨.yes ⟨j,hlt,HX.out⟩,rfl⟩
      · have HX:Hid (R j ≠ x):=h1
        have hb1:(R j == x) = false:=by simp [h1]
        clear h1
        go_wp2_with (first | (go_at_call 185; go_enter (pf Tryz.func185 (by rfl)),Tryz.ntmps185) | (go_at_call 110; go_enter (pf Tryz.func110 (by rfl)),Tryz.ntmps110))
        go_round
        case rel=>exact ⟨j + 1,by omega,by go_num,fun i hi=>by
            rcases Nat.lt_succ_iff_lt_or_eq.1 hi with h | h
            · exact HA.out i h
            · subst h; exact HX.out⟩
        case measure=>simp [intOf]; omega
    · have:j = k:=by omega
      subst this
      go_wp2_with (first | (go_at_call 185; go_enter (pf Tryz.func185 (by rfl)),Tryz.ntmps185) | (go_at_call 110; go_enter (pf Tryz.func110 (by rfl)),Tryz.ntmps110))
      go_ret
      exact ⟨.no fun ⟨i,hi,he⟩=>HA.out i hi he,rfl⟩
end Go.Proofs.YtojoafcnijajmaaGreatDoor.Z

namespace Go.Proofs.YtojoafcnijajmaaGreatDoor.Z
open Go.RowKit
theorem set3 {w:World} {B:Nat} {x0 x1 x2:Value} (v0 v1 v2:Value) (y0:w.cell? ⟨B,0,none⟩ = some x0) (y1:w.cell? ⟨B,1,none⟩ = some x1) (y2:w.cell? ⟨B,2,none⟩ = some x2) :
    (((w.setCell ⟨B,0,none⟩ v0).setCell ⟨B,1,none⟩ v1).setCell ⟨B,2,none⟩ v2).cell? ⟨B,0,none⟩ = some v0 ∧ (((w.setCell ⟨B,0,none⟩ v0).setCell ⟨B,1,none⟩ v1).setCell ⟨B,2,none⟩ v2).cell? ⟨B,1,none⟩ = some v1 ∧
    (((w.setCell ⟨B,0,none⟩ v0).setCell ⟨B,1,none⟩ v1).setCell ⟨B,2,none⟩ v2).cell? ⟨B,2,none⟩ = some v2:=by
  refine ⟨?_,?_,?_⟩
  · rw [World.cell?_setCell_other _ _ _ _ (by simp),World.cell?_setCell_other _ _ _ _ (by simp),World.cell?_setCell_same _ _ _ y0]
  · rw [World.cell?_setCell_other _ _ _ _ (by simp)]
    exact World.cell?_setCell_same _ _ _ ((World.cell?_setCell_other _ _ _ _ (by simp)).trans y1)
  · exact World.cell?_setCell_same _ _ _ ((World.cell?_setCell_other _ _ _ _ (by simp)).trans ((World.cell?_setCell_other _ _ _ _ (by simp)).trans y2))
theorem blk {w:World} {k:Nat} {cs:Array Value} {t:TypeId} (h:w.heap[k]? = some (.cells cs t (0,0))):(∀ j,w.cell? ⟨k,j,none⟩ = cs[j]?) ∧ (∀ j,w.frozen? ⟨k,j,none⟩ = false) :=
  ⟨fun j=>cell_of_row w k j cs t (0,0) h,fun j=>frozen_of_row w k j cs t h⟩
theorem blk_set {w:World} {k i:Nat} {cs:Array Value} {t:TypeId} (v:Value) (h:w.heap[k]? = some (.cells cs t (0,0))):(w.setCell ⟨k,i,none⟩ v).heap[k]? = some (.cells (cs.setIfInBounds i v) t (0,0)):=heap_setCell_same w k i cs t v h
theorem blk_other {w:World} {k:Nat} {a:Addr} {o:Option Obj} (v:Value) (h:w.heap[k]? = o) (hk:k ≠ a.block):(w.setCell a v).heap[k]? = o:=(heap_setCell_other w a k v hk).trans h
theorem ne_some {a b:Nat} (h:a ≠ b):some a ≠ some b:=fun e=>h (Option.some.inj e)
theorem below_of_grown {w w':World} {r:Option Nat} (h:w.grownBy w' r) (hr:∀ k,r = some k → w.heap.size ≤ k):Below w.heap.size w w' :=
  ⟨h.os,h.tape,h.output,h.size,fun k hk=>h.block k hk (fun e=>by have:=hr k e.symm; omega)⟩
theorem ex_make {P:Program} (w:World) (t e:TypeId) (z:Value) (size bytes n:Nat) (N:Int) (hN:N = n) (ht:P.underlying t = some (.slice e))
    (hinfo:(P.info? e).map (fun i=>(i.zero,i.size,i.bytes)) = some (some z,size,bytes)) (hb:bytes * n ≤ 281474976710656) (hn:n ≤ 9223372036854775807) :
    ∃ w1,(Instr.makeSlice t (.int .i64 N) (.int .i64 N)).run P w = .ok (.slice (some ⟨w.heap.size,0,none⟩) n n) w1 ∧ (∃ f,w1.rowIs w.heap.size e (n * size) f) ∧ Below w.heap.size w w1 ∧ w1.heap.size = w.heap.size + 1:=by
  obtain ⟨i,hi,hz,hs,hby⟩:=info_parts hinfo
  subst hs; subst hby; subst hN
  have hb':(i.bytes:Int) * (n:Int) ≤ 281474976710656:=by
    have h:((i.bytes * n:Nat):Int) ≤ 281474976710656:=by omega
    rwa [Int.natCast_mul] at h
  have hr:=run_make (P:=P) w t e i z ht hi hz .i64 .i64 n n (by omega) (Int.le_refl _) hb' (by omega)
  simp only [Int.toNat_natCast] at hr
  refine ⟨_,hr,⟨fun j=>(madeCells z.cells (n * i.size)).getD j undef,?_⟩,(Below.refl _ _).alloc (Nat.le_refl _) _,by simp⟩
  refine ⟨madeCells z.cells (n * i.size),heap_alloc_new _ _,size_madeCells _ _,fun j hj=>?_⟩
  rw [← size_madeCells z.cells (n * i.size)] at hj
  simp [hj]
theorem rowIs_splice {w:World} {g:Nat} {e:TypeId} {m:Nat} {f:Nat → Value} (h:w.rowIs g e m f) (o:Nat) (cs:List Value) (ho:o + cs.length ≤ m) :
    ∃ cur,w.heap[g]? = some (.cells cur e (0,0)) ∧ cur.size = m ∧ (w.setRow g (cur.toList.take o ++ cs ++ cur.toList.drop (o + cs.length)).toArray).rowIs g e m (fun j=>if o ≤ j ∧ j < o + cs.length then cs.getD (j - o) undef else f j):=by
  obtain ⟨cur,hg,hs,hc⟩:=h
  refine ⟨cur,hg,hs,_,setRow_heap w g cur _ e _ hg,?_,fun j hj=>?_⟩
  · simp; omega
  · have hcj:=hc j hj
    have hl:cur.toList.length = m:=by simpa using hs
    have hcj':cur.toList[j]? = some (f j):=by simpa using hcj
    simp only [List.getElem?_toArray]
    by_cases h1:j < o
    · rw [List.getElem?_append_left (by simp; omega),List.getElem?_append_left (by simp; omega),List.getElem?_take,if_pos h1,hcj',if_neg (by omega)]
    · by_cases h2:j < o + cs.length
      · rw [List.getElem?_append_left (by simp; omega),List.getElem?_append_right (by simp; omega),if_pos ⟨by omega,h2⟩]
        have e1:(List.take o cur.toList).length = o:=by simp; omega
        rw [e1]
        simp [List.getD,show j - o < cs.length by omega]
      · rw [List.getElem?_append_right (by simp; omega),if_neg (by omega),List.getElem?_drop]
        have e1:(List.take o cur.toList ++ cs).length = o + cs.length:=by simp; omega
        rw [e1,show o + cs.length + (j - (o + cs.length)) = j by omega,hcj']
theorem ex_copy {P:Program} (w:World) (t e:TypeId) (z:Value) (size bytes:Nat) (ht:P.underlying t = some (.slice e))
    (hinfo:(P.info? e).map (fun i=>(i.zero,i.size,i.bytes)) = some (some z,size,bytes))
    (g o dl dc m:Nat) (f:Nat → Value) (hg:w.rowIs g e m f) (so:Option Addr) (sb sp sl sc k:Nat) (hk:k = Nat.min sl dl) (src:Nat → Value)
    (hso:0 < sl → so = some ⟨sb,sp,none⟩) (hsrc:∀ j,j < k * size → w.cell? ⟨sb,sp + j,none⟩ = some (src j)) (h1:∀ j,j < k * size → (src j).oneCell' = true) (hfit:o + k * size ≤ m) :
    ∃ w1,(∀ ty,(Builtin.copy_ #[t,t] ty #[.slice (some ⟨g,o,none⟩) dl dc,.slice so sl sc]).run P w = .ok (goInt k) w1) ∧ w1.rowIs g e m (fun j=>if o ≤ j ∧ j < o + k * size then src (j - o) else f j) ∧ w.grownBy w1 (some g) ∧ w1.heap.size = w.heap.size:=by
  obtain ⟨i,hi,hz,hs,hby⟩:=info_parts hinfo
  subst hs; subst hby
  have hcl:((List.range (k * i.size)).map src).length = k * i.size:=by simp
  obtain ⟨cur,hgc,hcs,hrow⟩:=rowIs_splice hg o ((List.range (k * i.size)).map src) (by rw [hcl]; exact hfit)
  have hrow':=hrow.congr (g:=fun j=>if o ≤ j ∧ j < o + k * i.size then src (j - o) else f j) (fun j hj=>by
    rw [hcl]
    by_cases hh:o ≤ j ∧ j < o + k * i.size
    · rw [if_pos hh,if_pos hh]
      simp [List.getD,show j - o < k * i.size by omega]
    · rw [if_neg hh,if_neg hh])
  refine ⟨_,fun ty=>?_,hrow',⟨rfl,rfl,rfl,by simp [World.setRow],fun q _ hq=>setRow_other w g q _ (fun e=>hq (by rw [e]))⟩,by simp [World.setRow]⟩
  have hst:=run_storeCells_at P g o e ((List.range (k * i.size)).map src) 0 cur w hgc (by rw [hcl]; omega) (fun v hv=>by
    obtain ⟨j,hj,rfl⟩:=List.mem_map.1 hv
    exact h1 j (List.mem_range.1 hj))
  simp only [Nat.add_zero] at hst
  by_cases h0:0 < sl
  · rw [hso h0]
    have hf:=run_firstCells_some (P:=P) w i.size k ⟨sb,sp,none⟩ sl sc ((List.range (k * i.size)).map src) hcl (fun j v hv=>by
      have hj:j < k * i.size:=by
        have:=(List.getElem?_eq_some_iff.1 hv).1
        simpa using this
      simp [hj] at hv
      subst hv
      rw [Addr.add_lit]
      exact hsrc j hj)
    rw [hk] at hf hst ⊢
    simp [Builtin.copy_,run_underlying ht,sizeOf,typeInfo,hi,Builtin.lenOf,hf,hst]
  · have hsl:sl = 0:=by omega
    have hk0:k = 0:=by rw [hk,hsl]; simp
    subst hk0
    rw [hsl]
    have hst':=hst
    simp only [Nat.zero_mul,List.range_zero,List.map_nil] at hst'
    cases so with
    | none=>simp [Builtin.copy_,run_underlying ht,sizeOf,typeInfo,hi,Builtin.lenOf,Builtin.firstCells,hst']
    | some a=>simp [Builtin.copy_,run_underlying ht,sizeOf,typeInfo,hi,Builtin.lenOf,Builtin.firstCells,loadCells,loadCellsFrom,hst']
theorem Tryz.info22:((patch shutL Tryz.prog).info? 71).map (fun i=>(i.zero,i.size,i.bytes)) = some (some (.agg #[.int .i64 0,.int .i64 0,.int .i64 0]),3,24):=by kernel_rfl
theorem Tryz.infoInt:((patch shutL Tryz.prog).info? 3).map (fun i=>(i.zero,i.size,i.bytes)) = some (some (.int .i64 0),1,8):=by kernel_rfl
end Go.Proofs.YtojoafcnijajmaaGreatDoor.Z

namespace Go.Proofs.YtojoafcnijajmaaGreatDoor.Z
open Go.RowKit
attribute [local go_sem ↓] Go.wp_at_zero Go.wp_at_succ
def ord:List Nat:=ordTo 5 1
theorem ord_is:ord = [1,2,4,8,3,5,6,9,10,12,7,11,13,14,15]:=by kernel_rfl
theorem ord_lt {k m:Nat} (h:ord[k]? = some m):0 < m ∧ m < 16:=by
  have hk:k < 15:=by
    have:=(List.getElem?_eq_some_iff.1 h).1
    rw [ord_is] at this
    simpa using this
  rw [ord_is] at h
  obtain rfl | rfl | rfl | rfl | rfl | rfl | rfl | rfl | rfl | rfl | rfl | rfl | rfl | rfl | rfl:k = 0 ∨ k = 1 ∨ k = 2 ∨ k = 3 ∨ k = 4 ∨ k = 5 ∨ k = 6 ∨ k = 7 ∨ k = 8 ∨ k = 9 ∨ k = 10 ∨ k = 11 ∨ k = 12 ∨ k = 13 ∨ k = 14:=by omega
  all_goals (simp at h; omega)
def leastAt (c:Nat → Int) (want:Int):List Nat → Int
  | []=>-1
  | m :: l=>if want ≤ wsum c m 4 then (pop m:Nat) else leastAt c want l
def leastW (c:Nat → Int) (want:Int):Int:=leastAt c want ord
theorem own_cells {w:World} {base ty:Nat} {v:Value} {n:Nat} {vs:List Value} (h:w.ownsRow base ty 1 v n vs) (hn:0 < n):∃ g cap,v = .slice (some ⟨g,0,none⟩) n cap ∧ g < w.heap.size ∧ n ≤ cap ∧ cap ≤ maxLen ∧ ∀ i,i < n → w.cell? ⟨g,i,none⟩ = vs[i]?:=by
  rcases h.2 with ⟨rfl,h0⟩ | ⟨g,cap,cur,rfl,hh,hg,hk,hc,hs,ht⟩
  · have:=h.1
    rw [h0] at this
    simp at this
    omega
  · refine ⟨g,cap,rfl,(Array.getElem?_eq_some_iff.1 hg).1,hk,by unfold maxLen at hc ⊢; omega,fun i hi=>?_⟩
    rw [cell_of_row w g i cur _ (0,0) hg,← ht,List.getElem?_take,if_pos (by omega)]
    simp
theorem ord_row {w:World} {base:Nat} {v:Value} (h:w.ownsRow base 190 1 v (ordTo 5 1).length (ordV 5 1)) :
    ∃ g cap,v = .slice (some ⟨g,0,none⟩) 15 cap ∧ 15 ≤ cap ∧ cap ≤ maxLen ∧ g < w.heap.size ∧ ∀ k m:Nat,ord[k]? = some m → w.cell? ⟨g,k,none⟩ = some (.int .u64 (m:Int)):=by
  have hl:(ordTo 5 1).length = 15:=by kernel_rfl
  rw [hl] at h
  obtain ⟨g,cap,rfl,hg,hcap,hmax,hcell⟩:=own_cells h (by omega)
  refine ⟨g,cap,rfl,hcap,hmax,hg,fun k m hk=>?_⟩
  have hk':(ordTo 5 1)[k]? = some m:=hk
  have hlt:k < 15:=by rw [← hl]; exact (List.getElem?_eq_some_iff.1 hk').1
  rw [hcell k hlt]
  unfold ordV
  rw [List.getElem?_map,hk']
  rfl
theorem ord_get {k:Nat} (h:k < 15):∃ m,ord[k]? = some m ∧ 0 < m ∧ m < 16:=by
  have hl:ord.length = 15:=by kernel_rfl
  have e:ord[k]? = some ord[k]:=List.getElem?_eq_getElem (by omega)
  exact ⟨_,e,ord_lt e⟩
theorem leastAt_drop {c:Nat → Int} {want:Int} {k m:Nat} (h:ord[k]? = some m):leastAt c want (ord.drop k) = if want ≤ wsum c m 4 then ((pop m:Nat):Int) else leastAt c want (ord.drop (k + 1)):=by
  obtain ⟨hk,rfl⟩:=List.getElem?_eq_some_iff.1 h
  rw [List.drop_eq_getElem_cons hk]
  rfl
set_option maxRecDepth 100000 in
set_option maxHeartbeats 4000000 in
theorem leastWidth_any (c:Nat → Int) (want:Int) (hc:∀ k,k < 4 → 0 ≤ c k ∧ c k ≤ 24) (w:World) :
    Calls (patch shutL Tryz.prog) 130 #[.agg #[.int .i64 (c 0),.int .i64 (c 1),.int .i64 (c 2),.int .i64 (c 3)],.int .i64 want] w fun e w'=>e = .returned (.int .i64 (leastW c want)) ∧ Below w.heap.size w w':=by
  have HC:Hid (∀ k,k < 4 → 0 ≤ c k ∧ c k ≤ 24):=hc
  clear hc
  go_enter (pf Tryz.func130 (by rfl)),Tryz.ntmps130
  go_wp2_with (go_at_call 131; refine (inOrder_any _).mono ?_; rintro e w1 ⟨v,rfl,hown,hb1⟩; obtain ⟨g,cap,rfl,hcap,hmax,hg,hrow⟩:=ord_row hown; have HR:Hid ((∀ k m:Nat,ord[k]? = some m → w1.cell? ⟨g,k,none⟩ = some (.int .u64 (m:Int))) ∧ Below _ _ w1):=⟨hrow,hb1⟩; clear hown hrow hb1)
  have HB:Hid (w1.heap[w.heap.size]? = some (.cells #[.int .i64 (c 0),.int .i64 (c 1),.int .i64 (c 2),.int .i64 (c 3)] 119 (0,0)) ∧ Below w.heap.size w w1):=by
    refine ⟨(HR.out.2.block _ (by simp)).trans (heap_alloc_new _ _),?_⟩
    exact ((Below.refl _ _).alloc (Nat.le_refl _) _).trans (HR.out.2.mono (by simp))
  go_loopw [9] (fun i wr=>∃ k:Nat,k ≤ 15 ∧ i = .int .i64 k ∧ leastW c want = leastAt c want (ord.drop k) ∧ Below w1.heap.size w1 wr) (fun i _=>15 - (intOf i).toNat)
  case atStart=>exact ⟨0,by omega,rfl,rfl,Below.refl _ _⟩
  case round =>
    obtain ⟨k,hk,rfl,hlw,hb⟩:=hrel
    have HI:Hid (leastW c want = leastAt c want (ord.drop k) ∧ Below w1.heap.size w1 wr):=⟨hlw,hb⟩
    clear hlw hb
    by_cases hlt:k < 15
    · obtain ⟨m,hm,hm0,hm16⟩:=ord_get hlt
      have u0:wr.cell? ⟨g,k,none⟩ = some (.int .u64 (m:Int)):=(HI.out.2.cell (p:=⟨g,k,none⟩) hg).trans (HR.out.1 k m hm)
      obtain ⟨q,qf⟩:=blk ((HI.out.2.block _ (by have:=(Array.getElem?_eq_some_iff.1 HB.out.1).1; exact this)).trans HB.out.1)
      have kn:(k:Int) < 15:=by omega
      have HM:Hid (ord[k]? = some m):=hm
      clear hm
      by_cases hw:want ≤ wsum c m 4
      · go_wp2_with (first
          | (go_at_call 132; refine (mwithin_any c m hm16 HC.out _).mono ?_; rintro e w2 ⟨rfl,hb2⟩; have HW:Hid (Below _ _ w2):=hb2; clear hb2)
          | (go_at_call 195; refine (width_any m hm16 _).mono ?_; rintro e w3 ⟨he,hw3⟩; obtain rfl:=he; obtain rfl:=hw3.symm))
        go_ret
        exact ⟨by rw [HI.out.1,leastAt_drop HM.out,if_pos (by omega)]; rfl,ext_trans (ext_trans HB.out.2 HI.out.2) HW.out⟩
      · go_wp2_with (first
          | (go_at_call 132; refine (mwithin_any c m hm16 HC.out _).mono ?_; rintro e w2 ⟨rfl,hb2⟩; have HW:Hid (Below _ _ w2):=hb2; clear hb2)
          | (go_at_call 195; refine (width_any m hm16 _).mono ?_; rintro e w3 ⟨he,hw3⟩; obtain rfl:=he; obtain rfl:=hw3.symm))
        go_roundw
        case rel=>exact ⟨k + 1,by omega,by go_num,by rw [HI.out.1,leastAt_drop HM.out,if_neg (by omega)],ext_trans HI.out.2 HW.out⟩
        case measure=>simp [intOf]; omega
    · have:k = 15:=by omega
      subst this
      go_wp2_with fail
      go_ret
      exact ⟨by rw [HI.out.1]; rfl,ext_trans HB.out.2 HI.out.2⟩
end Go.Proofs.YtojoafcnijajmaaGreatDoor.Z

namespace Go.Proofs.YtojoafcnijajmaaGreatDoor.Z
open Go.RowKit
attribute [local go_sem ↓] Go.wp_at_zero Go.wp_at_succ
def fitK (c:Nat → Int) (want:Int) (k m:Nat):Bool:=(ord.take k).contains m && decide (want ≤ wsum c m 4)
def verdK (us fr:Nat → Int) (want:Int) (k:Nat) (j:Nat):Value:=if j = 0 then .int .i64 (leastW us want) else .bool (fitK fr want k (j - 1))
def verdV (us fr:Nat → Int) (want:Int):Array Value:=((List.range 17).map (verdK us fr want 15)).toArray
theorem infoVerd:((patch shutL Tryz.prog).info? 86).map (·.size) = some 17:=by kernel_rfl
theorem verdV_size (us fr:Nat → Int) (want:Int):(verdV us fr want).size = 17:=by simp [verdV]
theorem verdV_one (us fr:Nat → Int) (want:Int):∀ v ∈ (verdV us fr want).toList,v.oneCell' = true:=fun v hv=>by
  simp only [verdV,List.mem_map] at hv
  obtain ⟨j,_,rfl⟩:=hv
  unfold verdK
  split <;> rfl
theorem row_verd {w:World} {b:Nat} {us fr:Nat → Int} {want:Int} (h:w.rowIs b 86 17 (verdK us fr want 15)):w.heap[b]? = some (.cells (verdV us fr want) 86 (0,0)):=by
  obtain ⟨cur,h1,h2,h3⟩:=h
  have:cur = verdV us fr want:=by
    refine Array.ext (by rw [h2,verdV_size]) fun j j1 j2=>?_
    have:=h3 j (by omega)
    have h17:j < 17:=by omega
    rw [Array.getElem?_eq_getElem j1] at this
    simpa [verdV,h17] using this
  rw [← this]; exact h1
theorem fitK_set {fr:Nat → Int} {want:Int} {k m:Nat} (h:ord[k]? = some m) (j:Nat):fitK fr want (k + 1) j = if j = m then decide (want ≤ wsum fr m 4) else fitK fr want k j:=by
  obtain ⟨hk,rfl⟩:=List.getElem?_eq_some_iff.1 h
  unfold fitK
  rw [List.take_succ_eq_append_getElem hk]
  have e:(ord.take k ++ [ord[k]]).contains j = ((ord.take k).contains j || j == ord[k]):=by rw [List.contains_append]; simp only [List.contains_cons,List.contains_nil,Bool.or_false]
  rw [e]
  by_cases hj:j = ord[k]
  · rw [if_pos hj,hj]
    simp only [beq_self_eq_true,Bool.or_true,Bool.true_and]
  · rw [if_neg hj,beq_eq_false_iff_ne.2 hj,Bool.or_false]
theorem own_base {w:World} {base ty:Nat} {v:Value} {n:Nat} {vs:List Value} (h:w.ownsRow base ty 1 v n vs):∀ {a n' cap},v = .slice (some a) n' cap → base ≤ a.block:=by
  intro a n' cap e
  rcases h.2 with ⟨rfl,h0⟩ | ⟨g,cap,cur,rfl,hh,hg,hk,hc,hs,ht⟩
  · cases e
  · cases e; exact hh
set_option maxRecDepth 100000 in
set_option maxHeartbeats 4000000 in
theorem judge_any (us fr:Nat → Int) (want:Int) (hu:∀ k,k < 4 → 0 ≤ us k ∧ us k ≤ 24) (hf:∀ k,k < 4 → 0 ≤ fr k ∧ fr k ≤ 24) (w:World) :
    Calls (patch shutL Tryz.prog) 57 #[.agg #[.int .i64 (us 0),.int .i64 (us 1),.int .i64 (us 2),.int .i64 (us 3)],.agg #[.int .i64 (fr 0),.int .i64 (fr 1),.int .i64 (fr 2),.int .i64 (fr 3)],.int .i64 want] w fun e w' =>
      e = .returned (.agg (verdV us fr want)) ∧ Below w.heap.size w w':=by
  have HC:Hid ((∀ k,k < 4 → 0 ≤ us k ∧ us k ≤ 24) ∧ ∀ k,k < 4 → 0 ≤ fr k ∧ fr k ≤ 24):=⟨hu,hf⟩
  clear hu hf
  go_enter (pf Tryz.func57 (by rfl)),Tryz.ntmps57
  go_wp2_with (go_at_call 130; refine (leastWidth_any us want HC.out.1 _).mono ?_; rintro e wA ⟨rfl,hbA⟩; have HA:Hid (Below _ _ wA):=hbA; clear hbA)
  obtain ⟨WA,hWA⟩ : ∃ WA,WA = wA.alloc (.cells #[.int .i64 (leastW us want),.bool false,.bool false,.bool false,.bool false,.bool false,.bool false,.bool false,.bool false,.bool false,.bool false,.bool false,.bool false,.bool false,.bool false,.bool false,.bool false] 86):=⟨_,rfl⟩
  obtain ⟨Bv,hBv⟩ : ∃ Bv,Bv = wA.heap.size:=⟨_,rfl⟩
  have HW:Hid (WA.rowIs Bv 86 17 (verdK us fr want 0) ∧ WA.heap[w.heap.size + 1]? = some (.cells #[.int .i64 (fr 0),.int .i64 (fr 1),.int .i64 (fr 2),.int .i64 (fr 3)] 119 (0,0)) ∧
      WA.heap[w.heap.size + 1 + 1]? = some (.cells #[.int .i64 0,.bool false,.bool false,.bool false,.bool false,.bool false,.bool false,.bool false,.bool false,.bool false,.bool false,.bool false,.bool false,.bool false,.bool false,.bool false,.bool false] 86 (0,0)) ∧ Below w.heap.size w WA ∧ w.heap.size + 1 + 1 < Bv):=by
    have s3:w.heap.size + 3 ≤ wA.heap.size:=by have:=HA.out.size; simpa using this
    have hA:=HA.out
    refine ⟨?_,?_,?_,?_,by omega⟩
    · rw [hWA,hBv]
      refine World.rowIs_alloc wA _ _ _ fun i hi=>?_
      have h17:i < 17:=hi
      obtain rfl | rfl | rfl | rfl | rfl | rfl | rfl | rfl | rfl | rfl | rfl | rfl | rfl | rfl | rfl | rfl | rfl:i = 0 ∨ i = 1 ∨ i = 2 ∨ i = 3 ∨ i = 4 ∨ i = 5 ∨ i = 6 ∨ i = 7 ∨ i = 8 ∨ i = 9 ∨ i = 10 ∨ i = 11 ∨ i = 12 ∨ i = 13 ∨ i = 14 ∨ i = 15 ∨ i = 16:=by omega
      all_goals rfl
    · rw [hWA,Below.heap_alloc _ _ _ (by omega),hA.block _ (by simp),Below.heap_alloc _ _ _ (by simp)]
      exact heap_alloc2_new _ _ _
    · rw [hWA,Below.heap_alloc _ _ _ (by omega),hA.block _ (by simp)]
      have:=heap_alloc_new ((w.alloc (.cells #[.int .i64 (us 0),.int .i64 (us 1),.int .i64 (us 2),.int .i64 (us 3)] 119)).alloc (.cells #[.int .i64 (fr 0),.int .i64 (fr 1),.int .i64 (fr 2),.int .i64 (fr 3)] 119)) (.cells #[.int .i64 0,.bool false,.bool false,.bool false,.bool false,.bool false,.bool false,.bool false,.bool false,.bool false,.bool false,.bool false,.bool false,.bool false,.bool false,.bool false,.bool false] 86)
      simpa using this
    · rw [hWA]
      exact ((((Below.refl _ _).alloc (Nat.le_refl _) _).alloc (by simp) _).alloc (by simp; omega) _).trans (hA.mono (by simp; omega)) |>.alloc (by omega) _
  rw [← hWA,← hBv]
  clear hWA hBv HA
  refine Calls.mono (inOrder_any _) ?_
  rintro e w1 ⟨v,rfl,hown,hb1⟩
  have hge:∀ {a n' cap},v = .slice (some a) n' cap → _:=own_base hown
  obtain ⟨g,cap,rfl,hcap,hmax,hg,hrow⟩:=ord_row hown
  have hgB:g ≠ Bv:=by
    have:WA.heap.size ≤ g:=hge rfl
    have:=HW.out.1.lt
    omega
  clear hge
  have HR:Hid (∀ k m:Nat,ord[k]? = some m → w1.cell? ⟨g,k,none⟩ = some (.int .u64 (m:Int))):=hrow
  have HV:Hid (w1.rowIs Bv 86 17 (verdK us fr want 0) ∧ w1.heap[w.heap.size + 1]? = some (.cells #[.int .i64 (fr 0),.int .i64 (fr 1),.int .i64 (fr 2),.int .i64 (fr 3)] 119 (0,0)) ∧
      w1.heap[w.heap.size + 1 + 1]? = some (.cells #[.int .i64 0,.bool false,.bool false,.bool false,.bool false,.bool false,.bool false,.bool false,.bool false,.bool false,.bool false,.bool false,.bool false,.bool false,.bool false,.bool false,.bool false] 86 (0,0)) ∧ Below w.heap.size w w1 ∧ w.heap.size + 1 + 1 < Bv ∧ Bv < w1.heap.size):=by
    obtain ⟨h1,h2,h3,h5,h6⟩:=HW.out
    have l1:=h1.lt
    refine ⟨h1.of_block (hb1.block _ l1),(hb1.block _ (by omega)).trans h2,(hb1.block _ (by omega)).trans h3,ext_trans h5 hb1,h6,?_⟩
    have:=hb1.size; omega
  clear hown hrow hb1 HW
  go_wp2_with fail
  go_loopw [16] (fun i wr=>∃ k:Nat,k ≤ 15 ∧ i = .int .i64 k ∧ wr.rowIs Bv 86 17 (verdK us fr want k) ∧ (∀ b,b < w1.heap.size → b ≠ Bv → wr.heap[b]? = w1.heap[b]?) ∧ Below w.heap.size w wr ∧ w1.heap.size ≤ wr.heap.size) (fun i _=>15 - (intOf i).toNat)
  case atStart=>exact ⟨0,by omega,rfl,HV.out.1,fun _ _ _=>rfl,HV.out.2.2.2.1,Nat.le_refl _⟩
  case round =>
    obtain ⟨k,hk,rfl,hrw,hkp,hb,hsz⟩:=hrel
    have HI:Hid (wr.rowIs Bv 86 17 (verdK us fr want k) ∧ (∀ b,b < w1.heap.size → b ≠ Bv → wr.heap[b]? = w1.heap[b]?) ∧ Below w.heap.size w wr ∧ w1.heap.size ≤ wr.heap.size):=⟨hrw,hkp,hb,hsz⟩
    clear hrw hkp hb hsz
    by_cases hlt:k < 15
    · obtain ⟨m,hm,hm0,hm16⟩:=ord_get hlt
      have u0:wr.cell? ⟨g,k,none⟩ = some (.int .u64 (m:Int)):=(World.cell?_of_block (w:=w1) (HI.out.2.1 g hg hgB)).trans (HR.out k m hm)
      obtain ⟨q,qf⟩:=blk ((HI.out.2.1 (w.heap.size + 1) (by have:=HV.out.2.2.2.2; omega) (by have:=HV.out.2.2.2.2; omega)).trans HV.out.2.1)
      have kn:(k:Int) < 15:=by omega
      have HM:Hid (ord[k]? = some m):=hm
      clear hm
      go_wp2_with (go_at_call 132; refine (mwithin_any fr m hm16 HC.out.2 _).mono ?_; rintro e w2 ⟨rfl,hb2⟩; have R2:=HI.out.1.of_block (hb2.block Bv HI.out.1.lt); have cV:=R2.cell (i:=1 + m) (by omega); have fV:=R2.frozen (1 + m); have H2:Hid (w2.rowIs Bv 86 17 (verdK us fr want k) ∧ Below wr.heap.size wr w2):=⟨R2,hb2⟩; clear R2 hb2)
      go_roundw
      case rel =>
        have hV:=HV.out.2.2.2.2
        refine ⟨k + 1,by omega,by go_num,?_,?_,?_,?_⟩
        · refine (H2.out.1.set (1 + m) _).congr fun j hj=>?_
          unfold verdK
          by_cases h0:j = 0
          · rw [if_neg (by omega),if_pos h0,if_pos h0]
          · rw [if_neg h0,if_neg h0,fitK_set HM.out]
            by_cases hjm:j = 1 + m
            · rw [if_pos hjm,if_pos (by omega)]
            · rw [if_neg hjm,if_neg (by omega)]
        · intro b hb hne
          exact (Below.heap_setCell _ _ _ _ hne).trans ((H2.out.2.block b (by have:=HI.out.2.2.2; omega)).trans (HI.out.2.1 b hb hne))
        · exact (ext_trans HI.out.2.2.1 H2.out.2).setCell (by show w.heap.size ≤ Bv; omega) _
        · have h1:=H2.out.2.size
          have h2:=HI.out.2.2.2
          simp; omega
      case measure=>simp [intOf]; omega
    · have:k = 15:=by omega
      subst this
      obtain ⟨vs,hvs⟩ : ∃ vs,vs = verdV us fr want:=⟨_,rfl⟩
      have hsz:vs.size = 17:=by rw [hvs,verdV_size]
      have h1:vs.all (·.oneCell') = true:=by
        rw [Array.all_eq_true']
        intro v hv
        rw [hvs] at hv
        exact verdV_one us fr want v (by simpa using hv)
      have hV:=HV.out.2.2.2.2
      have hBv:wr.heap[Bv]? = some (.cells vs 86 (0,0)):=by rw [hvs]; exact row_verd HI.out.1
      have hR:=(HI.out.2.1 (w.heap.size + 1 + 1) (by omega) (by omega)).trans HV.out.2.2.1
      have hi:((patch shutL Tryz.prog).info? 86).map (·.size) = some vs.size:=by rw [hsz]; exact infoVerd
      have HVS:Hid (vs = verdV us fr want):=hvs
      have HI':Hid (Below w.heap.size w wr):=HI.out.2.2.1
      clear hvs HI HR
      go_wp2_with (first
        | refine wpList_load_row rfl 86 _ rfl Bv rfl 86 vs (0,0) _ hBv ((patch_underlying shutL Tryz.prog 86).trans Tryz.underlying86) rfl hi ?_
        | refine wpList_store_row rfl 86 _ _ rfl (w.heap.size + 1 + 1) vs rfl rfl 86 _ hR hi (by rw [hsz]; rfl) h1 ?_)
      (try simp only [Exit.inBlock,Exit.then])
      refine bodyPost_ret_by (results_cell_row rfl _ _ (w.heap.size + 1 + 1) 86 vs (0,0) _ rfl (setRow_heap _ _ _ _ _ _ hR) ((patch_underlying shutL Tryz.prog 86).trans Tryz.underlying86) rfl hi) rfl ?_
      refine ⟨by rw [HVS.out],?_⟩
      exact ⟨HI'.out.os,HI'.out.tape,HI'.out.output,by simpa using HI'.out.size,fun k hk=>(setRow_other _ _ _ _ (by omega)).trans (HI'.out.block k hk)⟩
end Go.Proofs.YtojoafcnijajmaaGreatDoor.Z
