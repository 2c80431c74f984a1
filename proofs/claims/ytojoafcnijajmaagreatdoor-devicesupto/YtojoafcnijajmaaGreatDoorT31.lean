/- Part 31 of the proof that Devices answers true and leaves its input as it was, for input of bulk at most the bound of its row: ZK3 ZK4. -/
import Derived.Test.YtojoafcnijajmaaGreatDoorT8
import Derived.Test.YtojoafcnijajmaaGreatDoorT30
import Derived.Test.YtojoafcnijajmaaGreatDoorT29
namespace Go.Proofs.YtojoafcnijajmaaGreatDoor.Z
open Go.RowKit
attribute [local go_sem ↓] Go.wp_at_zero Go.wp_at_succ
attribute [local go_sem] After.cell After.frozen After.const
theorem fam_app {c:Nat → Nat} {w wA w1:World} {y e sz n m g cap H:Nat} {v:Value} {vs ys:List Value} (ht:Top c w) (hA:Below w.heap.size w wA) (h:RowC c w y e sz v n vs) (hsz:0 < sz)
    (hown:w1.ownsRow 0 e sz (.slice (some ⟨g,0,none⟩) m cap) m ys) (hg:wA.grownBy w1 v.ownBlock) (hat:v = .slice (some ⟨g,0,none⟩) n cap ∨ (g = H ∧ wA.grownBy w1 none)) (hH:wA.heap.size = H) :
    ∃ c',Turn (fun x=>x = y) c w c' w1 ∧ RowC c' w1 y e sz (.slice (some ⟨g,0,none⟩) m cap) m ys ∧ (∀ k,k < w.heap.size → c' k = c k) ∧
      (∀ u k xs,RowC c w y e sz u k xs → k ≤ m → xs = ys.take (k * sz) → RowC c' w1 y e sz u k xs):=by
  have tA:Turn (fun _=>False) c w c wA:=(Turn.refl ht).below hA
  have hmA:=h.turn tA (fun h=>h)
  have hat':v.ownBlock = some g ∨ g = H:=by
    rcases hat with rfl | ⟨e,_⟩
    · exact .inl rfl
    · exact .inr e
  obtain ⟨c',t1,rc,hk⟩:=append_lies tA.top hmA hown hg hat' hH
  have hs:=hA.size
  refine ⟨c',(tA.mono (fun _ h=>h.elim)).trans t1,rc,fun k hk'=>hk k (by omega),fun u k xs hu hkm hx=>?_⟩
  have huA:=hu.turn tA (fun h=>h)
  exact ⟨own_keep hsz hmA.1 hown hg hat huA.1 hkm hx,fun b hb=>(hk b (by have:=hu.lt b hb; omega)).trans (hu.2 b hb)⟩
theorem Turn.last {c:Nat → Nat} {w:World} (y:Nat) (ht:Top c w) (hy:y ≠ 0):Turn (fun x=>x = y) c w (fun b=>if c b = y then 14 else c b) w :=
  ⟨rfl,rfl,rfl,Nat.le_refl _,fun k _ hn=>⟨rfl,if_neg hn⟩,fun k hk=>by show (if c k = y then 14 else c k) = 0; rw [ht k hk,if_neg (fun e=>hy e.symm)]⟩
theorem Fill.of_row {c:Nat → Nat} {w:World} {y e sz k:Nat} {u:Value} {xs:List Value} {pat:Nat → Value} (h:RowC c w y e sz u k xs) (hx:∀ i j,i < k → j < sz → xs[i * sz + j]? = some (pat j)):Fill sz pat (fun b=>if c b = y then 14 else c b) w u:=by
  rcases h.1.2 with ⟨rfl,rfl⟩ | ⟨g,cap,cur,rfl,_,hg,hn,hm,hs,ht⟩
  · exact ⟨none,0,0,rfl,Nat.le_refl _,by unfold maxLen; omega,fun h0=>by omega⟩
  · refine ⟨some ⟨g,0,none⟩,k,cap,rfl,hn,hm,fun _=>⟨g,rfl,if_pos (h.2 g rfl),h.lt g rfl,fun i j hi hj=>?_⟩⟩
    have hlt:i * sz + j < k * sz:=by
      have:=Nat.mul_le_mul_right sz (Nat.succ_le_of_lt hi)
      rw [Nat.succ_mul] at this; omega
    rw [h.1.cellAt _ hlt]
    exact hx i j hi hj
theorem mark_done {c c1 c7:Nat → Nat} {w w1 w7 WA w8:World} {g T jf jm x xm e eT sz n y g8 cap8 H:Nat} {G G1:Nat → Value} {pat:Nat → Nat → Value} {vm u0 u1 u2 u3:Value} {L:List (Value × Nat)} (hT:w1.rowIs g T 24 G1) (hc1:c1 g = 1)
    (hmk:MK c w x xm eT sz pat (G jf) vm L) (hG:G1 jf = G jf) (t1:Turn (fun z=>z = 1 ∨ z = xm) c w c1 w1) (hms:RowC c1 w1 xm 3 1 (G1 jm) (L.length + 4) (L.map (fun p=>Value.int .i64 (p.2:Int)) ++ List.replicate 4 (.int .i64 ((n:Int) + 1)))) (t7:Turn (fun z=>z = y) c1 w1 c7 w7)
    (hf:∀ u,u ∈ [u0,u1,u2,u3] → ∃ k xs,RowC c7 w7 y e sz u k xs ∧ ∀ i j,i < k → j < sz → xs[i * sz + j]? = some (pat (n + 1) j)) (hA:Below w7.heap.size w7 WA)
    (o8:w8.ownsRow 0 eT 1 (.slice (some ⟨g8,0,none⟩) (L.length + 4) cap8) (L.length + 4) (L.map Prod.fst ++ [u0,u1,u2,u3])) (gr8:WA.grownBy w8 (G1 jf).ownBlock) (at8:(G1 jf).ownBlock = some g8 ∨ g8 = H) (hH:WA.heap.size = H)
    (hx:1 < x ∧ x < 14 ∧ x ≠ xm) (hxm:1 < xm ∧ xm < 14) (hy:20 ≤ y) (hjm:jm ≠ jf) (hn1:n + 1 ≤ 1000000000000) :
    ∃ c' G' L',(w8.setCell ⟨g,jf,none⟩ (.slice (some ⟨g8,0,none⟩) (L.length + 4) cap8)).rowIs g T 24 G' ∧ c' g = 1 ∧ (∀ j,j ≠ jf → G' j = G1 j) ∧
       MK c' (w8.setCell ⟨g,jf,none⟩ (.slice (some ⟨g8,0,none⟩) (L.length + 4) cap8)) x xm eT sz pat (G' jf) (G' jm) L' ∧ L'.length = L.length + 4 ∧ Turn (fun z=>z = 1 ∨ z = x ∨ z = xm ∨ z = y) c w c' (w8.setCell ⟨g,jf,none⟩ (.slice (some ⟨g8,0,none⟩) (L.length + 4) cap8)):=by
  have hgl:=hT.lt
  have hc7:c7 g = 1:=((t7.keep g hgl (by omega)).2).trans hc1
  have hT7:w7.rowIs g T 24 G1:=hT.of_block (t7.keep g hgl (by omega)).1
  have r7:RowC c7 w7 x eT 1 (G1 jf) L.length (L.map Prod.fst):=by rw [hG]; exact (hmk.rows.turn t1 (by omega)).turn t7 (by omega)
  have tS:Turn (fun z=>z = 1 ∨ z = x ∨ z = xm ∨ z = y) c w c7 w7:=(t1.mono (fun z h=>by omega)).trans (t7.mono (fun z h=>by omega))
  obtain ⟨c8,a1,a2,a3,a4,a5,_⟩:=field_app hT7 hc7 tS (.inl rfl) (.inr (.inl rfl)) (by omega) r7 hA o8 gr8 at8 hH
  have tl:=Turn.last (c:=c8) (w:=w8.setCell ⟨g,jf,none⟩ (.slice (some ⟨g8,0,none⟩) (L.length + 4) cap8)) y a5.top (by omega)
  refine ⟨_,_,L ++ [(u0,n + 1),(u1,n + 1),(u2,n + 1),(u3,n + 1)],a1,?_,fun j hj=>if_neg hj,⟨?_,?_,?_,?_⟩,by simp,a4.trans (tl.mono (fun z h=>by omega))⟩
  · show (if c8 g = y then 14 else c8 g) = 1
    rw [a2,if_neg (by omega)]
  · have h:=a3.turn tl (by omega)
    simpa using h
  · have h:=((hms.turn t7 (by omega)).turn a5 (by omega)).turn tl (by omega)
    simpa [hjm,List.replicate] using h
  · intro p hp
    rcases List.mem_append.1 hp with hp | hp
    · exact ((((hmk.fill p hp).turn t1 (by omega)).turn t7 (by omega)).turn a5 (by omega)).turn tl (by omega)
    · have hp':p.1 ∈ [u0,u1,u2,u3] ∧ p.2 = n + 1:=by
        simp only [List.mem_cons,List.not_mem_nil,or_false] at hp
        rcases hp with rfl | rfl | rfl | rfl <;> simp
      obtain ⟨k,xs,h1,h2⟩:=hf p.1 hp'.1
      rw [hp'.2]
      exact Fill.of_row (h1.turn a5 (by omega)) h2
  · intro p hp
    rcases List.mem_append.1 hp with hp | hp
    · exact hmk.small p hp
    · simp only [List.mem_cons,List.not_mem_nil,or_false] at hp
      rcases hp with rfl | rfl | rfl | rfl <;> exact hn1
def pInt (m:Nat):Nat → Value:=fun _=>.int .i64 (-100 - (m:Int))
theorem fill_int {n i j:Nat} {x:Value} (hi:i < n) (hj:j < 1):(List.replicate n x)[i * 1 + j]? = some x:=by
  have:j = 0:=by omega
  subst this
  simp [hi]
theorem Tryz.infoInts:((patch shutL Tryz.prog).info? 23).map (fun i=>(i.zero,i.size,i.bytes)) = some (some (.slice none 0 0),1,24):=by kernel_rfl
def Fam (c:Nat → Nat) (w:World) (y:Nat) (m:Value) (u:Value) (k:Nat):Prop:=RowC c w y 3 1 u k (List.replicate k m)
theorem fam_ints {c0 c:Nat → Nat} {w0 w wA w1:World} {y n m g cap H:Nat} {v mv:Value} {ys:List Value} (h0:Turn (fun x=>x = y) c0 w0 c w) (hA:Below w.heap.size w wA) (h:Fam c w y mv v n)
    (hown:w1.ownsRow 0 3 1 (.slice (some ⟨g,0,none⟩) m cap) m ys) (hg:wA.grownBy w1 v.ownBlock) (hat:v = .slice (some ⟨g,0,none⟩) n cap ∨ (g = H ∧ wA.grownBy w1 none)) (hH:wA.heap.size = H) (hy:ys = List.replicate m mv) :
    ∃ c',Turn (fun x=>x = y) c0 w0 c' w1 ∧ Fam c' w1 y mv (.slice (some ⟨g,0,none⟩) m cap) m ∧ (∀ u k,Fam c w y mv u k → k ≤ m → Fam c' w1 y mv u k):=by
  subst hy
  obtain ⟨c',t,r,_,k⟩:=fam_app h0.top hA h (by omega) hown hg hat hH
  exact ⟨c',h0.trans t,r,fun u j hu hj=>k u j _ hu hj (by rw [List.take_replicate,Nat.mul_one,Nat.min_eq_left hj])⟩
theorem rep2 {α:Type} (j:Nat) (m:α):List.replicate j m ++ [m,m] = List.replicate (j + 2) m:=by rw [List.replicate_succ',List.replicate_succ',List.append_assoc]; rfl
theorem rep3 {α:Type} (j:Nat) (m:α):List.replicate j m ++ [m,m,m] = List.replicate (j + 3) m:=by rw [List.replicate_succ',List.replicate_succ',List.replicate_succ',List.append_assoc,List.append_assoc]; rfl
theorem set_step {α:Type} (j:Nat) (m:α) (xs:List α) (h:j < xs.length):(List.replicate j m ++ xs.drop j).set j m = List.replicate (j + 1) m ++ xs.drop (j + 1):=by
  rw [List.set_append_right _ _ (by simp),List.length_replicate,Nat.sub_self,List.drop_eq_getElem_cons h,List.set_cons_zero,List.replicate_succ',List.append_assoc]
  rfl
set_option maxRecDepth 100000 in
set_option maxHeartbeats 4000000 in
theorem markInts_any (g:Nat) (G:Nat → Value) (c:Nat → Nat) (w:World) (n k y:Nat) (v:Value) (xs:List Value) (L:List (Value × Nat)) (hrow:w.rowIs g 67 24 G) (hg:c g = 1) (ht:Top c w) (hn:G 14 = .int .i64 (n:Int))
    (hmk:MK c w 2 5 23 1 pInt (G 11) (G 15) L) (hv:RowC c w y 3 1 v k xs) (hy:20 ≤ y) (hL:L.length + 4 ≤ 1000000000000) (hnn:n + 1 ≤ 1000000000000) (hk:k + 3 ≤ 1000000000000) :
    Calls (patch shutL Tryz.prog) 168 #[.pointer (some ⟨g,11,none⟩),v] w fun e w'=>e = .returned (.tuple #[]) ∧ ∃ c' G' L',w'.rowIs g 67 24 G' ∧ c' g = 1 ∧ G' 14 = .int .i64 ((n:Int) + 1) ∧ (∀ j,j ≠ 11 → j ≠ 14 → j ≠ 15 → G' j = G j) ∧
       MK c' w' 2 5 23 1 pInt (G' 11) (G' 15) L' ∧ L'.length = L.length + 4 ∧ Turn (fun x=>x = 1 ∨ x = 2 ∨ x = 5 ∨ x = y) c w c' w':=by
  obtain ⟨i0,hi,hz0,hz1,hz2⟩:=info_parts Tryz.infoInt
  obtain ⟨i1,hi',hz0',hz1',hz2'⟩:=info_parts Tryz.infoInts
  have hu:=((patch_underlying shutL Tryz.prog 23).trans Tryz.underlying23)
  have hu':=((patch_underlying shutL Tryz.prog 60).trans Tryz.underlying60)
  obtain ⟨ao,cap,rfl⟩:=ownsRow_shape hv.1
  have hgl:=hrow.lt
  have H0:Hid (w.rowIs g 67 24 G ∧ MK c w 2 5 23 1 pInt (G 11) (G 15) L ∧ RowC c w y 3 1 (.slice ao k cap) k xs):=⟨hrow,hmk,hv⟩
  clear hrow hmk hv
  go_enter (pf Tryz.func168 (by rfl)),Tryz.ntmps168
  go_wp2_with (go_at_call 169; refine (next0 g G c _ n L.length _ H0.out.1 hg ht hn H0.out.2.1.marks hL hnn).mono ?_; rintro e w1 ⟨rfl,c1,G1,n1,n2,n3,n4,n5,n6⟩)
  have H1 : Hid (w1.rowIs g 67 24 G1 ∧ c1 g = 1 ∧ G1 14 = .int .i64 ((n : Int) + 1) ∧ (∀ j, j ≠ 14 → j ≠ 15 → G1 j = G j) ∧
       RowC c1 w1 5 3 1 (G1 15) (L.length + 4) (L.map (fun p=>Value.int .i64 (p.2:Int)) ++ List.replicate 4 (.int .i64 ((n:Int) + 1))) ∧ Turn (fun y=>y = 1 ∨ y = 5) c w c1 w1):=⟨n1,n2,n3,n4,n5,n6⟩
  have hv1:RowC c1 w1 y 3 1 (.slice ao k cap) k xs:=H0.out.2.2.turn n6 (by omega)
  have gl1:g < w1.heap.size:=n1.lt
  clear n1 n2 n3 n4 n5 n6
  go_wp2_with fail
  go_loopw [5] (fun i wr=>∃ j:Nat,j ≤ k ∧ i = .int .i64 j ∧ Turn (fun x=>x = y) c1 w1 c1 wr ∧ RowC c1 wr y 3 1 (.slice ao k cap) k (List.replicate j (.int .i64 (-100 - ((n:Int) + 1))) ++ xs.drop j)) (fun i _=>k - (intOf i).toNat)
  case atStart=>exact ⟨0,by omega,rfl,Turn.refl H1.out.2.2.2.2.2.top,by simpa using hv1⟩
  case round =>
    obtain ⟨j,hj,rfl,htn,hrv⟩:=hrel
    by_cases hlt:j < k
    · have HR:Hid (Turn (fun x=>x = y) c1 w1 c1 wr ∧ RowC c1 wr y 3 1 (.slice ao k cap) k (List.replicate j (.int .i64 (-100 - ((n:Int) + 1))) ++ xs.drop j)):=⟨htn,hrv⟩
      have hxl:=hrv.1.1
      rw [List.length_append,List.length_replicate,List.length_drop] at hxl
      obtain ⟨g0,cap0,hv0,-,hg0⟩:=hrv.1.form (by omega)
      injection hv0 with e1 _ e3
      subst e1
      subst e3
      have p0:(wr.cell? ⟨g0,j,none⟩).isSome = true:=by
        rw [hrv.1.cellAt j (by omega),Option.isSome_iff_ne_none]
        intro h
        rw [List.getElem?_eq_none_iff,List.length_append,List.length_replicate,List.length_drop] at h
        omega
      obtain ⟨u0,p0⟩:=Option.isSome_iff_exists.1 p0
      have pf:=hrv.1.frozenAt j
      clear htn hrv hv1
      have kn:(j:Int) < k:=by omega
      go_wp2_with (first | (go_at_call 185; go_enter (pf Tryz.func185 (by rfl)),Tryz.ntmps185) | (go_at_call 110; go_enter (pf Tryz.func110 (by rfl)),Tryz.ntmps110))
      go_roundw
      case rel =>
        have h:=own_set (i:=j) HR.out.2.1 (.int .i64 (-100 - ((n:Int) + 1)))
        rw [set_step j _ xs (by omega)] at h
        exact ⟨j + 1,by omega,by go_num,HR.out.1.set (fun b _ e=>by rw [e]; exact HR.out.2.2 g0 rfl) _,h,HR.out.2.2⟩
      case measure=>simp [intOf]; omega
    · have:j = k:=by omega
      subst this
      have hxl:=hrv.1.1
      rw [List.length_append,List.length_replicate,List.length_drop] at hxl
      rw [List.drop_eq_nil_of_le (by omega),List.append_nil] at hrv
      have ht0:=htn.top
      have H2:Hid (Turn (fun x=>x = y) c1 w1 c1 wr ∧ RowC c1 wr y 3 1 (.slice ao j cap) j (List.replicate j (.int .i64 (-100 - ((n:Int) + 1))))):=⟨htn,hrv⟩
      clear htn hrv hv1
      go_wp2_with (first
        | (at_builtin; refine wpList_append_keeps _ rfl (.tmp 22) (.tmp 24) _ rfl 0 3 i0 _ 1 8 hu hi hz0 hz1 hz2 rfl (by omega) (.slice ao j cap) j _ rfl (H2.out.2.1.alloc _) ⟨wr.heap.size,0,none⟩ 1 1 [.int .i64 (-100 - ((n:Int) + 1))] rfl rfl (World.news_of_block (heap_alloc_new _ _)) (by intro u hu; simp at hu; subst hu; rfl) (by omega) (by unfold maxLen; omega) (by omega) (by omega) _ rfl ?_; intro g5 cap5 w5 o5 gr5 at5 lt5; obtain ⟨c5,t5,f5,k5⟩:=fam_ints H2.out.1 ((Below.refl _ _).alloc (Nat.le_refl _) _) H2.out.2 o5 gr5 at5 rfl (by rw [List.replicate_succ']); have H5:Hid (Turn (fun x=>x = y) c1 w1 c5 w5 ∧ Fam c5 w5 y (.int .i64 (-100 - ((n:Int) + 1))) (.slice ao j cap) (j) ∧ Fam c5 w5 y (.int .i64 (-100 - ((n:Int) + 1))) (.slice (some ⟨g5,0,none⟩) (j + 1) cap5) (j + 1)):=⟨t5,k5 _ _ H2.out.2 (by omega),f5⟩; clear o5 gr5 at5 t5 f5 k5)
        | (at_builtin; refine wpList_append_keeps _ rfl (.tmp 26) (.tmp 29) _ rfl 0 3 i0 _ 1 8 hu hi hz0 hz1 hz2 rfl (by omega) (.slice ao j cap) j _ rfl (H5.out.2.1.1.alloc _) ⟨w5.heap.size,0,none⟩ 2 2 [.int .i64 (-100 - ((n:Int) + 1)),.int .i64 (-100 - ((n:Int) + 1))] rfl rfl (World.news_of_block (heap_alloc_new _ _)) (by intro u hu; simp at hu; subst hu; rfl) (by omega) (by unfold maxLen; omega) (by omega) (by omega) _ rfl ?_; intro g6 cap6 w6 o6 gr6 at6 lt6; obtain ⟨c6,t6,f6,k6⟩:=fam_ints H5.out.1 ((Below.refl _ _).alloc (Nat.le_refl _) _) H5.out.2.1 o6 gr6 at6 rfl (rep2 _ _); have H6:Hid (Turn (fun x=>x = y) c1 w1 c6 w6 ∧ Fam c6 w6 y (.int .i64 (-100 - ((n:Int) + 1))) (.slice ao j cap) (j) ∧ Fam c6 w6 y (.int .i64 (-100 - ((n:Int) + 1))) (.slice (some ⟨g5,0,none⟩) (j + 1) cap5) (j + 1) ∧ Fam c6 w6 y (.int .i64 (-100 - ((n:Int) + 1))) (.slice (some ⟨g6,0,none⟩) (j + 2) cap6) (j + 2)):=⟨t6,k6 _ _ H5.out.2.1 (by omega),k6 _ _ H5.out.2.2 (by omega),f6⟩; clear o6 gr6 at6 t6 f6 k6)
        | (at_builtin; refine wpList_append_keeps _ rfl (.tmp 31) (.tmp 35) _ rfl 0 3 i0 _ 1 8 hu hi hz0 hz1 hz2 rfl (by omega) (.slice ao j cap) j _ rfl (H6.out.2.1.1.alloc _) ⟨w6.heap.size,0,none⟩ 3 3 [.int .i64 (-100 - ((n:Int) + 1)),.int .i64 (-100 - ((n:Int) + 1)),.int .i64 (-100 - ((n:Int) + 1))] rfl rfl (World.news_of_block (heap_alloc_new _ _)) (by intro u hu; simp at hu; subst hu; rfl) (by omega) (by unfold maxLen; omega) (by omega) (by omega) _ rfl ?_; intro g7 cap7 w7 o7 gr7 at7 lt7; obtain ⟨c7,t7,f7,k7⟩:=fam_ints H6.out.1 ((Below.refl _ _).alloc (Nat.le_refl _) _) H6.out.2.1 o7 gr7 at7 rfl (rep3 _ _); have H7:Hid (Turn (fun x=>x = y) c1 w1 c7 w7 ∧ Fam c7 w7 y (.int .i64 (-100 - ((n:Int) + 1))) (.slice ao j cap) (j) ∧ Fam c7 w7 y (.int .i64 (-100 - ((n:Int) + 1))) (.slice (some ⟨g5,0,none⟩) (j + 1) cap5) (j + 1) ∧ Fam c7 w7 y (.int .i64 (-100 - ((n:Int) + 1))) (.slice (some ⟨g6,0,none⟩) (j + 2) cap6) (j + 2) ∧ Fam c7 w7 y (.int .i64 (-100 - ((n:Int) + 1))) (.slice (some ⟨g7,0,none⟩) (j + 3) cap7) (j + 3)):=⟨t7,k7 _ _ H6.out.2.1 (by omega),k7 _ _ H6.out.2.2.1 (by omega),k7 _ _ H6.out.2.2.2 (by omega),f7⟩; clear o7 gr7 at7 t7 f7 k7; have kg:=H7.out.1.keep g gl1 (by have:=H1.out.2.1; omega); have e11:w7.cell? ⟨g,11,none⟩ = some (G1 11):=(World.cell?_of_block (w:=w1) (a:=⟨g,11,none⟩) kg.1).trans (H1.out.1.cell (i:=11) (by omega)); have f11:w7.frozen? ⟨g,11,none⟩ = false:=(World.frozen?_of_block (w:=w1) (a:=⟨g,11,none⟩) kg.1).trans (H1.out.1.frozen 11); have gl7:g < w7.heap.size:=Nat.lt_of_lt_of_le gl1 H7.out.1.size; have HG:G1 11 = G 11:=H1.out.2.2.2.1 11 (by omega) (by omega); have H8:Hid (RowC c7 w7 2 23 1 (G1 11) L.length (L.map Prod.fst) ∧ some g ≠ (G1 11).ownBlock):=by {rw [HG]; have r:=(H0.out.2.1.rows.turn H1.out.2.2.2.2.2 (by omega)).turn H7.out.1 (by omega); refine ⟨r,fun e=>?_⟩; have h1:=r.2 g e.symm; have h2:=kg.2; have h3:=H1.out.2.1; omega}; clear kg HG)
        | (at_builtin; refine wpList_append_lies _ rfl (.tmp 41) (.tmp 46) _ rfl 0 23 i1 _ 1 24 hu' hi' hz0' hz1' hz2' rfl (by omega) (G1 11) L.length _ rfl (H8.out.1.1.alloc _) ⟨w7.heap.size,0,none⟩ 4 4 [.slice ao j cap,.slice (some ⟨g5,0,none⟩) (j + 1) cap5,.slice (some ⟨g6,0,none⟩) (j + 2) cap6,.slice (some ⟨g7,0,none⟩) (j + 3) cap7] rfl rfl (World.news_of_block (heap_alloc_new _ _)) (by intro u hu; simp at hu; rcases hu with rfl | rfl | rfl | rfl <;> rfl) (by omega) (by unfold maxLen; omega) (by omega) (by omega) _ rfl ?_; intro g8 cap8 w8 o8 gr8 at8 lt8; have e11':=(gr8.cell_far ⟨g,11,none⟩ (by simp; omega) H8.out.2).trans ((World.cell?_alloc_past _ _ _ gl7).trans e11); have f11':=(gr8.frozen_far ⟨g,11,none⟩ (by simp; omega) H8.out.2).trans ((World.frozen?_alloc_past _ _ _ gl7).trans f11)))
      go_end0
      refine ⟨rfl,?_⟩
      obtain ⟨c',G',L',b1,b2,b3,b4,b5,b6⟩:=mark_done (jf:=11) (jm:=15) (sz:=1) (e:=3) H1.out.1 H1.out.2.1 H0.out.2.1 (H1.out.2.2.2.1 11 (by omega) (by omega)) H1.out.2.2.2.2.2 H1.out.2.2.2.2.1 H7.out.1
        (fun u hu=>by
          simp only [List.mem_cons,List.not_mem_nil,or_false] at hu
          rcases hu with rfl | rfl | rfl | rfl
          · exact ⟨_,_,H7.out.2.1,fun i j hi hj=>by rw [fill_int hi hj]; rfl⟩
          · exact ⟨_,_,H7.out.2.2.1,fun i j hi hj=>by rw [fill_int hi hj]; rfl⟩
          · exact ⟨_,_,H7.out.2.2.2.1,fun i j hi hj=>by rw [fill_int hi hj]; rfl⟩
          · exact ⟨_,_,H7.out.2.2.2.2,fun i j hi hj=>by rw [fill_int hi hj]; rfl⟩)
        ((Below.refl _ _).alloc (Nat.le_refl _) _) o8 gr8 at8 rfl (by omega) (by omega) hy (by omega) hnn
      exact ⟨c',G',L',b1,b2,(b3 14 (by omega)).trans H1.out.2.2.1,fun i h1 h2 h3=>(b3 i h1).trans (H1.out.2.2.2.1 i h2 h3),b4,b5,b6⟩
end Go.Proofs.YtojoafcnijajmaaGreatDoor.Z

namespace Go.Proofs.YtojoafcnijajmaaGreatDoor.Z
open Go.RowKit
attribute [local go_sem ↓] Go.wp_at_zero Go.wp_at_succ
attribute [local go_sem] After.cell After.frozen After.const
structure BkI (c:Nat → Nat) (w:World) (g:Nat) (G:Nat → Value) (n:Nat) (L:List (Value × Nat)):Prop where
  row:w.rowIs g 67 24 G
  col:c g = 1
  top:Top c w
  cnt:G 14 = .int .i64 (n:Int)
  ints:MK c w 2 5 23 1 pInt (G 11) (G 15) L
theorem BkI.below {c:Nat → Nat} {w w':World} {g:Nat} {G:Nat → Value} {n:Nat} {L:List (Value × Nat)} (h:BkI c w g G n L) (hb:Below w.heap.size w w'):BkI c w' g G n L:=by
  have t:Turn (fun _=>False) c w c w':=(Turn.refl h.top).below hb
  exact ⟨h.row.of_block (hb.block g h.row.lt),h.col,t.top,h.cnt,h.ints.turn t (fun h=>h) (fun h=>h) (fun h=>h)⟩
theorem markInts_bk (g:Nat) (G:Nat → Value) (c:Nat → Nat) (w:World) (n k y:Nat) (v:Value) (xs:List Value) (L:List (Value × Nat)) (hb:BkI c w g G n L) (hv:RowC c w y 3 1 v k xs) (hy:20 ≤ y) (hL:L.length + 4 ≤ 1000000000000) (hnn:n + 1 ≤ 1000000000000) (hk:k + 3 ≤ 1000000000000) :
    Calls (patch shutL Tryz.prog) 168 #[.pointer (some ⟨g,11,none⟩),v] w fun e w'=>e = .returned (.tuple #[]) ∧ ∃ c' G' L',BkI c' w' g G' (n + 1) L' ∧ (∀ j,j ≠ 11 → j ≠ 14 → j ≠ 15 → G' j = G j) ∧ L'.length = L.length + 4 ∧ Turn (fun x=>x = 1 ∨ x = 2 ∨ x = 5 ∨ x = y) c w c' w':=by
  refine (markInts_any g G c w n k y v xs L hb.row hb.col hb.top hb.cnt hb.ints hv hy hL hnn hk).mono ?_
  rintro e w' ⟨he,c',G',L',h1,h2,h3,h4,h5,h6,h7⟩
  exact ⟨he,c',G',L',⟨h1,h2,h7.top,h3,h5⟩,h4,h6,h7⟩
set_option maxRecDepth 100000 in
set_option maxHeartbeats 4000000 in
theorem markGrant_any (g:Nat) (G:Nat → Value) (c:Nat → Nat) (w:World) (n y:Nat) (A:Nat → Option Addr) (N C:Nat → Nat) (X:Nat → List Value) (L:List (Value × Nat)) (hb:BkI c w g G n L) (hv:∀ q,q < 4 → RowC c w (y + q) 3 1 (.slice (A q) (N q) (C q)) (N q) (X q)) (hy:20 ≤ y)
    (hL:L.length + 16 ≤ 1000000000000) (hnn:n + 4 ≤ 1000000000000) (hk:∀ q,q < 4 → N q + 3 ≤ 1000000000000) :
    Calls (patch shutL Tryz.prog) 93 #[.pointer (some ⟨g,11,none⟩),.agg #[.slice (A 0) (N 0) (C 0),.slice (A 1) (N 1) (C 1),.slice (A 2) (N 2) (C 2),.slice (A 3) (N 3) (C 3)]] w fun e w'=>e = .returned (.tuple #[]) ∧
      ∃ c' G' L',BkI c' w' g G' (n + 4) L' ∧ (∀ j,j ≠ 11 → j ≠ 14 → j ≠ 15 → G' j = G j) ∧ L'.length = L.length + 16 ∧ Turn (fun x=>x = 1 ∨ x = 2 ∨ x = 5 ∨ y ≤ x ∧ x < y + 4) c w c' w':=by
  obtain ⟨W0,hW0⟩ : ∃ W0,W0 = w.alloc (.cells #[.slice (A 0) (N 0) (C 0),.slice (A 1) (N 1) (C 1),.slice (A 2) (N 2) (C 2),.slice (A 3) (N 3) (C 3)] 44):=⟨_,rfl⟩
  have hB0:Below w.heap.size w W0:=by rw [hW0]; exact (Below.refl _ _).alloc (Nat.le_refl _) _
  have k0:W0.heap[w.heap.size]? = some (.cells #[.slice (A 0) (N 0) (C 0),.slice (A 1) (N 1) (C 1),.slice (A 2) (N 2) (C 2),.slice (A 3) (N 3) (C 3)] 44 (0,0)):=by rw [hW0]; exact heap_alloc_new _ _
  have t0:Turn (fun _=>False) c w c W0:=(Turn.refl hb.top).below hB0
  have hc0:c w.heap.size = 0:=hb.top _ (Nat.le_refl _)
  have hs0:w.heap.size < W0.heap.size:=by rw [hW0]; simp
  have HB:Hid (BkI c W0 g G n L ∧ (∀ q,q < 4 → RowC c W0 (y + q) 3 1 (.slice (A q) (N q) (C q)) (N q) (X q)) ∧ Turn (fun _=>False) c w c W0):=⟨hb.below hB0,fun q hq=>(hv q hq).turn t0 (fun h=>h),t0⟩
  obtain ⟨q0,q0f⟩:=blk k0
  have HK:Hid (W0.heap[w.heap.size]? = some (.cells #[.slice (A 0) (N 0) (C 0),.slice (A 1) (N 1) (C 1),.slice (A 2) (N 2) (C 2),.slice (A 3) (N 3) (C 3)] 44 (0,0))):=k0
  clear hb hB0 t0 hv k0
  go_enter (pf Tryz.func93 (by rfl)),Tryz.ntmps93
  go_wp2_with (go_at_call 168; rw [← hW0]; clear hW0; refine (markInts_bk g G c W0 n (N 0) (y + 0) _ (X 0) L HB.out.1 (HB.out.2.1 0 (by omega)) (by omega) (by omega) (by omega) (hk 0 (by omega))).mono ?_; rintro e w1 ⟨rfl,c1,G1,L1,m1,m2,m3,m4⟩)
  have H1:Hid (BkI c1 w1 g G1 (n + 1) L1 ∧ (∀ j,j ≠ 11 → j ≠ 14 → j ≠ 15 → G1 j = G j) ∧ L1.length = L.length + 4 ∧ Turn (fun x=>x = 1 ∨ x = 2 ∨ x = 5 ∨ x = y + 0) c W0 c1 w1):=⟨m1,m2,m3,m4⟩
  clear m1 m2 m3 m4
  go_wp2_with fail
  go_loopw [4] (fun i wr=>∃ q:Nat,q ≤ 3 ∧ i = .int .i64 q ∧ ∃ c' G' L',BkI c' wr g G' (n + 1 + q) L' ∧ (∀ j,j ≠ 11 → j ≠ 14 → j ≠ 15 → G' j = G j) ∧ L'.length = L.length + 4 + 4 * q ∧ Turn (fun x=>x = 1 ∨ x = 2 ∨ x = 5 ∨ y ≤ x ∧ x < y + 1 + q) c W0 c' wr) (fun i _=>3 - (intOf i).toNat)
  case atStart=>exact ⟨0,by omega,rfl,c1,G1,L1,H1.out.1,H1.out.2.1,H1.out.2.2.1,H1.out.2.2.2.mono (fun x h=>by omega)⟩
  case round =>
    obtain ⟨q,hq,rfl,c',G',L',h1,h2,h3,h4⟩:=hrel
    have HR:Hid (BkI c' wr g G' (n + 1 + q) L' ∧ (∀ j,j ≠ 11 → j ≠ 14 → j ≠ 15 → G' j = G j) ∧ L'.length = L.length + 4 + 4 * q ∧ Turn (fun x=>x = 1 ∨ x = 2 ∨ x = 5 ∨ y ≤ x ∧ x < y + 1 + q) c W0 c' wr):=⟨h1,h2,h3,h4⟩
    obtain ⟨y0,y0f⟩:=blk ((h4.keep w.heap.size hs0 (by omega)).1.trans HK.out)
    clear h1 h2 h3 h4 q0 q0f
    by_cases hlt:q < 3
    · have HV:Hid (∀ q,q < 4 → RowC c W0 (y + q) 3 1 (.slice (A q) (N q) (C q)) (N q) (X q)):=HB.out.2.1
      have hl:=HR.out.2.2.1
      have hnq:=hk (q + 1) (by omega)
      have rq:=(HV.out (q + 1) (by omega)).turn HR.out.2.2.2 (by omega)
      have hcall:=markInts_bk g G' c' wr (n + 1 + q) (N (q + 1)) (y + (q + 1)) _ (X (q + 1)) L' HR.out.1 rq (by omega) (by omega) (by omega) hnq
      rw [show n + 1 + q + 1 = n + 1 + (q + 1) by omega] at hcall
      have HC:Hid _:=hcall
      clear rq hcall
      rcases (show q = 0 ∨ q = 1 ∨ q = 2 by omega) with rfl | rfl | rfl <;> (
        go_wp2_with (go_at_call 168; refine Calls.mono (Hid.out HC) ?_; rintro e w2 ⟨rfl,c2,G2,L2,m1,m2,m3,m4⟩)
        go_roundw
        case rel=>exact ⟨_,by omega,by go_num,c2,G2,L2,m1,fun j j1 j2 j3=>(m2 j j1 j2 j3).trans (HR.out.2.1 j j1 j2 j3),by rw [m3]; omega,(HR.out.2.2.2.mono (fun x h=>by omega)).trans (m4.mono (fun x h=>by omega))⟩
        case measure=>simp [intOf])
    · have:q = 3:=by omega
      subst this
      go_wp2_with fail
      go_end0
      exact ⟨rfl,c',G',L',HR.out.1,HR.out.2.1,by rw [HR.out.2.2.1],(HB.out.2.2.mono (fun _ h=>h.elim)).trans (HR.out.2.2.2.mono (fun x h=>by omega))⟩
end Go.Proofs.YtojoafcnijajmaaGreatDoor.Z
