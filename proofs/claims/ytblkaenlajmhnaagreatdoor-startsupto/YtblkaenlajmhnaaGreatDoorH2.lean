/- The library's iterators over a text: the lines of it, the pieces between commas; what they promise a loop's body. -/
import Derived.Test.YtblkaenlajmhnaaGreatDoorH0
import Derived.Test.YtblkaenlajmhnaaGreatDoorH1
import Derived.Test.YtblkaenlajmhnaaGreatDoorShelf
namespace Go.Proofs.YtblkaenlajmhnaaGreatDoor
open Go.RowKit
attribute [local go_sem] Oper.semAt_some
theorem idx_cases (s : ByteArray) (c : UInt8) : Lib.indexByte s.data.toList c = -1 ∨ ∃ i : Nat, Lib.indexByte s.data.toList c = i ∧ i + 1 ≤ s.size := by
  rcases Lib.indexB_cases s ⟨#[c]⟩ with h | ⟨i, h, h2⟩
  · exact .inl (by rw [← Lib.index_one]; exact h)
  · exact .inr ⟨i, by rw [← Lib.index_one]; exact h, h2⟩
def lenAt (W : World) (c : Nat) : Nat := match W.cell? ⟨c, 0, none⟩ with
  | some (.string s) => s.size
  | _ => 0
theorem lenAt_of {W : World} {c : Nat} {s : ByteArray} {e : TypeId} (h : W.heap[c]? = some (.cells #[.string s] e (0, 0))) : lenAt W c = s.size := by
  have := (blk h).1 0
  unfold lenAt
  rw [this]
  rfl
theorem ex_size (t : ByteArray) (a b : Nat) (h : a ≤ b) (hb : b ≤ t.size) : (t.extract a b).size = b - a := by
  rw [ByteArray.size_extract]; omega
set_option maxRecDepth 100000 in
set_option maxHeartbeats 2000000 in
theorem lines_iter (n c L : Nat) (s : ByteArray) (w : World) (hn : 1 ≤ n) (hL : L ≤ 140737488355328) (hs : s.size ≤ L) (hc : w.heap[c]? = some (.cells #[.string s] 9 (0, 0))) :
    Iter Fence.wide n Tryz.prog 73 #[.pointer (some ⟨c, 0, none⟩)] (fun x => ∃ t : ByteArray, x = #[.string t] ∧ t.size ≤ L) (fun b => b = c) c L w := by
  intro l J Jx W hcW hJ hJx hY h0
  replace hcW := (hcW c rfl).trans hc
  refine callsIn_of_wp Tryz.func73 rfl trivial ?_ rfl
  simp only [Tryz.ntmps73, List.size_toArray, List.length_cons, List.length_nil, Nat.reduceAdd, Nat.reduceSub, Array.replicate_succ, Array.replicate_zero, List.push_toArray, List.append_toArray, List.nil_append, List.cons_append]
  gi_wp2
  gi_loopw [3] (fun _ wr => ∃ (k : Nat) (t : ByteArray), wr.heap[c]? = some (.cells #[.string t] 9 (0, 0)) ∧ t.size + k ≤ L ∧ J k wr) (fun _ wr => lenAt wr c)
  case atStart => exact ⟨0, s, hcW, by omega, h0⟩
  case round =>
    obtain ⟨k, t, hk, hl, hj⟩ := hrel
    obtain ⟨q0, q0f⟩ := blk hk
    by_cases h1 : t.size = 0
    · have h1' : ¬ (0 : Int) < t.size := by omega
      have HJ : Hid (J k wr) := hj
      clear hj hk
      gi_wp2
      go_end0
      exact ⟨⟨_, rfl⟩, .inl ⟨k, by omega, HJ.out⟩⟩
    · have h1' : (0 : Int) < t.size := by omega
      have hkl : k < L := by omega
      have HK : Hid (wr.heap[c]? = some (.cells #[.string t] 9 (0, 0))) := hk
      have put : ∀ r : ByteArray, But c wr (wr.setCell ⟨c, 0, none⟩ (.string r)) := fun r => But.setCell _ _ _
      rcases idx_cases t 10 with hi | ⟨i, hi, hi2⟩
      · obtain ⟨fn, tmps, assign, body, hy, hR⟩ := hY k #[.string t] (wr.setCell ⟨c, 0, none⟩ (.string ⟨#[]⟩)) (hJ _ _ _ hj (put _)) hkl ⟨t, rfl, by omega⟩
        have HC : Hid ((wr.setCell ⟨c, 0, none⟩ (.string ⟨#[]⟩)).heap[c]? = some (.cells #[.string ⟨#[]⟩] 9 (0, 0))) := blk_set (i := 0) (.string ⟨#[]⟩) hk
        clear hk hj
        gi_wp2
        refine ⟨trivial, ?_⟩
        refine (callsIn_wide.2 (Tryz.strings_IndexByte t 10 wr)).mono ?_
        rintro e w1 ⟨he, rfl⟩
        rw [show Lib.indexByte t.data.toList (10 : Int).toNat.toUInt8 = _ from hi] at he
        subst he
        gi_wp2
        refine hR.mono ?_
        rintro e W3 ⟨hc3, ⟨rfl, hJ3⟩ | ⟨rfl, hJ3⟩⟩
        · have h3 : W3.heap[c]? = some (.cells #[.string ⟨#[]⟩] 9 (0, 0)) := (hc3 c rfl).trans HC.out
          clear hc3
          gi_wp2
          go_roundw
          case rel => exact ⟨k + 1, ⟨#[]⟩, h3, (show 0 + (k + 1) ≤ L by omega), hJ3⟩
          case measure => rw [lenAt_of h3, lenAt_of HK.out]; show 0 < t.size; omega
        · gi_wp2
          refine bodyPost_ret (results_none rfl _ _ _) rfl ?_
          exact ⟨⟨_, rfl⟩, .inr ⟨k + 1, by omega, hJ3⟩⟩
      · have z1 := ex_size t 0 (i + 1) (by omega) (by omega)
        have z2 := ex_size t (i + 1) t.size (by omega) (by omega)
        obtain ⟨fn, tmps, assign, body, hy, hR⟩ := hY k #[.string (t.extract 0 (i + 1))] (wr.setCell ⟨c, 0, none⟩ (.string (t.extract (i + 1) t.size))).drew (hJ _ _ _ hj ((put _).trans (.of_below (Below.refl _ _).drew))) hkl ⟨_, rfl, by omega⟩
        have HC : Hid ((wr.setCell ⟨c, 0, none⟩ (.string (t.extract (i + 1) t.size))).drew.heap[c]? = some (.cells #[.string (t.extract (i + 1) t.size)] 9 (0, 0))) := blk_set (i := 0) (.string (t.extract (i + 1) t.size)) hk
        have HZ : Hid ((t.extract (i + 1) t.size).size = t.size - (i + 1)) := z2
        clear hk hj z1 z2
        gi_wp2
        refine ⟨trivial, ?_⟩
        refine (callsIn_wide.2 (Tryz.strings_IndexByte t 10 wr)).mono ?_
        rintro e w1 ⟨he, rfl⟩
        rw [show Lib.indexByte t.data.toList (10 : Int).toNat.toUInt8 = _ from hi] at he
        subst he
        have c1 : (0 : Int) ≤ ↑i + 1 := by omega
        have c2 : (↑i + 1 : Int) ≤ ↑t.size := by omega
        have mixed : Tryz.prog.follows .mixedOrders = true := by kernel_rfl
        gi_wp2
        gi_region_o
        gi_wp2
        refine hR.mono ?_
        rintro e W3 ⟨hc3, ⟨rfl, hJ3⟩ | ⟨rfl, hJ3⟩⟩
        · have h3 : W3.heap[c]? = some (.cells #[.string (t.extract (i + 1) t.size)] 9 (0, 0)) := (hc3 c rfl).trans HC.out
          clear hc3
          gi_wp2
          go_roundw
          case rel => exact ⟨k + 1, t.extract (i + 1) t.size, h3, by have := HZ.out; omega, hJ3⟩
          case measure => rw [lenAt_of h3, lenAt_of HK.out, HZ.out]; omega
        · gi_wp2
          refine bodyPost_ret (results_none rfl _ _ _) rfl ?_
          exact ⟨⟨_, rfl⟩, .inr ⟨k + 1, by omega, hJ3⟩⟩
set_option maxRecDepth 100000 in
set_option maxHeartbeats 4000000 in
theorem split_iter (n c cs cv L : Nat) (s : ByteArray) (w : World) (hn : 1 ≤ n) (hL : L ≤ 140737488355328) (hs : s.size ≤ L) (hc : w.heap[c]? = some (.cells #[.string s] 9 (0, 0)))
    (hcs : w.heap[cs]? = some (.cells #[.string ⟨#[44]⟩] 9 (0, 0))) (hcv : w.heap[cv]? = some (.cells #[.int .i64 0] 3 (0, 0))) (n1 : cs ≠ c) (n2 : cv ≠ c) :
    Iter Fence.wide n Tryz.prog 143 #[.pointer (some ⟨cs, 0, none⟩), .pointer (some ⟨c, 0, none⟩), .pointer (some ⟨cv, 0, none⟩)] (fun x => ∃ t : ByteArray, x = #[.string t] ∧ t.size ≤ L) (fun b => b = c ∨ b = cs ∨ b = cv) c (L + 1) w := by
  intro l J Jx W hcW hJ hJx hY h0
  have w1 := (hcW c (.inl rfl)).trans hc
  have w2 := (hcW cs (.inr (.inl rfl))).trans hcs
  have w3 := (hcW cv (.inr (.inr rfl))).trans hcv
  clear hcW hc hcs hcv
  have WW : Hid (W.heap[c]? = some (.cells #[.string s] 9 (0, 0)) ∧ W.heap[cs]? = some (.cells #[.string ⟨#[44]⟩] 9 (0, 0)) ∧ W.heap[cv]? = some (.cells #[.int .i64 0] 3 (0, 0))) := ⟨w1, w2, w3⟩
  obtain ⟨a1, a1f⟩ := blk w1
  obtain ⟨a2, a2f⟩ := blk w2
  obtain ⟨a3, a3f⟩ := blk w3
  clear w1 w2 w3
  refine callsIn_of_wp Tryz.func143 rfl trivial ?_ rfl
  simp only [Tryz.ntmps143, List.size_toArray, List.length_cons, List.length_nil, Nat.reduceAdd, Nat.reduceSub, Array.replicate_succ, Array.replicate_zero, List.push_toArray, List.append_toArray, List.nil_append, List.cons_append]
  gi_wp2
  clear a1 a1f a2 a2f a3 a3f
  gi_loopw [7] (fun _ wr => ∃ (k : Nat) (t : ByteArray), wr.heap[c]? = some (.cells #[.string t] 9 (0, 0)) ∧ wr.heap[cs]? = some (.cells #[.string ⟨#[44]⟩] 9 (0, 0)) ∧ wr.heap[cv]? = some (.cells #[.int .i64 0] 3 (0, 0)) ∧ t.size + k ≤ L ∧ J k wr) (fun _ wr => lenAt wr c)
  case atStart => exact ⟨0, s, WW.out.1, WW.out.2.1, WW.out.2.2, by omega, h0⟩
  case round =>
    obtain ⟨k, t, hk, hk2, hk3, hl, hj⟩ := hrel
    have HK : Hid (wr.heap[c]? = some (.cells #[.string t] 9 (0, 0)) ∧ wr.heap[cs]? = some (.cells #[.string ⟨#[44]⟩] 9 (0, 0)) ∧ wr.heap[cv]? = some (.cells #[.int .i64 0] 3 (0, 0))) := ⟨hk, hk2, hk3⟩
    obtain ⟨q1, q1f⟩ := blk hk
    obtain ⟨q2, q2f⟩ := blk hk2
    obtain ⟨q3, q3f⟩ := blk hk3
    clear hk hk2 hk3
    rcases idx_cases t 44 with hi | ⟨i, hi, hi2⟩
    · obtain ⟨fn, tmps, assign, body, hy, hR⟩ := hY k #[.string t] wr hj (by omega) ⟨t, rfl, by omega⟩
      clear hj
      gi_wp2
      refine ⟨trivial, ?_⟩
      refine (callsIn_wide.2 (Tryz.strings_Index_one t 44 wr)).mono ?_
      rintro e w1 ⟨he, rfl⟩
      rw [hi] at he
      subst he
      gi_wp2
      refine hR.mono ?_
      rintro e W3 ⟨hc3, ⟨rfl, hJ3⟩ | ⟨rfl, hJ3⟩⟩
      · gi_wp2
        go_end0
        exact ⟨⟨_, rfl⟩, .inl ⟨k + 1, by omega, hJ3⟩⟩
      · gi_wp2
        go_end0
        exact ⟨⟨_, rfl⟩, .inr ⟨k + 1, by omega, hJ3⟩⟩
    · have z1 := ex_size t 0 i (by omega) (by omega)
      have z2 := ex_size t (i + 1) t.size (by omega) (by omega)
      obtain ⟨fn, tmps, assign, body, hy, hR⟩ := hY k #[.string (t.extract 0 i)] wr hj (by omega) ⟨_, rfl, by omega⟩
      have HZ : Hid ((t.extract (i + 1) t.size).size = t.size - (i + 1)) := z2
      have c0 : (0 : Int) ≤ ↑i := by omega
      have c0' : (↑i : Int) ≤ ↑t.size := by omega
      have c1 : (0 : Int) ≤ ↑i + 1 := by omega
      have c2 : (↑i + 1 : Int) ≤ ↑t.size := by omega
      clear hj z1 z2
      gi_wp2
      refine ⟨trivial, ?_⟩
      refine (callsIn_wide.2 (Tryz.strings_Index_one t 44 wr)).mono ?_
      rintro e w1 ⟨he, rfl⟩
      rw [hi] at he
      subst he
      gi_wp2
      refine hR.mono ?_
      rintro e W3 ⟨hc3, ⟨rfl, hJ3⟩ | ⟨rfl, hJ3⟩⟩
      · have r1 := (hc3 c (.inl rfl)).trans HK.out.1
        have r2 := (hc3 cs (.inr (.inl rfl))).trans HK.out.2.1
        have r3 := (hc3 cv (.inr (.inr rfl))).trans HK.out.2.2
        have s1 := blk_set (i := 0) (.string (t.extract (i + 1) t.size)) r1
        have s2 := blk_other (a := ⟨c, 0, none⟩) (.string (t.extract (i + 1) t.size)) r2 n1
        have s3 := blk_other (a := ⟨c, 0, none⟩) (.string (t.extract (i + 1) t.size)) r3 n2
        have HR : Hid ((W3.setCell ⟨c, 0, none⟩ (.string (t.extract (i + 1) t.size))).heap[c]? = some (.cells #[.string (t.extract (i + 1) t.size)] 9 (0, 0)) ∧ (W3.setCell ⟨c, 0, none⟩ (.string (t.extract (i + 1) t.size))).heap[cs]? = some (.cells #[.string ⟨#[44]⟩] 9 (0, 0)) ∧ (W3.setCell ⟨c, 0, none⟩ (.string (t.extract (i + 1) t.size))).heap[cv]? = some (.cells #[.int .i64 0] 3 (0, 0))) := ⟨s1, s2, s3⟩
        obtain ⟨p1, p1f⟩ := blk r1
        obtain ⟨p2, p2f⟩ := blk r2
        clear hc3 r1 r2 r3 s1 s2 s3 q1 q1f q2 q2f q3 q3f
        gi_wp2
        go_roundw
        case rel => exact ⟨k + 1, t.extract (i + 1) t.size, HR.out.1, HR.out.2.1, HR.out.2.2, by have := HZ.out; omega, hJ _ _ _ hJ3 (But.setCell _ _ _)⟩
        case measure => rw [lenAt_of HR.out.1, lenAt_of HK.out.1, HZ.out]; omega
      · gi_wp2
        refine bodyPost_ret (results_none rfl _ _ _) rfl ?_
        exact ⟨⟨_, rfl⟩, .inr ⟨k + 1, by omega, hJ3⟩⟩
end Go.Proofs.YtblkaenlajmhnaaGreatDoor
