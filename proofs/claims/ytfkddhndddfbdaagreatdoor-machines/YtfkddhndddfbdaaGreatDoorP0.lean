/- A call that returns by a walk of one goroutine makes a good run: the bridge from Calls to Conc.Good. -/
import Derived.Conc.LeavingOf
import Derived.Handed
namespace Go.Proofs.YtfkddhndddfbdaaGreatDoor
open Go Go.Conc

theorem good_of_calls {P : Program} {f : FuncId} {args : Array Value} {w : World} {R : Value → World → Prop}
    (h : Calls P f args w fun | .returned v, w' => R v w' | _, _ => False) (hi : P.inits.idxOf? f = none) :
    ∃ N last o w' t', runNT P (N + 1) (solo (G (Frame.enter P f args .normal) []) w) #[] = (.ended o w', t') ∧ runN P N (solo (G (Frame.enter P f args .normal) []) w) = .next last ∧
      step P last = .ended o w' ∧ Conc.Good P R last o w' t' := by
  obtain ⟨n, v, w', fr, hn, hend, hR⟩ := h.done_lone hi
  have ha := alone_of_lone (w' := w') hn
  have e : (runNT P (n + 1) (lone (Frame.enter P f args .normal) [] w) #[]).1 = .ended (.done v) w' := by rw [runNT_fst]; exact hend
  refine ⟨n, lone fr [] w', .done v, w', (runNT P (n + 1) (lone (Frame.enter P f args .normal) [] w) #[]).2, ?_, hn, step_of_runs hn hend, v, rfl, hR, ?_, ha.2.1, ⟨?_, rfl⟩, ?_⟩
  · exact Prod.ext e rfl
  · intro said; exact (no_race_of_lone P n _ _ hn (by simp [lone]) rfl).2
  · intro g hg
    simp [lone] at hg
  · intro i g hg hne
    cases i with
    | zero => exact absurd rfl hne
    | succ k => simp [lone] at hg
end Go.Proofs.YtfkddhndddfbdaaGreatDoor
