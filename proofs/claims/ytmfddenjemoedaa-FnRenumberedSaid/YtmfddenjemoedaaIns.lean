/- laws.perm5: a permutation is made by putting each number in at some place. Plain facts. -/
import Derived.Test.YtmfddenjemoedaaL5
import Derived.Test.YtmfddenjemoedaaL12
namespace Go.Proofs.Ytmfddenjemoedaa
open Go.RowKit

def insA (L : List Int) (i k : Nat) : List Int := L.take k ++ [(i : Int)] ++ L.drop k
theorem insA_perm (L : List Int) (i k : Nat) : (insA L i k).Perm ((i : Int) :: L) := by
  unfold insA
  rw [List.append_assoc, List.singleton_append]
  refine List.perm_middle.trans ?_
  rw [List.take_append_drop]
theorem insA_len {L : List Int} {i : Nat} (k : Nat) (h : L.length = i) : (insA L i k).length = i + 1 := by
  rw [(insA_perm L i k).length_eq, List.length_cons, h]
theorem insA_passed {L : List Int} {i : Nat} (k : Nat) (h : Passed i L) : Passed (i + 1) (insA L i k) := by
  have hp := insA_perm L i k
  refine ⟨fun x hx => ?_, ?_⟩
  · rcases List.mem_cons.1 (hp.mem_iff.1 hx) with rfl | hx
    · omega
    · have := h.1 x hx; omega
  · rw [hp.nodup_iff, List.nodup_cons]
    exact ⟨fun hin => by have := h.1 _ hin; omega, h.2⟩
theorem passed_okP {L : List Int} {n : Nat} (h : Passed n L) (hl : L.length = n) (hn : n ≤ 400) : okP L = true :=
  decide_eq_true ⟨by omega, fun x hx => by rw [hl]; exact h.1 x hx, h.2⟩
end Go.Proofs.Ytmfddenjemoedaa
