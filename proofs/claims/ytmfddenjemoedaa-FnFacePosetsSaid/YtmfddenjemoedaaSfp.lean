/- FacePoset of both programs, piece by piece. -/
import Derived.Test.YtmfddenjemoedaaSfo
import Derived.Test.YtmfddenjemoedaaL12
namespace Go.Proofs.Ytmfddenjemoedaa
open Go.RowKit

theorem iFacePosetS_any {A : Option Addr} {c N : Nat} {xss : List (List Int)} (w : World) (hx : xss.length = N) (ha : RdSS w A xss) (hN : N ≤ 1048576) (hr : ∀ xs ∈ xss, (xs.length : Int) ≤ 1048576) (hcap : N ≤ c) (hc63 : c ≤ 9223372036854775807) :
    Calls Try.prog 38 #[.agg #[.slice A N c]] w (RetSP w (fpR xss) (fpX xss) (fpB xss) (fpC xss)) := (iFacePoset_any w hx ha hN hr hcap hc63).mono fun _ _ h => pc_sp h
theorem fpX_le (xss : List (List Int)) : (fpX xss).length ≤ 1048576 := by
  unfold fpX
  split
  · rename_i h
    have := h.2
    unfold fpK at this
    rw [rkL_len]
    omega
  · simp
theorem fpB_le (xss : List (List Int)) : (fpB xss).length ≤ 1048576 ∧ ∀ b ∈ fpB xss, (b.length : Int) ≤ 1048576 := by
  unfold fpB
  split
  · rename_i h
    have h2 := h.2
    refine ⟨by simp; omega, fun b hb => ?_⟩
    obtain ⟨e, _, rfl⟩ := List.mem_map.1 hb
    unfold blwL
    rw [List.length_map]
    have := List.length_filter_le (fun d : Nat => pB (BelE xss (flN xss) xss.length e (d : Int))) (List.range (fstE xss (flN xss) xss.length))
    unfold fpK at h2
    simp at this
    omega
  · simp
end Go.Proofs.Ytmfddenjemoedaa
