/- StandardAutomorphisms: plain facts, impl's walk. -/
import Derived.Test.YtmikoihpmhfafaaAi
import Derived.Test.YtmikoihpmhfafaaIdn
namespace Go.Proofs.Ytmikoihpmhfafaa
open Go.RowKit

noncomputable def saL (xss : List (List Int)) : List (List Int) := xss.map fun g => (isoL xss xss (flN xss) (fz g 0).toNat).getD []
noncomputable def saR (xss : List (List Int)) : List (List Int) := if okMan xss then (if (autL xss).length = flN xss then saL xss else []) else []
noncomputable def saC (xss : List (List Int)) : Int := if okMan xss then (if (autL xss).length = flN xss then 0 else 5) else 1
section
variable {xss : List (List Int)}
theorem saL_len : (saL xss).length = xss.length := by simp [saL]
theorem reg_some (h : (autL xss).length = flN xss) : ∀ q, q < flN xss → ∃ L, isoL xss xss (flN xss) q = some L := fun q hq => Option.isSome_iff_exists.1 ((autTo_full (flN xss)).1 h q hq)
theorem autTo_at {n : Nat} : ∀ {k : Nat}, (autTo xss n k).length = k → ∀ q, q < k → ∀ L, isoL xss xss n q = some L → (autTo xss n k)[q]? = some L
  | 0, _, q, hq, _, _ => by omega
  | k + 1, h, q, hq, L, hL => by
    have hall := (autTo_full (k + 1)).1 h
    have hk := (autTo_full k).2 fun q hq => hall q (by omega)
    obtain ⟨M, hM⟩ := Option.isSome_iff_exists.1 (hall k (by omega))
    rw [autTo_some hM]
    rcases Nat.lt_succ_iff_lt_or_eq.1 hq with h1 | rfl
    · rw [List.getElem?_append_left (by omega)]
      exact autTo_at hk q h1 L hL
    · rw [List.getElem?_append_right (by omega), hk]
      rw [hL] at hM
      injection hM with hM
      simp [hM]
theorem sa_row {g : List Int} {i q : Nat} {L : List Int} (hg : xss[i]? = some g) (hq : fz g 0 = (q : Int)) (hL : isoL xss xss (flN xss) q = some L) : (saL xss)[i]? = some L := by
  rw [saL, List.getElem?_map, hg]
  simp [hq, hL]
theorem saR_le (xss : List (List Int)) : (saR xss).length ≤ 1048576 ∧ ∀ xs ∈ saR xss, (xs.length : Int) ≤ 1048576 := by
  unfold saR
  split
  · rename_i h
    have hm := okMan_iff.1 h
    have h5 := hm.r5
    have h4 := hm.f4
    split
    · refine ⟨by rw [saL_len]; omega, fun xs hx => ?_⟩
      rw [saL] at hx
      obtain ⟨g, _, rfl⟩ := List.mem_map.1 hx
      cases ho : isoL xss xss (flN xss) (fz g 0).toNat with
      | none => simp
      | some L =>
        have := isoL_len ho
        simp; omega
    · simp
  · simp
end
theorem iisoTo_some {b o c N b1 o1 c1 n c0 q : Nat} {A0 : Option Addr} {xss yss : List (List Int)} {L : List Int} (w : World) (hx : xss.length = N) (ha : RdSS w (some ⟨b, o, none⟩) xss) (hy : yss.length = N) (hb : RdSS w (some ⟨b1, o1, none⟩) yss) (hN : N ≤ 1048576) (hsys : okSys n xss = true) (hsy : okSys n yss = true) (h0 : w.cell? ⟨b, o, none⟩ = some (.slice A0 n c0)) (hpos : 0 < N) (hq : q < n) (hall : (orbL xss n ((0 : Nat) : Int)).length = n) (hL : isoL xss yss n q = some L) :
    Calls Try.prog 126 #[.agg #[.slice (some ⟨b, o, none⟩) N c], .agg #[.slice (some ⟨b1, o1, none⟩) N c1], .int .i64 q] w fun e w' => ∃ g c3, e = .returned (.slice (some ⟨g, 0, none⟩) n c3) ∧ w'.ownsRow w.heap.size 2 1 (.slice (some ⟨g, 0, none⟩) n c3) n (ints L) ∧ Below w.heap.size w w' := by
  refine (iisoTo_any w hx ha hy hb hN hsys hsy h0 hpos hq hall).mono ?_
  rintro e w' ⟨bel, ⟨hi, _⟩ | ⟨L2, g, c3, hi, rfl, own⟩⟩
  · rw [hL] at hi; cases hi
  · rw [hL] at hi
    injection hi with hi
    subst hi
    exact ⟨g, c3, rfl, own, bel⟩
end Go.Proofs.Ytmikoihpmhfafaa
