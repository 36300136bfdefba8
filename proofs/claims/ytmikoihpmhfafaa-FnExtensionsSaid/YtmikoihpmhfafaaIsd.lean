/- impl.hasLeastFormOf, IsSelfDual, IsSelfPetrie. -/
import Derived.Test.YtmikoihpmhfafaaIox
import Derived.Test.YtmikoihpmhfafaaL9
import Derived.Test.YtmikoihpmhfafaaTro
namespace Go.Proofs.Ytmikoihpmhfafaa
open Go.RowKit

theorem ileastM_any {A : Option Addr} {c N : Nat} {xss : List (List Int)} (w : World) (hm : okMan xss = true) (hx : xss.length = N) (ha : RdSS w A xss) :
    Calls Try.prog 167 #[.agg #[.slice A N c]] w fun e w' => ∃ A' c', e = .returned (.agg #[.slice A' N c']) ∧ OwnSS w' w.heap.size w'.heap.size 31 A' N c' (leaL xss) ∧ Below w.heap.size w w' := by
  have hman := okMan_iff.1 hm
  obtain ⟨b, o, A0, c0, rfl, hc0⟩ := man_row0 hman ha
  refine (ileast_any w hx ha hman.sys hc0 (hman.pos hx) (by have := hman.f2; omega) (fun q hq => hman.all hq)).mono ?_
  rintro e w' ⟨A', c', he, ho, hb⟩
  have hl : (lstTo xss (flN xss) (flN xss - 1)).length = N := by rw [lstTo_len, hx]
  rw [hl] at he ho
  exact ⟨A', c', he, ho, hb⟩
theorem cmpLL_iff (a b : List (List Int)) : cmpLL a b = 0 ↔ a = b := ⟨cmpLL_zero a b, fun h => h ▸ cmpLL_self a⟩

end Go.Proofs.Ytmikoihpmhfafaa
