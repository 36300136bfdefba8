import Derived.Test.YtjkddoiacifhpaaMa
import Derived.Test.YtjkddoiacifhpaaWm1
import Derived.Test.YtjkddoiacifhpaaWm4
namespace Go.Proofs.Ytjkddoiacifhpaa
open Go.RowKit

theorem markM_any {A : Option Addr} {c n lo hi e : Nat} {xss : List (List Int)} (k0 : Int) (w : World) (ho : OwnSS w lo hi e A n c xss) (he : e ≠ 2) (hn : n ≤ 1048576) (hr : ∀ xs ∈ xss, (xs.length : Int) ≤ 1048576) (h0 : 0 ≤ k0) (h1 : k0 ≤ 100000000000000000) :
    Calls Try.prog 85 #[.agg #[.slice A n c], .int .i64 k0] w fun e' w' => e' = .returned (.int .i64 (k0 + totalL xss)) ∧ OwnSS w' lo hi e A n c (marksSS k0 xss) ∧ Turns lo hi w w' := by
  have HO := Lib.hid (ownSS_below ho (below1 w (.cells #[.slice A n c] 51)) (Nat.le_refl _))
  have HR := Lib.hid hr
  clear ho hr
  go_enter Try.func85, Try.ntmps85
  go_wp2_with fail
  refine (markSS_any k0 _ HO.out he hn HR.out h0 h1).mono ?_
  rintro e' w' ⟨rfl, own, tu⟩
  have OWN := Lib.hid own
  have TU := Lib.hid tu
  clear own tu
  go_wp2
  go_ret
  exact ⟨rfl, OWN.out, (Turns.of_below (below1 _ _) (Nat.le_refl _)).trans TU.out⟩
theorem Bx.tu {w wr w2 : World} {v : Value} {T : TypeId} {lo hi : Nat} (h : Bx w wr v T) (tu : Turns lo hi wr w2) (hlo : w.heap.size + 1 ≤ lo) : Bx w w2 v T :=
  ⟨tu.below h.bel (by have := h.size; omega) hlo⟩
end Go.Proofs.Ytjkddoiacifhpaa
