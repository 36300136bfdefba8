/- What the row's frame hands to the walk: a maniplex that came in. -/
import Derived.Test.YtmgoaabeopnopaaL1
import Derived.Test.YtmgoaabeopnopaaRows
import Derived.ProofKit
import Derived.Deep.Matrix
import Derived.Deep.Fields
import Derived.ChangeSame
namespace Go.Proofs.Ytmgoaabeopnopaa
open Go.ChangeShapes Go.WideShapes Go.ChangeAt Go.RowKit Go.Deep

set_option maxRecDepth 100000 in
theorem open_man {H : Type} {enc : TypeId × Value → H} {w : World} {base b0 : Nat} {held : Bool} {r : Reach} {v : Value} {d : DataW H} {p : List MemPlace}
    (hv : Value.okWide Try.prog w r b0 24 v) (h : DataW.Trod enc Try.prog w base (fun _ => true) held 24 v d p) :
    ∃ (a : Option Addr) (len cap : Nat) (zss : List (List Int)), v = .agg #[.slice a len cap] ∧ IsRows w a len zss := by
  obtain ⟨cs, rfl, hsz⟩ := okWide_struct Try.underlying24 hv
  have hC : Try.prog.cellsOf 24 = 1 := by kernel_rfl
  obtain ⟨c0, rfl⟩ : ∃ c0, cs = #[c0] := by
    have h1 := hsz.trans hC
    match cs, h1 with
    | ⟨[c0]⟩, _ => exact ⟨c0, rfl⟩
  obtain ⟨fuel, hf⟩ := h
  obtain ⟨y0, n, _, _, h0⟩ := trod_struct1 Try.underlying24 hf
  have hC2 : Try.prog.cellsOf 22 = 1 := by kernel_rfl
  simp [Value.cells, hC2] at h0
  rcases open_int_rows Try.underlying22 Try.underlying36 Try.underlying2 (by kernel_rfl) (by kernel_rfl) h0 with ⟨hcs, _⟩ | ⟨x, l, c, AA, LL, CC, ZZ, hcs, _, hl, hm, _, hrows⟩
  · simp at hcs
    subst hcs
    exact ⟨_, _, _, [], rfl, isRows_nil w⟩
  · simp at hcs
    subst hcs
    exact ⟨_, _, _, _, rfl, isRows_of hl hm hrows⟩
end Go.Proofs.Ytmgoaabeopnopaa
