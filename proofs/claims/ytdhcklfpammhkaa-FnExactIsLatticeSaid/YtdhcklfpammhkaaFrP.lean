/- What the row's frame hands to the walk: a poset that came in. -/
import Derived.Test.YtdhcklfpammhkaaFrM
import Derived.Deep.Strs
namespace Go.Proofs.Ytdhcklfpammhkaa
open Go.ChangeShapes Go.WideShapes Go.ChangeAt Go.RowKit Go.Deep

set_option maxRecDepth 100000 in
theorem open_pos {H : Type} {enc : TypeId × Value → H} {w : World} {base b0 : Nat} {held : Bool} {r : Reach} {v : Value} {d : DataW H} {p : List MemPlace}
    (hv : Value.okWide Try.prog w r b0 83 v) (h : DataW.Trod enc Try.prog w base (fun _ => true) held 83 v d p) :
    ∃ (k : Int) (a1 : Option Addr) (len1 cap1 : Nat) (zs : List Int) (a2 : Option Addr) (len2 cap2 : Nat) (zss : List (List Int)), v = .agg #[.int .i64 k, .slice a1 len1 cap1, .slice a2 len2 cap2] ∧ IsRow .i64 w a1 len1 cap1 zs ∧ IsRows w a2 len2 zss := by
  obtain ⟨cs, rfl, hsz⟩ := okWide_struct Try.underlying83 hv
  have hC : Try.prog.cellsOf 83 = 3 := by kernel_rfl
  obtain ⟨c0, c1, c2, rfl⟩ : ∃ c0 c1 c2, cs = #[c0, c1, c2] := by
    have h1 := hsz.trans hC
    match cs, h1 with
    | ⟨[c0, c1, c2]⟩, _ => exact ⟨c0, c1, c2, rfl⟩
  obtain ⟨fuel, hf⟩ := h
  have hf' := trod_struct3 Try.underlying83 hf
  have hC0 : Try.prog.cellsOf 2 = 1 := by kernel_rfl
  have hC1 : Try.prog.cellsOf 24 = 1 := by kernel_rfl
  have hC2 : Try.prog.cellsOf 35 = 1 := by kernel_rfl
  simp [Value.cells, hC0, hC1, hC2] at hf'
  obtain ⟨_, _, _, _, _, _, _, _, n, h0, h1, h2⟩ := hf'
  obtain ⟨k, e0, _, _⟩ := DataW.trod_int Try.underlying2 h0
  simp at e0
  subst e0
  have g1 : ∃ (a1 : Option Addr) (len1 cap1 : Nat) (zs : List Int), c1 = .slice a1 len1 cap1 ∧ IsRow .i64 w a1 len1 cap1 zs := by
    rcases open_ints Try.underlying24 Try.underlying2 (by kernel_rfl) h1 with ⟨hcs, _⟩ | ⟨x, l, c, zs, hcs, _, hl, hm, hz, _, hcell, hwz⟩
    · simp at hcs
      subst hcs
      exact ⟨_, _, _, [], rfl, .inl ⟨rfl, rfl, rfl, rfl⟩⟩
    · simp at hcs
      subst hcs
      exact ⟨_, _, _, zs, rfl, .inr ⟨_, rfl, hl, hm, by simpa using hz, hcell, hwz⟩⟩
  have g2 : ∃ (a2 : Option Addr) (len2 cap2 : Nat) (zss : List (List Int)), c2 = .slice a2 len2 cap2 ∧ IsRows w a2 len2 zss := by
    rcases open_int_rows Try.underlying35 Try.underlying24 Try.underlying2 (by kernel_rfl) (by kernel_rfl) h2 with ⟨hcs, _⟩ | ⟨x, l, c, AA, LL, CC, ZZ, hcs, _, hl, hm, _, hrows⟩
    · simp at hcs
      subst hcs
      exact ⟨_, _, _, [], rfl, isRows_nil w⟩
    · simp at hcs
      subst hcs
      exact ⟨_, _, _, _, rfl, isRows_of hl hm hrows⟩
  obtain ⟨a1, len1, cap1, zs, rfl, q1⟩ := g1
  obtain ⟨a2, len2, cap2, zss, rfl, q2⟩ := g2
  exact ⟨k, a1, len1, cap1, zs, a2, len2, cap2, zss, rfl, q1, q2⟩
end Go.Proofs.Ytdhcklfpammhkaa
