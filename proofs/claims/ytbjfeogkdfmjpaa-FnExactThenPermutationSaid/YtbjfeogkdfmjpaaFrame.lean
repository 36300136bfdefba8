/- What the row's frame hands to the walk: a slice of int64 that came in, as a list. -/
import Derived.Test.YtbjfeogkdfmjpaaBase
namespace Go.Proofs.Ytbjfeogkdfmjpaa
open Go.RowKit

def IsRow (k : IntKind) (w : World) (a : Option Addr) (len cap : Nat) (zs : List Int) : Prop :=
  (a = none ∧ len = 0 ∧ cap = 0 ∧ zs = []) ∨
  ∃ x, a = some x ∧ len ≤ cap ∧ cap ≤ maxLen ∧ zs.length = cap ∧ (∀ i, i < zs.length → w.cell? (x.add i) = some (.int k (zs.getD i 0))) ∧ ∀ n ∈ zs, (Lit.int k n).wf = true

theorem isRow_rd {w : World} {a : Option Addr} {len cap : Nat} {zs : List Int} (h : IsRow .i64 w a len cap zs) :
    ∃ xs : List Int, xs.length = len ∧ Rd w a (ints xs) ∧ (∀ n ∈ xs, (Lit.int .i64 n).wf = true) ∧ len ≤ maxLen := by
  rcases h with ⟨rfl, rfl, rfl, rfl⟩ | ⟨x, rfl, hl, hm, hz, hc, hw⟩
  · exact ⟨[], rfl, Rd.nil, by simp, Nat.zero_le _⟩
  · refine ⟨zs.take len, by simp; omega, fun hp => ?_, fun n hn => hw n (List.mem_of_mem_take hn), by omega⟩
    obtain ⟨b, o, s⟩ := x
    have h0 := hc 0 (by simp at hp; omega)
    have hs : s = none := by simpa [Addr.add] using World.cell?_spot h0
    subst hs
    refine ⟨b, o, rfl, fun k u hu => ?_⟩
    have hk : k < len ∧ k < zs.length := by
      have := (List.getElem?_eq_some_iff.1 hu).1
      simp at this
      omega
    have hck := hc k hk.2
    rw [Addr.add_lit] at hck
    rw [hck]
    have e : (ints (zs.take len))[k]? = some (.int .i64 (zs.getD k 0)) := by
      simp [hk.1, hk.2]
    rw [e] at hu
    exact hu
end Go.Proofs.Ytbjfeogkdfmjpaa
