/- The draws of FnPaths, FnSections and FnFaceSections. -/
import Derived.Test.YtmgoaabeopnopaaFl2
namespace Go.Proofs.Ytmgoaabeopnopaa
open Go.RowKit

def RetX2 (w : World) (e : Ending) (w' : World) : Prop :=
  ∃ (A' : Option Addr) (N c' : Nat) (xss : List (List Int)) (k1 k2 : Int), e = .returned (.tuple #[.agg #[.slice A' N c'], .int .i64 k1, .int .i64 k2]) ∧ xss.length = N ∧ N ≤ 6 ∧ (∀ xs ∈ xss, (xs.length : Int) ≤ 1048576) ∧ N ≤ c' ∧ c' ≤ 9223372036854775807 ∧ RdSS w' A' xss ∧ Below w.heap.size w w'
def RetX3 (w : World) (e : Ending) (w' : World) : Prop :=
  ∃ (A' : Option Addr) (N c' : Nat) (xss : List (List Int)) (k1 k2 k3 : Int), e = .returned (.tuple #[.agg #[.slice A' N c'], .int .i64 k1, .int .i64 k2, .int .i64 k3]) ∧ xss.length = N ∧ N ≤ 6 ∧ (∀ xs ∈ xss, (xs.length : Int) ≤ 1048576) ∧ N ≤ c' ∧ c' ≤ 9223372036854775807 ∧ RdSS w' A' xss ∧ Below w.heap.size w w'
theorem rds_setP {w : World} {lo H k i : Nat} {A : Option Addr} {xss : List (List Int)} {v : Value} {Ps : List Pc} (h : Sep w lo Ps) (hi : Ps[i]? = some (.rds A xss)) (hH : H < lo) : RdSS (w.setCell ⟨H, k, none⟩ v) A xss := by
  obtain ⟨F, h1, h2⟩ := h.piece hi
  have h3 := (Pc.rds A xss).kept h1 (w' := w.setCell ⟨H, k, none⟩ v) fun b hb => by
    have := (h2 b hb).1
    have hne : H ≠ b := by omega
    simp [World.setCell, Array.getElem?_modify, hne]
  exact h3.1
section
variable {A : Option Addr} {g n c : Nat} {bs : List Value}
theorem next6E (N : Nat) (w : World) (hs : SrcE w g A n c bs) (hn : n ≤ 1048576) :
    Calls Try.prog 114 #[.pointer (some ⟨g, 0, none⟩), .int .i64 (N : Int)] w (RetD w g A n c bs fun r => ∃ z : Nat, r = (z : Int) ∧ z ≤ N) := by
  by_cases hN : 1 ≤ N
  · exact (nextE w hs hn (by omega)).mono fun e w' ⟨r, h1, h2, h3, h4⟩ => ⟨r, h1, ⟨r.toNat, by omega, by omega⟩, h3, h4⟩
  · have HS := Lib.hid hs
    obtain rfl : N = 0 := by omega
    clear hs hN
    go_enter Try.func114, Try.ntmps114
    go_wp2
    go_ret
    exact ⟨0, rfl, ⟨0, rfl, Nat.le_refl _⟩, HS.out, Turns.refl _ _ _⟩
def RetD2 (w : World) (g : Nat) (A : Option Addr) (n c : Nat) (bs : List Value) (e : Ending) (w' : World) : Prop :=
  ∃ r s : Int, e = .returned (.tuple #[.int .i64 r, .int .i64 s]) ∧ SrcE w' g A n c bs ∧ Turns g (g + 1) w w'
def RetX2P (w : World) (e : Ending) (w' : World) : Prop :=
  ∃ (A' : Option Addr) (N c' : Nat) (xss : List (List Int)) (k1 k2 : Int), e = .returned (.tuple #[.agg #[.slice A' N c'], .int .i64 k1, .int .i64 k2]) ∧ xss.length = N ∧ N ≤ 6 ∧ (∀ xs ∈ xss, (xs.length : Int) ≤ 1048576) ∧ N ≤ c' ∧ c' ≤ 9223372036854775807 ∧ (∃ lo, w.heap.size < lo ∧ Sep w' lo [.rds A' xss]) ∧ Below w.heap.size w w' 
end
end Go.Proofs.Ytmgoaabeopnopaa
