/- Posets as arguments of the laws: their sizes, copies, comparisons, marks. -/
import Derived.Test.YtmfddenjemoedaaPc
import Derived.Test.YtmfddenjemoedaaL12
namespace Go.Proofs.Ytmfddenjemoedaa
open Go.RowKit

def SzP (N M : Nat) (bss : List (List Int)) (w : World) (e : Ending) (w' : World) : Prop :=
  ∃ r : Int, e = .returned (.int .i64 r) ∧ -1 ≤ r ∧ r ≤ 1048576 ∧ (0 ≤ r → N ≤ 1048576 ∧ M ≤ 1048576 ∧ ∀ xs ∈ bss, (xs.length : Int) ≤ 1048576) ∧ Below w.heap.size w w'
/-- What a call gives back that makes a poset whose ranks lie before its lists. -/
def RetP3 (w : World) (R : Int) (xs : List Int) (bss : List (List Int)) (e : Ending) (w' : World) : Prop :=
  ∃ (A' : Option Addr) (c' : Nat) (B' : Option Addr) (d' mid : Nat), e = .returned (.agg #[.int .i64 R, .slice A' xs.length c', .slice B' bss.length d']) ∧ w.heap.size ≤ mid ∧ mid ≤ w'.heap.size ∧
    w'.ownsRow w.heap.size 2 1 (.slice A' xs.length c') xs.length (ints xs) ∧ InB (.slice A' xs.length c') w.heap.size mid ∧ OwnSS w' mid w'.heap.size 24 B' bss.length d' bss ∧ Below w.heap.size w w'

theorem s7_go {w W W' : World} {b p : Nat} {u0 u1 u2 v0 v1 v2 : Value}
    (h : Below w.heap.size w W ∧ W.cell? ⟨b, 0, none⟩ = some u0 ∧ W.cell? ⟨b, 1, none⟩ = some u1 ∧ W.cell? ⟨b, 2, none⟩ = some u2 ∧ W.cell? ⟨p, 0, none⟩ = some v0 ∧ W.cell? ⟨p, 1, none⟩ = some v1 ∧ W.cell? ⟨p, 2, none⟩ = some v2) (hb : Below W.heap.size W W') :
    Below w.heap.size w W' ∧ W'.cell? ⟨b, 0, none⟩ = some u0 ∧ W'.cell? ⟨b, 1, none⟩ = some u1 ∧ W'.cell? ⟨b, 2, none⟩ = some u2 ∧ W'.cell? ⟨p, 0, none⟩ = some v0 ∧ W'.cell? ⟨p, 1, none⟩ = some v1 ∧ W'.cell? ⟨p, 2, none⟩ = some v2 :=
  ⟨h.1.trans (hb.mono h.1.size), cell_be h.2.1 hb, cell_be h.2.2.1 hb, cell_be h.2.2.2.1 hb, cell_be h.2.2.2.2.1 hb, cell_be h.2.2.2.2.2.1 hb, cell_be h.2.2.2.2.2.2 hb⟩
theorem s7_rd {w W : World} {A : Option Addr} {vs : List Value} {b p : Nat} {u0 u1 u2 v0 v1 v2 : Value} (ha : Rd w A vs)
    (h : Below w.heap.size w W ∧ W.cell? ⟨b, 0, none⟩ = some u0 ∧ W.cell? ⟨b, 1, none⟩ = some u1 ∧ W.cell? ⟨b, 2, none⟩ = some u2 ∧ W.cell? ⟨p, 0, none⟩ = some v0 ∧ W.cell? ⟨p, 1, none⟩ = some v1 ∧ W.cell? ⟨p, 2, none⟩ = some v2) : Rd W A vs := ha.keep h.1
theorem s7_rs {w W : World} {A : Option Addr} {vs : List (List Int)} {b p : Nat} {u0 u1 u2 v0 v1 v2 : Value} (ha : RdSS w A vs)
    (h : Below w.heap.size w W ∧ W.cell? ⟨b, 0, none⟩ = some u0 ∧ W.cell? ⟨b, 1, none⟩ = some u1 ∧ W.cell? ⟨b, 2, none⟩ = some u2 ∧ W.cell? ⟨p, 0, none⟩ = some v0 ∧ W.cell? ⟨p, 1, none⟩ = some v1 ∧ W.cell? ⟨p, 2, none⟩ = some v2) : RdSS W A vs := ha.keep h.1
/-- What a call gives back that makes a poset and a code: the ranks lie before the lists. -/
def RetPC (w : World) (R : Int) (xs : List Int) (bss : List (List Int)) (C : Int) (e : Ending) (w' : World) : Prop :=
  ∃ (A' : Option Addr) (c' : Nat) (B' : Option Addr) (d' mid : Nat), e = .returned (.tuple #[.agg #[.int .i64 R, .slice A' xs.length c', .slice B' bss.length d'], .int .i64 C]) ∧ w.heap.size ≤ mid ∧ mid ≤ w'.heap.size ∧
    w'.ownsRow w.heap.size 2 1 (.slice A' xs.length c') xs.length (ints xs) ∧ InB (.slice A' xs.length c') w.heap.size mid ∧ OwnSS w' mid w'.heap.size 24 B' bss.length d' bss ∧ Below w.heap.size w w'
/-- The same, wherever its parts lie. -/
def RetPU (w : World) (R : Int) (xs : List Int) (bss : List (List Int)) (C : Int) (e : Ending) (w' : World) : Prop :=
  ∃ (A' : Option Addr) (c' : Nat) (B' : Option Addr) (d' : Nat), e = .returned (.tuple #[.agg #[.int .i64 R, .slice A' xs.length c', .slice B' bss.length d'], .int .i64 C]) ∧
    w'.ownsRow w.heap.size 2 1 (.slice A' xs.length c') xs.length (ints xs) ∧ OwnSS w' w.heap.size w'.heap.size 24 B' bss.length d' bss ∧ Below w.heap.size w w'
end Go.Proofs.Ytmfddenjemoedaa
