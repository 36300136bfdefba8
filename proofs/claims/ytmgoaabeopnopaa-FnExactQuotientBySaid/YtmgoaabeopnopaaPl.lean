/- Posets as arguments of the laws: their sizes, copies, comparisons, marks. -/
import Derived.Test.YtmgoaabeopnopaaPc
import Derived.Test.YtmgoaabeopnopaaL12
namespace Go.Proofs.Ytmgoaabeopnopaa
open Go.RowKit

set_option maxHeartbeats 800000 in
theorem szl_any {A : Option Addr} {c n : Nat} {xss : List (List Int)} (left : Int) (w : World) (hl0 : 0 ≤ left) (hl1 : left ≤ 1048576) (hx : xss.length = n) (ha : RdSS w A xss) (hn : n ≤ 9223372036854775807) :
    Calls Try.prog 17 #[.slice A n c, .int .i64 left] w (SzOk 1048576 xss w) := by
  have HX := Lib.hid hx
  have HA := Lib.hid ha
  clear hx ha
  by_cases hl : left - n < 0
  · go_enter Try.func17, Try.ntmps17
    go_wp2
    go_ret
    exact ⟨-1, rfl, by omega, by omega, by omega, rfl⟩
  go_enter Try.func17, Try.ntmps17
  go_wp2
  go_loop [1, 5] (fun q i => ∃ (k : Nat) (r : Int), k ≤ n ∧ i = .int .i64 k ∧ q = .int .i64 r ∧ 0 ≤ r ∧ r ≤ 1048576 ∧ ∀ xs ∈ xss.take k, (xs.length : Int) ≤ 1048576) (fun _ i => n - (intOf i).toNat)
  case atStart => exact ⟨0, _, Nat.zero_le _, rfl, rfl, by omega, by omega, by simp⟩
  case round =>
    obtain ⟨k, r, hk, rfl, rfl, h0, h1, hall⟩ := hrel
    have HALL := Lib.hid hall
    clear hall
    by_cases hlt : k < n
    · obtain ⟨b, o, A', c', xs, rfl, hg, hc, hr, hm⟩ := HA.out.row (k := k) (by rw [HX.out]; exact hlt)
      have HG := Lib.hid hg
      clear hg hr
      go_wp2_with fail
      refine (sz1_any r w h0 h1 hm).mono ?_
      rintro e w' ⟨r', rfl, g0, g1, g2, rfl⟩
      by_cases hneg : r' < 0
      · clear g2
        go_wp2
        go_ret
        exact ⟨-1, rfl, by omega, by omega, by omega, rfl⟩
      · have G2 := Lib.hid (g2 (by omega))
        clear g2
        go_wp2
        go_round
        case rel =>
          refine ⟨k + 1, r', by omega, by go_num, rfl, by omega, by omega, fun ys hy => ?_⟩
          rw [List.take_add_one, HG.out] at hy
          rcases List.mem_append.1 hy with h | h
          · exact HALL.out ys h
          · simp at h
            subst h
            have := G2.out
            omega
        case measure => simp [intOf]; omega
    · go_wp2
      go_ret
      refine ⟨r, rfl, by omega, by omega, fun _ => ⟨by rw [HX.out]; omega, fun xs hxs => HALL.out xs ?_⟩, rfl⟩
      rwa [List.take_of_length_le (by rw [HX.out]; omega)]

def SzP (N M : Nat) (bss : List (List Int)) (w : World) (e : Ending) (w' : World) : Prop :=
  ∃ r : Int, e = .returned (.int .i64 r) ∧ -1 ≤ r ∧ r ≤ 1048576 ∧ (0 ≤ r → N ≤ 1048576 ∧ M ≤ 1048576 ∧ ∀ xs ∈ bss, (xs.length : Int) ≤ 1048576) ∧ Below w.heap.size w w'
/-- What a call gives back that makes a poset whose ranks lie before its lists. -/
def RetP3 (w : World) (R : Int) (xs : List Int) (bss : List (List Int)) (e : Ending) (w' : World) : Prop :=
  ∃ (A' : Option Addr) (c' : Nat) (B' : Option Addr) (d' mid : Nat), e = .returned (.agg #[.int .i64 R, .slice A' xs.length c', .slice B' bss.length d']) ∧ w.heap.size ≤ mid ∧ mid ≤ w'.heap.size ∧
    w'.ownsRow w.heap.size 2 1 (.slice A' xs.length c') xs.length (ints xs) ∧ InB (.slice A' xs.length c') w.heap.size mid ∧ OwnSS w' mid w'.heap.size 36 B' bss.length d' bss ∧ Below w.heap.size w w'

theorem s7_go {w W W' : World} {b p : Nat} {u0 u1 u2 v0 v1 v2 : Value}
    (h : Below w.heap.size w W ∧ W.cell? ⟨b, 0, none⟩ = some u0 ∧ W.cell? ⟨b, 1, none⟩ = some u1 ∧ W.cell? ⟨b, 2, none⟩ = some u2 ∧ W.cell? ⟨p, 0, none⟩ = some v0 ∧ W.cell? ⟨p, 1, none⟩ = some v1 ∧ W.cell? ⟨p, 2, none⟩ = some v2) (hb : Below W.heap.size W W') :
    Below w.heap.size w W' ∧ W'.cell? ⟨b, 0, none⟩ = some u0 ∧ W'.cell? ⟨b, 1, none⟩ = some u1 ∧ W'.cell? ⟨b, 2, none⟩ = some u2 ∧ W'.cell? ⟨p, 0, none⟩ = some v0 ∧ W'.cell? ⟨p, 1, none⟩ = some v1 ∧ W'.cell? ⟨p, 2, none⟩ = some v2 :=
  ⟨h.1.trans (hb.mono h.1.size), cell_be h.2.1 hb, cell_be h.2.2.1 hb, cell_be h.2.2.2.1 hb, cell_be h.2.2.2.2.1 hb, cell_be h.2.2.2.2.2.1 hb, cell_be h.2.2.2.2.2.2 hb⟩
theorem s7_rd {w W : World} {A : Option Addr} {vs : List Value} {b p : Nat} {u0 u1 u2 v0 v1 v2 : Value} (ha : Rd w A vs)
    (h : Below w.heap.size w W ∧ W.cell? ⟨b, 0, none⟩ = some u0 ∧ W.cell? ⟨b, 1, none⟩ = some u1 ∧ W.cell? ⟨b, 2, none⟩ = some u2 ∧ W.cell? ⟨p, 0, none⟩ = some v0 ∧ W.cell? ⟨p, 1, none⟩ = some v1 ∧ W.cell? ⟨p, 2, none⟩ = some v2) : Rd W A vs := ha.keep h.1
theorem s7_rs {w W : World} {A : Option Addr} {vs : List (List Int)} {b p : Nat} {u0 u1 u2 v0 v1 v2 : Value} (ha : RdSS w A vs)
    (h : Below w.heap.size w W ∧ W.cell? ⟨b, 0, none⟩ = some u0 ∧ W.cell? ⟨b, 1, none⟩ = some u1 ∧ W.cell? ⟨b, 2, none⟩ = some u2 ∧ W.cell? ⟨p, 0, none⟩ = some v0 ∧ W.cell? ⟨p, 1, none⟩ = some v1 ∧ W.cell? ⟨p, 2, none⟩ = some v2) : RdSS W A vs := ha.keep h.1
/-- What a call gives back that makes a poset and a code: the ranks lie before the lists. -/
def RetPC (w : World) (R : Int) (xs : List Int) (bss : List (List Int)) (C : Int) (e : Ending) (w' : World) : Prop :=
  ∃ (A' : Option Addr) (c' : Nat) (B' : Option Addr) (d' mid : Nat), e = .returned (.tuple #[.agg #[.int .i64 R, .slice A' xs.length c', .slice B' bss.length d'], .int .i64 C]) ∧ w.heap.size ≤ mid ∧ mid ≤ w'.heap.size ∧
    w'.ownsRow w.heap.size 2 1 (.slice A' xs.length c') xs.length (ints xs) ∧ InB (.slice A' xs.length c') w.heap.size mid ∧ OwnSS w' mid w'.heap.size 36 B' bss.length d' bss ∧ Below w.heap.size w w'
/-- The same, wherever its parts lie. -/
def RetPU (w : World) (R : Int) (xs : List Int) (bss : List (List Int)) (C : Int) (e : Ending) (w' : World) : Prop :=
  ∃ (A' : Option Addr) (c' : Nat) (B' : Option Addr) (d' : Nat), e = .returned (.tuple #[.agg #[.int .i64 R, .slice A' xs.length c', .slice B' bss.length d'], .int .i64 C]) ∧
    w'.ownsRow w.heap.size 2 1 (.slice A' xs.length c') xs.length (ints xs) ∧ OwnSS w' w.heap.size w'.heap.size 36 B' bss.length d' bss ∧ Below w.heap.size w w'
end Go.Proofs.Ytmgoaabeopnopaa
