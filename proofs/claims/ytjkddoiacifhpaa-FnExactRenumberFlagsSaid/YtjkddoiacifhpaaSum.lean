import Derived.Test.YtjkddoiacifhpaaSpoil
namespace Go.Proofs.Ytjkddoiacifhpaa
open Go.RowKit

theorem big_any {A : Option Addr} {c n : Nat} (w : World) : Calls Try.prog 25 #[.slice A n c] w fun e w' => e = .returned (.bool (decide ((4096 : Int) < (n : Int)))) ∧ w = w' := by
  go_enter Try.func25, Try.ntmps25
  go_wp2
  go_ret
  exact ⟨rfl, rfl⟩
section
/-- A drawn list whose length is its own affair. -/
def RetLs (w : World) (e : Ending) (w' : World) : Prop :=
  ∃ (A' : Option Addr) (c' m : Nat) (L : List Int), e = .returned (.slice A' m c') ∧ L.length = m ∧ m ≤ 1048576 ∧ w'.ownsRow w.heap.size 2 1 (.slice A' m c') m (ints L) ∧ Below w.heap.size w w'
/-- Two drawn lists. -/
def RetP (w : World) (e : Ending) (w' : World) : Prop :=
  ∃ (A1 A2 : Option Addr) (c1 c2 m1 m2 : Nat) (L1 L2 : List Int), e = .returned (.tuple #[.slice A1 m1 c1, .slice A2 m2 c2]) ∧ L1.length = m1 ∧ m1 ≤ 1048576 ∧ L2.length = m2 ∧ m2 ≤ 1048576 ∧
    w'.ownsRow w.heap.size 2 1 (.slice A1 m1 c1) m1 (ints L1) ∧ w'.ownsRow w.heap.size 2 1 (.slice A2 m2 c2) m2 (ints L2) ∧ Below w.heap.size w w'
variable {A : Option Addr} {n c : Nat} {bs : List Value}
set_option maxHeartbeats 1600000 in
theorem pairE (w : World) (hl : bs.length = n) (hr : Rd w A bs) (hu : ∀ v ∈ bs, ∃ x : Nat, v = .int .u8 x ∧ x < 256) (hn : n ≤ 1048576) :
    Calls Try.prog 98 #[.slice A n c] w (RetP w) := by
  have HL := Lib.hid hl
  have HR := Lib.hid hr
  have HU := Lib.hid hu
  clear hl hr hu
  go_enter Try.func98, Try.ntmps98
  go_wp2_with fail
  refine (from_any w HL.out HR.out HU.out hn).mono ?_
  rintro e w1 ⟨g, at', h', rfl, hg, hg1, src, bel⟩
  have S1 := Lib.hid (show SrcE w1 g A n c bs from ⟨at', h', src⟩)
  have BEL := Lib.hid bel
  clear src bel
  go_wp2_with fail
  refine (sizeE w1 S1.out hn).mono ?_
  rintro e w2 ⟨r, rfl, ⟨hr0, hr1⟩, s2, t2⟩
  obtain ⟨N, rfl⟩ := Int.eq_ofNat_of_zero_le hr0
  have S2 := Lib.hid s2
  have T2 := Lib.hid t2
  have hz2 := t2.size
  clear s2 t2
  go_wp2_with fail
  refine (spoilE w2 S2.out hn (by omega)).mono ?_
  rintro e w3 ⟨A3, c3, L3, rfl, hL3, own3, s3, t3⟩
  have HL3 := Lib.hid hL3
  have OWN3 := Lib.hid own3
  have IN3 := Lib.hid (own_in own3)
  have S3 := Lib.hid s3
  have T3 := Lib.hid (T2.out.trans t3)
  have hz3 := t3.size
  clear hL3 own3 s3 t3
  go_wp2_with fail
  refine (nextE w3 S3.out hn (by omega)).mono ?_
  rintro e w4 ⟨q, rfl, hq, s4, t4⟩
  have S4 := Lib.hid s4
  have OWN4 := Lib.hid (t4.own OWN3.out IN3.out (.inr (by omega)))
  have T4 := Lib.hid (T3.out.trans t4)
  have hz4 := t4.size
  clear s4 t4
  by_cases hq0 : q = 0
  · subst hq0
    go_wp2_with fail
    refine (spoilE (N := N + 1) w4 S4.out hn (by omega)).mono ?_
    rintro e w5 ⟨A5, c5, L5, rfl, hL5, own5, s5, t5⟩
    have HL5 := Lib.hid hL5
    have OWN5 := Lib.hid own5
    have OWN6 := Lib.hid (t5.own OWN4.out IN3.out (.inr (by omega)))
    have B5 := Lib.hid ((T4.out.trans t5).below BEL.out (by omega) hg)
    clear hL5 own5 s5 t5
    go_wp2
    go_ret2
    exact ⟨_, _, _, _, _, _, _, _, rfl, HL3.out, by omega, HL5.out, by omega, own_base OWN6.out (by omega), own_base OWN5.out (by omega), B5.out⟩
  · have hne : (q == 0) = false := by rw [beq_eq_false_iff_ne]; exact hq0
    go_wp2_with fail
    refine (spoilE w4 S4.out hn (by omega)).mono ?_
    rintro e w5 ⟨A5, c5, L5, rfl, hL5, own5, s5, t5⟩
    have HL5 := Lib.hid hL5
    have OWN5 := Lib.hid own5
    have OWN6 := Lib.hid (t5.own OWN4.out IN3.out (.inr (by omega)))
    have B5 := Lib.hid ((T4.out.trans t5).below BEL.out (by omega) hg)
    clear hL5 own5 s5 t5
    go_wp2
    go_ret2
    exact ⟨_, _, _, _, _, _, _, _, rfl, HL3.out, by omega, HL5.out, by omega, own_base OWN6.out (by omega), own_base OWN5.out (by omega), B5.out⟩
end
end Go.Proofs.Ytjkddoiacifhpaa
