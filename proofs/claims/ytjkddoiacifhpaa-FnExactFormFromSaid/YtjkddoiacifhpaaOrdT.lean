import Derived.Test.YtjkddoiacifhpaaOrdM
import Derived.Test.YtjkddoiacifhpaaDrOrd
import Derived.Test.YtjkddoiacifhpaaLike
namespace Go.Proofs.Ytjkddoiacifhpaa
open Go.RowKit

theorem inv_powL (xs : List Int) : invL xs = powL xs (-1) := by
  unfold powL pwBase
  rw [if_pos (by decide), show (-1 : Int).natAbs = 1 from rfl, powN_one (invL_len xs)]
theorem pw_zero (xs : List Int) (x : Int) : pwT xs 0 x = x := rfl
theorem okP_powL {xs : List Int} (hok : okP xs = true) (a : Int) : okP (powL xs a) = true := by
  have h4 := (of_decide_eq_true hok).1
  have hl := powL_length xs a
  refine decide_eq_true ⟨by omega, ?_, ?_⟩
  · intro x hx
    rw [hl]
    obtain ⟨j, hj, rfl⟩ := List.mem_iff_getElem.1 hx
    have h1 := powL_at (xs := xs) (k := a) (j := j) (by omega)
    rw [List.getElem?_eq_getElem hj] at h1
    injection h1 with h1
    rw [h1]
    exact pw_in rfl hok (by omega) (by omega) a
  · refine List.pairwise_iff_getElem.2 fun i j hi hj hij he => ?_
    have h1 := powL_at (xs := xs) (k := a) (j := i) (by omega)
    have h2 := powL_at (xs := xs) (k := a) (j := j) (by omega)
    rw [List.getElem?_eq_getElem hi] at h1
    rw [List.getElem?_eq_getElem hj] at h2
    injection h1 with h1
    injection h2 with h2
    rw [h1, h2] at he
    have e1 := pw_add rfl hok (x := (i : Int)) (by omega) (by omega) a (-a)
    have e2 := pw_add rfl hok (x := (j : Int)) (by omega) (by omega) a (-a)
    rw [he, e2, show a + -a = 0 by omega, pw_zero, pw_zero] at e1
    omega
def RetT (w : World) (L : List Int) (n : Nat) (C : Int) (e : Ending) (w' : World) : Prop :=
  ∃ A c, e = .returned (.tuple #[.slice A n c, .int .i64 C]) ∧ w'.ownsRow w.heap.size 2 1 (.slice A n c) n (ints L) ∧ Below w.heap.size w w'
theorem retT_of {w w' : World} {e : Ending} {L L' : List Int} {C C' : Int} {n : Nat} (h : RetS w L C e w') (h1 : L = L') (h2 : L'.length = n) (h3 : C = C') : RetT w L' n C' e w' := by
  subst h1 h2 h3; exact h
section
variable {A A2 : Option Addr} {c c2 n : Nat} {xs ys : List Int}
theorem iThenT (w : World) (hx : xs.length = n) (ha : Rd w A (ints xs)) (hn : n ≤ 1048576) (hp : okP xs = true) (hy : ys.length = n) (ha2 : Rd w A2 (ints ys)) (hq : okP ys = true) :
    Calls Try.prog 33 #[.slice A n c, .slice A2 n c2] w (RetT w (thenL xs ys) n 0) := by
  have ht : okTwo xs ys = true := by simp [okTwo, hp, hq, hx, hy]
  exact (iThen_any w hx ha hn hy ha2 hn).mono fun _ _ h => retT_of h (by simp [thenR, ht]) (by rw [thenL_length, hx]) (by simp [twoC, ht])
theorem iInvT (w : World) (hx : xs.length = n) (ha : Rd w A (ints xs)) (hn : n ≤ 1048576) (hp : okP xs = true) :
    Calls Try.prog 45 #[.slice A n c] w (RetT w (powL xs (-1)) n 0) :=
  (iinv_any w hx ha hn).mono fun _ _ h => retT_of h (by rw [← inv_powL]; simp [invR, hp]) (by rw [powL_length, hx]) (by simp [permC, hp])
theorem iLenT {m : Nat} (w : World) (hx : xs.length = n) (ha : Rd w A (ints xs)) (hn : n ≤ 1048576) (hp : okP xs = true) (hm : (lensL xs).length = m) :
    Calls Try.prog 32 #[.slice A n c] w (RetT w (lensL xs) m 0) :=
  (iLen_any w hx ha hn).mono fun _ _ h => retT_of h (by simp [lensR, hp]) hm (by simp [permC, hp])
theorem likeB {m : Nat} (w : World) (hx : xs.length = n) (hy : ys.length = m) (ha : Rd w A (ints xs)) (hb : Rd w A2 (ints ys)) (hn : n ≤ 1048576) :
    Calls Try.prog 29 #[.slice A n c, .slice A2 m c2] w fun e w' => e = .returned (.bool (decide (xs = ys))) ∧ Below w.heap.size w w' :=
  (like_any w hx hy ha hb (by omega)).mono fun _ _ ⟨he, j, hj⟩ => ⟨he, by rw [hj]; exact below_drewN (Below.refl _ _) j⟩
end
/-- What the order's answer and code can be. -/
theorem ord_cases {xs : List Int} (hp : okP xs = true) : (ordC xs = 3 ∧ ordR xs = 0) ∨ (ordC xs = 0 ∧ ordR xs = (ordO xs : Int) ∧ ordO xs ≤ 1000000000000000) := by
  unfold ordC ordR
  rw [if_pos hp, if_pos hp]
  split
  · exact .inl ⟨rfl, rfl⟩
  · rename_i h
    exact .inr ⟨rfl, rfl, by omega⟩
end Go.Proofs.Ytjkddoiacifhpaa
