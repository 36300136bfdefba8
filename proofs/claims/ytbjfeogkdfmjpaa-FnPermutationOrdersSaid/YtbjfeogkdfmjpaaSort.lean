/- Sorted lists of numbers; plain facts. -/
import Derived.Test.YtbjfeogkdfmjpaaPush
import Derived.Laws.AppendOwnNone
import Derived.Sort.OwnSortedInts
import Derived.Test.YtbjfeogkdfmjpaaShelf
namespace Go.Proofs.Ytbjfeogkdfmjpaa
open Go.RowKit

def sortL (xs : List Int) : List Int := xs.mergeSort fun x y => decide (x ≤ y)
theorem sortL_perm (xs : List Int) : (sortL xs).Perm xs := List.mergeSort_perm _ _
theorem sortL_length (xs : List Int) : (sortL xs).length = xs.length := (sortL_perm xs).length_eq
theorem sortL_sorted (xs : List Int) : (sortL xs).Pairwise (· ≤ ·) := by
  have h := List.pairwise_mergeSort (le := fun x y : Int => decide (x ≤ y)) (by intro a b c h1 h2; simp at *; omega) (by intro a b; simp; omega) xs
  exact h.imp (by intro _ _ h; simpa using h)
theorem sortL_eq {xs ys : List Int} (hp : ys.Perm xs) (hs : ys.Pairwise (· ≤ ·)) : ys = sortL xs :=
  List.Perm.eq_of_pairwise (fun _ _ _ _ h1 h2 => Int.le_antisymm h1 h2) hs (sortL_sorted xs) (hp.trans (sortL_perm xs).symm)

/-- One place of the insertion: the list is P ++ x :: (S ++ R); P ++ S is sorted; x is not greater than what stands in S. -/
structure Ins (L xs : List Int) (i k : Nat) (P : List Int) (x : Int) (S R : List Int) : Prop where
  eq : L = P ++ x :: (S ++ R)
  perm : L.Perm xs
  lenP : P.length = k
  lenS : S.length + k = i
  srt : (P ++ S).Pairwise (· ≤ ·)
  low : ∀ s ∈ S, x ≤ s
theorem ins_start {L xs : List Int} {i : Nat} (hp : L.Perm xs) (hi : i < L.length) (hs : (L.take i).Pairwise (· ≤ ·)) : ∃ x R, Ins L xs i i (L.take i) x [] R :=
  ⟨L[i], L.drop (i + 1), by rw [List.nil_append, ← List.drop_eq_getElem_cons hi, List.take_append_drop], hp, by simp; omega, by simp, by simpa using hs, by simp⟩
theorem ins_at {L xs : List Int} {i k : Nat} {P S R : List Int} {x : Int} (h : Ins L xs i k P x S R) : L[k]? = some x := by
  rw [h.eq, List.getElem?_append_right (by have := h.lenP; omega), h.lenP, Nat.sub_self]
  rfl
theorem ins_done {L xs : List Int} {i k : Nat} {P S R : List Int} {x : Int} (h : Ins L xs i k P x S R) (hle : ∀ y, P.getLast? = some y → y ≤ x) : (L.take (i + 1)).Pairwise (· ≤ ·) ∧ L.Perm xs := by
  refine ⟨?_, h.perm⟩
  have e : L.take (i + 1) = P ++ x :: S := by
    have h1 : P ++ x :: (S ++ R) = (P ++ x :: S) ++ R := by simp
    rw [h.eq, h1, List.take_left' (by have := h.lenP; have := h.lenS; simp; omega)]
  rw [e]
  have hs := List.pairwise_append.1 h.srt
  refine List.pairwise_append.2 ⟨hs.1, List.pairwise_cons.2 ⟨h.low, hs.2.1⟩, fun a ha b hb => ?_⟩
  have hax : a ≤ x := by
    rcases List.eq_nil_or_concat P with rfl | ⟨Q, y, rfl⟩
    · cases ha
    · have hy := hle y (by simp)
      have h2 := List.pairwise_append.1 (by simpa using hs.1)
      have ha' : a ∈ Q ∨ a = y := by simpa using ha
      rcases ha' with h3 | h3
      · have := h2.2.2 a h3 y (by simp)
        omega
      · omega
  rcases List.mem_cons.1 hb with rfl | h3
  · exact hax
  · have := h.low b h3
    omega
theorem ins_step {L xs : List Int} {i k : Nat} {P S R : List Int} {x y : Int} (h : Ins L xs i (k + 1) (P ++ [y]) x S R) (hlt : x < y) :
    Ins ((L.set (k + 1) y).set k x) xs i k P x (y :: S) R ∧ L[k]? = some y := by
  have hl : P.length = k := by have := h.lenP; simp at this; omega
  have e1 : L = P ++ y :: x :: (S ++ R) := by rw [h.eq]; simp
  have e2 : (L.set (k + 1) y).set k x = P ++ x :: (y :: S ++ R) := by
    rw [e1, List.set_append_right _ _ (by omega), List.set_append_right _ _ (by omega)]
    have : k + 1 - P.length = 1 := by omega
    have : k - P.length = 0 := by omega
    simp [*]
  have hs := List.pairwise_append.1 h.srt
  refine ⟨⟨e2, ?_, hl, by have := h.lenS; simp; omega, by simpa using h.srt, fun s hs' => ?_⟩, by rw [e1, List.getElem?_append_right (by omega)]; simp [hl]⟩
  · rw [e2]
    refine List.Perm.trans ?_ (e1 ▸ h.perm)
    exact List.Perm.append_left P (List.Perm.swap y x (S ++ R))
  · rcases List.mem_cons.1 hs' with rfl | h3
    · omega
    · exact h.low s h3
theorem ins_last {L xs : List Int} {i k : Nat} {P S R : List Int} {x : Int} (h : Ins L xs i (k + 1) P x S R) : ∃ Q y, P = Q ++ [y] ∧ L[k]? = some y := by
  rcases List.eq_nil_or_concat P with rfl | ⟨Q, y, hP⟩
  · have := h.lenP; simp at this
  · rw [List.concat_eq_append] at hP
    subst hP
    have hl : Q.length = k := by have := h.lenP; simp at this; omega
    refine ⟨Q, y, rfl, ?_⟩
    rw [h.eq, List.append_assoc, List.getElem?_append_right (by omega), hl, Nat.sub_self]
    rfl

theorem ins_move {L xs : List Int} {i k : Nat} {P S R : List Int} {x : Int} (h : Ins L xs i k P x S R) (hk : 1 ≤ k) :
    ∃ Q y, L[k - 1]? = some y ∧ (x < y → Ins ((L.set k y).set (k - 1) x) xs i (k - 1) Q x (y :: S) R) ∧ (¬ x < y → (L.take (i + 1)).Pairwise (· ≤ ·)) := by
  obtain ⟨j, rfl⟩ : ∃ j, k = j + 1 := ⟨k - 1, by omega⟩
  obtain ⟨Q, y, rfl, hy⟩ := ins_last h
  refine ⟨Q, y, hy, fun hlt => (ins_step h hlt).1, fun hge => (ins_done h ?_).1⟩
  intro z hz
  simp at hz
  omega
theorem ins_zero {L xs : List Int} {i : Nat} {P S R : List Int} {x : Int} (h : Ins L xs i 0 P x S R) : (L.take (i + 1)).Pairwise (· ≤ ·) := by
  have h0 : P = [] := List.eq_nil_of_length_eq_zero h.lenP
  refine (ins_done h ?_).1
  rw [h0]
  simp

/-- slices.Sort on a slice of int64 that the call owns. -/
theorem sort_any {A : Option Addr} {c n base : Nat} {xs : List Int} (w : World) (hown : w.ownsRow base 2 1 (.slice A n c) n (ints xs)) (hn : n ≤ 1048576) :
    Calls Try.prog 88 #[.slice A n c] w fun e w' => e = .returned (.tuple #[]) ∧ w'.ownsRow base 2 1 (.slice A n c) n (ints (sortL xs)) ∧ w.grownBy w' (Value.slice A n c).ownBlock := by
  have hx : xs.length = n := by simpa using hown.1
  by_cases h0 : n = 0
  · subst h0
    have hnil : xs = [] := List.eq_nil_of_length_eq_zero hx
    subst hnil
    refine (Go.Proofs.AnyM.slices_Sort_int_none Go.Proofs.Try.l88 A c w).mono ?_
    rintro e w' ⟨rfl, rfl⟩
    exact ⟨rfl, by simpa [sortL] using hown, World.grownBy.refl _ _⟩
  · rcases hown.2 with ⟨_, h1⟩ | ⟨g, cap, cur, hv, hbase, hb, h1, h2, h3, h4⟩
    · exact absurd h1 h0
    · simp only [Value.slice.injEq, true_and] at hv
      obtain ⟨rfl, rfl⟩ := hv
      subst hx
      have hH := holds_of_blockI hb (by simpa using h4)
      have hg : g < w.heap.size := (Array.getElem?_eq_some_iff.1 hb).1
      refine (Go.Proofs.AnyM.slices_Sort_int Go.Proofs.Try.l88 g 0 c xs w hH hg (by omega)).mono ?_
      rintro e w' ⟨rfl, m, os, rfl⟩
      exact ⟨rfl, ownsRow_sortedI (sortL_length xs) hbase hb h1 h2 h3, grownBy_sortedI _⟩
end Go.Proofs.Ytbjfeogkdfmjpaa
