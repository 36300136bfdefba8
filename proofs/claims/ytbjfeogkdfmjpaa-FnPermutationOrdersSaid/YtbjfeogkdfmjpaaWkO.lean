import Derived.Test.YtbjfeogkdfmjpaaWkN
import Derived.Test.YtbjfeogkdfmjpaaWkS
namespace Go.Proofs.Ytbjfeogkdfmjpaa
open Go.RowKit

def lenL (xs : List Int) : List Int := (cycL xs).map fun c => (c.length : Int)
def lensL (xs : List Int) : List Int := sortL (lenL xs)
def lensR (xs : List Int) : List Int := if okP xs then lensL xs else []
theorem cycL_le (xs : List Int) : (cycL xs).length ≤ xs.length := cycTo_le _
theorem lensL_length (xs : List Int) : (lensL xs).length = (cycL xs).length := by rw [lensL, sortL_length, lenL, List.length_map]
theorem lensR_len (xs : List Int) : (lensR xs).length ≤ xs.length := by
  unfold lensR; split
  · rw [lensL_length]; exact cycL_le xs
  · simp
theorem ownSS_n {w : World} {lo hi e n c : Nat} {A : Option Addr} {xss : List (List Int)} (h : OwnSS w lo hi e A n c xss) : xss.length = n := h.choose_spec.2.2.1
theorem lenL_succ {xs cy : List Int} {k : Nat} (h : (cycL xs)[k]? = some cy) : (lenL xs).take (k + 1) = (lenL xs).take k ++ [(cy.length : Int)] := by
  rw [List.take_add_one]
  simp [lenL, h]

set_option maxHeartbeats 1600000 in
theorem slens_any {A : Option Addr} {c n : Nat} {xs : List Int} (w : World) (hx : xs.length = n) (ha : Rd w A (ints xs)) (hn : n ≤ 1048576) (hp : okP xs = true) :
    Calls Try.prog 97 #[.slice A n c] w (Ret1 w (lensL xs)) := by
  have HX := Lib.hid hx
  have HA := Lib.hid ha
  have HP := Lib.hid hp
  clear hx ha hp
  go_enter Try.func97, Try.ntmps97
  go_wp2_with fail
  refine (scyc_any w HX.out HA.out hn HP.out).mono ?_
  rintro e w1 ⟨A1, c1, m, rfl, own, bel⟩
  have hm := ownSS_n own
  have hmn : m ≤ n := by have := cycL_le xs; rw [HX.out] at this; omega
  have HM := Lib.hid hm
  have OWN := Lib.hid own
  have BEL := Lib.hid bel
  have hsz := bel.size
  clear own bel hm
  go_wp2
  go_loopw [4, 5] (fun v q wr => ∃ (k c' : Nat) (A' : Option Addr), k ≤ m ∧ q = .int .i64 k ∧ v = .slice A' k c' ∧ wr.ownsRow w1.heap.size 2 1 (.slice A' k c') k (ints ((lenL xs).take k)) ∧ Below w1.heap.size w1 wr) (fun _ q _ => m - (intOf q).toNat)
  case atStart => exact ⟨0, 0, _, Nat.zero_le _, rfl, rfl, by simpa using World.ownsRow_made (base := w1.heap.size) (e := 2) (size := 1) w1 #[] 0 (Nat.le_refl _) (Nat.zero_le _) (by simp), (Below.refl _ _).alloc (Nat.le_refl _) _⟩
  case round =>
    obtain ⟨k, c', A', hk, rfl, rfl, own2, bel2⟩ := hrel
    have OWN2 := Lib.hid own2
    have BEL2 := Lib.hid bel2
    have hsz2 := bel2.size
    clear own2 bel2
    by_cases hlt : k < m
    · obtain ⟨b, o, A3, c3, cy, rfl, hg, hc, hrd, hms⟩ := (ownSS_rd (ownSS_below OWN.out BEL2.out (Nat.le_refl _))).row (k := k) (by rw [HM.out]; exact hlt)
      have HG := Lib.hid hg
      clear hg hrd
      go_wp2_with (at_builtin; refine wpList_push _ rfl _ _ 24 2 rfl Try.underlying24 (.int .i64 0) 8 Try.info2 rfl w1.heap.size _ _ _ rfl OWN2.out _ rfl rfl (by omega) (by omega) (by omega) ?_)
      intro A4 c4 w4 own4 bel4 _
      have OWN4 := Lib.hid own4
      have BEL4 := Lib.hid bel4
      clear own4 bel4
      go_wp2
      go_roundw
      case rel => exact ⟨k + 1, c4, A4, by omega, by go_num, rfl, by rw [lenL_succ HG.out]; simpa using OWN4.out, BEL2.out.trans BEL4.out⟩
      case measure => simp [intOf]; omega
    · obtain rfl : k = m := by omega
      have hall : (lenL xs).take k = lenL xs := List.take_of_length_le (by rw [lenL, List.length_map, HM.out]; exact Nat.le_refl _)
      have h := OWN2.out
      rw [hall] at h
      have H := Lib.hid h
      clear h hall
      go_wp2_with fail
      refine (ssort_any wr H.out (by omega)).mono ?_
      rintro e w5 ⟨A5, c5, rfl, own5, bel5⟩
      have OWN5 := Lib.hid own5
      have BEL5 := Lib.hid (bel5.mono (show w.heap.size ≤ wr.heap.size by omega))
      clear own5 bel5
      go_wp2
      go_ret
      have hl : (lensL xs).length = k := by rw [lensL_length, HM.out]
      exact ⟨A5, c5, by rw [hl]; rfl, by rw [hl]; exact own_base OWN5.out (by omega), (BEL.out.trans (BEL2.out.mono hsz)).trans BEL5.out⟩

set_option maxHeartbeats 1600000 in
theorem ilens_any {A : Option Addr} {c n : Nat} {xs : List Int} (w : World) (hx : xs.length = n) (ha : Rd w A (ints xs)) (hn : n ≤ 1048576) (hp : okP xs = true) :
    Calls Try.prog 78 #[.slice A n c] w (Ret1 w (lensL xs)) := by
  have HX := Lib.hid hx
  have HA := Lib.hid ha
  have HP := Lib.hid hp
  clear hx ha hp
  go_enter Try.func78, Try.ntmps78
  go_wp2_with fail
  refine (icyc_any w HX.out HA.out hn HP.out).mono ?_
  rintro e w1 ⟨A1, c1, m, rfl, own, bel⟩
  have hm := ownSS_n own
  have hmn : m ≤ n := by have := cycL_le xs; rw [HX.out] at this; omega
  have HM := Lib.hid hm
  have OWN := Lib.hid own
  have BEL := Lib.hid bel
  have hsz := bel.size
  clear own bel hm
  go_wp2
  go_loopw [3, 9] (fun v q wr => ∃ (k c' : Nat) (A' : Option Addr), k ≤ m ∧ q = .int .i64 k ∧ v = .slice A' k c' ∧ wr.ownsRow w1.heap.size 2 1 (.slice A' k c') k (ints ((lenL xs).take k)) ∧ Below w1.heap.size w1 wr) (fun _ q _ => m - (intOf q).toNat)
  case atStart => exact ⟨0, 0, none, Nat.zero_le _, rfl, rfl, World.ownsRow_nil _ _ _ _, Below.refl _ _⟩
  case round =>
    obtain ⟨k, c', A', hk, rfl, rfl, own2, bel2⟩ := hrel
    have OWN2 := Lib.hid own2
    have BEL2 := Lib.hid bel2
    have hsz2 := bel2.size
    clear own2 bel2
    by_cases hlt : k < m
    · obtain ⟨b, o, A3, c3, cy, rfl, hg, hc, hrd, hms⟩ := (ownSS_rd (ownSS_below OWN.out BEL2.out (Nat.le_refl _))).row (k := k) (by rw [HM.out]; exact hlt)
      have HG := Lib.hid hg
      clear hg hrd
      go_wp2_with (at_builtin; refine wpList_push _ rfl _ _ 24 2 rfl Try.underlying24 (.int .i64 0) 8 Try.info2 rfl w1.heap.size _ _ _ rfl OWN2.out _ rfl rfl (by omega) (by omega) (by omega) ?_)
      intro A4 c4 w4 own4 bel4 _
      have OWN4 := Lib.hid own4
      have BEL4 := Lib.hid bel4
      clear own4 bel4
      go_wp2
      go_roundw
      case rel => exact ⟨k + 1, c4, A4, by omega, by go_num, rfl, by rw [lenL_succ HG.out]; simpa using OWN4.out, BEL2.out.trans BEL4.out⟩
      case measure => simp [intOf]; omega
    · obtain rfl : k = m := by omega
      have hall : (lenL xs).take k = lenL xs := List.take_of_length_le (by rw [lenL, List.length_map, HM.out]; exact Nat.le_refl _)
      have h := OWN2.out
      rw [hall] at h
      have H := Lib.hid h
      clear h hall
      go_wp2_with fail
      refine (sort_any wr H.out (by omega)).mono ?_
      rintro e w5 ⟨rfl, own5, gr5⟩
      have hin := own_in H.out
      have BEL5 := Lib.hid (below_mark ((BEL.out.trans (BEL2.out.mono hsz))) gr5 hin (by omega) hsz)
      have OWN5 := Lib.hid own5
      clear own5 gr5 hin
      go_wp2
      go_ret
      have hl : (lensL xs).length = k := by rw [lensL_length, HM.out]
      exact ⟨A', c', by rw [hl]; rfl, by rw [hl]; exact own_base OWN5.out (by omega), BEL5.out⟩
theorem sLen_any {A : Option Addr} {c : Nat} {xs : List Int} {n : Nat} (w : World) (hx : xs.length = n) (ha : Rd w A (ints xs)) (hn : n ≤ 1048576) :
    Calls Try.prog 56 #[.slice A n c] w (RetS w (lensR xs) (permC xs)) := by
  have HX := Lib.hid hx
  have HA := Lib.hid ha
  clear hx ha
  cases hp : okP xs
  · have hr : lensR xs = [] := by simp [lensR, hp]
    have hc : permC xs = 1 := by simp [permC, hp]
    rw [hr, hc]
    have HP := Lib.hid hp
    clear hp hr hc
    go_enter Try.func56, Try.ntmps56
    go_wp2_with fail
    refine (perm_any w HX.out HA.out hn).mono ?_
    rintro e w' ⟨rfl, bel⟩
    rw [HP.out]
    have BEL := Lib.hid bel
    clear bel
    go_wp2
    go_ret2
    exact ⟨none, 0, rfl, World.ownsRow_nil _ _ _ _, BEL.out⟩
  · have hr : lensR xs = lensL xs := by simp [lensR, hp]
    have hc : permC xs = 0 := by simp [permC, hp]
    rw [hr, hc]
    have HP := Lib.hid hp
    clear hp hr hc
    go_enter Try.func56, Try.ntmps56
    go_wp2_with fail
    refine (perm_any w HX.out HA.out hn).mono ?_
    rintro e w' ⟨rfl, bel⟩
    rw [HP.out]
    have BEL := Lib.hid bel
    clear bel
    go_wp2_with fail
    refine (slens_any w' HX.out (HA.out.keep BEL.out) hn HP.out).mono ?_
    rintro e w2 ⟨A2, c2, rfl, own, bel⟩
    have OWN := Lib.hid own
    have BEL2 := Lib.hid bel
    clear own bel
    go_wp2
    go_ret2
    exact ⟨_, _, rfl, own_base OWN.out BEL.out.size, BEL.out.trans (BEL2.out.mono BEL.out.size)⟩
theorem iLen_any {A : Option Addr} {c : Nat} {xs : List Int} {n : Nat} (w : World) (hx : xs.length = n) (ha : Rd w A (ints xs)) (hn : n ≤ 1048576) :
    Calls Try.prog 30 #[.slice A n c] w (RetS w (lensR xs) (permC xs)) := by
  have HX := Lib.hid hx
  have HA := Lib.hid ha
  clear hx ha
  cases hp : okP xs
  · have hr : lensR xs = [] := by simp [lensR, hp]
    have hc : permC xs = 1 := by simp [permC, hp]
    rw [hr, hc]
    have HP := Lib.hid hp
    clear hp hr hc
    go_enter Try.func30, Try.ntmps30
    go_wp2_with fail
    refine (iperm_any w HX.out HA.out hn).mono ?_
    rintro e w' ⟨rfl, bel⟩
    rw [HP.out]
    have BEL := Lib.hid bel
    clear bel
    go_wp2
    go_ret2
    exact ⟨none, 0, rfl, World.ownsRow_nil _ _ _ _, BEL.out⟩
  · have hr : lensR xs = lensL xs := by simp [lensR, hp]
    have hc : permC xs = 0 := by simp [permC, hp]
    rw [hr, hc]
    have HP := Lib.hid hp
    clear hp hr hc
    go_enter Try.func30, Try.ntmps30
    go_wp2_with fail
    refine (iperm_any w HX.out HA.out hn).mono ?_
    rintro e w' ⟨rfl, bel⟩
    rw [HP.out]
    have BEL := Lib.hid bel
    clear bel
    go_wp2_with fail
    refine (ilens_any w' HX.out (HA.out.keep BEL.out) hn HP.out).mono ?_
    rintro e w2 ⟨A2, c2, rfl, own, bel⟩
    have OWN := Lib.hid own
    have BEL2 := Lib.hid bel
    clear own bel
    go_wp2
    go_ret2
    exact ⟨_, _, rfl, own_base OWN.out BEL.out.size, BEL.out.trans (BEL2.out.mono BEL.out.size)⟩
end Go.Proofs.Ytbjfeogkdfmjpaa
