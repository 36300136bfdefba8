import Derived.Test.YtmgoaabeopnopaaL1
namespace Go.Proofs.Ytmgoaabeopnopaa
open Go.RowKit

/-- A permutation that leads no point to itself, and that done twice is the identity. -/
noncomputable def freeP (xs : List Int) : Bool := @decide (∀ k : Nat, k < xs.length → xs[k]? ≠ some (k : Int) ∧ ∀ m : Nat, xs[k]? = some (m : Int) → xs[m]? = some (k : Int)) (Classical.propDecidable _)
noncomputable def okFree (xs : List Int) : Bool := okP xs && freeP xs
def freeTo (xs : List Int) (k : Nat) : Prop := ∀ j : Nat, j < k → xs[j]? ≠ some (j : Int) ∧ ∀ m : Nat, xs[j]? = some (m : Int) → xs[m]? = some (j : Int)
theorem freeTo_zero (xs : List Int) : freeTo xs 0 := fun j h => absurd h (by omega)
theorem freeTo_succ {xs : List Int} {k m : Nat} (h : freeTo xs k) (h1 : xs[k]? = some (m : Int)) (h2 : m ≠ k) (h3 : xs[m]? = some (k : Int)) : freeTo xs (k + 1) := by
  intro j hj
  rcases Nat.lt_succ_iff_lt_or_eq.1 hj with hlt | rfl
  · exact h j hlt
  · refine ⟨fun e => ?_, fun m' e => ?_⟩
    · rw [h1] at e
      injection e with e
      omega
    · rw [h1] at e
      injection e with e
      have : m' = m := by omega
      rw [this]; exact h3
theorem freeTo_all {xs : List Int} {n k : Nat} (hn : xs.length = n) (hk : n ≤ k) (h : freeTo xs k) : freeP xs = true := @decide_eq_true _ (Classical.propDecidable _) fun j hj => h j (by omega)
theorem free_not_self {xs : List Int} {k : Nat} (h : xs[k]? = some (k : Int)) : freeP xs = false :=
  @decide_eq_false _ (Classical.propDecidable _) fun hall => (hall k (List.getElem?_eq_some_iff.1 h).1).1 h
theorem free_not_back {xs : List Int} {k m : Nat} {y : Int} (h : xs[k]? = some (m : Int)) (hy : xs[m]? = some y) (hne : y ≠ (k : Int)) : freeP xs = false :=
  @decide_eq_false _ (Classical.propDecidable _) fun hall => by
    have h1 := (hall k (List.getElem?_eq_some_iff.1 h).1).2 m h
    rw [hy] at h1
    injection h1 with h1
    exact hne h1
theorem okP_at {xs : List Int} {n k : Nat} {x : Int} (hp : okP xs = true) (hn : xs.length = n) (hx : xs[k]? = some x) : ∃ m : Nat, x = (m : Int) ∧ m < n := by
  have h := (of_decide_eq_true hp).2.1 x (mem_of_get hx)
  exact ⟨x.toNat, by omega, by omega⟩

set_option maxHeartbeats 800000 in
theorem sfree_loop {A : Option Addr} {c : Nat} {xs : List Int} {n : Nat} (w : World) (hx : xs.length = n) (ha : Rd w A (ints xs)) (hn : n ≤ 1048576) (hp : okP xs = true) :
    Calls Try.prog 142 #[.slice A n c] w fun e w' => e = .returned (.bool (freeP xs)) ∧ w = w' := by
  have HX := Lib.hid hx
  have HA := Lib.hid ha
  have HP := Lib.hid hp
  clear hx ha hp
  go_enter Try.func142, Try.ntmps142
  go_wp2
  go_loop [3] (fun i => ∃ k : Nat, k ≤ n ∧ i = .int .i64 k ∧ freeTo xs k) (fun i => n - (intOf i).toNat)
  case atStart => exact ⟨0, Nat.zero_le _, rfl, freeTo_zero _⟩
  case round =>
    obtain ⟨k, hk, rfl, fr⟩ := hrel
    have FR := Lib.hid fr
    clear fr
    by_cases hlt : k < n
    · obtain ⟨b, o, x, rfl, hgx, hcx⟩ := HA.out.int (k := k) (by rw [HX.out]; exact hlt)
      obtain ⟨m, rfl, hm⟩ := okP_at HP.out HX.out hgx
      have HG := Lib.hid hgx
      clear hgx
      by_cases h1 : m = k
      · subst h1
        have h0 := Lib.hid (free_not_self HG.out)
        have hd : ((m : Int) == (m : Int)) = true := by simp
        go_wp2
        go_ret
        exact ⟨ret_bool h0.out.symm, rfl⟩
      · obtain ⟨b', o', y, he, hgy, hcy⟩ := HA.out.int (k := m) (by rw [HX.out]; exact hm)
        simp only [Option.some.injEq, Addr.mk.injEq, and_true] at he
        obtain ⟨rfl, rfl⟩ := he
        have HY := Lib.hid hgy
        clear hgy
        have hd : ((m : Int) == (k : Int)) = false := by rw [beq_eq_false_iff_ne]; omega
        by_cases h2 : y = (k : Int)
        · have h3 := Lib.hid (freeTo_succ FR.out HG.out h1 (h2 ▸ HY.out))
          subst h2
          have hd2 : ((k : Int) != (k : Int)) = false := by simp
          go_wp2
          go_round
          case rel => exact ⟨k + 1, by omega, by go_num, h3.out⟩
          case measure => simp [intOf]; omega
        · have h3 := Lib.hid (free_not_back HG.out HY.out h2)
          have hd2 : (y != (k : Int)) = true := by rw [bne_iff_ne]; exact h2
          clear h2
          go_wp2
          go_ret
          exact ⟨ret_bool h3.out.symm, rfl⟩
    · go_wp2
      go_ret
      exact ⟨ret_bool (freeTo_all HX.out (by omega) FR.out).symm, rfl⟩
set_option maxHeartbeats 800000 in
theorem ifree_loop {A : Option Addr} {c : Nat} {xs : List Int} {n : Nat} (w : World) (hx : xs.length = n) (ha : Rd w A (ints xs)) (hn : n ≤ 1048576) (hp : okP xs = true) :
    Calls Try.prog 182 #[.slice A n c] w fun e w' => e = .returned (.bool (freeP xs)) ∧ w = w' := by
  have HX := Lib.hid hx
  have HA := Lib.hid ha
  have HP := Lib.hid hp
  clear hx ha hp
  go_enter Try.func182, Try.ntmps182
  go_wp2
  go_loop [7] (fun i => ∃ k : Nat, k ≤ n ∧ i = .int .i64 k ∧ freeTo xs k) (fun i => n - (intOf i).toNat)
  case atStart => exact ⟨0, Nat.zero_le _, rfl, freeTo_zero _⟩
  case round =>
    obtain ⟨k, hk, rfl, fr⟩ := hrel
    have FR := Lib.hid fr
    clear fr
    by_cases hlt : k < n
    · obtain ⟨b, o, x, rfl, hgx, hcx⟩ := HA.out.int (k := k) (by rw [HX.out]; exact hlt)
      obtain ⟨m, rfl, hm⟩ := okP_at HP.out HX.out hgx
      have HG := Lib.hid hgx
      clear hgx
      by_cases h1 : m = k
      · subst h1
        have h0 := Lib.hid (free_not_self HG.out)
        have hd : ((m : Int) == (m : Int)) = true := by simp
        go_wp2
        go_ret
        exact ⟨ret_bool h0.out.symm, rfl⟩
      · obtain ⟨b', o', y, he, hgy, hcy⟩ := HA.out.int (k := m) (by rw [HX.out]; exact hm)
        simp only [Option.some.injEq, Addr.mk.injEq, and_true] at he
        obtain ⟨rfl, rfl⟩ := he
        have HY := Lib.hid hgy
        clear hgy
        have hd : ((m : Int) == (k : Int)) = false := by rw [beq_eq_false_iff_ne]; omega
        by_cases h2 : y = (k : Int)
        · have h3 := Lib.hid (freeTo_succ FR.out HG.out h1 (h2 ▸ HY.out))
          subst h2
          have hd2 : ((k : Int) != (k : Int)) = false := by simp
          go_wp2
          go_round
          case rel => exact ⟨k + 1, by omega, by go_num, h3.out⟩
          case measure => simp [intOf]; omega
        · have h3 := Lib.hid (free_not_back HG.out HY.out h2)
          have hd2 : (y != (k : Int)) = true := by rw [bne_iff_ne]; exact h2
          clear h2
          go_wp2
          go_ret
          exact ⟨ret_bool h3.out.symm, rfl⟩
    · go_wp2
      go_ret
      exact ⟨ret_bool (freeTo_all HX.out (by omega) FR.out).symm, rfl⟩

theorem ifree_any {A : Option Addr} {c : Nat} {xs : List Int} {n : Nat} (w : World) (hx : xs.length = n) (ha : Rd w A (ints xs)) (hn : n ≤ 1048576) :
    Calls Try.prog 171 #[.slice A n c] w fun e w' => e = .returned (.bool (okFree xs)) ∧ Below w.heap.size w w' := by
  have HX := Lib.hid hx
  have HA := Lib.hid ha
  clear hx ha
  cases hp : okP xs
  · have hf : okFree xs = false := by simp [okFree, hp]
    have HF := Lib.hid hf
    have HP := Lib.hid hp
    clear hf hp
    go_enter Try.func171, Try.ntmps171
    go_wp2_with fail
    refine (iperm_any w HX.out HA.out hn).mono ?_
    rintro e w' ⟨rfl, bel⟩
    rw [HP.out]
    go_wp2
    go_ret
    exact ⟨ret_bool HF.out.symm, bel⟩
  · have hf : okFree xs = freeP xs := by simp [okFree, hp]
    have HF := Lib.hid hf
    have HP := Lib.hid hp
    clear hf hp
    go_enter Try.func171, Try.ntmps171
    go_wp2_with fail
    refine (iperm_any w HX.out HA.out hn).mono ?_
    rintro e w' ⟨rfl, bel⟩
    rw [HP.out]
    have BEL := Lib.hid bel
    clear bel
    go_wp2_with fail
    refine (ifree_loop w' HX.out (HA.out.keep BEL.out) hn HP.out).mono ?_
    rintro e w2 ⟨rfl, rfl⟩
    go_wp2
    go_ret
    exact ⟨ret_bool HF.out.symm, BEL.out⟩
end Go.Proofs.Ytmgoaabeopnopaa
namespace Go.Proofs.Ytmgoaabeopnopaa
open Go.RowKit

/-- The list in which, for each of the first k points, the image of the point has the point. -/
def backTo (xs : List Int) (n : Nat) : Nat → List Int
  | 0 => List.replicate n 0
  | k + 1 => match xs[k]? with
    | some x => (backTo xs n k).set x.toNat (k : Int)
    | none => backTo xs n k
theorem backTo_length (xs : List Int) (n : Nat) : ∀ k, (backTo xs n k).length = n
  | 0 => by simp [backTo]
  | k + 1 => by
    unfold backTo
    split
    · simp [backTo_length xs n k]
    · exact backTo_length xs n k
theorem backTo_succ {xs : List Int} {n k m : Nat} (h : xs[k]? = some (m : Int)) : (backTo xs n k).set m (k : Int) = backTo xs n (k + 1) := by
  rw [backTo, h]
  simp
def invL (xs : List Int) : List Int := backTo xs xs.length xs.length
def permC (xs : List Int) : Int := if okP xs then 0 else 1
def invR (xs : List Int) : List Int := if okP xs then invL xs else []
theorem invL_len (xs : List Int) : (invL xs).length = xs.length := backTo_length _ _ _
theorem invR_len (xs : List Int) : (invR xs).length ≤ xs.length := by
  unfold invR
  split
  · rw [invL_len]; exact Nat.le_refl _
  · simp
theorem ints_at {xs : List Int} {n k : Nat} (hn : xs.length = n) (hk : k < n) : ∃ u, (ints xs)[k]? = some (.int .i64 u) := ⟨xs[k], by simp [show k < xs.length by omega]⟩

set_option maxHeartbeats 800000 in
theorem inverse_any {A : Option Addr} {c : Nat} {xs : List Int} {n : Nat} (w : World) (hx : xs.length = n) (ha : Rd w A (ints xs)) (hn : n ≤ 1048576) (hp : okP xs = true) :
    Calls Try.prog 186 #[.slice A n c] w (Ret1 w (invL xs)) := by
  have HX := Lib.hid hx
  have HA := Lib.hid ha
  have HP := Lib.hid hp
  clear hx ha hp
  have hmk := run_make_row' (P := Try.prog) 127 2 (.int .i64 0) 8 Try.underlying127 Try.info2 rfl .i64 .i64 n (by omega) (by omega)
  go_enter Try.func186, Try.ntmps186
  go_wp2
  clear hmk
  go_loopw [11] (fun i wr => ∃ k : Nat, k ≤ n ∧ i = .int .i64 k ∧ wr.ownsRow w.heap.size 2 1 (.slice (some ⟨w.heap.size, 0, none⟩) n n) n (ints (backTo xs n k)) ∧ Below w.heap.size w wr) (fun i _ => n - (intOf i).toNat)
  case atStart => exact ⟨0, Nat.zero_le _, rfl, by simpa [backTo] using make_own w (.int .i64 0) n 2 (by unfold maxLen; omega), (Below.refl _ _).alloc (Nat.le_refl _) _⟩
  case round =>
    obtain ⟨k, hk, rfl, own, bel⟩ := hrel
    have OWN := Lib.hid own
    have BEL := Lib.hid bel
    clear own bel
    by_cases hlt : k < n
    · obtain ⟨b, o, x, rfl, hgx, hcx⟩ := (HA.out.keep BEL.out).int (k := k) (by rw [HX.out]; exact hlt)
      obtain ⟨m, rfl, hm⟩ := okP_at HP.out HX.out hgx
      obtain ⟨u, hu⟩ := ints_at (backTo_length xs n k) hm
      have hcell := own_cell OWN.out hu
      have hfrz := OWN.out.frozenAt m
      have HG := Lib.hid hgx
      clear hgx hu
      go_wp2
      go_roundw
      case rel => exact ⟨k + 1, by omega, by go_num, by have h := (OWN.out.stored m (.int .i64 k)).1; rwa [ints_set, backTo_succ HG.out] at h, BEL.out.setCell (by simp) _⟩
      case measure => simp [intOf]; omega
    · go_wp2
      go_ret
      obtain rfl : k = n := by omega
      have hl : (invL xs).length = k := by rw [invL_len, HX.out]
      have he : backTo xs k k = invL xs := by unfold invL; rw [HX.out]
      have h := OWN.out
      rw [he] at h
      exact ⟨_, _, by rw [hl]; rfl, by rw [hl]; exact h, BEL.out⟩

end Go.Proofs.Ytmgoaabeopnopaa
namespace Go.Proofs.Ytmgoaabeopnopaa
open Go.RowKit

/-- Doing xs then ys. -/
def thenL (xs ys : List Int) : List Int := xs.map fun x => ys.getD x.toNat 0
theorem thenL_length (xs ys : List Int) : (thenL xs ys).length = xs.length := by simp [thenL]
theorem thenL_at {xs ys : List Int} {k m : Nat} {y : Int} (h : xs[k]? = some (m : Int)) (hy : ys[m]? = some y) : (thenL xs ys)[k]? = some y := by
  simp [thenL, h, hy]
theorem thenL_succ {xs ys : List Int} {k m : Nat} {y : Int} (h : xs[k]? = some (m : Int)) (hy : ys[m]? = some y) : thenL (xs.take (k + 1)) ys = thenL (xs.take k) ys ++ [y] := by
  rw [take_succ_of h]
  simp [thenL, hy]
/-- Each element is an index below m. -/
def InR (xs : List Int) (m : Nat) : Prop := ∀ x ∈ xs, 0 ≤ x ∧ x < (m : Int)
theorem InR.at_ {xs : List Int} {m k : Nat} {x : Int} (h : InR xs m) (hx : xs[k]? = some x) : ∃ j : Nat, x = (j : Int) ∧ j < m := by
  have := h x (mem_of_get hx)
  exact ⟨x.toNat, by omega, by omega⟩
theorem inR_ok {xs : List Int} (h : okP xs = true) : InR xs xs.length := (of_decide_eq_true h).2.1
theorem inR_then {xs ys : List Int} {m : Nat} (h : InR xs ys.length) (hy : InR ys m) : InR (thenL xs ys) m := by
  intro z hz
  obtain ⟨x, hx, rfl⟩ := List.mem_map.1 hz
  have h1 := h x hx
  have h2 : x.toNat < ys.length := by omega
  have h3 : ys.getD x.toNat 0 = ys[x.toNat] := by simp [List.getD, h2]
  show 0 ≤ ys.getD x.toNat 0 ∧ ys.getD x.toNat 0 < (m : Int)
  rw [h3]
  exact hy _ (List.getElem_mem h2)
theorem inR_back (xs : List Int) (n : Nat) : ∀ k, k ≤ n → InR (backTo xs n k) n
  | 0, _ => by
    intro x hx
    simp [backTo] at hx
    omega
  | k + 1, hk => by
    unfold backTo
    split
    · intro x hx
      rcases List.mem_or_eq_of_mem_set hx with h | rfl
      · exact inR_back xs n k (by omega) x h
      · omega
    · exact inR_back xs n k (by omega)
theorem inR_inv (xs : List Int) : InR (invL xs) xs.length := inR_back xs xs.length xs.length (Nat.le_refl _)

set_option maxHeartbeats 800000 in
theorem ithen_any {A A2 : Option Addr} {c c2 : Nat} {xs ys : List Int} {n m : Nat} (w : World) (hx : xs.length = n) (ha : Rd w A (ints xs)) (hn : n ≤ 1048576) (hy : ys.length = m) (ha2 : Rd w A2 (ints ys)) (hr : InR xs m) :
    Calls Try.prog 191 #[.slice A n c, .slice A2 m c2] w (Ret1 w (thenL xs ys)) := by
  have HX := Lib.hid hx
  have HA := Lib.hid ha
  have HY := Lib.hid hy
  have HA2 := Lib.hid ha2
  have HR := Lib.hid hr
  clear hx ha hy ha2 hr
  have hmk := run_make_row' (P := Try.prog) 127 2 (.int .i64 0) 8 Try.underlying127 Try.info2 rfl .i64 .i64 n (by omega) (by omega)
  have HL := Lib.hid (show (thenL xs ys).length = n by rw [thenL_length, HX.out])
  go_enter Try.func191, Try.ntmps191
  go_wp2
  clear hmk
  go_loopw [13] (fun i wr => ∃ k : Nat, k ≤ n ∧ i = .int .i64 k ∧ wr.ownsRow w.heap.size 2 1 (.slice (some ⟨w.heap.size, 0, none⟩) n n) n (ints ((thenL xs ys).take k ++ List.replicate (n - k) 0)) ∧ Below w.heap.size w wr) (fun i _ => n - (intOf i).toNat)
  case atStart => exact ⟨0, Nat.zero_le _, rfl, by simpa using make_own w (.int .i64 0) n 2 (by unfold maxLen; omega), (Below.refl _ _).alloc (Nat.le_refl _) _⟩
  case round =>
    obtain ⟨k, hk, rfl, own, bel⟩ := hrel
    have OWN := Lib.hid own
    have BEL := Lib.hid bel
    clear own bel
    by_cases hlt : k < n
    · obtain ⟨b, o, x, rfl, hgx, hcx⟩ := (HA.out.keep BEL.out).int (k := k) (by rw [HX.out]; exact hlt)
      obtain ⟨j, rfl, hj⟩ := HR.out.at_ hgx
      obtain ⟨b2, o2, y, rfl, hgy, hcy⟩ := (HA2.out.keep BEL.out).int (k := j) (by rw [HY.out]; exact hj)
      have HG := Lib.hid (thenL_at hgx hgy)
      clear hgx hgy
      have hcell := own_cell OWN.out (fill_at hlt HL.out)
      have hfrz := OWN.out.frozenAt k
      go_wp2
      go_roundw
      case rel => exact ⟨k + 1, by omega, by go_num, by have h := (OWN.out.stored k (.int .i64 y)).1; rwa [ints_set, fill_step HL.out HG.out] at h, BEL.out.setCell (by simp) _⟩
      case measure => simp [intOf]; omega
    · go_wp2
      go_ret
      obtain rfl : k = n := by omega
      have h := OWN.out
      rw [Nat.sub_self, List.replicate_zero, List.append_nil, List.take_of_length_le (by rw [HL.out]; exact Nat.le_refl _)] at h
      exact ⟨_, _, by rw [HL.out]; rfl, by rw [HL.out]; exact h, BEL.out⟩
end Go.Proofs.Ytmgoaabeopnopaa
namespace Go.Proofs.Ytmgoaabeopnopaa
open Go.RowKit

/-- Two permutations of equally many points. -/
def okTwo (xs ys : List Int) : Bool := okP xs && okP ys && decide (xs.length = ys.length)
def twoC (xs ys : List Int) : Int := if okTwo xs ys then 0 else 1
def thenR (xs ys : List Int) : List Int := if okTwo xs ys then thenL xs ys else []
def conjL (xs ys : List Int) : List Int := thenL (thenL (invL ys) xs) ys
def conjR (xs ys : List Int) : List Int := if okTwo xs ys then conjL xs ys else []
theorem thenR_len (xs ys : List Int) : (thenR xs ys).length ≤ xs.length := by
  unfold thenR; split
  · rw [thenL_length]; exact Nat.le_refl _
  · simp
theorem conjR_len (xs ys : List Int) : (conjR xs ys).length ≤ ys.length := by
  unfold conjR; split
  · unfold conjL; rw [thenL_length, thenL_length, invL_len]; exact Nat.le_refl _
  · simp
theorem okTwo_parts {xs ys : List Int} (h : okTwo xs ys = true) : okP xs = true ∧ okP ys = true ∧ xs.length = ys.length := by
  simpa [okTwo, and_assoc] using h

theorem inR_conj {xs ys : List Int} {m : Nat} (hy : ys.length = m) (hx : okP xs = true) (hl : xs.length = ys.length) : InR (thenL (invL ys) xs) m := by
  refine inR_then (by rw [hl]; exact inR_inv ys) ?_
  have h := inR_ok hx
  rwa [hl, hy] at h
theorem len_eq {xs ys : List Int} {n m : Nat} (hx : xs.length = n) (hy : ys.length = m) (h : xs.length = ys.length) : m = n := by omega
end Go.Proofs.Ytmgoaabeopnopaa
namespace Go.Proofs.Ytmgoaabeopnopaa
open Go.RowKit

/-- A system on n points. -/
def okSys (n : Int) (xss : List (List Int)) : Bool := decide (0 ≤ n ∧ n ≤ 400 ∧ xss.length ≤ 16 ∧ ∀ xs ∈ xss, (xs.length : Int) = n ∧ okP xs = true)
def sysC (n : Int) (xss : List (List Int)) : Int := if okSys n xss then 0 else 1
def sysTo (n : Int) (xss : List (List Int)) (k : Nat) : Prop := ∀ xs ∈ xss.take k, (xs.length : Int) = n ∧ okP xs = true
theorem sysTo_zero (n : Int) (xss : List (List Int)) : sysTo n xss 0 := by simp [sysTo]
theorem sysTo_succ {n : Int} {xss : List (List Int)} {k : Nat} {xs : List Int} (h : sysTo n xss k) (hx : xss[k]? = some xs) (h1 : (xs.length : Int) = n) (h2 : okP xs = true) : sysTo n xss (k + 1) := by
  intro ys hy
  rw [List.take_add_one, hx] at hy
  rcases List.mem_append.1 hy with h3 | h3
  · exact h ys h3
  · simp at h3
    subst h3
    exact ⟨h1, h2⟩
theorem sysTo_all {n : Int} {xss : List (List Int)} {k : Nat} (h : sysTo n xss k) (hk : xss.length ≤ k) (h0 : 0 ≤ n) (h1 : n ≤ 400) (h2 : xss.length ≤ 16) : okSys n xss = true := by
  unfold sysTo at h
  rw [List.take_of_length_le hk] at h
  exact decide_eq_true ⟨h0, h1, h2, h⟩
theorem sys_bad_n {n : Int} {xss : List (List Int)} (h : n < 0 ∨ 400 < n) : okSys n xss = false := decide_eq_false (by rintro ⟨h0, h1, _⟩; omega)
theorem sys_bad_len {n : Int} {xss : List (List Int)} (h : 16 < xss.length) : okSys n xss = false := decide_eq_false (by rintro ⟨_, _, h1, _⟩; omega)
theorem sys_bad_row {n : Int} {xss : List (List Int)} {k : Nat} {xs : List Int} (hx : xss[k]? = some xs) (h : (xs.length : Int) ≠ n ∨ okP xs = false) : okSys n xss = false :=
  decide_eq_false (by
    rintro ⟨_, _, _, hall⟩
    have h1 := hall xs (List.mem_of_getElem? hx)
    rcases h with h | h
    · exact h h1.1
    · rw [h] at h1; exact absurd h1.2 (by simp))
theorem sys_parts {n : Int} {xss : List (List Int)} (h : okSys n xss = true) : 0 ≤ n ∧ n ≤ 400 ∧ xss.length ≤ 16 ∧ ∀ xs ∈ xss, (xs.length : Int) = n ∧ okP xs = true := of_decide_eq_true h

set_option maxHeartbeats 1600000 in
theorem isys_any {A : Option Addr} {c N : Nat} {xss : List (List Int)} (n : Int) (w : World) (hx : xss.length = N) (ha : RdSS w A xss) (hN : N ≤ 1048576) (hr : ∀ xs ∈ xss, (xs.length : Int) ≤ 1048576) :
    Calls Try.prog 170 #[.int .i64 n, .slice A N c] w fun e w' => e = .returned (.bool (okSys n xss)) ∧ Below w.heap.size w w' := by
  have HX := Lib.hid hx
  have HA := Lib.hid ha
  have HR := Lib.hid hr
  by_cases hb : n < 0
  · have hc := Lib.hid (sys_bad_n (xss := xss) (.inl hb))
    clear hx ha hr
    go_enter Try.func170, Try.ntmps170
    go_wp2
    go_ret
    exact ⟨ret_bool hc.out.symm, Below.refl _ _⟩
  by_cases hb2 : 400 < n
  · have hc := Lib.hid (sys_bad_n (xss := xss) (.inr hb2))
    clear hx ha hr
    go_enter Try.func170, Try.ntmps170
    go_wp2
    go_ret
    exact ⟨ret_bool hc.out.symm, Below.refl _ _⟩
  have hn0 : 0 ≤ n := by omega
  have hn1 : n ≤ 400 := by omega
  clear hb hb2
  by_cases hl : 16 < N
  · have hc := Lib.hid (sys_bad_len (n := n) (xss := xss) (by omega))
    clear hx ha hr
    go_enter Try.func170, Try.ntmps170
    go_wp2
    go_ret
    exact ⟨ret_bool hc.out.symm, Below.refl _ _⟩
  clear hx ha hr
  go_enter Try.func170, Try.ntmps170
  go_wp2
  go_loopw [20] (fun i wr => ∃ k : Nat, k ≤ N ∧ i = .int .i64 k ∧ sysTo n xss k ∧ Below w.heap.size w wr) (fun i _ => N - (intOf i).toNat)
  case atStart => exact ⟨0, Nat.zero_le _, rfl, sysTo_zero _ _, Below.refl _ _⟩
  case round =>
    obtain ⟨k, hk, rfl, st, bel⟩ := hrel
    have ST := Lib.hid st
    have BEL := Lib.hid bel
    clear st bel
    by_cases hlt : k < N
    · obtain ⟨b, o, A', c', xs, rfl, hg, hc, hrd, hm⟩ := (HA.out.keep BEL.out).row (k := k) (by rw [HX.out]; exact hlt)
      have HG := Lib.hid hg
      have HRD := Lib.hid hrd
      have hlen := HR.out xs (List.mem_of_getElem? hg)
      clear hg hrd
      by_cases h1 : (xs.length : Int) = n
      · have hne : ((xs.length : Int) != n) = false := by rw [bne_eq_false_iff_eq]; exact h1
        have H1 := Lib.hid h1
        clear h1
        cases hp : okP xs
        · have hbad := Lib.hid (sys_bad_row HG.out (n := n) (.inr hp))
          have HP := Lib.hid hp
          clear hp
          go_wp2_with fail
          refine (iperm_any wr rfl HRD.out (by omega)).mono ?_
          rintro e w2 ⟨rfl, bel2⟩
          rw [HP.out]
          have BEL2 := Lib.hid bel2
          clear bel2
          go_wp2
          go_ret
          exact ⟨ret_bool hbad.out.symm, BEL.out.trans (BEL2.out.mono BEL.out.size)⟩
        · have hst := Lib.hid (sysTo_succ ST.out HG.out H1.out hp)
          have HP := Lib.hid hp
          clear hp
          go_wp2_with fail
          refine (iperm_any wr rfl HRD.out (by omega)).mono ?_
          rintro e w2 ⟨rfl, bel2⟩
          rw [HP.out]
          have BEL2 := Lib.hid bel2
          clear bel2
          go_wp2
          go_roundw
          case rel => exact ⟨k + 1, by omega, by go_num, hst.out, BEL.out.trans (BEL2.out.mono BEL.out.size)⟩
          case measure => simp [intOf]; omega
      · have hne : ((xs.length : Int) != n) = true := by rw [bne_iff_ne]; exact h1
        have hbad := Lib.hid (sys_bad_row HG.out (n := n) (.inl h1))
        clear h1
        go_wp2
        go_ret
        exact ⟨ret_bool hbad.out.symm, BEL.out⟩
    · have hok := Lib.hid (sysTo_all ST.out (by rw [HX.out]; omega) hn0 hn1 (by rw [HX.out]; omega))
      go_wp2
      go_ret
      exact ⟨ret_bool hok.out.symm, BEL.out⟩
end Go.Proofs.Ytmgoaabeopnopaa
namespace Go.Proofs.Ytmgoaabeopnopaa
open Go.RowKit

theorem ret2_i64 {a b a' b' : Int} (h : a = a') (h' : b = b') : Ending.returned (.tuple #[.int .i64 a, .int .i64 b]) = .returned (.tuple #[.int .i64 a', .int .i64 b']) := by rw [h, h']
def stepW (xss : List (List Int)) (p g : Int) : Int := (xss.getD g.toNat []).getD p.toNat 0
def runW (xss : List (List Int)) (p : Int) (word : List Int) : Int := word.foldl (stepW xss) p
def wordOk (xss : List (List Int)) (word : List Int) : Bool := decide (∀ x ∈ word, 0 ≤ x ∧ x < (xss.length : Int))
def wordIn (n : Int) (word : List Int) (pt : Int) : Bool := decide (word.length ≤ 64 ∧ 0 ≤ pt ∧ pt < n)
def appC (n : Int) (xss : List (List Int)) (word : List Int) (pt : Int) : Int := if okSys n xss then (if wordIn n word pt && wordOk xss word then 0 else 2) else 1
def appR (n : Int) (xss : List (List Int)) (word : List Int) (pt : Int) : Int := if okSys n xss && (wordIn n word pt && wordOk xss word) then runW xss pt word else 0
theorem runW_succ {xss : List (List Int)} {word : List Int} {k : Nat} {g p : Int} (h : word[k]? = some g) : runW xss p (word.take (k + 1)) = stepW xss (runW xss p (word.take k)) g := by
  rw [take_succ_of h]
  simp [runW]
theorem stepW_of {xss : List (List Int)} {xs : List Int} {g p : Nat} {y : Int} (h : xss[g]? = some xs) (hy : xs[p]? = some y) : stepW xss (p : Int) (g : Int) = y := by
  simp [stepW, h, hy]
theorem word_bad {xss : List (List Int)} {word : List Int} {k : Nat} {x : Int} (h : word[k]? = some x) (hx : x < 0 ∨ (xss.length : Int) ≤ x) : wordOk xss word = false :=
  decide_eq_false fun hall => by have := hall x (mem_of_get h); omega
def wordTo (xss : List (List Int)) (word : List Int) (k : Nat) : Prop := ∀ x ∈ word.take k, 0 ≤ x ∧ x < (xss.length : Int)
theorem wordTo_succ {xss : List (List Int)} {word : List Int} {k : Nat} {x : Int} (h : wordTo xss word k) (hx : word[k]? = some x) (h0 : 0 ≤ x) (h1 : x < (xss.length : Int)) : wordTo xss word (k + 1) := by
  intro y hy
  rw [take_succ_of hx] at hy
  rcases List.mem_append.1 hy with h2 | h2
  · exact h y h2
  · simp at h2; omega
theorem wordTo_all {xss : List (List Int)} {word : List Int} {k : Nat} (h : wordTo xss word k) (hk : word.length ≤ k) : wordOk xss word = true := by
  unfold wordTo at h
  rw [List.take_of_length_le hk] at h
  exact decide_eq_true h
theorem wordOk_at {xss : List (List Int)} {word : List Int} {k : Nat} {x : Int} (h : wordOk xss word = true) (hx : word[k]? = some x) : ∃ g : Nat, x = (g : Int) ∧ g < xss.length := by
  have := (of_decide_eq_true h) x (mem_of_get hx)
  exact ⟨x.toNat, by omega, by omega⟩
theorem sys_at {n : Int} {xss : List (List Int)} {g p : Nat} {xs : List Int} {y : Int} (h : okSys n xss = true) (hx : xss[g]? = some xs) (hy : xs[p]? = some y) : ∃ q : Nat, y = (q : Int) ∧ (q : Int) < n := by
  have h1 := (sys_parts h).2.2.2 xs (List.mem_of_getElem? hx)
  obtain ⟨q, hq, hlt⟩ := okP_at h1.2 rfl hy
  exact ⟨q, hq, by omega⟩
theorem sys_len {n : Int} {xss : List (List Int)} {g : Nat} {xs : List Int} (h : okSys n xss = true) (hx : xss[g]? = some xs) : (xs.length : Int) = n := ((sys_parts h).2.2.2 xs (List.mem_of_getElem? hx)).1

set_option maxHeartbeats 1600000 in
theorem iapp_any {A A2 : Option Addr} {c c2 N m : Nat} {xss : List (List Int)} {word : List Int} (n pt : Int) (w : World) (hx : xss.length = N) (ha : RdSS w A xss) (hN : N ≤ 1048576) (hr : ∀ xs ∈ xss, (xs.length : Int) ≤ 1048576)
    (hy : word.length = m) (ha2 : Rd w A2 (ints word)) (hm : m ≤ 1048576) :
    Calls Try.prog 140 #[.int .i64 n, .slice A N c, .slice A2 m c2, .int .i64 pt] w fun e w' => e = .returned (.tuple #[.int .i64 (appR n xss word pt), .int .i64 (appC n xss word pt)]) ∧ Below w.heap.size w w' := by
  have HX := Lib.hid hx
  have HA := Lib.hid ha
  have HR := Lib.hid hr
  have HY := Lib.hid hy
  have HA2 := Lib.hid ha2
  clear hx ha hr hy ha2
  cases hs : okSys n xss
  · have h1 : appR n xss word pt = 0 := by simp [appR, hs]
    have h2 : appC n xss word pt = 1 := by simp [appC, hs]
    rw [h1, h2]
    have HS := Lib.hid hs
    clear h1 h2 hs
    go_enter Try.func140, Try.ntmps140
    go_wp2_with fail
    refine (isys_any n w HX.out HA.out hN HR.out).mono ?_
    rintro e w1 ⟨rfl, bel⟩
    rw [HS.out]
    have BEL := Lib.hid bel
    clear bel
    go_wp2
    go_ret2
    exact ⟨rfl, BEL.out⟩
  have hp := sys_parts hs
  have hn0 := hp.1
  have hn1 := hp.2.1
  have HS := Lib.hid hs
  clear hp
  by_cases hpt : pt < 0
  · have hb : wordIn n word pt = false := decide_eq_false (by omega)
    have h1 : appR n xss word pt = 0 := by simp [appR, hb]
    have h2 : appC n xss word pt = 2 := by simp [appC, hs, hb]
    rw [h1, h2]
    clear h1 h2 hs hb
    go_enter Try.func140, Try.ntmps140
    go_wp2_with fail
    refine (isys_any n w HX.out HA.out hN HR.out).mono ?_
    rintro e w1 ⟨rfl, bel⟩
    rw [HS.out]
    have BEL := Lib.hid bel
    clear bel
    go_wp2
    go_ret2
    exact ⟨rfl, BEL.out⟩
  by_cases hpt2 : n ≤ pt
  · have hb : wordIn n word pt = false := decide_eq_false (by omega)
    have h1 : appR n xss word pt = 0 := by simp [appR, hb]
    have h2 : appC n xss word pt = 2 := by simp [appC, hs, hb]
    rw [h1, h2]
    clear h1 h2 hs hb
    go_enter Try.func140, Try.ntmps140
    go_wp2_with fail
    refine (isys_any n w HX.out HA.out hN HR.out).mono ?_
    rintro e w1 ⟨rfl, bel⟩
    rw [HS.out]
    have BEL := Lib.hid bel
    clear bel
    go_wp2
    go_ret2
    exact ⟨rfl, BEL.out⟩
  by_cases hlong : 64 < m
  · have hb : wordIn n word pt = false := decide_eq_false (by rw [HY.out]; omega)
    have h1 : appR n xss word pt = 0 := by simp [appR, hb]
    have h2 : appC n xss word pt = 2 := by simp [appC, hs, hb]
    rw [h1, h2]
    clear h1 h2 hs hb
    go_enter Try.func140, Try.ntmps140
    go_wp2_with fail
    refine (isys_any n w HX.out HA.out hN HR.out).mono ?_
    rintro e w1 ⟨rfl, bel⟩
    rw [HS.out]
    have BEL := Lib.hid bel
    clear bel
    go_wp2
    go_ret2
    exact ⟨rfl, BEL.out⟩
  have hb : wordIn n word pt = true := decide_eq_true ⟨by rw [HY.out]; omega, by omega, by omega⟩
  have hp0 : 0 ≤ pt := by omega
  have hp1 : pt < n := by omega
  clear hpt hpt2
  have HB := Lib.hid hb
  have HS2 := Lib.hid hs
  clear hb hs
  go_enter Try.func140, Try.ntmps140
  go_wp2_with fail
  refine (isys_any n w HX.out HA.out hN HR.out).mono ?_
  rintro e w1 ⟨rfl, bel⟩
  rw [HS.out]
  have BEL := Lib.hid bel
  clear bel
  go_wp2
  go_loop [3, 30] (fun q i => ∃ k p : Nat, k ≤ m ∧ i = .int .i64 k ∧ q = .int .i64 p ∧ (p : Int) = runW xss pt (word.take k) ∧ (p : Int) < n ∧ wordTo xss word k) (fun _ i => m - (intOf i).toNat)
  case atStart => exact ⟨0, pt.toNat, Nat.zero_le _, rfl, by rw [show ((pt.toNat : Nat) : Int) = pt by omega], by simp [runW]; omega, by omega, by simp [wordTo]⟩
  case round =>
    obtain ⟨k, p, hk, rfl, rfl, hrun, hpn, hwt⟩ := hrel
    have HRUN := Lib.hid hrun
    have WT := Lib.hid hwt
    clear hrun hwt
    by_cases hlt2 : k < m
    · obtain ⟨b, o, x, rfl, hgx, hcx⟩ := (HA2.out.keep BEL.out).int (k := k) (by rw [HY.out]; exact hlt2)
      by_cases hx0 : x < 0
      · have hw := word_bad (xss := xss) hgx (.inl hx0)
        have h1 := Lib.hid (show appR n xss word pt = 0 by simp [appR, hw])
        have h2 := Lib.hid (show appC n xss word pt = 2 by simp [appC, HS.out, hw])
        clear hw hgx
        go_wp2
        go_ret2
        exact ⟨ret2_i64 h1.out.symm h2.out.symm, BEL.out⟩
      by_cases hx1 : (N : Int) ≤ x
      · have hw := word_bad (xss := xss) hgx (.inr (by rw [HX.out]; exact hx1))
        have h1 := Lib.hid (show appR n xss word pt = 0 by simp [appR, hw])
        have h2 := Lib.hid (show appC n xss word pt = 2 by simp [appC, HS.out, hw])
        clear hw hgx
        go_wp2
        go_ret2
        exact ⟨ret2_i64 h1.out.symm h2.out.symm, BEL.out⟩
      obtain ⟨g, rfl⟩ := Int.eq_ofNat_of_zero_le (show 0 ≤ x by omega)
      have hg : g < N := by omega
      clear hx0 hx1
      obtain ⟨b2, o2, A3, c3, xs, rfl, hgs, hcs, hrd, hms⟩ := (HA.out.keep BEL.out).row (k := g) (by rw [HX.out]; exact hg)
      have hxl := sys_len HS.out hgs
      obtain ⟨b3, o3, y, rfl, hgy, hcy⟩ := hrd.int (k := p) (by omega)
      obtain ⟨q, rfl, hq⟩ := sys_at HS.out hgs hgy
      have HG := Lib.hid hgx
      have HGS := Lib.hid hgs
      have HGY := Lib.hid hgy
      have hpl : p < xs.length := by omega
      have WT2 := Lib.hid (wordTo_succ WT.out hgx (by omega) (by rw [HX.out]; omega))
      clear hgx hgs hgy hrd hxl
      go_wp2
      go_round
      case rel => exact ⟨k + 1, q, by omega, by go_num, rfl, by rw [runW_succ HG.out, ← HRUN.out, stepW_of HGS.out HGY.out], hq, WT2.out⟩
      case measure => simp [intOf]; omega
    · have hw := wordTo_all WT.out (by rw [HY.out]; omega)
      have h5 := HRUN.out
      rw [List.take_of_length_le (by rw [HY.out]; omega)] at h5
      have h1 := Lib.hid (show appR n xss word pt = (p : Int) by simp [appR, HS.out, HB.out, hw, h5])
      have h2 := Lib.hid (show appC n xss word pt = 0 by simp [appC, HS.out, HB.out, hw])
      clear hw h5
      go_wp2
      go_ret2
      exact ⟨ret2_i64 h1.out.symm h2.out.symm, BEL.out⟩
end Go.Proofs.Ytmgoaabeopnopaa
