import Derived.Test.YtbjfeogkdfmjpaaWkG
import Derived.Test.YtbjfeogkdfmjpaaPush
namespace Go.Proofs.Ytbjfeogkdfmjpaa
open Go.RowKit

/-- Doing xs then ys. -/
def thenL (xs ys : List Int) : List Int := xs.map fun x => ys.getD x.toNat 0
theorem thenL_length (xs ys : List Int) : (thenL xs ys).length = xs.length := by simp [thenL]
theorem thenL_at {xs ys : List Int} {k m : Nat} {y : Int} (h : xs[k]? = some (m : Int)) (hy : ys[m]? = some y) : (thenL xs ys)[k]? = some y := by
  simp [thenL, h, hy]
theorem thenL_succ {xs ys : List Int} {k m : Nat} {y : Int} (h : xs[k]? = some (m : Int)) (hy : ys[m]? = some y) : thenL (xs.take (k + 1)) ys = thenL (xs.take k) ys ++ [y] := by
  rw [take_succ_of h]
  simp [thenL, hy]
/-- Each element is an index below m. -/
def InR (xs : List Int) (m : Nat) : Prop := ∀ x ∈ xs, 0 ≤ x ∧ x < (m : Int)
theorem InR.at_ {xs : List Int} {m k : Nat} {x : Int} (h : InR xs m) (hx : xs[k]? = some x) : ∃ j : Nat, x = (j : Int) ∧ j < m := by
  have := h x (mem_of_get hx)
  exact ⟨x.toNat, by omega, by omega⟩
theorem inR_ok {xs : List Int} (h : okP xs = true) : InR xs xs.length := (of_decide_eq_true h).2.1
theorem inR_then {xs ys : List Int} {m : Nat} (h : InR xs ys.length) (hy : InR ys m) : InR (thenL xs ys) m := by
  intro z hz
  obtain ⟨x, hx, rfl⟩ := List.mem_map.1 hz
  have h1 := h x hx
  have h2 : x.toNat < ys.length := by omega
  have h3 : ys.getD x.toNat 0 = ys[x.toNat] := by simp [List.getD, h2]
  show 0 ≤ ys.getD x.toNat 0 ∧ ys.getD x.toNat 0 < (m : Int)
  rw [h3]
  exact hy _ (List.getElem_mem h2)
theorem inR_back (xs : List Int) (n : Nat) : ∀ k, k ≤ n → InR (backTo xs n k) n
  | 0, _ => by
    intro x hx
    simp [backTo] at hx
    omega
  | k + 1, hk => by
    unfold backTo
    split
    · intro x hx
      rcases List.mem_or_eq_of_mem_set hx with h | rfl
      · exact inR_back xs n k (by omega) x h
      · omega
    · exact inR_back xs n k (by omega)
theorem inR_inv (xs : List Int) : InR (invL xs) xs.length := inR_back xs xs.length xs.length (Nat.le_refl _)

set_option maxHeartbeats 800000 in
theorem sthen_any {A A2 : Option Addr} {c c2 : Nat} {xs ys : List Int} {n m : Nat} (w : World) (hx : xs.length = n) (ha : Rd w A (ints xs)) (hn : n ≤ 1048576) (hy : ys.length = m) (ha2 : Rd w A2 (ints ys)) (hr : InR xs m) :
    Calls Try.prog 81 #[.slice A n c, .slice A2 m c2] w (Ret1 w (thenL xs ys)) := by
  have HX := Lib.hid hx
  have HA := Lib.hid ha
  have HY := Lib.hid hy
  have HA2 := Lib.hid ha2
  have HR := Lib.hid hr
  clear hx ha hy ha2 hr
  go_enter Try.func81, Try.ntmps81
  go_wp2
  go_loopw [5, 6] (fun v i wr => ∃ k : Nat, k ≤ n ∧ i = .int .i64 k ∧ ∃ A' c', v = .slice A' k c' ∧ wr.ownsRow w.heap.size 2 1 (.slice A' k c') k (ints (thenL (xs.take k) ys)) ∧ Below w.heap.size w wr) (fun _ i _ => n - (intOf i).toNat)
  case atStart => exact ⟨0, Nat.zero_le _, rfl, _, _, rfl, by simpa [thenL] using World.ownsRow_made (base := w.heap.size) (e := 2) (size := 1) w #[] 0 (Nat.le_refl _) (Nat.zero_le _) (by simp), (Below.refl _ _).alloc (Nat.le_refl _) _⟩
  case round =>
    obtain ⟨k, hk, rfl, A', c', rfl, own, bel⟩ := hrel
    have OWN := Lib.hid own
    have BEL := Lib.hid bel
    clear own bel
    by_cases hlt : k < n
    · obtain ⟨b, o, x, rfl, hgx, hcx⟩ := (HA.out.keep BEL.out).int (k := k) (by rw [HX.out]; exact hlt)
      obtain ⟨j, rfl, hj⟩ := HR.out.at_ hgx
      obtain ⟨b2, o2, y, rfl, hgy, hcy⟩ := (HA2.out.keep BEL.out).int (k := j) (by rw [HY.out]; exact hj)
      have HG := Lib.hid hgx
      have HG2 := Lib.hid hgy
      clear hgx hgy
      have hsz := BEL.out.size
      go_wp2_with (at_builtin; refine wpList_push _ rfl _ _ 24 2 rfl Try.underlying24 (.int .i64 0) 8 Try.info2 rfl w.heap.size _ _ _ rfl OWN.out _ rfl rfl (by omega) (by omega) (by omega) ?_)
      intro A3 c3 w3 own3 bel3 _
      have OWN3 := Lib.hid own3
      have BEL3 := Lib.hid bel3
      clear own3 bel3
      go_wp2
      go_roundw
      case rel => exact ⟨k + 1, by omega, by go_num, A3, c3, rfl, by rw [thenL_succ HG.out HG2.out]; simpa using OWN3.out, BEL.out.trans BEL3.out⟩
      case measure => simp [intOf]; omega
    · go_wp2
      go_ret
      obtain rfl : k = n := by omega
      have hl : (thenL xs ys).length = k := by rw [thenL_length, HX.out]
      have h := OWN.out
      rw [List.take_of_length_le (by rw [HX.out]; exact Nat.le_refl _)] at h
      exact ⟨A', c', by rw [hl]; rfl, by rw [hl]; exact h, BEL.out⟩

set_option maxHeartbeats 800000 in
theorem ithen_any {A A2 : Option Addr} {c c2 : Nat} {xs ys : List Int} {n m : Nat} (w : World) (hx : xs.length = n) (ha : Rd w A (ints xs)) (hn : n ≤ 1048576) (hy : ys.length = m) (ha2 : Rd w A2 (ints ys)) (hr : InR xs m) :
    Calls Try.prog 76 #[.slice A n c, .slice A2 m c2] w (Ret1 w (thenL xs ys)) := by
  have HX := Lib.hid hx
  have HA := Lib.hid ha
  have HY := Lib.hid hy
  have HA2 := Lib.hid ha2
  have HR := Lib.hid hr
  clear hx ha hy ha2 hr
  have hmk := run_make_row' (P := Try.prog) 68 2 (.int .i64 0) 8 Try.underlying68 Try.info2 rfl .i64 .i64 n (by omega) (by omega)
  have HL := Lib.hid (show (thenL xs ys).length = n by rw [thenL_length, HX.out])
  go_enter Try.func76, Try.ntmps76
  go_wp2
  clear hmk
  go_loopw [13] (fun i wr => ∃ k : Nat, k ≤ n ∧ i = .int .i64 k ∧ wr.ownsRow w.heap.size 2 1 (.slice (some ⟨w.heap.size, 0, none⟩) n n) n (ints ((thenL xs ys).take k ++ List.replicate (n - k) 0)) ∧ Below w.heap.size w wr) (fun i _ => n - (intOf i).toNat)
  case atStart => exact ⟨0, Nat.zero_le _, rfl, by simpa using make_own w (.int .i64 0) n 2 (by unfold maxLen; omega), (Below.refl _ _).alloc (Nat.le_refl _) _⟩
  case round =>
    obtain ⟨k, hk, rfl, own, bel⟩ := hrel
    have OWN := Lib.hid own
    have BEL := Lib.hid bel
    clear own bel
    by_cases hlt : k < n
    · obtain ⟨b, o, x, rfl, hgx, hcx⟩ := (HA.out.keep BEL.out).int (k := k) (by rw [HX.out]; exact hlt)
      obtain ⟨j, rfl, hj⟩ := HR.out.at_ hgx
      obtain ⟨b2, o2, y, rfl, hgy, hcy⟩ := (HA2.out.keep BEL.out).int (k := j) (by rw [HY.out]; exact hj)
      have HG := Lib.hid (thenL_at hgx hgy)
      clear hgx hgy
      have hcell := own_cell OWN.out (fill_at hlt HL.out)
      have hfrz := OWN.out.frozenAt k
      go_wp2
      go_roundw
      case rel => exact ⟨k + 1, by omega, by go_num, by have h := (OWN.out.stored k (.int .i64 y)).1; rwa [ints_set, fill_step HL.out HG.out] at h, BEL.out.setCell (by simp) _⟩
      case measure => simp [intOf]; omega
    · go_wp2
      go_ret
      obtain rfl : k = n := by omega
      have h := OWN.out
      rw [Nat.sub_self, List.replicate_zero, List.append_nil, List.take_of_length_le (by rw [HL.out]; exact Nat.le_refl _)] at h
      exact ⟨_, _, by rw [HL.out]; rfl, by rw [HL.out]; exact h, BEL.out⟩
end Go.Proofs.Ytbjfeogkdfmjpaa
