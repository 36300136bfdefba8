/- laws.likeRows5, like5, hasInt. -/
import Derived.Test.YtmgoaabeopnopaaL5
import Derived.Test.YtmgoaabeopnopaaL9
import Derived.Test.YtmgoaabeopnopaaL12
namespace Go.Proofs.Ytmgoaabeopnopaa
open Go.RowKit

theorem like_val {A B : Option Addr} {c d n m : Nat} {xs ys : List Int} {r : Bool} (w : World) (hx : xs.length = n) (hy : ys.length = m) (ha : Rd w A (ints xs)) (hb : Rd w B (ints ys)) (hn : n ≤ 1048576) (_hm : m ≤ 1048576) (hr : decide (xs = ys) = r) :
    Calls Try.prog 68 #[.slice A n c, .slice B m d] w fun e w' => e = .returned (.bool r) ∧ ∃ j, w' = w.drewN j :=
  (like_any w hx hy ha hb (by omega)).mono fun _ _ ⟨he, hj⟩ => ⟨by rw [he, hr], hj⟩
set_option maxHeartbeats 1600000 in
theorem likeRows_any {A B : Option Addr} {c d n m : Nat} {xss yss : List (List Int)} (w : World) (hx : xss.length = n) (hy : yss.length = m) (ha : RdSS w A xss) (hb : RdSS w B yss) (hn : n ≤ 1048576) (_hm : m ≤ 1048576) (hrx : ∀ xs ∈ xss, (xs.length : Int) ≤ 1048576) (hry : ∀ xs ∈ yss, (xs.length : Int) ≤ 1048576) :
    Calls Try.prog 58 #[.slice A n c, .slice B m d] w fun e w' => e = .returned (.bool (decide (xss = yss))) ∧ ∃ j, w' = w.drewN j := by
  have HX := Lib.hid hx
  have HY := Lib.hid hy
  have HA := Lib.hid ha
  have HB := Lib.hid hb
  have HRX := Lib.hid hrx
  have HRY := Lib.hid hry
  by_cases hnm : n = m
  · obtain ⟨r, hr⟩ : ∃ r, decide (xss = yss) = r := ⟨_, rfl⟩
    rw [hr]
    have HRR := Lib.hid hr
    subst hnm
    clear ha hb hx hy hrx hry hr
    go_enter Try.func58, Try.ntmps58
    go_wp2
    go_loopw [5] (fun i wr => ∃ k : Nat, k ≤ n ∧ i = .int .i64 k ∧ (∀ t, t < k → xss[t]? = yss[t]?) ∧ ∃ j, wr = w.drewN j) (fun i _ => n - (intOf i).toNat)
    case atStart => exact ⟨0, Nat.zero_le _, rfl, fun t h => by omega, 0, rfl⟩
    case round =>
      obtain ⟨k, hk, rfl, hc, j, rfl⟩ := hrel
      have HC := Lib.hid hc
      clear hc
      by_cases hlt : k < n
      · obtain ⟨b1, o1, A1, c1, xs, rfl, hgx, hcx, hrd1, hm1⟩ := HA.out.row (k := k) (by rw [HX.out]; exact hlt)
        obtain ⟨b2, o2, A2, c2, ys, rfl, hgy, hcy, hrd2, hm2⟩ := HB.out.row (k := k) (by rw [HY.out]; exact hlt)
        have l1 := HRX.out xs (List.mem_of_getElem? hgx)
        have l2 := HRY.out ys (List.mem_of_getElem? hgy)
        obtain ⟨n1, hn1⟩ : ∃ n1, xs.length = n1 := ⟨_, rfl⟩
        obtain ⟨n2, hn2⟩ : ∃ n2, ys.length = n2 := ⟨_, rfl⟩
        rw [hn1] at hcx hm1 l1
        rw [hn2] at hcy hm2 l2
        have L1 := Lib.hid hn1
        have L2 := Lib.hid hn2
        have R1 := Lib.hid hrd1
        have R2 := Lib.hid hrd2
        have l1' : n1 ≤ 1048576 := by omega
        have l2' : n2 ≤ 1048576 := by omega
        by_cases he : xs = ys
        · have HS := Lib.hid (show ∀ t, t < k + 1 → xss[t]? = yss[t]? from fun t h => by
            by_cases ht : t < k
            · exact HC.out t ht
            · obtain rfl : t = k := by omega
              rw [hgx, hgy, he])
          have HD := Lib.hid (show decide (xs = ys) = true from decide_eq_true he)
          clear he hgx hgy hn1 hn2 hrd1 hrd2
          go_wp2
          go_quiet ((go_at_call 68; exact quiet_more fun W hW => like_val W L1.out L2.out (hW ▸ R1.out) (hW ▸ R2.out) l1' l2' HD.out))
          go_wp2
          go_roundw
          case rel => exact ⟨k + 1, by omega, by go_num, HS.out, j + nq, by simp⟩
          case measure => simp [intOf]; omega
        · have HS := Lib.hid (show false = r from by
            rw [← HRR.out]
            refine (decide_eq_false fun h => he ?_).symm
            rw [h, hgy] at hgx
            injection hgx with hgx
            exact hgx.symm)
          have HD := Lib.hid (show decide (xs = ys) = false from decide_eq_false he)
          clear he hgx hgy hn1 hn2 hrd1 hrd2
          go_wp2
          go_quiet ((go_at_call 68; exact quiet_more fun W hW => like_val W L1.out L2.out (hW ▸ R1.out) (hW ▸ R2.out) l1' l2' HD.out))
          go_wp2
          go_ret
          exact ⟨ret_bool HS.out, _, by simp; rfl⟩
      · obtain rfl : k = n := by omega
        have HS := Lib.hid (show true = r from by
          rw [← HRR.out]
          refine (decide_eq_true (List.ext_getElem? fun t => ?_)).symm
          by_cases ht : t < k
          · exact HC.out t ht
          · rw [List.getElem?_eq_none (by rw [HX.out]; omega), List.getElem?_eq_none (by rw [HY.out]; omega)])
        go_wp2
        go_ret
        exact ⟨ret_bool HS.out, _, rfl⟩
  · have hne : xss ≠ yss := fun h => hnm (by rw [← hx, ← hy, h])
    have h1 : decide (xss = yss) = false := decide_eq_false hne
    rw [h1]
    have hb1 : ((n : Int) != (m : Int)) = true := by simpa using fun h : (n : Int) = m => hnm (by omega)
    clear ha hb hx hy hrx hry hne h1
    go_enter Try.func58, Try.ntmps58
    go_wp2
    go_ret
    exact ⟨rfl, 0, rfl⟩

end Go.Proofs.Ytmgoaabeopnopaa
