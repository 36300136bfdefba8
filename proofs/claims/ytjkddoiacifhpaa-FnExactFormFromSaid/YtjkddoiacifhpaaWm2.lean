import Derived.Test.YtjkddoiacifhpaaWm1
import Derived.Test.YtjkddoiacifhpaaL4
namespace Go.Proofs.Ytjkddoiacifhpaa
open Go.RowKit

noncomputable def sqB (n : Nat) (p q : List Int) : Bool := @decide (SqOk n p q) (Classical.propDecidable _)
theorem sqB_false {n : Nat} {p q : List Int} (h : ¬ SqOk n p q) : sqB n p q = false := @decide_eq_false _ (Classical.propDecidable _) h
theorem sqB_true {n : Nat} {p q : List Int} (h : SqOk n p q) : sqB n p q = true := @decide_eq_true _ (Classical.propDecidable _) h
theorem sqB_iff {n : Nat} {p q : List Int} : sqB n p q = true ↔ SqOk n p q := ⟨fun h => @of_decide_eq_true _ (Classical.propDecidable _) h, sqB_true⟩

set_option maxHeartbeats 1600000 in
theorem sq_any {A A2 : Option Addr} {c c2 n : Nat} {p q : List Int} (w : World) (hp : p.length = n) (hq : q.length = n) (ha : Rd w A (ints p)) (hb : Rd w A2 (ints q)) (okp : okP p = true) (okq : okP q = true) (hn : n ≤ 1048576) :
    Calls Try.prog 178 #[.slice A n c, .slice A2 n c2] w fun e w' => e = .returned (.bool (sqB n p q)) ∧ ∃ j, w' = w.drewN j := by
  have HP := Lib.hid hp
  have HQ := Lib.hid hq
  have OP := Lib.hid okp
  have OQ := Lib.hid okq
  clear hp hq okp okq
  go_enter Try.func178, Try.ntmps178
  go_wp2
  go_loopw [8] (fun i wr => ∃ k : Nat, k ≤ n ∧ i = .int .i64 k ∧ (∀ f : Nat, f < k → fz p f ≠ fz q f ∧ fz p (fz q f) = fz q (fz p f)) ∧ ∃ j, wr = w.drewN j) (fun i _ => n - (intOf i).toNat)
  case atStart => exact ⟨0, Nat.zero_le _, rfl, fun f h => absurd h (by omega), 0, rfl⟩
  case round =>
    obtain ⟨k, hk, rfl, hall, j, rfl⟩ := hrel
    have HALL := Lib.hid hall
    clear hall
    by_cases hlt : k < n
    · obtain ⟨b, o, x, rfl, hgx, hcx⟩ := ha.int (k := k) (by rw [HP.out]; exact hlt)
      obtain ⟨b2, o2, y, rfl, hgy, hcy⟩ := hb.int (k := k) (by rw [HQ.out]; exact hlt)
      obtain ⟨x, rfl, hxn⟩ := okP_at OP.out HP.out hgx
      obtain ⟨y, rfl, hyn⟩ := okP_at OQ.out HQ.out hgy
      obtain ⟨b', o', u, he, hgu, hcu⟩ := ha.int (k := y) (by rw [HP.out]; exact hyn)
      obtain ⟨rfl, rfl⟩ : b = b' ∧ o = o' := by simpa using he
      obtain ⟨b', o', v, he2, hgv, hcv⟩ := hb.int (k := x) (by rw [HQ.out]; exact hxn)
      obtain ⟨rfl, rfl⟩ : b2 = b' ∧ o2 = o' := by simpa using he2
      have FX := Lib.hid (fz_at hgx)
      have FY := Lib.hid (fz_at hgy)
      have FU := Lib.hid (fz_at hgu)
      have FV := Lib.hid (fz_at hgv)
      clear hgx hgy hgu hgv ha hb he he2
      by_cases h1 : x = y
      · subst h1
        have hd : ((x : Int) == (x : Int)) = true := by simp
        have hs := Lib.hid (sqB_false (n := n) (p := p) (q := q) fun h => (h k hlt).1 (by rw [FX.out, FY.out]))
        go_wp2
        go_quiet (fail)
        go_wp2
        go_ret
        exact ⟨ret_bool hs.out.symm, j + nq, World.drewN_drewN _ _ _⟩
      · have hd : ((x : Int) == (y : Int)) = false := by rw [beq_eq_false_iff_ne]; omega
        by_cases h2 : u = v
        · subst h2
          have hd2 : (u != u) = false := by simp
          have HS := Lib.hid (show ∀ f : Nat, f < k + 1 → fz p f ≠ fz q f ∧ fz p (fz q f) = fz q (fz p f) from fun f hf => by
            rcases Nat.lt_succ_iff_lt_or_eq.1 hf with h | rfl
            · exact HALL.out f h
            · exact ⟨by rw [FX.out, FY.out]; omega, by rw [FX.out, FY.out, FU.out, FV.out]⟩)
          go_wp2
          go_quiet (fail)
          go_wp2
          go_roundw
          case rel => exact ⟨k + 1, by omega, by go_num, HS.out, j + nq, by simp⟩
          case measure => simp [intOf]; omega
        · have hd2 : (u != v) = true := by rw [bne_iff_ne]; exact h2
          have hs := Lib.hid (sqB_false (n := n) (p := p) (q := q) fun h => h2 (by have := (h k hlt).2; rwa [FX.out, FY.out, FU.out, FV.out] at this))
          clear h2
          go_wp2
          go_quiet (fail)
          go_wp2
          go_ret
          exact ⟨ret_bool hs.out.symm, j + nq, World.drewN_drewN _ _ _⟩
    · obtain rfl : k = n := by omega
      have hs := Lib.hid (sqB_true HALL.out)
      go_wp2
      go_ret
      exact ⟨ret_bool hs.out.symm, j, rfl⟩

theorem sq_val {A A2 : Option Addr} {c c2 n : Nat} {p q : List Int} {r : Bool} (w : World) (hp : p.length = n) (hq : q.length = n) (ha : Rd w A (ints p)) (hb : Rd w A2 (ints q)) (okp : okP p = true) (okq : okP q = true) (hn : n ≤ 1048576) (hs : sqB n p q = r) :
    Calls Try.prog 178 #[.slice A n c, .slice A2 n c2] w fun e w' => e = .returned (.bool r) ∧ ∃ j, w' = w.drewN j :=
  (sq_any w hp hq ha hb okp okq hn).mono fun _ _ ⟨he, hj⟩ => ⟨by rw [he, hs], hj⟩

/-- All moves whose ranks differ by at least 2 commute. -/
def SqAll (xss : List (List Int)) (n : Nat) : Prop := ∀ (i k : Nat) (p q : List Int), i + 2 ≤ k → xss[i]? = some p → xss[k]? = some q → SqOk n p q
noncomputable def sqAllB (xss : List (List Int)) (n : Nat) : Bool := @decide (SqAll xss n) (Classical.propDecidable _)
theorem sqAllB_false {xss : List (List Int)} {n : Nat} (h : ¬ SqAll xss n) : sqAllB xss n = false := @decide_eq_false _ (Classical.propDecidable _) h
theorem sqAllB_true {xss : List (List Int)} {n : Nat} (h : SqAll xss n) : sqAllB xss n = true := @decide_eq_true _ (Classical.propDecidable _) h
theorem sqAllB_iff {xss : List (List Int)} {n : Nat} : sqAllB xss n = true ↔ SqAll xss n := ⟨fun h => @of_decide_eq_true _ (Classical.propDecidable _) h, sqAllB_true⟩
/-- The pairs gone through by hasSquares: all with the greater rank below k, and those of k with the lesser one below i. -/
def SqK (xss : List (List Int)) (n k i : Nat) : Prop := ∀ (a b : Nat) (p q : List Int), a + 2 ≤ b → (b < k ∨ (b = k ∧ a < i)) → xss[a]? = some p → xss[b]? = some q → SqOk n p q
theorem sqK_next {xss : List (List Int)} {n k i : Nat} (h : SqK xss n k i) (hi : k < i + 2) : SqK xss n (k + 1) 0 := by
  intro a b p q hab hc hp hq
  refine h a b p q hab ?_ hp hq
  omega
theorem sqK_step {xss : List (List Int)} {n k i : Nat} {p q : List Int} (h : SqK xss n k i) (hp : xss[i]? = some p) (hq : xss[k]? = some q) (hs : SqOk n p q) : SqK xss n k (i + 1) := by
  intro a b p' q' hab hc hp' hq'
  by_cases h1 : b = k ∧ a = i
  · obtain ⟨rfl, rfl⟩ := h1
    rw [hp] at hp'; rw [hq] at hq'
    injection hp' with e1; injection hq' with e2
    subst e1; subst e2
    exact hs
  · exact h a b p' q' hab (by omega) hp' hq'
theorem sqK_all {xss : List (List Int)} {n k : Nat} (h : SqK xss n k 0) (hk : xss.length ≤ k) : SqAll xss n := by
  intro i b p q hab hp hq
  exact h i b p q hab (.inl (by have := (List.getElem?_eq_some_iff.1 hq).1; omega)) hp hq

set_option maxHeartbeats 1600000 in
theorem squares_any {A : Option Addr} {c N n : Nat} {xss : List (List Int)} (w : World) (hx : xss.length = N) (ha : RdSS w A xss) (hN : N ≤ 1048576) (hsys : okSys n xss = true) :
    Calls Try.prog 125 #[.agg #[.slice A N c]] w fun e w' => e = .returned (.bool (sqAllB xss n)) ∧ Below w.heap.size w w' := by
  have HX := Lib.hid hx
  have HA := Lib.hid ha
  have HS := Lib.hid hsys
  have hn4 := (sys_parts hsys).2.1
  clear hx ha hsys
  go_enter Try.func125, Try.ntmps125
  go_wp2
  go_loopw [8] (fun v wr => ∃ k : Nat, k ≤ N ∧ v = .int .i64 k ∧ SqK xss n k 0 ∧ Bx w wr (.slice A N c) 51) (fun v _ => N - (intOf v).toNat)
  case atStart => exact ⟨0, Nat.zero_le _, rfl, fun a b p q h1 h2 => by omega, Bx.start _ _ _⟩
  case round =>
    obtain ⟨k, hk, rfl, sk, bx⟩ := hrel
    have SK := Lib.hid sk
    have BX := Lib.hid bx
    clear sk bx
    by_cases hkn : k < N
    · go_wp2
      go_loopw [4] (fun v wr => ∃ i : Nat, i ≤ N ∧ v = .int .i64 i ∧ SqK xss n k i ∧ Bx w wr (.slice A N c) 51) (fun v _ => N - (intOf v).toNat)
      case atStart => exact ⟨0, Nat.zero_le _, rfl, SK.out, BX.out⟩
      case round =>
        obtain ⟨i, hi, rfl, sk2, bx2⟩ := hrel
        have SK2 := Lib.hid sk2
        have BX2 := Lib.hid bx2
        clear sk2 bx2
        by_cases hik : i + 2 ≤ k
        · obtain ⟨b, o, A1, c1, p, rfl, hg1, hc1, hrd1, hm1⟩ := (HA.out.keep BX2.out.below).row (k := i) (by rw [HX.out]; omega)
          obtain ⟨b', o', A2, c2, q, he, hg2, hc2, hrd2, hm2⟩ := (HA.out.keep BX2.out.below).row (k := k) (by rw [HX.out]; omega)
          obtain ⟨rfl, rfl⟩ : b = b' ∧ o = o' := by simpa using he
          have l1 := sys_len HS.out hg1
          have l2 := sys_len HS.out hg2
          have k1 : p.length = n := by omega
          have k2 : q.length = n := by omega
          rw [k1] at hc1
          rw [k2] at hc2
          have OK1 := Lib.hid ((sys_parts HS.out).2.2.2 p (List.mem_of_getElem? hg1)).2
          have OK2 := Lib.hid ((sys_parts HS.out).2.2.2 q (List.mem_of_getElem? hg2)).2
          have K1 := Lib.hid k1
          have K2 := Lib.hid k2
          have R1 := Lib.hid hrd1
          have R2 := Lib.hid hrd2
          have G1 := Lib.hid hg1
          have G2 := Lib.hid hg2
          have hbx := BX2.out.cell
          have hn6 : n ≤ 1048576 := by omega
          have hiI : (i : Int) < (N : Int) := by omega
          have hkI : (k : Int) < (N : Int) := by omega
          clear he k1 k2 l1 l2 hrd1 hrd2 hg1 hg2
          cases hs : sqB n p q
          · have HSq := Lib.hid hs
            have hf := Lib.hid (sqAllB_false (xss := xss) (n := n) fun h => by have := sqB_true (h i k p q hik G1.out G2.out); rw [hs] at this; cases this)
            clear hs
            go_wp2
            go_quiet ((go_at_call 178; refine Calls.quiet_of (sq_val _ K1.out K2.out R1.out R2.out OK1.out OK2.out hn6 HSq.out)))
            go_wp2
            go_ret
            exact ⟨ret_bool hf.out.symm, (BX2.out.drewN _).below⟩
          · have HSq := Lib.hid hs
            have hf := Lib.hid (sqK_step SK2.out G1.out G2.out (sqB_iff.1 hs))
            clear hs
            go_wp2
            go_quiet ((go_at_call 178; refine Calls.quiet_of (sq_val _ K1.out K2.out R1.out R2.out OK1.out OK2.out hn6 HSq.out)))
            go_wp2
            go_roundw
            case rel => exact ⟨i + 1, by omega, by go_num, hf.out, BX2.out.drewN _⟩
            case measure => simp [intOf]; omega
        · have hf := Lib.hid (sqK_next SK2.out (by omega))
          go_wp2
          go_roundw
          case rel => exact ⟨k + 1, by omega, by go_num, hf.out, BX2.out⟩
          case measure => simp [intOf]; omega
    · have hf := Lib.hid (sqAllB_true (sqK_all SK.out (by rw [HX.out]; omega)))
      go_wp2
      go_ret
      exact ⟨ret_bool hf.out.symm, BX.out.below⟩
end Go.Proofs.Ytjkddoiacifhpaa
