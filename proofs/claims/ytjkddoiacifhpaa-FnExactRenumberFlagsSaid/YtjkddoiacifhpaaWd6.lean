import Derived.Test.YtjkddoiacifhpaaCnt
namespace Go.Proofs.Ytjkddoiacifhpaa
open Go.RowKit

theorem iRank_bel {A : Option Addr} {c N : Nat} {r : Bool} (f : Int) (w : World) (hr : flagB N f = r) :
    Calls Try.prog 128 #[.agg #[.slice A N c], .int .i64 f] w fun e w' => e = .returned (.bool r) ∧ Below w.heap.size w w' := by
  by_cases hf0 : 0 ≤ f
  · have HR := Lib.hid (show decide (f < (N : Int)) = r from by rw [← hr]; unfold flagB; congr 1; simp only [eq_iff_iff]; omega)
    clear hr
    go_enter Try.func128, Try.ntmps128
    go_wp2_with fail
    refine (rank_any _).mono ?_
    rintro e w1 ⟨rfl, rfl⟩
    go_wp2
    go_ret
    exact ⟨ret_bool HR.out, below2 w _ _⟩
  · have HR := Lib.hid (show false = r from by rw [← hr]; unfold flagB; rw [decide_eq_false (by omega)])
    clear hr
    go_enter Try.func128, Try.ntmps128
    go_wp2
    go_ret
    exact ⟨ret_bool HR.out, below1 w _⟩
theorem sRank_val {N : Nat} {f : Int} {r : Bool} (w : World) (hr : flagB N f = r) :
    Calls Try.prog 148 #[.int .i64 f, .int .i64 0, .int .i64 ((N : Int) - 1)] w fun e w' => e = .returned (.bool r) ∧ Below w.heap.size w w' :=
  in_val w (by rw [← hr]; unfold flagB; congr 1; simp only [eq_iff_iff]; omega)
noncomputable def flR (xss : List (List Int)) (f : Int) : List Int := if okMan xss then (if flagB xss.length f then facL xss (flN xss) f.toNat else []) else []
noncomputable def flC (xss : List (List Int)) (f : Int) : Int := if okMan xss then (if flagB xss.length f then 0 else 2) else 1
theorem flR_le (xss : List (List Int)) (f : Int) : (flR xss f).length ≤ 1048576 := by
  unfold flR
  split
  · rename_i h
    have := (okMan_iff.1 h).f4
    split
    · rw [facL_len]; omega
    · simp
  · simp
noncomputable def fcR (xss : List (List Int)) : List Int := if okMan xss then cntTo xss (flN xss) xss.length else []
theorem fcR_le (xss : List (List Int)) : (fcR xss).length ≤ 1048576 := by
  unfold fcR
  split
  · rename_i h
    have := (okMan_iff.1 h).r5
    rw [cntTo_len]; omega
  · simp
def eulTo (l : List Int) : Nat → Int
  | 0 => 0
  | k + 1 => if k % 2 = 0 then eulTo l k + l.getD k 0 else eulTo l k - l.getD k 0
theorem eulTo_bd {l : List Int} (h : ∀ x ∈ l, 0 ≤ x ∧ x ≤ 400) : ∀ k : Nat, -(400 * (k : Int)) ≤ eulTo l k ∧ eulTo l k ≤ 400 * (k : Int)
  | 0 => by simp [eulTo]
  | k + 1 => by
    have ih := eulTo_bd h k
    have hx : 0 ≤ l.getD k 0 ∧ l.getD k 0 ≤ 400 := by
      by_cases hk : k < l.length
      · have := h l[k] (List.getElem_mem hk)
        simpa [List.getD, hk] using this
      · simp [List.getD, List.getElem?_eq_none (by omega : l.length ≤ k)]
    unfold eulTo
    split <;> (push_cast; omega)
noncomputable def euR (xss : List (List Int)) : Int := if okMan xss then eulTo (cntTo xss (flN xss) xss.length) xss.length else 0
theorem cnt_in {xss : List (List Int)} {n N : Nat} (hsys : okSys n xss = true) : ∀ x ∈ cntTo xss n N, 0 ≤ x ∧ x ≤ 400 := by
  intro x hx
  obtain ⟨i, _, rfl⟩ := List.mem_map.1 hx
  have h1 := grt_fac (i := i) hsys
  have h2 := (sys_parts hsys).2.1
  omega

set_option maxHeartbeats 800000 in
theorem euler_any {A : Option Addr} {c n : Nat} {l : List Int} (w : World) (hx : l.length = n) (ha : Rd w A (ints l)) (hn : n ≤ 400) (hb : ∀ x ∈ l, 0 ≤ x ∧ x ≤ 400) :
    Calls Try.prog 150 #[.slice A n c] w fun e w' => e = .returned (.int .i64 (eulTo l n)) ∧ w = w' := by
  have HX := Lib.hid hx
  have HA := Lib.hid ha
  have HB := Lib.hid hb
  clear hx ha hb
  go_enter Try.func150, Try.ntmps150
  go_wp2
  go_loop [3, 4] (fun v i => ∃ (k : Nat) (M : Int), k ≤ n ∧ i = .int .i64 k ∧ v = .int .i64 M ∧ M = eulTo l k) (fun _ i => n - (intOf i).toNat)
  case atStart => exact ⟨0, 0, Nat.zero_le _, rfl, rfl, by simp [eulTo]⟩
  case round =>
    obtain ⟨k, M, hk, rfl, rfl, hM⟩ := hrel
    have hbd := eulTo_bd HB.out k
    rw [← hM] at hbd
    have HM := Lib.hid hM
    clear hM
    by_cases hlt : k < n
    · obtain ⟨b, o, x, rfl, hgx, hcx⟩ := HA.out.int (k := k) (by rw [HX.out]; exact hlt)
      have hxb := HB.out x (List.mem_of_getElem? hgx)
      have HE := Lib.hid (show l.getD k 0 = x by simp [List.getD, hgx])
      clear hgx
      by_cases hp : k % 2 = 0
      · have hpi : ((k : Int) % 2 == 0) = true := by rw [beq_iff_eq]; omega
        go_wp2
        go_round
        case rel => exact ⟨k + 1, M + x, by omega, by go_num, rfl, by rw [eulTo, if_pos hp, HE.out, HM.out]⟩
        case measure => simp [intOf]; omega
      · have hpi : ((k : Int) % 2 == 0) = false := by rw [beq_eq_false_iff_ne]; omega
        go_wp2
        go_round
        case rel => exact ⟨k + 1, M - x, by omega, by go_num, rfl, by rw [eulTo, if_neg hp, HE.out, HM.out]⟩
        case measure => simp [intOf]; omega
    · obtain rfl : k = n := by omega
      go_wp2
      go_ret
      exact ⟨ret_i64 HM.out, rfl⟩

theorem retN1c {w : World} {f : FuncId} {args : Array Value} {L : List Int} {n : Nat} (h : Calls Try.prog f args w (RetN w L n)) (hl : L.length = n) : Calls Try.prog f args w (Ret1 w L) := h.mono fun _ _ h => retN_1 hl h
set_option maxHeartbeats 1600000 in
theorem sFaceLabels_any {A : Option Addr} {c N : Nat} {xss : List (List Int)} (k1 : Int) (w : World) (hx : xss.length = N) (ha : RdSS w A xss) (hN : N ≤ 1048576) (hr : ∀ xs ∈ xss, (xs.length : Int) ≤ 1048576) :
    Calls Try.prog 83 #[.agg #[.slice A N c], .int .i64 k1] w (RetS w (flR xss k1) (flC xss k1)) := by
  have HX := Lib.hid hx
  have HA := Lib.hid ha
  have HR := Lib.hid hr
  cases ho : okMan xss
  · have h1 : flR xss k1 = [] := by simp [flR, ho]
    have h2 : flC xss k1 = 1 := by simp [flC, ho]
    rw [h1, h2]
    have HO := Lib.hid ho
    clear hx ha hr ho h1 h2
    go_enter Try.func83, Try.ntmps83
    go_wp2_with fail
    refine (sIs_any _ HX.out (HA.out.al _) hN HR.out).mono ?_
    rintro e w1 ⟨rfl, bel⟩
    rw [HO.out]
    have BEL := Lib.hid bel
    clear bel
    go_wp2
    go_ret2
    exact ⟨none, 0, rfl, World.ownsRow_nil _ _ _ _, (below1 w _).trans (BEL.out.mono (by simp))⟩
  · have hman := okMan_iff.1 ho
    have hsys := hman.sys
    have hn4 := hman.f4
    have hn2 := hman.f2
    have hpos := hman.pos hx
    have hallq : ∀ q : Nat, q < flN xss → (orbL xss (flN xss) q).length = flN xss := fun q hq => hman.all hq
    obtain ⟨b, o, A0, c0, rfl, hc0⟩ := man_row0 hman ha
    obtain ⟨n, hn⟩ : ∃ n, flN xss = n := ⟨_, rfl⟩
    rw [hn] at hc0 hsys hn4 hn2 hallq
    have HC0 := Lib.hid hc0
    have HO := Lib.hid ho
    have HSY := Lib.hid hsys
    have HALLQ := Lib.hid hallq
    have HMAN := Lib.hid hman
    have HFL := Lib.hid hn
    have BX0 := Lib.hid (Bx.start w (.slice (some ⟨b, o, none⟩) N c) 51)
    have hn6 : n ≤ 1048576 := by omega
    cases hf0 : flagB N k1
    · have h1 : flR xss k1 = [] := by simp [flR, ho, hx, hf0]
      have h2 : flC xss k1 = 2 := by simp [flC, ho, hx, hf0]
      rw [h1, h2]
      have HF0 := Lib.hid hf0
      clear hx ha hr ho hman hn hc0 hsys hallq h1 h2 hf0
      go_enter Try.func83, Try.ntmps83
      go_wp2_with fail
      refine (sIs_any _ HX.out (HA.out.al _) hN HR.out).mono ?_
      rintro e w1 ⟨rfl, bel⟩
      rw [HO.out]
      have BX1 := Lib.hid (BX0.out.go bel)
      have HC1 := Lib.hid (cell_be (cell_al HC0.out _) bel)
      have hbc1 := BX1.out.cell
      clear bel BX0
      go_wp2_with fail
      refine (sRank_val _ HF0.out).mono ?_
      rintro e w2 ⟨rfl, bel⟩
      have BX2 := Lib.hid (BX1.out.go bel)
      have HC2 := Lib.hid (cell_be HC1.out bel)
      have hbc2 := BX2.out.cell
      clear bel hbc1
      go_wp2
      go_ret2
      exact ⟨none, 0, rfl, World.ownsRow_nil _ _ _ _, BX2.out.below⟩
    · skip
      obtain ⟨p0, rfl, hp0⟩ := flagB_true hf0
      have h1 : flR xss (p0 : Int) = facL xss n p0 := by simp [flR, ho, hn, hx, hf0]
      have h2 : flC xss (p0 : Int) = 0 := by simp [flC, ho, hx, hf0]
      rw [h1, h2]
      have HF0 := Lib.hid hf0
      clear hx ha hr ho hman hn hc0 hsys hallq h1 h2 hf0
      go_enter Try.func83, Try.ntmps83
      go_wp2_with fail
      refine (sIs_any _ HX.out (HA.out.al _) hN HR.out).mono ?_
      rintro e w1 ⟨rfl, bel⟩
      rw [HO.out]
      have BX1 := Lib.hid (BX0.out.go bel)
      have HC1 := Lib.hid (cell_be (cell_al HC0.out _) bel)
      have hbc1 := BX1.out.cell
      clear bel BX0
      go_wp2_with fail
      refine (sRank_val _ HF0.out).mono ?_
      rintro e w2 ⟨rfl, bel⟩
      have BX2 := Lib.hid (BX1.out.go bel)
      have HC2 := Lib.hid (cell_be HC1.out bel)
      have hbc2 := BX2.out.cell
      clear bel hbc1
      have HAB := Lib.hid (HA.out.keep BX2.out.below)
      go_wp2_with fail
      refine (retN1c (sfaces_any _ HX.out HAB.out HSY.out HC2.out hp0) (facL_len _ _ _)).mono ?_
      rintro e w3 ⟨A9, c9, rfl, own, bel⟩
      have OWN := Lib.hid own
      have BX3 := Lib.hid (BX2.out.go bel)
      have HS := Lib.hid BX2.out.below.size
      clear bel hbc2 own
      go_wp2
      go_ret2
      exact ⟨A9, c9, rfl, own_base OWN.out HS.out, BX3.out.below⟩
set_option maxHeartbeats 1600000 in
theorem iFaceLabels_any {A : Option Addr} {c N : Nat} {xss : List (List Int)} (k1 : Int) (w : World) (hx : xss.length = N) (ha : RdSS w A xss) (hN : N ≤ 1048576) (hr : ∀ xs ∈ xss, (xs.length : Int) ≤ 1048576) (hcap : N ≤ c) (hc63 : c ≤ 9223372036854775807) :
    Calls Try.prog 52 #[.agg #[.slice A N c], .int .i64 k1] w (RetS w (flR xss k1) (flC xss k1)) := by
  have HX := Lib.hid hx
  have HA := Lib.hid ha
  have HR := Lib.hid hr
  cases ho : okMan xss
  · have h1 : flR xss k1 = [] := by simp [flR, ho]
    have h2 : flC xss k1 = 1 := by simp [flC, ho]
    rw [h1, h2]
    have HO := Lib.hid ho
    clear hx ha hr ho h1 h2
    go_enter Try.func52, Try.ntmps52
    go_wp2_with fail
    refine (iMan_any _ HX.out (HA.out.al _) hN HR.out).mono ?_
    rintro e w1 ⟨rfl, bel⟩
    rw [HO.out]
    have BEL := Lib.hid bel
    clear bel
    go_wp2
    go_ret2
    exact ⟨none, 0, rfl, World.ownsRow_nil _ _ _ _, (below1 w _).trans (BEL.out.mono (by simp))⟩
  · have hman := okMan_iff.1 ho
    have hsys := hman.sys
    have hn4 := hman.f4
    have hn2 := hman.f2
    have hpos := hman.pos hx
    have hallq : ∀ q : Nat, q < flN xss → (orbL xss (flN xss) q).length = flN xss := fun q hq => hman.all hq
    obtain ⟨b, o, A0, c0, rfl, hc0⟩ := man_row0 hman ha
    obtain ⟨n, hn⟩ : ∃ n, flN xss = n := ⟨_, rfl⟩
    rw [hn] at hc0 hsys hn4 hn2 hallq
    have HC0 := Lib.hid hc0
    have HO := Lib.hid ho
    have HSY := Lib.hid hsys
    have HALLQ := Lib.hid hallq
    have HMAN := Lib.hid hman
    have HFL := Lib.hid hn
    have BX0 := Lib.hid (Bx.start w (.slice (some ⟨b, o, none⟩) N c) 51)
    have hn6 : n ≤ 1048576 := by omega
    cases hf0 : flagB N k1
    · have h1 : flR xss k1 = [] := by simp [flR, ho, hx, hf0]
      have h2 : flC xss k1 = 2 := by simp [flC, ho, hx, hf0]
      rw [h1, h2]
      have HF0 := Lib.hid hf0
      clear hx ha hr ho hman hn hc0 hsys hallq h1 h2 hf0
      go_enter Try.func52, Try.ntmps52
      go_wp2_with fail
      refine (iMan_any _ HX.out (HA.out.al _) hN HR.out).mono ?_
      rintro e w1 ⟨rfl, bel⟩
      rw [HO.out]
      have BX1 := Lib.hid (BX0.out.go bel)
      have HC1 := Lib.hid (cell_be (cell_al HC0.out _) bel)
      have hbc1 := BX1.out.cell
      clear bel BX0
      go_wp2_with fail
      refine (iRank_bel _ _ HF0.out).mono ?_
      rintro e w2 ⟨rfl, bel⟩
      have BX2 := Lib.hid (BX1.out.go bel)
      have HC2 := Lib.hid (cell_be HC1.out bel)
      have hbc2 := BX2.out.cell
      clear bel hbc1
      go_wp2
      go_ret2
      exact ⟨none, 0, rfl, World.ownsRow_nil _ _ _ _, BX2.out.below⟩
    · skip
      obtain ⟨p0, rfl, hp0⟩ := flagB_true hf0
      have h1 : flR xss (p0 : Int) = facL xss n p0 := by simp [flR, ho, hn, hx, hf0]
      have h2 : flC xss (p0 : Int) = 0 := by simp [flC, ho, hx, hf0]
      rw [h1, h2]
      have HF0 := Lib.hid hf0
      clear hx ha hr ho hman hn hc0 hsys hallq h1 h2 hf0
      go_enter Try.func52, Try.ntmps52
      go_wp2_with fail
      refine (iMan_any _ HX.out (HA.out.al _) hN HR.out).mono ?_
      rintro e w1 ⟨rfl, bel⟩
      rw [HO.out]
      have BX1 := Lib.hid (BX0.out.go bel)
      have HC1 := Lib.hid (cell_be (cell_al HC0.out _) bel)
      have hbc1 := BX1.out.cell
      clear bel BX0
      go_wp2_with fail
      refine (iRank_bel _ _ HF0.out).mono ?_
      rintro e w2 ⟨rfl, bel⟩
      have BX2 := Lib.hid (BX1.out.go bel)
      have HC2 := Lib.hid (cell_be HC1.out bel)
      have hbc2 := BX2.out.cell
      clear bel hbc1
      have HAB := Lib.hid (HA.out.keep BX2.out.below)
      go_wp2_with fail
      refine (ifaces_any _ HX.out HAB.out HSY.out HC2.out hp0 hcap hc63 (by omega)).mono ?_
      rintro e w3 ⟨A9, c9, rfl, own, bel⟩
      have OWN := Lib.hid own
      have BX3 := Lib.hid (BX2.out.go bel)
      have HS := Lib.hid BX2.out.below.size
      clear bel hbc2 own
      go_wp2
      go_ret2
      exact ⟨A9, c9, rfl, own_base OWN.out HS.out, BX3.out.below⟩
set_option maxHeartbeats 1600000 in
theorem sFaceCounts_any {A : Option Addr} {c N : Nat} {xss : List (List Int)} (w : World) (hx : xss.length = N) (ha : RdSS w A xss) (hN : N ≤ 1048576) (hr : ∀ xs ∈ xss, (xs.length : Int) ≤ 1048576) :
    Calls Try.prog 50 #[.agg #[.slice A N c]] w (RetS w (fcR xss) (manC xss)) := by
  have HX := Lib.hid hx
  have HA := Lib.hid ha
  have HR := Lib.hid hr
  cases ho : okMan xss
  · have h1 : fcR xss = [] := by simp [fcR, ho]
    have h2 : manC xss = 1 := by simp [manC, ho]
    rw [h1, h2]
    have HO := Lib.hid ho
    clear hx ha hr ho h1 h2
    go_enter Try.func50, Try.ntmps50
    go_wp2_with fail
    refine (sIs_any _ HX.out (HA.out.al _) hN HR.out).mono ?_
    rintro e w1 ⟨rfl, bel⟩
    rw [HO.out]
    have BEL := Lib.hid bel
    clear bel
    go_wp2
    go_ret2
    exact ⟨none, 0, rfl, World.ownsRow_nil _ _ _ _, (below1 w _).trans (BEL.out.mono (by simp))⟩
  · have hman := okMan_iff.1 ho
    have hsys := hman.sys
    have hn4 := hman.f4
    have hn2 := hman.f2
    have hpos := hman.pos hx
    have hallq : ∀ q : Nat, q < flN xss → (orbL xss (flN xss) q).length = flN xss := fun q hq => hman.all hq
    obtain ⟨b, o, A0, c0, rfl, hc0⟩ := man_row0 hman ha
    obtain ⟨n, hn⟩ : ∃ n, flN xss = n := ⟨_, rfl⟩
    rw [hn] at hc0 hsys hn4 hn2 hallq
    have HC0 := Lib.hid hc0
    have HO := Lib.hid ho
    have HSY := Lib.hid hsys
    have HALLQ := Lib.hid hallq
    have HMAN := Lib.hid hman
    have HFL := Lib.hid hn
    have BX0 := Lib.hid (Bx.start w (.slice (some ⟨b, o, none⟩) N c) 51)
    have hn6 : n ≤ 1048576 := by omega
    have h1 : fcR xss = cntTo xss n N := by simp [fcR, ho, hn, hx]
    have h2 : manC xss = 0 := by simp [manC, ho]
    rw [h1, h2]
    clear hx ha hr ho hman hn hc0 hsys hallq h1 h2
    go_enter Try.func50, Try.ntmps50
    go_wp2_with fail
    refine (sIs_any _ HX.out (HA.out.al _) hN HR.out).mono ?_
    rintro e w1 ⟨rfl, bel⟩
    rw [HO.out]
    have BX1 := Lib.hid (BX0.out.go bel)
    have HC1 := Lib.hid (cell_be (cell_al HC0.out _) bel)
    have hbc1 := BX1.out.cell
    clear bel BX0
    have HAB := Lib.hid (HA.out.keep BX1.out.below)
    go_wp2_with fail
    refine (retN1c (scnt_any _ HX.out HAB.out HSY.out HC1.out) (cntTo_len _ _ _)).mono ?_
    rintro e w2 ⟨A9, c9, rfl, own, bel⟩
    have OWN := Lib.hid own
    have BX2 := Lib.hid (BX1.out.go bel)
    have HS := Lib.hid BX1.out.below.size
    clear bel hbc1 own
    go_wp2
    go_ret2
    exact ⟨A9, c9, rfl, own_base OWN.out HS.out, BX2.out.below⟩
set_option maxHeartbeats 1600000 in
theorem iFaceCounts_any {A : Option Addr} {c N : Nat} {xss : List (List Int)} (w : World) (hx : xss.length = N) (ha : RdSS w A xss) (hN : N ≤ 1048576) (hr : ∀ xs ∈ xss, (xs.length : Int) ≤ 1048576) (hcap : N ≤ c) (hc63 : c ≤ 9223372036854775807) :
    Calls Try.prog 49 #[.agg #[.slice A N c]] w (RetS w (fcR xss) (manC xss)) := by
  have HX := Lib.hid hx
  have HA := Lib.hid ha
  have HR := Lib.hid hr
  cases ho : okMan xss
  · have h1 : fcR xss = [] := by simp [fcR, ho]
    have h2 : manC xss = 1 := by simp [manC, ho]
    rw [h1, h2]
    have HO := Lib.hid ho
    clear hx ha hr ho h1 h2
    go_enter Try.func49, Try.ntmps49
    go_wp2_with fail
    refine (iMan_any _ HX.out (HA.out.al _) hN HR.out).mono ?_
    rintro e w1 ⟨rfl, bel⟩
    rw [HO.out]
    have BEL := Lib.hid bel
    clear bel
    go_wp2
    go_ret2
    exact ⟨none, 0, rfl, World.ownsRow_nil _ _ _ _, (below1 w _).trans (BEL.out.mono (by simp))⟩
  · have hman := okMan_iff.1 ho
    have hsys := hman.sys
    have hn4 := hman.f4
    have hn2 := hman.f2
    have hpos := hman.pos hx
    have hallq : ∀ q : Nat, q < flN xss → (orbL xss (flN xss) q).length = flN xss := fun q hq => hman.all hq
    obtain ⟨b, o, A0, c0, rfl, hc0⟩ := man_row0 hman ha
    obtain ⟨n, hn⟩ : ∃ n, flN xss = n := ⟨_, rfl⟩
    rw [hn] at hc0 hsys hn4 hn2 hallq
    have HC0 := Lib.hid hc0
    have HO := Lib.hid ho
    have HSY := Lib.hid hsys
    have HALLQ := Lib.hid hallq
    have HMAN := Lib.hid hman
    have HFL := Lib.hid hn
    have BX0 := Lib.hid (Bx.start w (.slice (some ⟨b, o, none⟩) N c) 51)
    have hn6 : n ≤ 1048576 := by omega
    have h1 : fcR xss = cntTo xss n N := by simp [fcR, ho, hn, hx]
    have h2 : manC xss = 0 := by simp [manC, ho]
    rw [h1, h2]
    clear hx ha hr ho hman hn hc0 hsys hallq h1 h2
    go_enter Try.func49, Try.ntmps49
    go_wp2_with fail
    refine (iMan_any _ HX.out (HA.out.al _) hN HR.out).mono ?_
    rintro e w1 ⟨rfl, bel⟩
    rw [HO.out]
    have BX1 := Lib.hid (BX0.out.go bel)
    have HC1 := Lib.hid (cell_be (cell_al HC0.out _) bel)
    have hbc1 := BX1.out.cell
    clear bel BX0
    have HAB := Lib.hid (HA.out.keep BX1.out.below)
    go_wp2_with fail
    refine (retN1c (icnt_any _ HX.out HAB.out HSY.out HC1.out hcap hc63 (by omega)) (cntTo_len _ _ _)).mono ?_
    rintro e w2 ⟨A9, c9, rfl, own, bel⟩
    have OWN := Lib.hid own
    have BX2 := Lib.hid (BX1.out.go bel)
    have HS := Lib.hid BX1.out.below.size
    clear bel hbc1 own
    go_wp2
    go_ret2
    exact ⟨A9, c9, rfl, own_base OWN.out HS.out, BX2.out.below⟩
end Go.Proofs.Ytjkddoiacifhpaa
