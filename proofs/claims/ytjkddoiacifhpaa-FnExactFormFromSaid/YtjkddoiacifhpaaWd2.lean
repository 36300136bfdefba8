import Derived.Test.YtjkddoiacifhpaaEst
import Derived.Test.YtjkddoiacifhpaaWd1
import Derived.StillTailTactics
namespace Go.Proofs.Ytjkddoiacifhpaa
open Go.RowKit

theorem own_cap {w : World} {base e n c g : Nat} {vs : List Value} (h : w.ownsRow base e 1 (.slice (some ⟨g, 0, none⟩) n c) n vs) : n ≤ c := by
  rcases h.2 with ⟨hv, _⟩ | ⟨g', cap, cur, hv, _, _, hc, _⟩
  · cases hv
  · simp only [Value.slice.injEq] at hv
    omega
theorem rinv_len {xss : List (List Int)} {n i j : Nat} {p : Int} {O D : List Int} (h : RInv xss n p O i j D) : D.length = n := h.1
/-- A list of at most 400 that stands for a distance or is 400. -/
theorem rinv_val {xss : List (List Int)} {n i j i' r : Nat} {p : Int} {O D : List Int} (ho : OInv xss n p i' O) (hall : ∀ y : Nat, y < n → (y : Int) ∈ O) (h : RInv xss n p O i j D) (hr : r < n) (hn : n ≤ 400) : ∃ v : Nat, D[r]? = some (v : Int) ∧ v ≤ 400 := by
  rcases h.2 r hr with ⟨d, h1, h2⟩ | ⟨h1, _⟩
  · obtain ⟨a, ha, hx⟩ := List.mem_iff_getElem.1 (hall r hr)
    have := ho.idx a r d (by rw [List.getElem?_eq_getElem ha, hx]) h2
    have := passed_len ho.ps
    exact ⟨d, h1, by omega⟩
  · exact ⟨400, h1, by omega⟩

set_option maxHeartbeats 6400000 in
set_option maxRecDepth 8000 in
theorem idist_any {b o c N n c0 p : Nat} {A0 : Option Addr} {xss : List (List Int)} (w : World) (hx : xss.length = N) (ha : RdSS w (some ⟨b, o, none⟩) xss) (hN : N ≤ 1048576) (hsys : okSys n xss = true) (h0 : w.cell? ⟨b, o, none⟩ = some (.slice A0 n c0)) (hpos : 0 < N) (hp : p < n) (h2 : 2 ≤ n) (hall : (orbL xss n p).length = n) :
    Calls Try.prog 139 #[.agg #[.slice (some ⟨b, o, none⟩) N c], .int .i64 p] w (Ret1 w (distL xss n p)) := by
  have HX := Lib.hid hx
  have HA := Lib.hid ha
  have HS := Lib.hid hsys
  have HC0 := Lib.hid h0
  have HALL := Lib.hid hall
  have hn4 := (sys_parts hsys).2.1
  have hn4' : n ≤ 400 := by omega
  have BX0 := Lib.hid (Bx.start w (.slice (some ⟨b, o, none⟩) N c) 51)
  obtain ⟨j0, hj0, ho⟩ := oinv_orb hsys hp
  have HO := Lib.hid ho
  have HIN := Lib.hid (show ∀ y : Nat, y < n → (y : Int) ∈ orbL xss n p from fun y hy => mem_all hall (orb_passed hsys hp) hy)
  have FAR := Lib.hid (far_all (orb_passed hsys hp) hall ho.hd)
  clear hx ha hsys h0 hall ho hj0
  have hmk := run_make_row' (P := Try.prog) 24 2 (.int .i64 0) 8 Try.underlying24 Try.info2 rfl .i64 .i64 n (by omega) (by omega)
  go_enter Try.func139, Try.ntmps139
  go_wp2_with fail
  refine (flagsFrom_any _ HX.out (HA.out.al _) hN HS.out hpos hp).mono ?_
  rintro e w1 ⟨A1, c1, rfl, own, bel⟩
  rw [HALL.out] at own ⊢
  have BX1 := Lib.hid (BX0.out.go bel)
  have ST := Lib.hid (eys_start (own_base own (by simp)) BX1.out hn4')
  obtain ⟨g1, rfl⟩ := own_shape own (by omega)
  have hcap := own_cap own
  have h1c : 1 < c1 := by omega
  clear own bel BX0
  go_wp2
  clear hmk
  go_loopw [22] (fun i wr => ∃ j : Nat, j ≤ n - 1 ∧ i = .int .i64 j ∧ EyS w wr (.slice (some ⟨b, o, none⟩) N c) 51 w1.heap.size n (some ⟨g1, 0, none⟩) c1 (setAll 400 (((orbL xss n p).drop 1).take j) (List.replicate n 0)) (orbL xss n p)) (fun i _ => n - 1 - (intOf i).toNat)
  case atStart => exact ⟨0, Nat.zero_le _, rfl, by simpa [setAll] using ST.out⟩
  case round =>
    obtain ⟨j, hj, rfl, st⟩ := hrel
    have S := Lib.hid st
    clear st
    by_cases hlt : j < n - 1
    · obtain ⟨q, hq, hqn⟩ := orb_at HS.out hp (show j + 1 < (orbL xss n p).length by rw [HALL.out]; omega)
      have hcx := own_cell S.out.rch (show (ints (orbL xss n p))[j + 1]? = some (.int .i64 q) by simp [hq])
      rw [Nat.add_comm] at hcx
      obtain ⟨u, hu⟩ := ints_at S.out.len.2 hqn
      have hcq := own_cell S.out.out hu
      have hfr := S.out.out.frozenAt q
      have S2 := Lib.hid (S.out.set q 400)
      have HE := Lib.hid (setAll_succ (z := 400) (D := List.replicate n 0) (show ((orbL xss n p).drop 1)[j]? = some (q : Int) by rw [List.getElem?_drop, Nat.add_comm]; exact hq))
      clear hq hu
      go_wp2
      go_roundw
      case rel => exact ⟨j + 1, by omega, by go_num, by rw [← HE.out]; exact S2.out⟩
      case measure => simp [intOf]; omega
    · have h := S.out
      rw [List.take_of_length_le (by rw [List.length_drop, HALL.out]; omega), FAR.out] at h
      have S1 := Lib.hid h
      have R0 := Lib.hid (rinv_start (xss := xss) (O := orbL xss n p) hp)
      clear h S ST FAR
      obtain ⟨g, hg⟩ : ∃ g : Nat, w1.heap.size = g := ⟨_, rfl⟩
      rw [hg] at S1 ⊢
      clear hg
      go_wp2
      go_loopw [32] (fun i wr => ∃ (j : Nat) (D : List Int), j ≤ n ∧ i = .int .i64 j ∧ EyS w wr (.slice (some ⟨b, o, none⟩) N c) 51 g n (some ⟨g1, 0, none⟩) c1 D (orbL xss n p) ∧ RInv xss n p (orbL xss n p) j 0 D) (fun i _ => n - (intOf i).toNat)
      case atStart => exact ⟨0, _, Nat.zero_le _, rfl, S1.out, R0.out⟩
      case round =>
        obtain ⟨i, D, hi, rfl, st, ri⟩ := hrel
        have S := Lib.hid st
        have RI := Lib.hid ri
        have hbc := st.bx.cell
        clear st ri S1 R0
        by_cases hlt : i < n
        · obtain ⟨q, hq, hqn⟩ := orb_at HS.out hp (show i < (orbL xss n p).length by rw [HALL.out]; omega)
          have hcx := own_cell S.out.rch (show (ints (orbL xss n p))[i]? = some (.int .i64 q) by simp [hq])
          have HQ := Lib.hid hq
          clear hq
          go_wp2
          clear hcx hbc
          go_loopw [39] (fun v wi => ∃ (j : Nat) (D : List Int), j ≤ N ∧ v = .int .i64 j ∧ EyS w wi (.slice (some ⟨b, o, none⟩) N c) 51 g n (some ⟨g1, 0, none⟩) c1 D (orbL xss n p) ∧ RInv xss n p (orbL xss n p) i j D) (fun v _ => N - (intOf v).toNat)
          case atStart => exact ⟨0, D, Nat.zero_le _, rfl, S.out, RI.out⟩
          case round =>
            obtain ⟨j, D2, hj, rfl, st2, ri2⟩ := hrel
            have S2 := Lib.hid st2
            have R2 := Lib.hid ri2
            clear st2 ri2 S RI
            by_cases hjl : j < N
            · obtain ⟨b3, o3, A4, c4, gg, he, hg, hc, hrd, hms⟩ := (bx_rd S2.out.bx HA.out).row (k := j) (by rw [HX.out]; exact hjl)
              obtain ⟨rfl, rfl⟩ : b = b3 ∧ o = o3 := by simpa using he
              have hlg := sys_len HS.out hg
              obtain ⟨l, hl⟩ : ∃ l, gg.length = l := ⟨_, rfl⟩
              rw [hl] at hc hms hlg
              obtain ⟨b4, o4, y, rfl, hgy, hcy⟩ := hrd.int (k := q) (by omega)
              obtain ⟨r, rfl, hr0⟩ := sys_at HS.out hg hgy
              have hrn : r < n := by omega
              obtain ⟨d, hDq, hdd, hdi⟩ := rinv_at HO.out HIN.out HS.out R2.out HQ.out hqn
              obtain ⟨v, hDr, hv4⟩ := rinv_val HO.out HIN.out R2.out hrn hn4'
              have hcq := own_cell S2.out.out (show (ints D2)[q]? = some (.int .i64 d) by simp [hDq])
              have hcr := own_cell S2.out.out (show (ints D2)[r]? = some (.int .i64 v) by simp [hDr])
              have hfr := S2.out.out.frozenAt r
              have R3 := Lib.hid (rinv_step HO.out HIN.out HS.out R2.out HQ.out hg (show fz gg q = (r : Int) by simp [fz, hgy]) hn4' hdd hDr)
              have S3 := Lib.hid (S2.out.set r (min (v : Int) ((d : Int) + 1)))
              clear he hgy hrd hg hDq hDr hdd
              go_wp2
              go_still_tail 19, (by kernel_rfl)
              have S4 := Lib.hid (S2.out.drewN 1)
              have S5 := Lib.hid (S4.out.set r (min (v : Int) ((d : Int) + 1)))
              clear S3
              go_wp2
              go_roundw
              case rel => exact ⟨j + 1, _, by omega, by go_num, S5.out, R3.out⟩
              case measure => simp [intOf]; omega
            · have h := R2.out
              rw [show j = xss.length by rw [HX.out]; omega] at h
              have R3 := Lib.hid (rinv_next h)
              clear h
              go_wp2
              go_roundw
              case rel => exact ⟨i + 1, D2, by omega, by go_num, S2.out, R3.out⟩
              case measure => simp [intOf]; omega
        · have hD := distL_eq (rinv_done HO.out HIN.out HS.out RI.out (by rw [HALL.out]; omega))
          obtain rfl : D = distL xss n p := hD
          have HDL := Lib.hid S.out.len.2
          go_wp2
          go_ret
          exact ⟨_, n, by rw [HDL.out]; rfl, by rw [HDL.out]; exact own_base S.out.out (by omega), S.out.bx.below⟩
end Go.Proofs.Ytjkddoiacifhpaa
