/- spec.ExtendManiplex, ExtendInside. -/
import Derived.Test.YtmikoihpmhfafaaRm
import Derived.Test.YtmikoihpmhfafaaL12
import Derived.Laws.Bits64b
namespace Go.Proofs.Ytmikoihpmhfafaa
open Go.RowKit

theorem xor_one (f : Nat) : f ^^^ 1 = if f % 2 = 0 then f + 1 else f - 1 := by
  have h1 : (f ^^^ 1) / 2 = f / 2 := by
    have := Nat.xor_div_two (a := f) (b := 1)
    simpa using this
  have h2 : (f ^^^ 1) % 2 = 1 ↔ ¬ f % 2 = 1 := by simp [Nat.xor_mod_two_eq_one (a := f) (b := 1)]
  split <;> omega
theorem i64_xor_one (a : Nat) (ha : a < 1000000) : bits .xor .i64 (a : Int) 1 = ((if a % 2 = 0 then a + 1 else a - 1 : Nat) : Int) := by
  rw [← xor_one]
  have hx : a ^^^ 1 < 1000002 := by rw [xor_one]; split <;> omega
  have h1 : (BitVec.ofInt 64 (a : Int)).toNat = a := by
    rw [BitVec.ofInt_natCast, BitVec.toNat_ofNat]; exact Nat.mod_eq_of_lt (by omega)
  have h2 : (BitVec.ofInt 64 (1 : Int)).toNat = 1 := by decide
  show IntKind.i64.wrap ((BitVec.ofInt 64 (a : Int) ^^^ BitVec.ofInt 64 1).toNat : Int) = _
  rw [BitVec.toNat_xor, h1, h2]
  exact IntWalk.i64_in _ (by omega)
/-- The move that changes the halves, and what becomes of a move. -/
def tuL (M : Nat) : List Int := (List.range M).map fun (f : Nat) => ((if f % 2 = 0 then f + 1 else f - 1 : Nat) : Int)
def mvL (M : Nat) (m : List Int) : List Int := (List.range M).map fun (f : Nat) => 2 * fz m ((f / 2 : Nat) : Int) + ((f % 2 : Nat) : Int)
def mvS (M : Nat) (xss : List (List Int)) : List (List Int) := xss.map (mvL M)
def exL (inner : Bool) (n : Nat) (xss : List (List Int)) : List (List Int) := if inner = true then tuL (2 * n) :: mvS (2 * n) xss else mvS (2 * n) xss ++ [tuL (2 * n)]
theorem tuL_len (M : Nat) : (tuL M).length = M := by simp [tuL]
theorem mvL_len (M : Nat) (m : List Int) : (mvL M m).length = M := by simp [mvL]
theorem mvS_len (M : Nat) (xss : List (List Int)) : (mvS M xss).length = xss.length := by simp [mvS]
theorem tuL_succ {M f : Nat} (h : f < M) : (tuL M).take (f + 1) = (tuL M).take f ++ [((if f % 2 = 0 then f + 1 else f - 1 : Nat) : Int)] := by
  rw [List.take_add_one]
  simp [tuL, h]
theorem mvL_succ {M f : Nat} {m : List Int} (h : f < M) : (mvL M m).take (f + 1) = (mvL M m).take f ++ [2 * fz m ((f / 2 : Nat) : Int) + ((f % 2 : Nat) : Int)] := by
  rw [List.take_add_one]
  simp [mvL, h]
theorem mvS_succ {M k : Nat} {xss : List (List Int)} {m : List Int} (h : xss[k]? = some m) : (mvS M xss).take (k + 1) = (mvS M xss).take k ++ [mvL M m] := by
  rw [List.take_add_one]
  simp [mvS, h]
theorem exL_len (inner : Bool) (n : Nat) (xss : List (List Int)) : (exL inner n xss).length = xss.length + 1 := by
  unfold exL
  split <;> simp [mvS_len]
noncomputable def exR (inner : Bool) (xss : List (List Int)) : List (List Int) := if okMan xss = true ∧ xss.length ≠ 5 ∧ flN xss ≤ 200 then exL inner (flN xss) xss else []
noncomputable def exC (xss : List (List Int)) : Int := if okMan xss = true then (if xss.length = 5 then 5 else (if flN xss ≤ 200 then 0 else 3)) else 1

set_option maxHeartbeats 3200000 in
set_option maxRecDepth 8000 in
theorem sext_any {A : Option Addr} {c N : Nat} {xss : List (List Int)} (inner : Bool) (w : World) (hx : xss.length = N) (ha : RdSS w A xss) (hN : N ≤ 1048576) (hr : ∀ xs ∈ xss, (xs.length : Int) ≤ 1048576) :
    Calls Try.prog 98 #[.agg #[.slice A N c], .bool inner] w (RetMC w (exR inner xss) (exC xss)) := by
  have HX := Lib.hid hx
  have HA := Lib.hid ha
  have HR := Lib.hid hr
  have st0 := ((St.start w).addBlk #[.slice A N c] 26).addBlk #[.slice none 0 0] 26
  simp at st0
  have S0 := Lib.hid st0
  have hbc := (st0.blk (i := 0) rfl).cell (i := 0) rfl
  clear st0
  cases ho : okMan xss
  · have h1 : exR inner xss = [] := by simp [exR, ho]
    have h2 : exC xss = 1 := by simp [exC, ho]
    rw [h1, h2]
    have HO := Lib.hid ho
    clear hx ha hr ho h1 h2
    go_enter Try.func98, Try.ntmps98
    go_wp2_with fail
    refine (sIs_any _ HX.out (HA.out.keep S0.out.below) hN HR.out).mono ?_
    rintro e w1 ⟨rfl, bel⟩
    rw [HO.out]
    have st1 := S0.out.go bel
    have z0 := (st1.blk (i := 1) rfl).cell (i := 0) rfl
    have f0 := (st1.blk (i := 1) rfl).free 0
    have S1 := Lib.hid st1
    clear bel hbc st1
    go_wp2
    have st4 := S1.out.blkSet (i := 1) rfl 0 (.slice none 0 0)
    have y0 := (st4.blk (i := 1) rfl).cell (i := 0) rfl
    refine bodyPost_ret (v := .tuple #[.agg #[.slice none 0 0], .int .i64 1]) (by simp [results, Try.results98, go_sem, y0]) rfl ⟨none, 0, rfl, ownSS_nil _ _ _ _, st4.below⟩
  · have hman := okMan_iff.1 ho
    have hsys := hman.sys
    have hn4 := hman.f4
    have hn2 := hman.f2
    have hN5 := hman.r5
    have hpos := hman.pos hx
    rw [hx] at hN5
    obtain ⟨b, o, A0, c0, rfl, hc0⟩ := man_row0 hman ha
    obtain ⟨n, hn⟩ : ∃ n, flN xss = n := ⟨_, rfl⟩
    rw [hn] at hc0 hsys hn4 hn2
    have HC0 := Lib.hid hc0
    have HS := Lib.hid hsys
    have HO := Lib.hid ho
    by_cases h5 : N = 5
    · subst h5
      have h1 : exR inner xss = [] := by simp [exR, hx]
      have h2 : exC xss = 5 := by simp [exC, ho, hx]
      rw [h1, h2]
      clear hx ha hr ho h1 h2 hman hn hc0 hsys
      go_enter Try.func98, Try.ntmps98
      go_wp2_with fail
      refine (sIs_any _ HX.out (HA.out.keep S0.out.below) hN HR.out).mono ?_
      rintro e w1 ⟨rfl, bel⟩
      rw [HO.out]
      have st1 := S0.out.go bel
      clear hbc
      have hbc := (st1.blk (i := 0) rfl).cell (i := 0) rfl
      have z0 := (st1.blk (i := 1) rfl).cell (i := 0) rfl
      have f0 := (st1.blk (i := 1) rfl).free 0
      have S1 := Lib.hid st1
      clear bel st1
      go_wp2
      have st4 := S1.out.blkSet (i := 1) rfl 0 (.slice none 0 0)
      have y0 := (st4.blk (i := 1) rfl).cell (i := 0) rfl
      refine bodyPost_ret (v := .tuple #[.agg #[.slice none 0 0], .int .i64 5]) (by simp [results, Try.results98, go_sem, y0]) rfl ⟨none, 0, rfl, ownSS_nil _ _ _ _, st4.below⟩
    · have hne5 : ((N : Int) == 5) = false := by rw [beq_eq_false_iff_ne]; omega
      by_cases h200 : n ≤ 200
      · have h1 : exR inner xss = exL inner n xss := by rw [exR, if_pos ⟨ho, by rw [hx]; exact h5, by rw [hn]; exact h200⟩, hn]
        have h2 : exC xss = 0 := by simp [exC, ho, hx, h5, hn, h200]
        have hll : (exL inner n xss).length = N + 1 := by rw [exL_len, hx]
        obtain ⟨M, hM⟩ : ∃ M, 2 * n = M := ⟨_, rfl⟩
        have jM : IntKind.i64.wrap (2 * (n : Int)) = (M : Int) := (IntWalk.i64_in _ (by omega)).trans (by omega)
        rw [h1, h2]
        have HLL := Lib.hid hll
        have HM := Lib.hid hM
        have hMb : M ≤ 400 := by omega
        have hI2 : ¬ (200 : Int) < (n : Int) := by omega
        clear hx ha hr ho h1 h2 hman hn hc0 hsys hll hM
        go_enter Try.func98, Try.ntmps98
        go_wp2_with fail
        refine (sIs_any _ HX.out (HA.out.keep S0.out.below) hN HR.out).mono ?_
        rintro e w1 ⟨rfl, bel⟩
        rw [HO.out]
        have S1 := Lib.hid (S0.out.go bel)
        clear bel hbc
        have hbc := (S1.out.blk (i := 0) rfl).cell (i := 0) rfl
        go_wp2_with fail
        refine (sFlags_bel _ hpos (cell_be HC0.out S1.out.below)).mono ?_
        rintro e w2 ⟨rfl, bel⟩
        have S2 := Lib.hid (((S1.out.go bel).addMade 2).addMadeRows 2 31)
        clear bel hbc S1
        go_wp2
        go_loopw [6, 8] (fun u v wr => ∃ (f c6 : Nat) (A6 : Option Addr), f ≤ M ∧ u = .slice A6 f c6 ∧ v = .int .i64 f ∧ St w wr [.blk w.heap.size #[.slice (some ⟨b, o, none⟩) N c] 26, .blk (w.heap.size + 1) #[.slice none 0 0] 26, .own 2 A6 f c6 (ints ((tuL M).take f)), .rows 2 31 (some ⟨w2.heap.size + 1, 0, none⟩) 0 0 [] []]) (fun _ v _ => M - (intOf v).toNat)
        case atStart => exact ⟨0, 0, _, Nat.zero_le _, rfl, rfl, by simpa using S2.out⟩
        case round =>
          obtain ⟨f, c6, A6, hf, rfl, rfl, st⟩ := hrel
          have hbc := (st.blk (i := 0) rfl).cell (i := 0) rfl
          have S3 := Lib.hid st
          clear st S2
          by_cases hfM : f < M
          · have fI : (f : Int) < (M : Int) := by omega
            have jx := i64_xor_one f (by omega)
            obtain ⟨x, hxx⟩ : ∃ x : Nat, (if f % 2 = 0 then f + 1 else f - 1) = x := ⟨_, rfl⟩
            rw [hxx] at jx
            have HSU := Lib.hid (show (tuL M).take (f + 1) = (tuL M).take f ++ [(x : Int)] by rw [tuL_succ hfM, hxx])
            clear hxx
            go_wp2_with fail
            refine (sFlags_bel _ hpos (cell_be HC0.out S3.out.below)).mono ?_
            rintro e wa ⟨rfl, bel⟩
            have S4 := Lib.hid (S3.out.go bel)
            have hlo := S4.out.lo
            clear bel hbc S3
            go_wp2_with (at_builtin; refine wpList_push_at _ rfl _ _ 31 2 rfl Try.underlying31 (.int .i64 0) 8 Try.info2 rfl w.heap.size _ _ _ rfl (S4.out.own (i := 2) rfl) _ rfl rfl (by omega) (by omega) hlo ?_)
            intro A7 c7 w7 own7 gr7 hat7
            have own8 : w7.ownsRow w.heap.size 2 1 (.slice A7 (f + 1) c7) (f + 1) (ints ((tuL M).take (f + 1))) := by
              rw [HSU.out]
              simpa [ints] using own7
            have S7 := Lib.hid (S4.out.push (i := 2) rfl own8 gr7 hat7)
            clear own7 own8 gr7 hat7
            go_wp2
            go_roundw
            case rel => exact ⟨f + 1, _, _, by omega, rfl, by go_num, S7.out⟩
            case measure => simp [intOf]; omega
          · obtain rfl : f = M := by omega
            have fI : ¬ (f : Int) < (f : Int) := by omega
            go_wp2_with fail
            refine (sFlags_bel _ hpos (cell_be HC0.out S3.out.below)).mono ?_
            rintro e wa ⟨rfl, bel⟩
            have st4 := S3.out.go bel
            rw [List.take_of_length_le (l := tuL f) (by rw [tuL_len]; exact Nat.le_refl _)] at st4
            have S4 := Lib.hid st4
            clear bel hbc S3 st4
            go_wp2
            go_loopw [7, 9] (fun u v wr => ∃ (k cR : Nat) (AR : Option Addr) (vals : List Value), k ≤ N ∧ u = .slice AR k cR ∧ v = .int .i64 k ∧ St w wr [.blk w.heap.size #[.slice (some ⟨b, o, none⟩) N c] 26, .blk (w.heap.size + 1) #[.slice none 0 0] 26, .own 2 A6 f c6 (ints (tuL f)), .rows 2 31 AR k cR vals ((mvS f xss).take k)]) (fun _ v _ => N - (intOf v).toNat)
            case atStart => exact ⟨0, 0, _, [], Nat.zero_le _, rfl, rfl, S4.out⟩
            case round =>
              obtain ⟨k, cR, AR, vals, hk, rfl, rfl, st⟩ := hrel
              clear S4
              have hbc := (st.blk (i := 0) rfl).cell (i := 0) rfl
              by_cases hkN : k < N
              · have kI : (k : Int) < (N : Int) := by omega
                obtain ⟨m, hm⟩ : ∃ m, xss[k]? = some m := ⟨_, List.getElem?_eq_getElem (by rw [HX.out]; exact hkN)⟩
                have HM2 := Lib.hid hm
                have S5 := Lib.hid (st.addMade 2)
                obtain ⟨wo, hwo⟩ : ∃ wo, wo = wr := ⟨_, rfl⟩
                subst hwo
                clear st hm
                go_wp2
                clear hbc
                go_loopw [10, 11] (fun u v wr => ∃ (g c7 : Nat) (A7 : Option Addr), g ≤ f ∧ u = .slice A7 g c7 ∧ v = .int .i64 g ∧ St w wr [.blk w.heap.size #[.slice (some ⟨b, o, none⟩) N c] 26, .blk (w.heap.size + 1) #[.slice none 0 0] 26, .own 2 A6 f c6 (ints (tuL f)), .rows 2 31 AR k cR vals ((mvS f xss).take k), .own 2 A7 g c7 (ints ((mvL f m).take g))]) (fun _ v _ => f - (intOf v).toNat)
                case atStart => exact ⟨0, 0, _, Nat.zero_le _, rfl, rfl, S5.out⟩
                case round =>
                  obtain ⟨g, c7, A7, hg, rfl, rfl, st⟩ := hrel
                  have hbc := (st.blk (i := 0) rfl).cell (i := 0) rfl
                  have S6 := Lib.hid st
                  clear st S5
                  by_cases hgf : g < f
                  · have gI : (g : Int) < (f : Int) := by omega
                    go_wp2_with fail
                    refine (sFlags_bel _ hpos (cell_be HC0.out S6.out.below)).mono ?_
                    rintro e wa ⟨rfl, bel⟩
                    have S7 := Lib.hid (S6.out.go bel)
                    have hlo := S7.out.lo
                    clear bel hbc S6
                    have hbc := (S7.out.blk (i := 0) rfl).cell (i := 0) rfl
                    obtain ⟨b3, o3, A4, c4, m', he, hg3, hc3, hrd, hms⟩ := (HA.out.keep S7.out.below).row (k := k) (by rw [HX.out]; exact hkN)
                    obtain ⟨rfl, rfl⟩ : b = b3 ∧ o = o3 := by simpa using he
                    obtain rfl : m' = m := by rw [HM2.out] at hg3; injection hg3 with hg3; exact hg3.symm
                    have hml := sys_len HS.out hg3
                    obtain ⟨lm, hlm⟩ : ∃ l, m'.length = l := ⟨_, rfl⟩
                    rw [hlm] at hc3 hms hml
                    obtain ⟨p, hp⟩ : ∃ p, g / 2 = p := ⟨_, rfl⟩
                    obtain ⟨r, hr⟩ : ∃ r, g % 2 = r := ⟨_, rfl⟩
                    have hM3 := HM.out
                    obtain ⟨b4, o4, y, rfl, hgy, hcy⟩ := hrd.int (k := p) (by omega)
                    obtain ⟨y, rfl, hy0⟩ := sys_at HS.out hg3 hgy
                    have q1 : (g : Int) / 2 = (p : Int) := by omega
                    have q2 : (g : Int) % 2 = (r : Int) := by omega
                    have q3 : (g : Int).tdiv 2 = (p : Int) := by rw [Int.tdiv_eq_ediv_of_nonneg (by omega)]; exact q1
                    have q4 : (g : Int).tmod 2 = (r : Int) := by rw [Int.tmod_eq_emod_of_nonneg (by omega)]; exact q2
                    have j1 : IntKind.i64.wrap (2 * (y : Int)) = ((2 * y : Nat) : Int) := (IntWalk.i64_in _ (by omega)).trans (by omega)
                    obtain ⟨z, hz⟩ : ∃ z, 2 * y = z := ⟨_, rfl⟩
                    rw [hz] at j1
                    obtain ⟨x, hxx⟩ : ∃ x, z + r = x := ⟨_, rfl⟩
                    have j2 : IntKind.i64.wrap ((z : Int) + (r : Int)) = (x : Int) := (IntWalk.i64_in _ (by omega)).trans (by omega)
                    have HSU := Lib.hid (show (mvL f m').take (g + 1) = (mvL f m').take g ++ [(x : Int)] by
                      rw [mvL_succ hgf, hp, hr, fz_at hgy]
                      congr 2
                      omega)
                    have pI : (p : Int) < (lm : Int) := by omega
                    clear he hg3 hrd hgy hlm hp hr hz hxx hM3
                    go_wp2_with (at_builtin; refine wpList_push_at _ rfl _ _ 31 2 rfl Try.underlying31 (.int .i64 0) 8 Try.info2 rfl w.heap.size _ _ _ rfl (S7.out.own (i := 4) rfl) _ rfl rfl (by omega) (by omega) hlo ?_)
                    intro A8 c8 w8 own7 gr7 hat7
                    have own8 : w8.ownsRow w.heap.size 2 1 (.slice A8 (g + 1) c8) (g + 1) (ints ((mvL f m').take (g + 1))) := by
                      rw [HSU.out]
                      simpa [ints] using own7
                    have S8 := Lib.hid (S7.out.push (i := 4) rfl own8 gr7 hat7)
                    clear own7 own8 gr7 hat7
                    go_wp2
                    go_roundw
                    case rel => exact ⟨g + 1, _, _, by omega, rfl, by go_num, S8.out⟩
                    case measure => simp [intOf]; omega
                  · obtain rfl : g = f := by omega
                    have gI : ¬ (g : Int) < (g : Int) := by omega
                    go_wp2_with fail
                    refine (sFlags_bel _ hpos (cell_be HC0.out S6.out.below)).mono ?_
                    rintro e wa ⟨rfl, bel⟩
                    have st7 := S6.out.go bel
                    rw [List.take_of_length_le (l := mvL g m) (by rw [mvL_len]; exact Nat.le_refl _)] at st7
                    have hlo := st7.lo
                    have S7 := Lib.hid st7
                    have HSU := Lib.hid (mvS_succ (M := g) HM2.out)
                    clear bel hbc S6 st7
                    go_wp2_with (at_builtin; refine wpList_push_at _ rfl _ _ 24 31 rfl Try.underlying24 (.slice none 0 0) 24 Try.infoS rfl w.heap.size _ _ _ rfl (S7.out.rows (i := 3) rfl) _ rfl rfl (by omega) (by omega) hlo ?_)
                    intro A8 c8 w8 own8 gr8 hat8
                    have st8 := (S7.out.rowPush (i := 3) (j := 4) rfl rfl (mvL_len _ _) (by decide) (by decide) own8 gr8 hat8).take 4
                    have S9 := Lib.hid (show St w w8 [.blk w.heap.size #[.slice (some ⟨b, o, none⟩) N c] 26, .blk (w.heap.size + 1) #[.slice none 0 0] 26, .own 2 A6 g c6 (ints (tuL g)), .rows 2 31 A8 (k + 1) c8 (vals ++ [.slice A7 g c7]) ((mvS g xss).take (k + 1))] from by
                      rw [HSU.out]
                      exact st8)
                    clear own8 gr8 hat8 st8
                    go_wp2
                    go_roundw
                    case rel => exact ⟨k + 1, _, _, _, by omega, rfl, by go_num, S9.out⟩
                    case measure => simp [intOf]; omega
              · obtain rfl : k = N := by omega
                have kI : ¬ (k : Int) < (k : Int) := by omega
                rw [List.take_of_length_le (l := mvS f xss) (by rw [mvS_len, HX.out]; exact Nat.le_refl _)] at st
                have hlo := st.lo
                cases inner
                · have S5 := Lib.hid st
                  clear st
                  go_wp2_with (at_builtin; refine wpList_push_at _ rfl _ _ 24 31 rfl Try.underlying24 (.slice none 0 0) 24 Try.infoS rfl w.heap.size _ _ _ rfl (S5.out.rows (i := 3) rfl) _ rfl rfl (by omega) (by omega) hlo ?_)
                  intro A8 c8 w8 own8 gr8 hat8
                  have st8 := (S5.out.rowPush (i := 3) (j := 2) rfl rfl (tuL_len _) (by decide) (by decide) own8 gr8 hat8)
                  have z0 := (st8.blk (i := 1) rfl).cell (i := 0) rfl
                  have f0 := (st8.blk (i := 1) rfl).free 0
                  have S8 := Lib.hid st8
                  clear own8 gr8 hat8 st8 hbc
                  go_wp2
                  have st9 := S8.out.blkSet (i := 1) rfl 0 (.slice A8 (k + 1) c8)
                  have y0 := (st9.blk (i := 1) rfl).cell (i := 0) rfl
                  refine bodyPost_ret (v := .tuple #[.agg #[.slice A8 (k + 1) c8], .int .i64 0]) (by simp [results, Try.results98, go_sem, y0]) rfl ⟨A8, c8, by rw [HLL.out], ?_, st9.below⟩
                  rw [HLL.out]
                  have e1 : exL false n xss = mvS f xss ++ [tuL f] := by simp [exL, HM.out]
                  rw [e1]
                  exact st9.sep.ownSS (i := 3) rfl
                · have st5 := st.rowLit (j := 2) rfl (tuL_len _) 31
                  have hlo5 := st5.lo
                  have S5 := Lib.hid st5
                  have hus : ∃ gA : Nat, AR = some ⟨gA, 0, none⟩ := own_shape (st.rows (i := 3) rfl) hpos
                  obtain ⟨gA, rfl⟩ := hus
                  have HUS := Lib.hid (show ∀ (j : Nat) (u : Value), vals[j]? = some u → (wr.alloc (.cells #[.slice A6 f c6] 31)).cell? ((⟨gA, 0, none⟩ : Addr).add j) = some u from fun j u hj => by
                    have h := own_cell (S5.out.rows (i := 3) rfl) hj
                    have e1 : ((⟨gA, 0, none⟩ : Addr).add j) = ⟨gA, j, none⟩ := by by_cases h : j = 0 <;> simp [Addr.add, h]
                    rw [e1]
                    exact h)
                  have hvl : vals.length = k := by have := (st.rows (i := 3) rfl).1; omega
                  have HVL := Lib.hid hvl
                  have HONE := Lib.hid (show ∀ u ∈ vals, u.oneCell' = true from fun u hu => by
                    obtain ⟨j, hj, hje⟩ := List.mem_iff_getElem.1 hu
                    have hjl : j < (mvS f xss).length := by rw [mvS_len, HX.out]; omega
                    obtain ⟨A', c', h1, _⟩ := st.rowAt (i := 3) (k := j) rfl (List.getElem?_eq_getElem hjl)
                    rw [List.getElem?_eq_getElem hj, hje] at h1
                    injection h1 with h1
                    subst h1
                    rfl)
                  have HOWN := Lib.hid (S5.out.rows (i := 4) rfl)
                  clear st st5 hvl
                  go_wp2_with (at_builtin; refine wpList_cat_at _ rfl _ _ 24 31 rfl Try.underlying24 (.slice none 0 0) 24 Try.infoS rfl w.heap.size _ _ _ rfl HOWN.out ⟨gA, 0, none⟩ k cR vals rfl HVL.out HUS.out HONE.out (by omega) (by omega) hlo5 ?_)
                  intro A8 c8 w8 own8 gr8 hat8
                  have st8 := S5.out.rowsCat (i := 4) (j := 3) rfl rfl (by decide) (by decide) own8 gr8 (by simpa using hat8)
                  have z0 := (st8.blk (i := 1) rfl).cell (i := 0) rfl
                  have f0 := (st8.blk (i := 1) rfl).free 0
                  have S8 := Lib.hid st8
                  clear own8 gr8 hat8 st8 hbc
                  go_wp2
                  have st9 := S8.out.blkSet (i := 1) rfl 0 (.slice A8 (1 + k) c8)
                  have y0 := (st9.blk (i := 1) rfl).cell (i := 0) rfl
                  refine bodyPost_ret (v := .tuple #[.agg #[.slice A8 (1 + k) c8], .int .i64 0]) (by simp [results, Try.results98, go_sem, y0]) rfl ⟨A8, c8, by rw [HLL.out, Nat.add_comm], ?_, st9.below⟩
                  rw [HLL.out, Nat.add_comm k 1]
                  have e1 : exL true n xss = [tuL f] ++ mvS f xss := by simp [exL, HM.out]
                  rw [e1]
                  exact st9.sep.ownSS (i := 4) rfl
      · have h1 : exR inner xss = [] := by rw [exR, if_neg (fun h => h200 (by rw [hn] at h; exact h.2.2))]
        have h2 : exC xss = 3 := by simp [exC, ho, hx, h5, hn, h200]
        rw [h1, h2]
        have hI2 : (200 : Int) < (n : Int) := by omega
        clear hx ha hr ho h1 h2 hman hn hc0 hsys
        go_enter Try.func98, Try.ntmps98
        go_wp2_with fail
        refine (sIs_any _ HX.out (HA.out.keep S0.out.below) hN HR.out).mono ?_
        rintro e w1 ⟨rfl, bel⟩
        rw [HO.out]
        have S1 := Lib.hid (S0.out.go bel)
        clear bel hbc
        have hbc := (S1.out.blk (i := 0) rfl).cell (i := 0) rfl
        go_wp2_with fail
        refine (sFlags_bel _ hpos (cell_be HC0.out S1.out.below)).mono ?_
        rintro e w2 ⟨rfl, bel⟩
        have st2 := S1.out.go bel
        have z0 := (st2.blk (i := 1) rfl).cell (i := 0) rfl
        have f0 := (st2.blk (i := 1) rfl).free 0
        have S2 := Lib.hid st2
        clear bel hbc st2 S1
        go_wp2
        have st4 := S2.out.blkSet (i := 1) rfl 0 (.slice none 0 0)
        have y0 := (st4.blk (i := 1) rfl).cell (i := 0) rfl
        refine bodyPost_ret (v := .tuple #[.agg #[.slice none 0 0], .int .i64 3]) (by simp [results, Try.results98, go_sem, y0]) rfl ⟨none, 0, rfl, ownSS_nil _ _ _ _, st4.below⟩
end Go.Proofs.Ytmikoihpmhfafaa
