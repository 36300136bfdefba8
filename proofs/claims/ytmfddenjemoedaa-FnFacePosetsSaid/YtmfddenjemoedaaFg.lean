/- impl.Maniplex.facesOfFlags. -/
import Derived.Test.YtmfddenjemoedaaFf
namespace Go.Proofs.Ytmfddenjemoedaa
open Go.RowKit

/-- What facesOfFlags gives back: the faces of each flag, and the ranks of all elements. -/
def RetF (w : World) (rows : List (List Int)) (rs : List Int) (e : Ending) (w' : World) : Prop :=
  ∃ (A : Option Addr) (c : Nat) (A5 : Option Addr) (c5 : Nat), e = .returned (.tuple #[.slice A rows.length c, .slice A5 rs.length c5]) ∧ OwnSS w' w.heap.size w'.heap.size 24 A rows.length c rows ∧
    w'.ownsRow w.heap.size 2 1 (.slice A5 rs.length c5) rs.length (ints rs) ∧ Below w.heap.size w w'

set_option maxHeartbeats 6400000 in
set_option maxRecDepth 100000 in
theorem ifof_any {b o c N n c0 : Nat} {A0 : Option Addr} {xss : List (List Int)} (w : World) (hx : xss.length = N) (ha : RdSS w (some ⟨b, o, none⟩) xss) (hsys : okSys n xss = true) (h0 : w.cell? ⟨b, o, none⟩ = some (.slice A0 n c0)) (hpos : 0 < N) (hcap : N ≤ c) (hc63 : c ≤ 9223372036854775807) (hn : 0 < n) (hN5 : N ≤ 5) (hn4 : n ≤ 400)
    (hcn : ∀ i, i < N → 1 ≤ cN xss n i ∧ cN xss n i ≤ n) :
    Calls Try.prog 110 #[.agg #[.slice (some ⟨b, o, none⟩) N c]] w (RetF w ((List.range n).map fun (f : Nat) => fcRow xss n N f) (rkL xss n N)) := by
  have HX := Lib.hid hx
  have HA := Lib.hid ha
  have HS := Lib.hid hsys
  have HC0 := Lib.hid h0
  have HCN := Lib.hid hcn
  have BX0 := Lib.hid (Bx.start w (.slice (some ⟨b, o, none⟩) N c) 45)
  have hbc := BX0.out.cell
  have hmk2 := run_make_row' (P := Try.prog) 35 24 (.slice none 0 0) 24 Try.underlying35 Try.infoS rfl .i64 .i64 n (by omega) (by omega)
  clear hx ha hsys h0 hcn
  go_enter Try.func110, Try.ntmps110
  go_wp2_with fail
  refine (flags_bel _ hpos (cell_be HC0.out BX0.out.below)).mono ?_
  rintro e w1 ⟨rfl, bel⟩
  have BX1 := Lib.hid (BX0.out.go bel)
  clear bel hbc
  have BX2 := Lib.hid (BX1.out.al (.cells (madeCells #[.slice none 0 0] n) 24))
  have hbc := BX2.out.cell
  have hz1 := BX1.out.size
  go_wp2_with fail
  refine (rank_any _).mono ?_
  rintro e w2 ⟨rfl, hw2⟩
  have F0 := Lib.hid (show FaS w1 w2 (w1.heap.size + 1) 0 0 n none (rkL xss n 0) (fcSt xss n 0 0) from by
    have h1 : FaS w1 (w1.alloc (.cells (madeCells #[.slice none 0 0] n) 24)) (w1.heap.size + 1) 0 0 n none (rkL xss n 0) (fcSt xss n 0 0) :=
      ⟨World.ownsRow_nil _ _ _ _, fun k hk => by simp [Value.ownBlock] at hk, by rw [fcSt_zero]; exact ownSS_make w1 n _ (by unfold maxLen; omega), by
        obtain ⟨vals, q1, _⟩ := ownSS_make w1 n 24 (by unfold maxLen; omega)
        exact ⟨vals, q1, fun j u _ k _ h => by simp [Value.ownBlock] at h⟩, by simp⟩
    rw [← hw2]
    exact h1.go (below1 _ _))
  have BX3 := Lib.hid (show Bx w w2 (.slice (some ⟨b, o, none⟩) N c) 45 from by rw [← hw2]; exact BX2.out.al _)
  clear hw2 hbc BX2 BX1 BX0
  go_wp2
  clear hmk2
  go_loopw [5, 17] (fun u v wr => ∃ (k hi m c5 : Nat) (A5 : Option Addr), u = .slice A5 m c5 ∧ v = .int .i64 k ∧ k ≤ N ∧ m = fstE xss n k ∧ FaS w1 wr hi m c5 n A5 (rkL xss n k) (fcSt xss n k 0) ∧ Bx w wr (.slice (some ⟨b, o, none⟩) N c) 45) (fun _ v _ => N - (intOf v).toNat)
  case atStart => exact ⟨0, _, 0, 0, none, rfl, rfl, Nat.zero_le _, rfl, F0.out, BX3.out⟩
  case round =>
    obtain ⟨k, hi, m, c5, A5, rfl, rfl, hk, hm, fs, bx⟩ := hrel
    have HM := Lib.hid hm
    have FS := Lib.hid fs
    have BX := Lib.hid bx
    clear hm fs bx F0 BX3
    by_cases hkN : k < N
    · have hbc := BX.out.cell
      have hml : m ≤ 2000 := by
        have hh : ∀ j, j ≤ N → fstE xss n j ≤ j * 400 := by
          intro j
          induction j with
          | zero => intro _; simp [fstE]
          | succ j ih => intro hj; have := ih (by omega); have := (HCN.out j (by omega)).2; simp only [fstE]; omega
        have := hh k hk
        have := HM.out
        omega
      go_wp2_with fail
      refine (ifaces_any _ HX.out (HA.out.keep BX.out.below) HS.out (cell_be HC0.out BX.out.below) hkN hcap hc63 hn).mono ?_
      rintro e w3 ⟨A3, c3, rfl, own, bel⟩
      have GC := Lib.hid (show grtL (facL xss n k) = (cN xss n k : Int) from by
        have := (grt_fac (i := k) HS.out).1
        unfold cN; omega)
      rw [GC.out]
      rw [facL_len] at own ⊢
      obtain ⟨q, hq⟩ : ∃ q, cN xss n k = q := ⟨_, rfl⟩
      have hq1 : 1 ≤ q ∧ q ≤ n := by rw [← hq]; exact HCN.out k hkN
      rw [hq]
      have HQ := Lib.hid hq
      have FS3 := Lib.hid ((FS.out.go bel).wide (Nat.le_trans FS.out.hi bel.size) (Nat.le_refl _))
      have LS3 := Lib.hid ((FS.out.go bel).other own FS.out.hi)
      have BX3 := Lib.hid (BX.out.go bel)
      have hs3 := bel.size
      clear own bel hbc hq
      obtain ⟨hq1, hq2⟩ := hq1
      go_wp2
      clear FS
      go_loopw [30] (fun v wi => ∃ t hi2 : Nat, t ≤ n ∧ v = .int .i64 t ∧ FaS w1 wi hi2 m c5 n A5 (rkL xss n k) (fcSt xss n k t) ∧ FaS w1 wi hi2 n c3 n A3 (facL xss n k) (fcSt xss n k t) ∧ Bx w wi (.slice (some ⟨b, o, none⟩) N c) 45) (fun v _ => n - (intOf v).toNat)
      case atStart => exact ⟨0, _, Nat.zero_le _, rfl, FS3.out, LS3.out, BX3.out⟩
      case round =>
        obtain ⟨t, hi2, ht, rfl, fs, ls, bx⟩ := hrel
        have FS := Lib.hid fs
        have LS := Lib.hid ls
        have BX4 := Lib.hid bx
        clear fs ls bx FS3 LS3 BX3
        by_cases htn : t < n
        · obtain ⟨g3, hg3⟩ := own_shape LS.out.r (show 0 < n by omega)
          obtain ⟨y, hy⟩ : ∃ y, (facL xss n k)[t]? = some y := ⟨_, List.getElem?_eq_getElem (by rw [facL_len]; exact htn)⟩
          have hyr := facL_in HS.out y (List.mem_of_getElem? hy)
          have hcl := own_cell (hg3 ▸ LS.out.r) (show (ints (facL xss n k))[t]? = some (.int .i64 y) by simp [hy])
          subst hg3
          have hrow0 := fcSt_at (xss := xss) (k := k) (t := t) htn
          rw [if_neg (by omega)] at hrow0
          obtain ⟨A4, c4, hcr, hor, _, hrow⟩ := ownSS_rowval FS.out.s hrow0
          have HOR := Lib.hid hor
          have HROW := Lib.hid hrow
          have HR0 := Lib.hid hrow0
          rw [fcRow_len] at hcr hor
          have OR := Lib.hid hor
          have HFS := Lib.hid (show fcRow xss n k t ++ [(m : Int) + y] = fcRow xss n (k + 1) t from by
            rw [fcRow_succ, HM.out]; simp [List.getD, hy])
          have i5 : IntKind.i64.wrap ((m : Int) + y) = (m : Int) + y := IntWalk.i64_in _ (by omega)
          have hlo := FS.out.lo
          have hhi := FS.out.hi
          have hw1 : w1.heap.size ≤ wr.heap.size := by omega
          have htI : (t : Int) < (n : Int) := by omega
          clear hy hrow0 hor hrow
          go_wp2_with (at_builtin; refine wpList_push_at _ rfl _ _ 24 2 rfl Try.underlying24 (.int .i64 0) 8 Try.info2 rfl w1.heap.size _ k _ rfl OR.out _ rfl rfl (by omega) (by omega) hw1 ?_)
          intro A7 c7 w4 own4 gr4 hat4
          obtain ⟨hfc, fs5, tu5⟩ := FS.out.push HR0.out HROW.out HOR.out (by rw [fcRow_len]; exact own4) (by rw [fcRow_len]; exact gr4) (by rw [fcRow_len]; exact hat4)
          obtain ⟨_, ls5, _⟩ := LS.out.push HR0.out HROW.out HOR.out (by rw [fcRow_len]; exact own4) (by rw [fcRow_len]; exact gr4) (by rw [fcRow_len]; exact hat4)
          rw [HFS.out, fcRow_len, fcSt_set htn] at fs5 ls5
          rw [fcRow_len] at tu5
          obtain ⟨hf5, u5, hu5⟩ := hfc
          have FS5 := Lib.hid fs5
          have LS5 := Lib.hid ls5
          have BX5 := Lib.hid (BX4.out.tu tu5 (by have := BX4.out.size; omega))
          clear own4 gr4 hat4 fs5 ls5 tu5 hcr hcl
          go_wp2
          go_roundw
          case rel => exact ⟨t + 1, _, by omega, by go_num, FS5.out, LS5.out, BX5.out⟩
          case measure => simp [intOf]; omega
        · obtain rfl : t = n := by omega
          have FS6 := Lib.hid (by have h := FS.out; rw [fcSt_next (Nat.le_refl _)] at h; exact h)
          clear FS LS
          have hhi := FS6.out.hi
          have hlo := FS6.out.lo
          have hz6 := BX4.out.size
          have hcx := (Blk.new wr #[.int .i64 (k : Int)] 2).cell (i := 0) rfl
          go_wp2_with fail
          refine (repeat_any _ hcx hq1 (by omega)).mono ?_
          rintro e w5 ⟨A8, c8, rfl, own8, bel8⟩
          rw [List.length_replicate] at own8 ⊢
          obtain ⟨g8, rfl⟩ := own_shape own8 (by omega)
          have hb8 : Below wr.heap.size wr w5 := (below1 wr _).trans (bel8.mono (by simp))
          have FS7 := Lib.hid (FS6.out.go hb8)
          have BX7 := Lib.hid (BX4.out.go hb8)
          have hs8 := hb8.size
          have HUS := Lib.hid (show ∀ (j : Nat) (u : Value), (ints (List.replicate q (k : Int)))[j]? = some u → w5.cell? ((⟨g8, 0, none⟩ : Addr).add j) = some u from fun j u hu => by
            rw [Addr.add_zero_spot, Nat.zero_add]; exact own_cell own8 hu)
          have HONE := Lib.hid (show ∀ u ∈ ints (List.replicate q (k : Int)), u.oneCell' = true from fun u hu => by
            obtain ⟨z, _, rfl⟩ := List.mem_map.1 hu
            rfl)
          have HLN := Lib.hid (show (ints (List.replicate q (k : Int))).length = q by simp)
          have hw5 : w1.heap.size ≤ w5.heap.size := by omega
          clear own8 bel8 hb8 hcx FS6
          go_wp2_with (at_builtin; refine wpList_cat_at _ rfl _ _ 24 2 rfl Try.underlying24 (.int .i64 0) 8 Try.info2 rfl w1.heap.size _ m _ rfl FS7.out.r ⟨g8, 0, none⟩ q c8 (ints (List.replicate q (k : Int))) rfl HLN.out HUS.out HONE.out (by omega) (by omega) hw5 ?_)
          intro A9 c9 w9 own9 gr9 hat9
          obtain ⟨fs9, tu9⟩ := FS7.out.cat (us := List.replicate q (k : Int)) (by rw [show ints (List.replicate q (k : Int)) = List.replicate q (.int .i64 (k : Int)) by simp]; exact own9) gr9 hat9
          have FS9 := Lib.hid (show FaS w1 w9 w9.heap.size (m + q) c9 t A9 (rkL xss t (k + 1)) (fcSt xss t (k + 1) 0) from by
            have e1 : rkL xss t (k + 1) = rkL xss t k ++ List.replicate q (k : Int) := by rw [rkL, HQ.out]
            rw [e1]; exact fs9)
          have BX9 := Lib.hid (BX7.out.tu tu9 (by omega))
          have HM9 := Lib.hid (show m + q = fstE xss t (k + 1) by rw [fstE, HQ.out, HM.out])
          clear own9 gr9 hat9 fs9 tu9
          go_wp2
          go_roundw
          case rel => exact ⟨k + 1, _, m + q, c9, A9, rfl, by go_num, by omega, HM9.out, FS9.out, BX9.out⟩
          case measure => simp [intOf]; omega
    · obtain rfl : k = N := by omega
      have hs := FS.out.s
      rw [fcSt_all] at hs
      have HS2 := Lib.hid hs
      have HL := Lib.hid (show ((List.range n).map fun (f : Nat) => fcRow xss n k f).length = n by simp)
      have HRL := Lib.hid (show (rkL xss n k).length = m by rw [rkL_len, HM.out])
      have hhi := FS.out.hi
      clear hs
      go_wp2
      go_ret2
      refine ⟨some ⟨w1.heap.size, 0, none⟩, n, A5, c5, by rw [HL.out, HRL.out]; rfl, ?_, ?_, BX.out.below⟩
      · rw [HL.out]; exact ownSS_wide HS2.out (by omega) hhi
      · rw [HRL.out]; exact own_base FS.out.r (by omega)
end Go.Proofs.Ytmfddenjemoedaa
