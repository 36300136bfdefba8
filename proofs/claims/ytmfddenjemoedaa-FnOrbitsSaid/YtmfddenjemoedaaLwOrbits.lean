import Derived.Test.YtmfddenjemoedaaSmall
import Derived.Test.YtmfddenjemoedaaLk
import Derived.Test.YtmfddenjemoedaaPth
import Derived.BigQuiet
namespace Go.Proofs.Ytmfddenjemoedaa
open Go.RowKit

section
variable {A : Option Addr} {n c : Nat} {bs : List Value}
def RetOl (w : World) (e : Ending) (w' : World) : Prop :=
  ∃ (z : Int) (A' : Option Addr) (m c' : Nat) (xss : List (List Int)), e = .returned (.tuple #[.int .i64 z, .slice A' m c']) ∧ xss.length = m ∧ m ≤ 17 ∧ (∀ xs ∈ xss, (xs.length : Int) ≤ 1048576) ∧ RdSS w' A' xss ∧ Below w.heap.size w w'
theorem drawOl (w : World) (hl : bs.length = n) (hr : Rd w A bs) (hu : ∀ v ∈ bs, ∃ x : Nat, v = .int .u8 x ∧ x < 256) (hn : n ≤ 1048576) :
    Calls Try.prog 16 #[.slice A n c] w (RetOl w) := by
  have HL := Lib.hid hl
  have HR := Lib.hid hr
  have HU := Lib.hid hu
  clear hl hr hu
  go_enter Try.func16, Try.ntmps16
  go_wp2_with fail
  refine (from_any _ HL.out HR.out HU.out hn).mono ?_
  rintro e w1 ⟨g, at', h', rfl, hg, hg1, src, bel⟩
  have HS := Lib.hid (show SrcE w1 g A n c bs from ⟨at', h', src⟩)
  have BEL := Lib.hid bel
  clear src bel
  go_wp2_with fail
  refine (smallP (most := 20) _ HS.out hn (by omega)).mono ?_
  rintro e w2 ⟨wb, z, A', m, c', vals, xss, rfl, hxl, hm, hxr, d_, st_⟩
  have R := Lib.hid (show xss.length = m ∧ m ≤ 17 ∧ (∀ xs ∈ xss, (xs.length : Int) ≤ 1048576) ∧ RdSS w2 A' xss ∧ Below w.heap.size w w2 from ⟨hxl, hm, fun xs hx => by have := hxr xs hx; omega, ownSS_rd (st_.sep.ownSS (i := 0) rfl), Turns.below BEL.out (d_.fin st_).1 BEL.out.size hg⟩)
  clear hxl hm hxr d_ st_
  go_wp2
  exact bodyPost_ret (v := .tuple #[.int .i64 z, .slice A' m c']) (by simp [results, Try.results16, go_sem]) rfl ⟨z, A', m, c', xss, rfl, R.out⟩
end
theorem Rd.nil7 {w : World} {A : Option Addr} : Rd w A (ints []) := fun h => absurd h (by simp)
theorem below_grow {B : Nat} {a w w' : World} {o : Obj} {row : Option Nat} (h : Below B a w) (hB : B ≤ w.heap.size) (hr : ∀ k, row = some k → B ≤ k) (gr : (w.alloc o).grownBy w' row) : Below B a w' :=
  (h.alloc hB o).grown gr (by simp; omega) hr
theorem Dr.base {g n c : Nat} {A : Option Addr} {bs : List Value} {w0 wb : World} (d : Dr g A n c bs w0 wb) : w0.heap.size ≤ wb.heap.size := d.tu.size
section
variable {xss : List (List Int)} {n p q : Nat}
theorem same_lab (hsys : okSys n xss = true) (hp : p < n) (hq : q < n) : (labL xss n)[p]? = (labL xss n)[q]? ↔ (q : Int) ∈ orbL xss n p := by
  obtain ⟨j, hj, _⟩ := lab_next hsys hp
  obtain ⟨o, ho, hpo⟩ := (lab_iff hsys hp).1 hj
  obtain ⟨r, hr, hoe⟩ := orbsTo_of n (List.mem_of_getElem? ho)
  subst hoe
  rw [hj]
  constructor
  · intro h
    obtain ⟨o2, ho2, hqo⟩ := (lab_iff hsys hq).1 h.symm
    rw [ho] at ho2
    injection ho2 with ho2
    subst ho2
    exact (orb_same hsys hr hp hpo).2 _ hqo
  · intro h
    refine ((lab_iff hsys hq).2 ⟨_, ho, ?_⟩).symm
    have := (orb_same hsys hr hp hpo).1
    exact (orb_same hsys hp hr this).2 _ h
/-- The points before k with the label x. -/
def dueL (F : List Int) (x : Int) (k : Nat) : List Int := ((List.range k).filter fun i => decide (F[i]? = some x)).map fun (i : Nat) => (i : Int)
theorem due_yes {F : List Int} {x : Int} {k : Nat} (h : F[k]? = some x) : dueL F x (k + 1) = dueL F x k ++ [(k : Int)] := by
  unfold dueL
  rw [List.range_succ, List.filter_append, List.map_append]
  simp [h]
theorem due_no {F : List Int} {x y : Int} {k : Nat} (h : F[k]? = some y) (hne : y ≠ x) : dueL F x (k + 1) = dueL F x k := by
  unfold dueL
  rw [List.range_succ, List.filter_append, List.map_append]
  simp [h, hne]
theorem due_len {F : List Int} {x : Int} {k : Nat} : (dueL F x k).length ≤ k := by
  unfold dueL
  rw [List.length_map]
  exact Nat.le_trans (List.length_filter_le _ _) (by simp)
theorem due_orb (hsys : okSys n xss = true) (hp : p < n) {x : Int} (hx : (labL xss n)[p]? = some x) : dueL (labL xss n) x n = sortL (orbL xss n p) := by
  obtain ⟨hpa, hm, hcl⟩ := orb_facts hsys hp
  refine strict_eq ?_ (sort_strict hpa.2) fun z => ?_
  · unfold dueL
    refine List.pairwise_map.2 (List.Pairwise.imp ?_ ((List.pairwise_lt_range).filter _))
    intro a b hab
    omega
  · rw [(sortL_perm _).mem_iff]
    unfold dueL
    simp only [List.mem_map, List.mem_filter, List.mem_range, decide_eq_true_eq]
    constructor
    · rintro ⟨i, ⟨h1, h2⟩, rfl⟩
      exact (same_lab hsys hp h1).1 (by rw [hx, h2])
    · intro hz
      obtain ⟨i, rfl⟩ := Int.eq_ofNat_of_zero_le (hpa.1 z hz).1
      have hi : i < n := by have := (hpa.1 _ hz).2; omega
      exact ⟨i, ⟨hi, by rw [← (same_lab hsys hp hi).2 hz, hx]⟩, rfl⟩
theorem run_orb (hsys : okSys n xss = true) (hp : p < n) : ∀ (word : List Int) (x : Int), wordOk xss word = true → x ∈ orbL xss n p → runW xss x word ∈ orbL xss n p
  | [], x, _, hx => hx
  | k :: word, x, hw, hx => by
    have hall := of_decide_eq_true hw
    obtain ⟨h0, h1⟩ := hall k (by simp)
    obtain ⟨a, rfl⟩ := Int.eq_ofNat_of_zero_le h0
    have ha : a < xss.length := by omega
    rw [runW_cons]
    refine run_orb hsys hp word _ (decide_eq_true fun y hy => hall y (by simp [hy])) ?_
    have hg := (orb_facts hsys hp).2.2 xss[a] (List.getElem_mem ha) x hx
    have e : stepW xss x (a : Int) = fz xss[a] x := by simp [stepW, fz, ha]
    rw [e]
    exact hg
end
set_option maxHeartbeats 6400000 in
set_option maxRecDepth 100000 in
theorem law_FnOrbits {A0 : Option Addr} {c0 n0 : Nat} {bs : List Value} (w : World) (hl : bs.length = n0) (hr : Rd w A0 bs) (hu : ∀ v ∈ bs, ∃ x : Nat, v = .int .u8 x ∧ x < 256) :
    Calls Try.prog 4 #[.slice A0 n0 c0] w fun e w' => e = .returned (.bool true) ∧ Below w.heap.size w w' := by
  have HL0 := Lib.hid hl
  have HR0 := Lib.hid hr
  have HU := Lib.hid hu
  have B0 := Lib.hid (Below.refl w.heap.size w)
  clear hl hr hu
  by_cases hbig : (4096 : Int) < (n0 : Int)
  · go_enter Try.func4, Try.ntmps4
    go_wp2_with fail
    refine (big_any w).mono ?_
    rintro e wz ⟨rfl, rfl⟩
    rw [decide_eq_true (show (4096 : Int) < (n0 : Int) by omega)]
    go_wp2
    go_ret
    exact ⟨rfl, B0.out⟩
  have hn0 : n0 ≤ 1048576 := by omega
  go_enter Try.func4, Try.ntmps4
  go_wp2_with fail
  refine (big_any w).mono ?_
  rintro e wz ⟨rfl, rfl⟩
  rw [decide_eq_false (show ¬ (4096 : Int) < (n0 : Int) by omega)]
  go_wp2_with fail
  refine (drawOl w HL0.out HR0.out HU.out hn0).mono ?_
  rintro e w1 ⟨z, A1, N, c1, xss, rfl, hx, hN17, hrr, hrd, bel1⟩
  have HX := Lib.hid hx
  have HA := Lib.hid hrd
  have HR := Lib.hid hrr
  have B1 := Lib.hid bel1
  have hN : N ≤ 1048576 := by omega
  have S1 := Lib.hid (St.start w1)
  clear hrd hrr bel1 B0
  cases ho : okSys z xss
  · have E1 := Lib.hid (show labR z xss = [] by simp [labR, ho])
    have E2 := Lib.hid (show sysC z xss = 1 by simp [sysC, ho])
    clear ho hx
    go_wp2_with fail
    refine (iLab_any z _ HX.out (HA.out.keep S1.out.below) hN HR.out).mono ?_
    rintro e w2 ⟨A2, c2, rfl, own, bel⟩
    rw [E1.out] at own
    rw [E1.out, E2.out]
    have S2 := Lib.hid (S1.out.addOwn bel own (Nat.le_refl _))
    clear own bel S1
    go_wp2_with fail
    refine (sLab_any z _ HX.out (HA.out.keep S2.out.below) hN HR.out).mono ?_
    rintro e w3 ⟨A3, c3, rfl, own, bel⟩
    rw [E1.out] at own
    rw [E1.out, E2.out]
    have S3 := Lib.hid (S2.out.addOwn bel own (Nat.le_refl _))
    clear own bel S2
    have hne : ((1 : Int) != 1) = false := rfl
    go_wp2_with fail
    refine (likeB (n := 0) (m := 0) (xs := []) (ys := []) _ rfl rfl Rd.nil7 Rd.nil7 (by omega)).mono ?_
    rintro e w4 ⟨rfl, bel⟩
    rw [decide_eq_true (show ([] : List Int) = [] from rfl)]
    have S4 := Lib.hid (S3.out.go bel)
    clear bel S3
    go_wp2
    go_ret
    exact ⟨rfl, B1.out.trans (S4.out.below.mono B1.out.size)⟩
  obtain ⟨n, rfl⟩ := Int.eq_ofNat_of_zero_le (sys_parts ho).1
  have hn4 : n ≤ 400 := by have := (sys_parts ho).2.1; omega
  obtain ⟨F, hF⟩ : ∃ F, labL xss n = F := ⟨_, rfl⟩
  have E1 := Lib.hid (show labR (n : Int) xss = F by simp [labR, ho, hF])
  have E2 := Lib.hid (show sysC (n : Int) xss = 0 by simp [sysC, ho])
  have HS := Lib.hid ho
  have HF := Lib.hid hF
  have FL := Lib.hid (show F.length = n by rw [← hF]; exact labL_length _ _)
  clear ho hF hx
  go_wp2_with fail
  refine (iLab_any (n : Int) _ HX.out (HA.out.keep S1.out.below) hN HR.out).mono ?_
  rintro e w2 ⟨A2, c2, rfl, own, bel⟩
  rw [E1.out, FL.out] at own
  rw [E1.out, E2.out, FL.out]
  have S2 := Lib.hid (S1.out.addOwn bel own (Nat.le_refl _))
  clear own bel S1
  go_wp2_with fail
  refine (sLab_any (n : Int) _ HX.out (HA.out.keep S2.out.below) hN HR.out).mono ?_
  rintro e w3 ⟨A3, c3, rfl, own, bel⟩
  rw [E1.out, FL.out] at own
  rw [E1.out, E2.out, FL.out]
  have S3 := Lib.hid (S2.out.addOwn bel own (Nat.le_refl _))
  clear own bel S2
  have hne : ((0 : Int) != 0) = false := rfl
  have RA := Lib.hid (own_rd (S3.out.own (i := 0) rfl))
  have RB := Lib.hid (own_rd (S3.out.own (i := 1) rfl))
  go_wp2_with fail
  refine (likeB (n := n) (m := n) _ FL.out FL.out RA.out RB.out (by omega)).mono ?_
  rintro e w4 ⟨rfl, bel⟩
  rw [decide_eq_true rfl]
  have S4 := Lib.hid ((S3.out.go bel).take 1)
  clear bel S3 RA RB
  go_wp2
  go_loopw [9, 10] (fun u v wr => ∃ i : Nat, i ≤ n ∧ u = .int .i64 ((orbsTo xss n i).length : Nat) ∧ v = .int .i64 i ∧ St w1 wr [.own 2 A2 n c2 (ints F)]) (fun _ v _ => n - (intOf v).toNat)
  case atStart => exact ⟨0, Nat.zero_le _, rfl, rfl, S4.out⟩
  case round =>
    obtain ⟨i, hi, rfl, rfl, st⟩ := hrel
    have S5 := Lib.hid st
    clear S4 st
    obtain ⟨M, hM⟩ : ∃ M, (orbsTo xss n i).length = M := ⟨_, rfl⟩
    rw [hM]
    by_cases hin : i < n
    · have iI : (i : Int) < (n : Int) := by omega
      obtain ⟨j, hj, hcase⟩ := lab_next HS.out hin
      have hMn : M ≤ i := by rw [← hM]; exact (orbsTo_facts HS.out i (by omega)).2.2.1
      obtain ⟨M', hM'⟩ : ∃ M', (orbsTo xss n (i + 1)).length = M' := ⟨_, rfl⟩
      rw [hM, hM'] at hcase
      rw [HF.out] at hj
      have HM' := Lib.hid hM'
      have hjM : ¬ (M : Int) < (j : Int) := by omega
      obtain ⟨gD, rfl⟩ := own_shape (S5.out.own (i := 0) rfl) (show 0 < n by omega)
      have cj := own_cell (S5.out.own (i := 0) rfl) (show (ints F)[i]? = some (.int .i64 (j : Int)) by simp [hj])
      have HJ := Lib.hid hj
      have hcs : ((j : Int) == (M : Int)) = decide (M' = M + 1) := by
        rcases hcase with ⟨h1, h2⟩ | ⟨h1, h2⟩
        · have : ((j : Int) == (M : Int)) = false := by rw [beq_eq_false_iff_ne]; omega
          rw [this, decide_eq_false (by omega)]
        · have : ((j : Int) == (M : Int)) = true := by rw [beq_iff_eq]; omega
          rw [this, decide_eq_true (by omega)]
      clear hM hM' hj
      by_cases hnew : M' = M + 1
      · rw [decide_eq_true hnew] at hcs
        subst hnew
        go_wp2
        go_loopw [11] (fun v wr => ∃ k : Nat, k ≤ N ∧ v = .int .i64 k ∧ St w1 wr [.own 2 (some ⟨gD, 0, none⟩) n c2 (ints F)]) (fun v _ => N - (intOf v).toNat)
        case atStart => exact ⟨0, Nat.zero_le _, rfl, S5.out⟩
        case round =>
          obtain ⟨k, hk, rfl, st⟩ := hrel
          have S11 := Lib.hid st
          by_cases hkN : k < N
          · have kI : (k : Int) < (N : Int) := by omega
            obtain ⟨b3, o3, A4, c4, gg, rfl, hgg, hcg, hrg, _⟩ := (HA.out.keep st.below).row (k := k) (by rw [HX.out]; exact hkN)
            have hgl := sys_len HS.out hgg
            obtain ⟨l, hl⟩ : ∃ l, gg.length = l := ⟨_, rfl⟩
            have hln : l = n := by omega
            subst hln
            rw [hl] at hcg
            obtain ⟨b4, o4, y, rfl, hgy, hcy⟩ := hrg.int (k := i) (by omega)
            obtain ⟨y, rfl, hy0⟩ := sys_at HS.out hgg hgy
            have hyn : y < l := by omega
            have yI : (y : Int) < (l : Int) := hy0
            have hjy := lab_move HS.out (List.mem_of_getElem? hgg) hin hyn hgy (by rw [HF.out]; exact HJ.out)
            rw [HF.out] at hjy
            have cj1 := own_cell (st.own (i := 0) rfl) (show (ints F)[i]? = some (.int .i64 (j : Int)) by simp [HJ.out])
            have cj2 := own_cell (st.own (i := 0) rfl) (show (ints F)[y]? = some (.int .i64 (j : Int)) by simp [hjy])
            have hjj : ((j : Int) != (j : Int)) = false := by simp
            clear st hgg hgl hl hrg hgy hjy
            go_wp2
            go_quiet (fail)
            go_wp2
            go_roundw
            case rel => exact ⟨k + 1, by omega, by go_num, S11.out.go (below_drewN (Below.refl _ _) _)⟩
            case measure => simp [intOf]; omega
          · have kI : ¬ (k : Int) < (N : Int) := by omega
            clear st
            go_wp2
            go_roundw
            case rel => exact ⟨i + 1, by omega, by first | (rw [HM'.out]; done) | (rw [HM'.out]; go_num), by go_num, S11.out⟩
            case measure => simp [intOf]; omega
      · rw [decide_eq_false hnew] at hcs
        have hold : M' = M := by omega
        subst hold
        go_wp2
        go_loopw [11] (fun v wr => ∃ k : Nat, k ≤ N ∧ v = .int .i64 k ∧ St w1 wr [.own 2 (some ⟨gD, 0, none⟩) n c2 (ints F)]) (fun v _ => N - (intOf v).toNat)
        case atStart => exact ⟨0, Nat.zero_le _, rfl, S5.out⟩
        case round =>
          obtain ⟨k, hk, rfl, st⟩ := hrel
          have S11 := Lib.hid st
          by_cases hkN : k < N
          · have kI : (k : Int) < (N : Int) := by omega
            obtain ⟨b3, o3, A4, c4, gg, rfl, hgg, hcg, hrg, _⟩ := (HA.out.keep st.below).row (k := k) (by rw [HX.out]; exact hkN)
            have hgl := sys_len HS.out hgg
            obtain ⟨l, hl⟩ : ∃ l, gg.length = l := ⟨_, rfl⟩
            have hln : l = n := by omega
            subst hln
            rw [hl] at hcg
            obtain ⟨b4, o4, y, rfl, hgy, hcy⟩ := hrg.int (k := i) (by omega)
            obtain ⟨y, rfl, hy0⟩ := sys_at HS.out hgg hgy
            have hyn : y < l := by omega
            have yI : (y : Int) < (l : Int) := hy0
            have hjy := lab_move HS.out (List.mem_of_getElem? hgg) hin hyn hgy (by rw [HF.out]; exact HJ.out)
            rw [HF.out] at hjy
            have cj1 := own_cell (st.own (i := 0) rfl) (show (ints F)[i]? = some (.int .i64 (j : Int)) by simp [HJ.out])
            have cj2 := own_cell (st.own (i := 0) rfl) (show (ints F)[y]? = some (.int .i64 (j : Int)) by simp [hjy])
            have hjj : ((j : Int) != (j : Int)) = false := by simp
            clear st hgg hgl hl hrg hgy hjy
            go_wp2
            go_quiet (fail)
            go_wp2
            go_roundw
            case rel => exact ⟨k + 1, by omega, by go_num, S11.out.go (below_drewN (Below.refl _ _) _)⟩
            case measure => simp [intOf]; omega
          · have kI : ¬ (k : Int) < (N : Int) := by omega
            clear st
            go_wp2
            go_roundw
            case rel => exact ⟨i + 1, by omega, by first | (rw [HM'.out]; done) | (rw [HM'.out]; go_num), by go_num, S11.out⟩
            case measure => simp [intOf]; omega
    · obtain rfl : i = n := by omega
      clear hM
      by_cases hn1 : i = 0
      · subst hn1
        go_wp2
        go_ret
        exact ⟨rfl, B1.out.trans (S5.out.below.mono B1.out.size)⟩
      have hnz : ((i : Int) == 0) = false := by rw [beq_eq_false_iff_ne]; omega
      have hnp : 0 < i := by omega
      obtain ⟨gD, rfl⟩ := own_shape (S5.out.own (i := 0) rfl) hnp
      obtain ⟨W4, rfl⟩ : ∃ W4, W4 = wr := ⟨_, rfl⟩
      have HRD := Lib.hid (HR0.out.keep (B1.out.trans (S5.out.below.mono B1.out.size)))
      go_wp2_with fail
      refine (roll_any (s := 703) _ HL0.out HRD.out HU.out hn0 (by omega) (by omega)).mono ?_
      rintro e w5 ⟨g, at', h', rfl, hg, hg1, src, bel⟩
      have D5 := Lib.hid (Dr.start (show SrcE w5 g A0 n0 c0 bs from ⟨at', h', src⟩))
      have T5 := Lib.hid (St.start w5)
      have B5 := Lib.hid bel
      have h4s : W4.heap.size ≤ w5.heap.size := bel.size
      clear src bel HRD hn1
      go_wp2_with fail
      refine (belowE (N := (i : Int)) _ (D5.out.now T5.out) hn0 (by omega)).mono ?_
      rintro e w6 ⟨r, rfl, ⟨h0r, h1r⟩, hs_, tu_⟩
      obtain ⟨wb6, d_, st_⟩ := D5.out.num T5.out hs_ tu_
      obtain ⟨p, rfl⟩ := Int.eq_ofNat_of_zero_le h0r
      have hp : p < i := by omega
      have D6 := Lib.hid d_
      have T6 := Lib.hid st_
      have B6 := Lib.hid (Turns.below B5.out tu_ B5.out.size hg)
      have h6s : W4.heap.size ≤ wb6.heap.size := Nat.le_trans h4s D6.out.base
      clear d_ st_ hs_ tu_ D5 T5 B5
      obtain ⟨x, hx⟩ : ∃ x, F[p]? = some x := ⟨_, List.getElem?_eq_getElem (by rw [FL.out]; exact hp)⟩
      obtain ⟨O, hO⟩ : ∃ O, sortL (orbL xss i p) = O := ⟨_, rfl⟩
      have hOl : O.length ≤ i := by rw [← hO, sortL_length]; exact passed_len (orb_facts HS.out hp).1
      have hdue : dueL F x i = O := by
        rw [← hO, ← HF.out]
        exact due_orb HS.out hp (by rw [HF.out]; exact hx)
      have hoI : orbIn (i : Int) (p : Int) = true := by simp [orbIn]; omega
      obtain ⟨q, hq⟩ : ∃ q, O.length = q := ⟨_, rfl⟩
      have OL := Lib.hid hq
      have HDU := Lib.hid hdue
      have HXP := Lib.hid hx
      have G1 := Lib.hid (show orbR (i : Int) xss (p : Int) = O by simp [orbR, HS.out, hoI, hO])
      have G2 := Lib.hid (show orbC (i : Int) xss (p : Int) = 0 by simp [orbC, HS.out, hoI])
      have HOO := Lib.hid hO
      have hq4 : q ≤ 400 := by omega
      clear hO hOl hdue hoI hq hx
      go_wp2_with fail
      refine (iOrbOf_any (i : Int) (p : Int) _ HX.out (HA.out.keep (S5.out.go B6.out).below) hN HR.out).mono ?_
      rintro e w7 ⟨A7, c7, rfl, own, bel⟩
      rw [G1.out, OL.out] at own
      rw [G1.out, G2.out, OL.out]
      have T7 := Lib.hid ((T6.out.addOwn bel own (Nat.le_refl _)).addMade 2)
      have B7 := Lib.hid ((B6.out.trans (bel.mono B6.out.size)).alloc (B6.out.trans (bel.mono B6.out.size)).size (.cells #[] 2))
      clear own bel T6 B6
      go_wp2
      go_loopw [16, 17] (fun u v wr => ∃ (t m c8 : Nat) (A8 : Option Addr), t ≤ i ∧ m ≤ t ∧ u = .slice A8 m c8 ∧ v = .int .i64 t ∧ (dueL F x t).length = m ∧ St wb6 wr [.own 2 A7 q c7 (ints O), .own 2 A8 m c8 (ints (dueL F x t))] ∧ Below W4.heap.size W4 wr) (fun _ v _ => i - (intOf v).toNat)
      case atStart => exact ⟨0, 0, 0, _, Nat.zero_le _, Nat.le_refl _, rfl, rfl, rfl, T7.out, B7.out⟩
      case round =>
        obtain ⟨t, m, c8, A8, ht, hmt, rfl, rfl, hdl, st, bl⟩ := hrel
        have T8 := Lib.hid st
        have B8 := Lib.hid bl
        have HDL := Lib.hid hdl
        clear st bl hdl T7 B7
        by_cases htn : t < i
        · have tI : (t : Int) < (i : Int) := by omega
          have pI : (p : Int) < (i : Int) := by omega
          have S8 := Lib.hid (S5.out.go B8.out)
          obtain ⟨y, hy⟩ : ∃ y, F[t]? = some y := ⟨_, List.getElem?_eq_getElem (by rw [FL.out]; exact htn)⟩
          have ct := own_cell (S8.out.own (i := 0) rfl) (show (ints F)[t]? = some (.int .i64 y) by simp [hy])
          have cp := own_cell (S8.out.own (i := 0) rfl) (show (ints F)[p]? = some (.int .i64 x) by simp [HXP.out])
          by_cases hyx : y = x
          · have hb : (y == x) = true := by rw [beq_iff_eq]; exact hyx
            have HDY := Lib.hid (due_yes (F := F) (x := x) (k := t) (by rw [hy, hyx]))
            clear hy hyx S8
            go_wp2
            go_quiet (fail)
            have Td := Lib.hid (T8.out.go (below_drewN (Below.refl _ _) nq))
            have Bd := Lib.hid (below_drewN B8.out nq)
            have hlo := Td.out.lo
            go_wp2_with (at_builtin; refine wpList_push_h _ rfl (.tmp 121) (.tmp 123) 24 2 rfl Try.underlying24 (.int .i64 0) 8 Try.info2 rfl (wr.drewN nq).heap.size rfl wb6.heap.size (.slice A8 m c8) m _ rfl (Td.out.own (i := 1) rfl) (.int .i64 (t : Int)) rfl rfl (by omega) (by omega) hlo ?_)
            intro A9 c9 w9 own9 gr9 hat9
            have T9 := Lib.hid (show St wb6 w9 [.own 2 A7 q c7 (ints O), .own 2 A9 (m + 1) c9 (ints (dueL F x (t + 1)))] from by
              rw [HDY.out, show ints (dueL F x t ++ [(t : Int)]) = ints (dueL F x t) ++ [.int .i64 (t : Int)] by simp]
              exact Td.out.push (i := 1) rfl own9 gr9 hat9)
            have B9 := Lib.hid (below_grow Bd.out (by have := B8.out.size; simp; omega) (fun k hk => Nat.le_trans h6s ((Td.out.own (i := 1) rfl).lt k hk).1) gr9)
            have HDL2 := Lib.hid (show (dueL F x (t + 1)).length = m + 1 by rw [HDY.out, List.length_append, HDL.out]; rfl)
            clear own9 gr9 hat9
            go_wp2
            go_roundw
            case rel => exact ⟨t + 1, m + 1, c9, A9, by omega, by omega, rfl, by go_num, HDL2.out, T9.out, B9.out⟩
            case measure => simp [intOf]; omega
          · have hb : (y == x) = false := by rw [beq_eq_false_iff_ne]; exact hyx
            have HDY := Lib.hid (due_no (F := F) (x := x) (k := t) hy hyx)
            clear hy hyx S8
            go_wp2
            go_quiet (fail)
            go_wp2
            go_roundw
            case rel => exact ⟨t + 1, m, c8, A8, by omega, by omega, rfl, by go_num, by rw [HDY.out]; exact HDL.out, by rw [HDY.out]; exact T8.out.go (below_drewN (Below.refl _ _) _), below_drewN B8.out _⟩
            case measure => simp [intOf]; omega
        · obtain rfl : t = i := by omega
          have T9 := Lib.hid (show St wb6 wr [.own 2 A7 q c7 (ints O), .own 2 A8 q c8 (ints O)] from by
            have h1 := HDL.out
            rw [HDU.out, OL.out] at h1
            have h2 := T8.out
            rw [HDU.out, ← h1] at h2
            exact h2)
          have hmq : m = q := by have h1 := HDL.out; rw [HDU.out, OL.out] at h1; exact h1.symm
          subst hmq
          have T10 := Lib.hid (T9.out.addMade 2)
          have B10 := Lib.hid (B8.out.alloc B8.out.size (.cells #[] 2))
          clear T8 T9 B8 HDL
          go_wp2_with fail
          refine (belowE (N := 12) _ (D6.out.now T10.out) hn0 (by omega)).mono ?_
          rintro e w11 ⟨r, rfl, ⟨h0k, h1k⟩, hs_, tu_⟩
          obtain ⟨wb11, d_, st_⟩ := D6.out.num T10.out hs_ tu_
          obtain ⟨k0, rfl⟩ := Int.eq_ofNat_of_zero_le h0k
          have D11 := Lib.hid d_
          have T11 := Lib.hid st_
          have B11 := Lib.hid (Turns.below B10.out tu_ B10.out.size hg)
          clear d_ st_ hs_ tu_ D6 T10 B10
          obtain ⟨bw, hbw⟩ : ∃ b, wr.heap.size = b := ⟨_, rfl⟩
          rw [hbw] at T11 ⊢
          clear hbw
          go_wp2
          go_loopw [18, 19] (fun u v wr => ∃ (k s c12 : Nat) (A12 : Option Addr) (Wd : List Int) (wb : World), k ≤ 11 ∧ s + k ≤ 11 ∧ u = .slice A12 s c12 ∧ v = .int .i64 k ∧ Wd.length = s ∧ wordOk xss Wd = true ∧ Dr g A0 n0 c0 bs w5 wb ∧ St wb wr [.own 2 A7 m c7 (ints O), .own 2 A8 m c8 (ints O), .own 2 A12 s c12 (ints Wd)] ∧ Below W4.heap.size W4 wr) (fun _ v _ => (intOf v).toNat)
          case atStart => exact ⟨k0, 0, 0, _, [], wb11, by omega, by omega, rfl, rfl, rfl, by simp [wordOk], D11.out, T11.out, B11.out⟩
          case round =>
            obtain ⟨k, s, c12, A12, Wd, wb12, hk, hsk, rfl, rfl, hwl, hwo, d_, st_, b_⟩ := hrel
            have D12 := Lib.hid d_
            have T12 := Lib.hid st_
            have B12 := Lib.hid b_
            have HWL := Lib.hid hwl
            have HWO := Lib.hid hwo
            clear d_ st_ b_ hwl hwo D11 T11 B11
            by_cases hkn : 0 < k ∧ 0 < N
            · obtain ⟨hk1, hN1⟩ := hkn
              have kI : (0 : Int) < (k : Int) := by omega
              have NI : (0 : Int) < (N : Int) := by omega
              have q3 : IntKind.i64.wrap ((k : Int) - 1) = ((k - 1 : Nat) : Int) := (IntWalk.i64_in _ (by omega)).trans (by omega)
              go_wp2_with fail
              refine (belowE (N := (N : Int)) _ (D12.out.now T12.out) hn0 (by omega)).mono ?_
              rintro e w13 ⟨r, rfl, ⟨h0v, h1v⟩, hs_, tu_⟩
              obtain ⟨wb13, d_, st_⟩ := D12.out.num T12.out hs_ tu_
              have D13 := Lib.hid d_
              have T13 := Lib.hid st_
              have B13 := Lib.hid (Turns.below B12.out tu_ B12.out.size hg)
              have hlo := st_.lo
              clear d_ st_ hs_ tu_ D12 T12 B12
              go_wp2_with (at_builtin; refine wpList_push_h _ rfl (.tmp 137) (.tmp 142) 24 2 rfl Try.underlying24 (.int .i64 0) 8 Try.info2 rfl w13.heap.size rfl wb13.heap.size (.slice A12 s c12) s _ rfl (T13.out.own (i := 2) rfl) (.int .i64 r) rfl rfl (by omega) (by omega) hlo ?_)
              intro A14 c14 w14 own14 gr14 hat14
              have T14 := Lib.hid (show St wb13 w14 [.own 2 A7 m c7 (ints O), .own 2 A8 m c8 (ints O), .own 2 A14 (s + 1) c14 (ints (Wd ++ [r]))] from by
                rw [show ints (Wd ++ [r]) = ints Wd ++ [.int .i64 r] by simp]
                exact T13.out.push (i := 2) rfl own14 gr14 hat14)
              have B14 := Lib.hid (below_grow B13.out B13.out.size (fun k hk => Nat.le_trans (Nat.le_trans h4s D13.out.base) ((T13.out.own (i := 2) rfl).lt k hk).1) gr14)
              have W14 := Lib.hid (show wordOk xss (Wd ++ [r]) = true from decide_eq_true fun y hy => by
                rcases List.mem_append.1 hy with h | h
                · exact (of_decide_eq_true HWO.out) y h
                · simp at h
                  subst h
                  rw [HX.out]
                  exact ⟨h0v, h1v⟩)
              have L14 := Lib.hid (show (Wd ++ [r]).length = s + 1 by simp [HWL.out])
              clear own14 gr14 hat14
              go_wp2
              go_roundw
              case rel => exact ⟨k - 1, s + 1, c14, A14, _, wb13, by omega, by omega, rfl, by first | rfl | (rw [q3]) | go_num, L14.out, W14.out, D13.out, T14.out, B14.out⟩
              case measure => simp [intOf]; omega
            · have hcase : ¬ ((0 : Int) < (k : Int)) ∨ ((0 : Int) < (k : Int) ∧ ¬ ((0 : Int) < (N : Int))) := by omega
              have RW := Lib.hid (own_rd (T12.out.own (i := 2) rfl))
              have hwi : wordIn (t : Int) Wd (p : Int) = true := decide_eq_true ⟨by rw [HWL.out]; omega, by omega, by omega⟩
              have G3 := Lib.hid (show appR (t : Int) xss Wd (p : Int) = runW xss p Wd ∧ appC (t : Int) xss Wd (p : Int) = 0 by simp [appR, appC, HS.out, hwi, HWO.out])
              have hin2 := run_orb HS.out hp Wd (p : Int) HWO.out (orb_facts HS.out hp).2.1
              obtain ⟨en, hen⟩ : ∃ en, runW xss p Wd = en := ⟨_, rfl⟩
              rw [hen] at hin2
              have HIN := Lib.hid (show decide (en ∈ O) = true from decide_eq_true (by rw [← HOO.out, (sortL_perm _).mem_iff]; exact hin2))
              have HEN := Lib.hid hen
              clear hwi hin2 hen hkn
              rcases hcase with hk1 | ⟨hk1, hN1⟩
              all_goals
                go_wp2_with fail
                refine (iapp_any (t : Int) (p : Int) _ HX.out (HA.out.keep (S5.out.go B12.out).below) hN HR.out HWL.out RW.out (by omega)).mono ?_
                rintro e w15 ⟨rfl, bel⟩
                rw [G3.out.1, G3.out.2, HEN.out]
                have T15 := Lib.hid (T12.out.go bel)
                have B15 := Lib.hid (B12.out.trans (bel.mono B12.out.size))
                clear bel
                have RA := Lib.hid (own_rd (T15.out.own (i := 0) rfl))
                have RB := Lib.hid (own_rd (T15.out.own (i := 1) rfl))
                go_wp2_with fail
                refine (likeB (n := m) (m := m) _ OL.out OL.out RA.out RB.out (by omega)).mono ?_
                rintro e w16 ⟨rfl, bel⟩
                rw [decide_eq_true rfl]
                have T16 := Lib.hid (T15.out.go bel)
                have B16 := Lib.hid (B15.out.trans (bel.mono B15.out.size))
                clear bel
                go_wp2_with fail
                refine (hasInt_any en _ OL.out (own_rd (T16.out.own (i := 0) rfl)) (by omega) HIN.out).mono ?_
                rintro e w17 ⟨rfl, jj, rfl⟩
                go_wp2
                go_ret
                exact ⟨rfl, B1.out.trans ((S5.out.go (below_drewN B16.out jj)).below.mono B1.out.size)⟩
theorem walk_FnOrbits (a0 : Option Addr) (len0 cap0 : Nat) (z0 : List Int) (w : World) (w0 : IsRow .u8 w a0 len0 cap0 z0) :
    Calls Try.prog 4 #[.slice a0 len0 cap0] w fun e w' => e = .returned (.bool true) ∧ Below w.heap.size w w' := by
  obtain ⟨bs, h1, h2, h3⟩ := isRow_u8 w0
  exact law_FnOrbits w h1 h2 h3
end Go.Proofs.Ytmfddenjemoedaa
