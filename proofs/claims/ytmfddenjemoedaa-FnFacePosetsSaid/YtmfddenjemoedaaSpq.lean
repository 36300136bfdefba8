/- spec.l03Poset. -/
import Derived.Test.YtmfddenjemoedaaSpo
import Derived.Deep.AppendLies
import Derived.Deep.RegionLaw
import Derived.Deep.DeepMust
namespace Go.Proofs.Ytmfddenjemoedaa
open Go.RowKit

/-- What a call gives back that makes a poset: its parts lie apart. -/
def RetPS (w : World) (R : Int) (xs : List Int) (bss : List (List Int)) (e : Ending) (w' : World) : Prop :=
  ∃ (A' : Option Addr) (c' : Nat) (B' : Option Addr) (d' : Nat) (vals : List Value), e = .returned (.agg #[.int .i64 R, .slice A' xs.length c', .slice B' bss.length d']) ∧
    St w w' [.own 2 A' xs.length c' (ints xs), .rows 2 24 B' bss.length d' vals bss]

abbrev poPs (H P : Nat) (m : Value) (N k S cF cL cR cB : Nat) (AF AL AR AB : Option Addr) (fs rs : List Int) (ls bs : List (List Int)) (valsL valsB : List Value) : List Pc :=
  [.blk H #[m] 45, .blk (H + 1) #[.int .i64 0, .slice none 0 0, .slice none 0 0] 62, .own 2 AF k cF (ints fs), .rows 2 24 AL k cL valsL ls,
   .blk P #[.int .i64 N, .slice AR S cR, .slice AB S cB] 62, .own 2 AR S cR (ints rs), .rows 2 24 AB S cB valsB bs]

set_option maxHeartbeats 6400000 in
set_option maxRecDepth 100000 in
theorem spo_any {b o c N n c0 : Nat} {A0 : Option Addr} {xss : List (List Int)} (w : World) (hx : xss.length = N) (ha : RdSS w (some ⟨b, o, none⟩) xss) (hsys : okSys n xss = true) (h0 : w.cell? ⟨b, o, none⟩ = some (.slice A0 n c0)) (hpos : 0 < N) (hn : 0 < n) (hN5 : N ≤ 5) (hn4 : n ≤ 400) :
    Calls Try.prog 81 #[.agg #[.slice (some ⟨b, o, none⟩) N c]] w (RetPS w N (rkL xss n N) ((List.range (fstE xss n N)).map (blwL xss n N))) := by
  have HX := Lib.hid hx
  have HA := Lib.hid ha
  have HS := Lib.hid hsys
  have HC0 := Lib.hid h0
  obtain ⟨S, hS⟩ : ∃ S, fstE xss n N = S := ⟨_, rfl⟩
  have hFb : ∀ j, fstE xss n j ≤ j * 400 := by
    intro j
    induction j with
    | zero => simp [fstE]
    | succ j ih => have := (cn_bd (i := j) hsys hn).2; simp only [fstE]; omega
  have hSb : S ≤ 2000 := by have := hFb N; omega
  have hS1 : 1 ≤ S := by
    have h1 := (cn_bd (i := 0) hsys hn).1
    have h2 := fstE_mono (xss := xss) (n := n) (show 1 ≤ N by omega)
    simp only [fstE] at h2
    omega
  obtain ⟨M, hM⟩ : ∃ M, S * S = M := ⟨_, rfl⟩
  have hMb : M ≤ 4000000 := by have := Nat.mul_le_mul hSb hSb; omega
  have jM : IntKind.i64.wrap ((S : Int) * (S : Int)) = (M : Int) := by
    have e1 : (S : Int) * (S : Int) = (M : Int) := by rw [← hM]; simp
    rw [e1]
    exact IntWalk.i64_in _ (by omega)
  rw [hS]
  have HSS := Lib.hid hS
  have HFB := Lib.hid hFb
  have HM := Lib.hid hM
  have hmk := run_make_row' (P := Try.prog) 84 4 (.bool false) 1 Try.underlying84 Try.infoB rfl .i64 .i64 M (by omega) (by omega)
  have st0 := (((((((St.start w).addBlk #[.slice (some ⟨b, o, none⟩) N c] 45).addBlk #[.int .i64 0, .slice none 0 0, .slice none 0 0] 62).addMade 2).addMadeRows 2 24).addBlk #[.int .i64 N, .slice none 0 0, .slice none 0 0] 62).addNil 2).addNilRows 2 24
  simp at st0
  have S0 := Lib.hid st0
  have hbc := (Bx.start w (.slice (some ⟨b, o, none⟩) N c) 45).cell
  clear hx ha hsys h0 hS hFb hM st0
  go_enter Try.func81, Try.ntmps81
  go_wp2
  clear hbc
  go_loopw [5, 6, 7] (fun u v i wr => ∃ (k cF cL cR cB : Nat) (AF AL AR AB : Option Addr) (valsL valsB : List Value), k ≤ N ∧ u = .slice AF k cF ∧ v = .slice AL k cL ∧ i = .int .i64 k ∧ St w wr (poPs w.heap.size (w.heap.size + 1 + 1 + 1 + 1) (.slice (some ⟨b, o, none⟩) N c) N k (fstE xss n k) cF cL cR cB AF AL AR AB (fsL xss n k) (rkL xss n k) (lbL xss n k) (List.replicate (fstE xss n k) []) valsL valsB)) (fun _ _ i _ => N - (intOf i).toNat)
  case atStart => exact ⟨0, 0, 0, 0, 0, _, _, none, none, [], [], Nat.zero_le _, rfl, rfl, rfl, S0.out⟩
  case round =>
    obtain ⟨k, cF, cL, cR, cB, AF, AL, AR, AB, valsL, valsB, hk, rfl, rfl, rfl, st⟩ := hrel
    have hFk := HFB.out k
    by_cases hlt : k < N
    · obtain ⟨F, hF⟩ : ∃ F, fstE xss n k = F := ⟨_, rfl⟩
      have hFS : F ≤ 2000 := by omega
      rw [hF] at st
      have HF := Lib.hid hF
      have hlo1 := st.lo
      have hbc := (st.blk (i := 0) rfl).cell (i := 0) rfl
      have p1 := (st.blk (i := 4) rfl).cell (i := 1) rfl
      have S1 := Lib.hid st
      clear st S0 hF hFk
      go_wp2_with (at_builtin; refine wpList_push_at _ rfl _ _ 24 2 rfl Try.underlying24 (.int .i64 0) 8 Try.info2 rfl w.heap.size _ _ _ rfl (S1.out.own (i := 2) rfl) _ rfl rfl (by omega) (by omega) (by omega) ?_)
      intro A2 c2 w2 own2 gr2 hat2
      have S2 := Lib.hid (S1.out.push (i := 2) rfl own2 gr2 hat2)
      clear own2 gr2 hat2 hbc p1
      have hbc := (S2.out.blk (i := 0) rfl).cell (i := 0) rfl
      go_wp2_with fail
      refine (sfaces_any w2 HX.out (HA.out.keep S2.out.below) HS.out (cell_be HC0.out S2.out.below) hlt).mono ?_
      rintro e w3 ⟨A3, c3, rfl, own3, bel3⟩
      have S3 := Lib.hid (S2.out.addOwn bel3 own3 (Nat.le_refl _))
      clear own3 bel3 hbc
      have hlo3 := S3.out.lo
      go_wp2_with (at_builtin; refine wpList_push_at _ rfl _ _ 35 24 rfl Try.underlying35 (.slice none 0 0) 24 Try.infoS rfl w.heap.size _ _ _ rfl (S3.out.rows (i := 3) rfl) _ rfl rfl (by omega) (by omega) (by omega) ?_)
      intro A4 c4 w4 own4 gr4 hat4
      have st4 := (S3.out.rowPush (i := 3) (j := 7) rfl rfl (facL_len _ _ _) (by decide) (by decide) own4 gr4 hat4).take 7
      obtain ⟨gL, rfl⟩ := own_shape (st4.rows (i := 3) rfl) (by omega)
      obtain ⟨A5, c5, hv5, own5⟩ := st4.rowAt (i := 3) (k := k) (xs := facL xss n k) rfl (by rw [← lbL_succ]; exact lbL_at (by omega))
      rw [facL_len] at hv5 own5
      have hc5 := own_cell (st4.rows (i := 3) rfl) hv5
      have S4 := Lib.hid st4
      have OW5 := Lib.hid own5
      obtain ⟨q, hq⟩ := Int.eq_ofNat_of_zero_le (grt_fac (i := k) HS.out).1
      have hqb : q ≤ 400 := by have := (grt_fac (i := k) HS.out).2; omega
      have HQ := Lib.hid hq
      have HCN := Lib.hid (show cN xss n k = q by unfold cN; omega)
      have HIN := Lib.hid (facL_in (i := k) HS.out)
      clear own4 gr4 hat4 st4 hv5 own5 hq
      go_wp2_with fail
      refine (grt_any w4 (facL_len _ _ _) (own_rd OW5.out) (by omega) HIN.out).mono ?_
      rintro e w5 ⟨rfl, rfl⟩
      rw [HQ.out]
      clear hc5
      have e1 : ints (fsL xss n (k + 1)) = ints (fsL xss n k) ++ [.int .i64 (F : Int)] := by rw [fsL_succ, HF.out]; simp
      have e2 : rkL xss n k ++ List.replicate 0 (k : Int) = rkL xss n k := by simp
      have S5 := Lib.hid (show St w w4 (poPs w.heap.size (w.heap.size + 1 + 1 + 1 + 1) (.slice (some ⟨b, o, none⟩) N c) N (k + 1) (F + 0) c2 c4 cR cB A2 (some ⟨gL, 0, none⟩) AR AB (fsL xss n (k + 1)) (rkL xss n k ++ List.replicate 0 (k : Int)) (lbL xss n (k + 1)) (List.replicate (F + 0) []) (valsL ++ [.slice A3 n c3]) valsB) from by
        have h := S4.out
        unfold poPs
        rw [e1, e2, lbL_succ]
        exact h)
      clear e1 e2 S1 S2 S3 S4 OW5
      go_wp2
      go_loopw [8] (fun v wr => ∃ (j cR cB : Nat) (AR AB : Option Addr) (valsB : List Value) (z : Int), v = .int .i64 z ∧ z + (j : Int) = (q : Int) ∧ 0 ≤ z ∧ St w wr (poPs w.heap.size (w.heap.size + 1 + 1 + 1 + 1) (.slice (some ⟨b, o, none⟩) N c) N (k + 1) (F + j) c2 c4 cR cB A2 (some ⟨gL, 0, none⟩) AR AB (fsL xss n (k + 1)) (rkL xss n k ++ List.replicate j (k : Int)) (lbL xss n (k + 1)) (List.replicate (F + j) []) (valsL ++ [.slice A3 n c3]) valsB)) (fun v _ => (intOf v).toNat)
      case atStart => exact ⟨0, cR, cB, AR, AB, valsB, _, rfl, by omega, by omega, S5.out⟩
      case round =>
        obtain ⟨j, cR', cB', AR', AB', vB', z, rfl, hz, hz0, st⟩ := hrel
        clear S5
        by_cases hz1 : 0 < z
        · have p1 := (st.blk (i := 4) rfl).cell (i := 1) rfl
          have hlo6 := st.lo
          have S6 := Lib.hid st
          clear st
          go_wp2_with (at_builtin; refine wpList_push_at _ rfl (.tmp 50) (.tmp 52) 24 2 rfl Try.underlying24 (.int .i64 0) 8 Try.info2 rfl w.heap.size _ _ _ rfl (S6.out.own (i := 5) rfl) _ rfl rfl (by omega) (by omega) (by omega) ?_)
          intro A7 c7 w7 own7 gr7 hat7
          have own7' : w7.ownsRow w.heap.size 2 1 (.slice A7 (F + j + 1) c7) (F + j + 1) (ints (rkL xss n k ++ List.replicate (j + 1) (k : Int))) := by
            rw [List.replicate_succ', ← List.append_assoc]
            simpa [ints] using own7
          have st7 := S6.out.push (i := 5) rfl own7' gr7 hat7
          have q1 := (st7.blk (i := 4) rfl).cell (i := 1) rfl
          have f1 := (st7.blk (i := 4) rfl).free 1
          have st8 := st7.blkSet (i := 4) rfl 1 (.slice A7 (F + j + 1) c7)
          have p2 := (st8.blk (i := 4) rfl).cell (i := 2) rfl
          have st9 := st8.addMade 2
          have hz9 : (w7.setCell ⟨w.heap.size + 1 + 1 + 1 + 1, 1, none⟩ (.slice A7 (F + j + 1) c7)).heap.size = w7.heap.size := by simp
          rw [hz9] at st9
          have hlo9 := st7.lo
          have hH9 : ((w7.setCell ⟨w.heap.size + 1 + 1 + 1 + 1, 1, none⟩ (.slice A7 (F + j + 1) c7)).alloc (.cells #[] 2)).heap.size = w7.heap.size + 1 := by simp
          have HH9 := Lib.hid hH9
          have S9 := Lib.hid st9
          clear own7 own7' gr7 hat7 st7 st8 st9 p1 hz9 hH9
          go_wp2_with (at_builtin; go_must (refine wpList_push_h _ rfl (.tmp 56) (.tmp 58) 35 24 rfl Try.underlying35 (.slice none 0 0) 24 Try.infoS rfl _ HH9.out w.heap.size (.slice AB' (F + j) cB') _ _ rfl (S9.out.rows (i := 6) rfl) _ rfl rfl (by omega) (by omega) (by omega) ?_))
          intro A8 c8 w8 own8 gr8 hat8
          have st10 := (S9.out.rowPush (i := 6) (j := 7) (xs := []) rfl rfl rfl (by decide) (by decide) own8 gr8 (by rw [HH9.out]; exact hat8)).take 7
          have q2 := (st10.blk (i := 4) rfl).cell (i := 2) rfl
          have f2 := (st10.blk (i := 4) rfl).free 2
          have S11 := Lib.hid (st10.blkSet (i := 4) rfl 2 (.slice A8 (F + j + 1) c8))
          have e4 : List.replicate (F + (j + 1)) ([] : List Int) = List.replicate (F + j) [] ++ [[]] := List.replicate_succ'
          have HE4 := Lib.hid e4
          clear own8 gr8 hat8 st10 e4 q1 f1 p2
          go_wp2
          go_roundw
          case rel => exact ⟨j + 1, c7, c8, A7, A8, _, z - 1, by go_num, by omega, by omega, by
            have h := S11.out
            unfold poPs
            rw [HE4.out]
            exact h⟩
          case measure => simp [intOf]; omega
        · obtain rfl : z = 0 := by omega
          obtain rfl : j = q := by omega
          have e1 : fstE xss n (k + 1) = F + j := by simp only [fstE]; rw [HF.out, HCN.out]
          have e2 : rkL xss n (k + 1) = rkL xss n k ++ List.replicate j (k : Int) := by rw [rkL, HCN.out]
          rw [← e1, ← e2] at st
          have S7 := Lib.hid st
          clear st e1 e2
          go_wp2
          go_roundw
          case rel => exact ⟨k + 1, _, _, _, _, _, _, _, _, _, _, by omega, rfl, rfl, by go_num, S7.out⟩
          case measure => simp [intOf]; omega
    · obtain rfl : k = N := by omega
      rw [HSS.out] at st
      obtain ⟨gF, rfl⟩ := own_shape (st.own (i := 2) rfl) hpos
      obtain ⟨gL, rfl⟩ := own_shape (st.rows (i := 3) rfl) hpos
      obtain ⟨gB, rfl⟩ := own_shape (st.rows (i := 6) rfl) (show 0 < S by omega)
      rw [rowsP_one (xss := xss) (n := n)] at st
      have S1 := Lib.hid st
      clear st S0 hFk
      go_wp2
      go_loopw [9] (fun v wr => ∃ (i : Nat) (vB : List Value), 1 ≤ i ∧ i ≤ k ∧ v = .int .i64 i ∧ St w wr (poPs w.heap.size (w.heap.size + 1 + 1 + 1 + 1) (.slice (some ⟨b, o, none⟩) k c) k k S cF cL cR cB (some ⟨gF, 0, none⟩) (some ⟨gL, 0, none⟩) AR (some ⟨gB, 0, none⟩) (fsL xss n k) (rkL xss n k) (lbL xss n k) (rowsP xss n S i 0 0) valsL vB)) (fun v _ => k - (intOf v).toNat)
      case atStart => exact ⟨1, valsB, Nat.le_refl _, hpos, rfl, S1.out⟩
      case round =>
        obtain ⟨i, vB, hi1, hik, rfl, st⟩ := hrel
        by_cases hlt : i < k
        · have p2 := (st.blk (i := 4) rfl).cell (i := 2) rfl
          have S2 := Lib.hid (st.addMake (.bool false) M 4 (by unfold maxLen; omega))
          have HLT := Lib.hid hlt
          have hin : i < 5 := by omega
          obtain ⟨wo, hwo⟩ : ∃ wo, wo = wr := ⟨_, rfl⟩
          subst hwo
          clear st S1
          go_wp2
          clear p2
          go_loopw [12] (fun v wi => ∃ f : Nat, f ≤ n ∧ v = .int .i64 f ∧ St w wi (poPs w.heap.size (w.heap.size + 1 + 1 + 1 + 1) (.slice (some ⟨b, o, none⟩) k c) k k S cF cL cR cB (some ⟨gF, 0, none⟩) (some ⟨gL, 0, none⟩) AR (some ⟨gB, 0, none⟩) (fsL xss n k) (rkL xss n k) (lbL xss n k) (rowsP xss n S i 0 0) valsL vB ++ [.own 4 (some ⟨wo.heap.size, 0, none⟩) M M (seenL M (posL xss n S i f 0))])) (fun v _ => n - (intOf v).toNat)
          case atStart => exact ⟨0, Nat.zero_le _, rfl, by rw [posL_zero, seenL_nil]; exact S2.out⟩
          case round =>
            obtain ⟨f, hf, rfl, st⟩ := hrel
            clear S2
            have hbc := (st.blk (i := 0) rfl).cell (i := 0) rfl
            have S3 := Lib.hid st
            clear st
            by_cases hfn : f < n
            · have fI : (f : Int) < (n : Int) := by omega
              go_wp2_with fail
              refine (sFlags_bel _ hpos (cell_be HC0.out S3.out.below)).mono ?_
              rintro e wa ⟨rfl, bel⟩
              have S4 := Lib.hid (S3.out.go bel)
              clear bel hbc S3
              go_wp2
              go_loopw [13] (fun v wi => ∃ t : Nat, t ≤ i ∧ v = .int .i64 t ∧ St w wi (poPs w.heap.size (w.heap.size + 1 + 1 + 1 + 1) (.slice (some ⟨b, o, none⟩) k c) k k S cF cL cR cB (some ⟨gF, 0, none⟩) (some ⟨gL, 0, none⟩) AR (some ⟨gB, 0, none⟩) (fsL xss n k) (rkL xss n k) (lbL xss n k) (rowsP xss n S i 0 0) valsL vB ++ [.own 4 (some ⟨wo.heap.size, 0, none⟩) M M (seenL M (posL xss n S i f t))])) (fun v _ => i - (intOf v).toNat)
              case atStart => exact ⟨0, Nat.zero_le _, rfl, S4.out⟩
              case round =>
                obtain ⟨t, ht, rfl, st⟩ := hrel
                clear S4
                by_cases hti : t < i
                · obtain ⟨xi, hxi⟩ : ∃ x : Int, (facL xss n i).getD f 0 = x := ⟨_, rfl⟩
                  obtain ⟨xt, hxt⟩ : ∃ x : Int, (facL xss n t).getD f 0 = x := ⟨_, rfl⟩
                  obtain ⟨Fi, hFi⟩ : ∃ x : Nat, fstE xss n i = x := ⟨_, rfl⟩
                  obtain ⟨Ft, hFt⟩ : ∃ x : Nat, fstE xss n t = x := ⟨_, rfl⟩
                  obtain ⟨ai, hai⟩ : ∃ x : Nat, fE xss n i f = x := ⟨_, rfl⟩
                  obtain ⟨atx, hax⟩ : ∃ x : Nat, fE xss n t f = x := ⟨_, rfl⟩
                  obtain ⟨_, _, bi, _, _⟩ := fE_bd (i := i) HS.out hfn
                  obtain ⟨_, _, bt, _, _⟩ := fE_bd (i := t) HS.out hfn
                  have li := fE_lt (N := k) HS.out hfn HLT.out
                  have lt' := fE_lt (N := k) HS.out hfn (show t < k by omega)
                  have hbi := facL_in (i := i) HS.out xi (by rw [← hxi]; exact List.mem_of_getElem? (facL_at hfn))
                  have hbt := facL_in (i := t) HS.out xt (by rw [← hxt]; exact List.mem_of_getElem? (facL_at hfn))
                  have c1 := own_cell (st.own (i := 2) rfl) (show (ints (fsL xss n k))[i]? = some (.int .i64 (Fi : Int)) by simp [fsL_at HLT.out, hFi])
                  have c4 := own_cell (st.own (i := 2) rfl) (show (ints (fsL xss n k))[t]? = some (.int .i64 (Ft : Int)) by simp [fsL_at (show t < k by omega), hFt])
                  obtain ⟨Ai, ci, hvi, owi⟩ := st.rowAt (i := 3) (k := i) (xs := facL xss n i) rfl (lbL_at HLT.out)
                  obtain ⟨At, ct, hvt, owt⟩ := st.rowAt (i := 3) (k := t) (xs := facL xss n t) rfl (lbL_at (show t < k by omega))
                  rw [facL_len] at hvi owi hvt owt
                  have c2 := own_cell (st.rows (i := 3) rfl) hvi
                  have c5 := own_cell (st.rows (i := 3) rfl) hvt
                  obtain ⟨gi, rfl⟩ := own_shape owi hn
                  obtain ⟨gt, rfl⟩ := own_shape owt hn
                  have c3 := own_cell owi (show (ints (facL xss n i))[f]? = some (.int .i64 xi) by rw [ints, List.getElem?_map, facL_at hfn, hxi]; rfl)
                  have c6 := own_cell owt (show (ints (facL xss n t))[f]? = some (.int .i64 xt) by rw [ints, List.getElem?_map, facL_at hfn, hxt]; rfl)
                  rw [HSS.out, hai] at li
                  rw [HSS.out, hax] at lt'
                  rw [hFi, hai, hxi] at bi
                  rw [hFt, hax, hxt] at bt
                  have hp := pos_lt li lt'
                  rw [HM.out] at hp
                  obtain ⟨aS, haS⟩ : ∃ x : Nat, ai * S = x := ⟨_, rfl⟩
                  rw [haS] at hp
                  have j1 : IntKind.i64.wrap ((Fi : Int) + xi) = (ai : Int) := (IntWalk.i64_in _ (by omega)).trans (by omega)
                  have j2 : IntKind.i64.wrap ((ai : Int) * (S : Int)) = (aS : Int) := by
                    have : (ai : Int) * (S : Int) = (aS : Int) := by rw [← haS]; simp
                    rw [this]
                    exact IntWalk.i64_in _ (by omega)
                  obtain ⟨rS, hrS⟩ : ∃ x : Nat, aS + Ft = x := ⟨_, rfl⟩
                  obtain ⟨p, hpS⟩ : ∃ x : Nat, aS + atx = x := ⟨_, rfl⟩
                  have j3 : IntKind.i64.wrap ((aS : Int) + (Ft : Int)) = (rS : Int) := (IntWalk.i64_in _ (by omega)).trans (by omega)
                  have j4 : IntKind.i64.wrap ((rS : Int) + xt) = (p : Int) := (IntWalk.i64_in _ (by omega)).trans (by omega)
                  rw [hpS] at hp
                  have HPS := Lib.hid (show posL xss n S i f (t + 1) = posL xss n S i f t ++ [(p : Int)] by rw [posL_step, posN, hai, hax, haS, hpS])
                  have c7 := own_cell (st.own (i := 7) rfl) (seenL_at hp)
                  have f7 := (st.own (i := 7) rfl).frozenAt p
                  have S5 := Lib.hid (show St w (wr.drew.setCell ⟨wo.heap.size, p, none⟩ (.bool true)) (poPs w.heap.size (w.heap.size + 1 + 1 + 1 + 1) (.slice (some ⟨b, o, none⟩) k c) k k S cF cL cR cB (some ⟨gF, 0, none⟩) (some ⟨gL, 0, none⟩) AR (some ⟨gB, 0, none⟩) (fsL xss n k) (rkL xss n k) (lbL xss n k) (rowsP xss n S i 0 0) valsL vB ++ [.own 4 (some ⟨wo.heap.size, 0, none⟩) M M (seenL M (posL xss n S i f (t + 1)))]) from by
                    rw [HPS.out, ← seenL_set]
                    exact (st.go (below_drewN (Below.refl _ _) 1)).store (i := 7) rfl p (.bool true))
                  have hiI : (i : Int) < (k : Int) := by have := HLT.out; omega
                  have htI : (t : Int) < (k : Int) := by have := HLT.out; omega
                  have hpI : (p : Int) < (M : Int) := by omega
                  have fI : (f : Int) < (n : Int) := by omega
                  clear hxi hxt hFi hFt hai hax bi bt li lt' hbi hbt hvi hvt owi owt haS hrS hpS st
                  go_wp2
                  go_still_tail 29, (by kernel_rfl)
                  go_wp2
                  go_roundw
                  case rel => exact ⟨t + 1, by omega, by go_num, S5.out⟩
                  case measure => simp [intOf]; omega
                · obtain rfl : t = i := by omega
                  rw [posL_next] at st
                  have S5 := Lib.hid st
                  clear st
                  go_wp2
                  go_roundw
                  case rel => exact ⟨f + 1, by omega, by go_num, S5.out⟩
                  case measure => simp [intOf]; omega
            · obtain rfl : f = n := by omega
              go_wp2_with fail
              refine (sFlags_bel _ hpos (cell_be HC0.out S3.out.below)).mono ?_
              rintro e wa ⟨rfl, bel⟩
              have S4 := Lib.hid (S3.out.go bel)
              clear bel hbc S3
              go_wp2
              go_loopw [14] (fun v wi => ∃ (e : Nat) (vB : List Value), e ≤ S ∧ v = .int .i64 e ∧ St w wi (poPs w.heap.size (w.heap.size + 1 + 1 + 1 + 1) (.slice (some ⟨b, o, none⟩) k c) k k S cF cL cR cB (some ⟨gF, 0, none⟩) (some ⟨gL, 0, none⟩) AR (some ⟨gB, 0, none⟩) (fsL xss f k) (rkL xss f k) (lbL xss f k) (rowsP xss f S i e 0) valsL vB ++ [.own 4 (some ⟨wo.heap.size, 0, none⟩) M M (seenL M (posL xss f S i f 0))])) (fun v _ => S - (intOf v).toNat)
              case atStart => exact ⟨0, vB, Nat.zero_le _, rfl, S4.out⟩
              case round =>
                obtain ⟨e, vB, he, rfl, st⟩ := hrel
                have S5 := Lib.hid st
                clear st S4
                by_cases heS : e < S
                · obtain ⟨eS, heq⟩ : ∃ x : Nat, e * S = x := ⟨_, rfl⟩
                  have hpl : ∀ d, d < S → eS + d < M := fun d hd => by have := pos_lt heS hd; rw [HM.out, heq] at this; exact this
                  have j5 : IntKind.i64.wrap ((e : Int) * (S : Int)) = (eS : Int) := by
                    have : (e : Int) * (S : Int) = (eS : Int) := by rw [← heq]; simp
                    rw [this]
                    have := hpl 0 (by omega)
                    exact IntWalk.i64_in _ (by omega)
                  have HPL := Lib.hid hpl
                  have HEQ := Lib.hid heq
                  clear hpl heq
                  go_wp2
                  go_loopw [15] (fun v wi => ∃ (d : Nat) (vB : List Value), d ≤ S ∧ v = .int .i64 d ∧ St w wi (poPs w.heap.size (w.heap.size + 1 + 1 + 1 + 1) (.slice (some ⟨b, o, none⟩) k c) k k S cF cL cR cB (some ⟨gF, 0, none⟩) (some ⟨gL, 0, none⟩) AR (some ⟨gB, 0, none⟩) (fsL xss f k) (rkL xss f k) (lbL xss f k) (rowsP xss f S i e d) valsL vB ++ [.own 4 (some ⟨wo.heap.size, 0, none⟩) M M (seenL M (posL xss f S i f 0))])) (fun v _ => S - (intOf v).toNat)
                  case atStart => exact ⟨0, vB, Nat.zero_le _, rfl, S5.out⟩
                  case round =>
                    obtain ⟨d, vB, hd, rfl, st⟩ := hrel
                    clear S5
                    by_cases hdS : d < S
                    · obtain ⟨p, hpS⟩ : ∃ x : Nat, eS + d = x := ⟨_, rfl⟩
                      have hp := HPL.out d hdS
                      rw [hpS] at hp
                      have c7 := own_cell (st.own (i := 7) rfl) (seenL_at hp)
                      have j6 : IntKind.i64.wrap ((eS : Int) + (d : Int)) = (p : Int) := (IntWalk.i64_in _ (by omega)).trans (by omega)
                      have hpI : (p : Int) < (M : Int) := by omega
                      have hmem := posL_mem (i := i) (e := e) HS.out HSS.out HLT.out hdS
                      rw [HEQ.out, hpS] at hmem
                      cases hb : decide ((p : Int) ∈ posL xss f S i f 0)
                      · rw [hb] at c7
                        have hfr : ¬ FR xss f i e d := fun h => of_decide_eq_false hb (hmem.2 h)
                        rw [← rowsP_no hfr] at st
                        have S6 := Lib.hid st
                        clear st hb hmem hfr hpS
                        go_wp2
                        go_roundw
                        case rel => exact ⟨d + 1, _, by omega, by go_num, S6.out⟩
                        case measure => simp [intOf]; omega
                      · rw [hb] at c7
                        have hfr : FR xss f i e d := hmem.1 (of_decide_eq_true hb)
                        obtain ⟨r, hr⟩ : ∃ r, blTo xss f S i e ++ addL xss f i e d = r := ⟨_, rfl⟩
                        have hra : (rowsP xss f S i e d)[e]? = some r := by rw [← hr]; exact rowsP_at heS
                        have hy := rowsP_yes heS hfr
                        rw [hr] at hy
                        have hrl : r.length ≤ 20000 := by
                          have h1 := rowsP_row (List.mem_of_getElem? hra)
                          have h2 : (i + 1) * S ≤ 6 * 2000 := Nat.mul_le_mul (by omega) hSb
                          omega
                        obtain ⟨A1, c1, hv, ow⟩ := st.rowAt (i := 6) (k := e) rfl hra
                        have hc1 := own_cell (st.rows (i := 6) rfl) hv
                        have p2 := (st.blk (i := 4) rfl).cell (i := 2) rfl
                        have hlo := st.lo
                        have Sd := Lib.hid (st.go (below_drewN (Below.refl _ _) 1))
                        have OWd := Lib.hid (own_below ow (below_drewN (Below.refl _ _) 1) (Nat.le_refl _))
                        have HRA := Lib.hid hra
                        have HY := Lib.hid hy
                        have HV := Lib.hid hv
                        have HCAT := Lib.hid (show ints (r ++ [(d : Int)]) = ints r ++ [.int .i64 (d : Int)] by simp)
                        have HLEN := Lib.hid (show (r ++ [(d : Int)]).length = r.length + 1 by simp)
                        obtain ⟨i0, hi0, hz0, hz1, hz2⟩ := info_parts Try.info2
                        have hnews : ∀ (j : Nat) (u : Value), ([.int .i64 (d : Int)] : List Value)[j]? = some u → ((wr.drewN 1).alloc (.cells #[.int .i64 (d : Int)] 2)).cell? ((⟨wr.heap.size, 0, none⟩ : Addr).add j) = some u := by
                          intro j y hj
                          match j, hj with
                          | 0, hj =>
                            simp at hj
                            subst hj
                            have := (Blk.new (wr.drewN 1) #[.int .i64 (d : Int)] 2).cell (i := 0) rfl
                            simpa [Addr.add] using this
                        have hone : ∀ u ∈ ([.int .i64 (d : Int)] : List Value), u.oneCell' = true := by
                          intro y hy
                          simp at hy
                          subst hy
                          rfl
                        have HNEWS := Lib.hid hnews
                        have HONE := Lib.hid hone
                        have h63 : r.length + 1 ≤ maxLen := by unfold maxLen; omega
                        have p3 := cell_al p2 (.cells #[.int .i64 (d : Int)] 2)
                        have hc3 := cell_al hc1 (.cells #[.int .i64 (d : Int)] 2)
                        have eSI : (e : Int) < (S : Int) := by omega
                        clear st hb hmem hfr hpS hr hra hy hv ow hnews hone
                        go_wp2
                        go_region_law ((refine step_append_lies _ (by rfl) _ _ 24 (by rfl) w.heap.size 2 i0 (.int .i64 0) 1 8 Try.underlying24 hi0 hz0 hz1 hz2 (by rfl) (by decide) (.slice A1 r.length c1) r.length _ (by rfl) (OWd.out.alloc _) ⟨wr.heap.size, 0, none⟩ 1 1 [.int .i64 (d : Int)] (by rfl) (by rfl) HNEWS.out HONE.out (by omega) h63 (by omega) (by simp; omega) (wr.heap.size + 1) (by simp) ?_; intro gg cap w4 own4 gr4 hat4 hlt4; have F4 := Sd.out.rowBlk (i := 6) (j := 4) rfl HRA.out HV.out rfl (by decide) (below1 _ _) gr4; have p4 := F4.cell (i := 2) rfl; obtain ⟨NS, fz, cl⟩ := Sd.out.rowTurn (i := 6) rfl (by decide) HRA.out HV.out (below1 _ _) HLEN.out (by rw [HCAT.out]; exact own4) gr4 (by rcases hat4 with h | h; exact .inl h.symm; exact .inr (fun b hb => by simp [Value.ownBlock] at hb; show wr.heap.size ≤ b; omega))))
                        all_goals
                          have S6 := Lib.hid (show St w (w4.setCell ⟨gB, e, none⟩ (.slice (some ⟨gg, 0, none⟩) (r.length + 1) cap)) (poPs w.heap.size (w.heap.size + 1 + 1 + 1 + 1) (.slice (some ⟨b, o, none⟩) k c) k k S cF cL cR cB (some ⟨gF, 0, none⟩) (some ⟨gL, 0, none⟩) AR (some ⟨gB, 0, none⟩) (fsL xss f k) (rkL xss f k) (lbL xss f k) (rowsP xss f S i e (d + 1)) valsL (vB.set e (.slice (some ⟨gg, 0, none⟩) (r.length + 1) cap)) ++ [.own 4 (some ⟨wo.heap.size, 0, none⟩) M M (seenL M (posL xss f S i f 0))]) from by
                            rw [← HY.out]
                            exact NS)
                          clear NS own4 gr4 hat4
                          go_wp2
                          go_roundw
                          case rel => exact ⟨d + 1, _, by omega, by go_num, S6.out⟩
                          case measure => simp [intOf]; omega
                    · obtain rfl : d = S := by omega
                      rw [rowsP_next] at st
                      have S6 := Lib.hid st
                      clear st
                      go_wp2
                      go_roundw
                      case rel => exact ⟨e + 1, _, by omega, by go_num, S6.out⟩
                      case measure => simp [intOf]; omega
                · obtain rfl : e = S := by omega
                  have st := (S5.out).take 7
                  rw [rowsP_turn] at st
                  have S6 := Lib.hid (show St w wr (poPs w.heap.size (w.heap.size + 1 + 1 + 1 + 1) (.slice (some ⟨b, o, none⟩) k c) k k e cF cL cR cB (some ⟨gF, 0, none⟩) (some ⟨gL, 0, none⟩) AR (some ⟨gB, 0, none⟩) (fsL xss f k) (rkL xss f k) (lbL xss f k) (rowsP xss f e (i + 1) 0 0) valsL vB) from st)
                  clear st S5
                  go_wp2
                  go_roundw
                  case rel => exact ⟨i + 1, _, by omega, by have := HLT.out; omega, by go_num, S6.out⟩
                  case measure => simp [intOf]; omega
        · obtain rfl : i = k := by omega
          rw [rowsP_all HS.out HSS.out] at st
          have z0 := (st.blk (i := 1) rfl).cell (i := 0) rfl
          have z1 := (st.blk (i := 1) rfl).cell (i := 1) rfl
          have z2 := (st.blk (i := 1) rfl).cell (i := 2) rfl
          have f0 := (st.blk (i := 1) rfl).free 0
          have f1 := (st.blk (i := 1) rfl).free 1
          have f2 := (st.blk (i := 1) rfl).free 2
          have o0 := (st.blk (i := 4) rfl).cell (i := 0) rfl
          have o1 := (st.blk (i := 4) rfl).cell (i := 1) rfl
          have o2 := (st.blk (i := 4) rfl).cell (i := 2) rfl
          have S2 := Lib.hid st
          clear st S1 hmk jM
          go_wp2
          have st4 := ((S2.out.blkSet (i := 1) rfl 0 (.int .i64 i)).blkSet (i := 1) rfl 1 (.slice AR S cR)).blkSet (i := 1) rfl 2 (.slice (some ⟨gB, 0, none⟩) S cB)
          have y0 := (st4.blk (i := 1) rfl).cell (i := 0) rfl
          have y1 := (st4.blk (i := 1) rfl).cell (i := 1) rfl
          have y2 := (st4.blk (i := 1) rfl).cell (i := 2) rfl
          have hlx : (rkL xss n i).length = S := by rw [rkL_len, HSS.out]
          have hlb : ((List.range S).map (blwL xss n i)).length = S := by simp
          refine bodyPost_ret (v := .agg #[.int .i64 i, .slice AR S cR, .slice (some ⟨gB, 0, none⟩) S cB]) (by simp [results, Try.results81, go_sem, y0, y1, y2]) rfl ⟨AR, cR, some ⟨gB, 0, none⟩, cB, vB, by rw [hlx, hlb], ?_⟩
          rw [hlx, hlb]
          exact st4.pick (fun i => i + 5) (fun i hi => by simp at hi ⊢; omega) (fun i hi => by match i, hi with | 0, _ => rfl | 1, _ => rfl) (fun i j _ _ h => by omega)
end Go.Proofs.Ytmfddenjemoedaa
