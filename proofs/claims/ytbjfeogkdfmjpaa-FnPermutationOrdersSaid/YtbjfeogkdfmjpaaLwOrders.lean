import Derived.Test.YtbjfeogkdfmjpaaOrdT
import Derived.Test.YtbjfeogkdfmjpaaFrame
namespace Go.Proofs.Ytbjfeogkdfmjpaa
open Go.RowKit

theorem unitL_len (n : Nat) : (unitL n).length = n := by simp [unitL]
theorem iUnitT {A A2 : Option Addr} {c c2 n : Nat} {xs : List Int} (w : World) (hx : xs.length = n) (ha : Rd w A (ints xs)) (hn : n ≤ 1048576) (hp : okP xs = true) (ha2 : Rd w A2 (ints (powL xs (-1)))) :
    Calls Try.prog 28 #[.slice A n c, .slice A2 n c2] w (RetT w (unitL n) n 0) := by
  rw [← then_inv hx hp, inv_powL]
  exact iThenT w hx ha hn hp (by rw [powL_length, hx]) ha2 (okP_powL hp _)
theorem iBothT {A A2 : Option Addr} {c c2 n : Nat} {xs : List Int} {a b : Int} (w : World) (hx : xs.length = n) (ha : Rd w A (ints (powL xs a))) (hn : n ≤ 1048576) (hp : okP xs = true) (ha2 : Rd w A2 (ints (powL xs b))) :
    Calls Try.prog 28 #[.slice A n c, .slice A2 n c2] w (RetT w (powL xs (a + b)) n 0) := by
  rw [← powL_add hx hp]
  exact iThenT w (by rw [powL_length, hx]) ha hn (okP_powL hp _) (by rw [powL_length, hx]) ha2 (okP_powL hp _)

set_option maxHeartbeats 6400000 in
set_option maxRecDepth 8000 in
theorem law_PermutationOrders {A0 : Option Addr} {c0 n0 : Nat} {bs : List Value} (w : World) (hl : bs.length = n0) (hr : Rd w A0 bs) (hu : ∀ v ∈ bs, ∃ x : Nat, v = .int .u8 x ∧ x < 256) :
    Calls Try.prog 3 #[.slice A0 n0 c0] w fun e w' => e = .returned (.bool true) ∧ Below w.heap.size w w' := by
  have HL := Lib.hid hl
  have RC_0 := Lib.hid hr
  have HU := Lib.hid hu
  have B0 := Lib.hid (Below.refl w.heap.size w)
  clear hl hr hu
  by_cases hbig : (4096 : Int) < (n0 : Int)
  · go_enter Try.func3, Try.ntmps3
    go_wp2_with fail
    refine (big_any w).mono ?_
    rintro e wz ⟨rfl, rfl⟩
    rw [decide_eq_true (show (4096 : Int) < (n0 : Int) by omega)]
    go_wp2
    go_ret
    exact ⟨rfl, B0.out⟩
  have hn0 : n0 ≤ 1048576 := by omega
  go_enter Try.func3, Try.ntmps3
  go_wp2_with fail
  refine (big_any w).mono ?_
  rintro e wz ⟨rfl, rfl⟩
  rw [decide_eq_false (show ¬ (4096 : Int) < (n0 : Int) by omega)]
  go_wp2_with fail
  refine (drawOrd w HL.out RC_0.out HU.out hn0).mono ?_
  rintro e w1 ⟨A, c, n, L, rfl, hL, hn, own, bel⟩
  have HX := Lib.hid hL
  have RP_1 := Lib.hid (own_rd own)
  have HBK := Lib.hid (fun (b o : Nat) (e : A = some ⟨b, o, none⟩) => (own_block own e).2)
  have RC_1 := Lib.hid (RC_0.out.keep bel)
  have B1 := Lib.hid bel
  have z1 := bel.size
  clear hL own bel
  cases hp : okP L
  · have hR : ordR L = 0 := by simp [ordR, hp]
    have hC : ordC L = 1 := by simp [ordC, hp]
    have HP := Lib.hid hp
    have HR := Lib.hid hR
    have HC := Lib.hid hC
    clear hp hR hC
    go_wp2_with fail
    refine (iOrd_any w1 HX.out RP_1.out hn).mono ?_
    rintro e w2 ⟨rfl, bel⟩
    have RP_2 := Lib.hid (RP_1.out.keep bel)
    have B2 := Lib.hid (B1.out.trans (bel.mono B1.out.size))
    have z2 := bel.size
    rw [HR.out, HC.out]
    clear bel
    go_wp2_with fail
    refine (sOrd_any w2 HX.out RP_2.out hn).mono ?_
    rintro e w3 ⟨rfl, bel⟩
    have RP_3 := Lib.hid (RP_2.out.keep bel)
    have B3 := Lib.hid (B2.out.trans (bel.mono B2.out.size))
    have z3 := bel.size
    rw [HR.out, HC.out]
    clear bel
    go_wp2_with fail
    refine (iperm_any w3 HX.out RP_3.out hn).mono ?_
    rintro e w4 ⟨rfl, bel⟩
    have RP_4 := Lib.hid (RP_3.out.keep bel)
    have B4 := Lib.hid (B3.out.trans (bel.mono B3.out.size))
    have z4 := bel.size
    rw [HP.out]
    clear bel
    go_wp2_with fail
    refine (sperm_any w4 HX.out RP_4.out hn).mono ?_
    rintro e w5 ⟨rfl, bel⟩
    have RP_5 := Lib.hid (RP_4.out.keep bel)
    have B5 := Lib.hid (B4.out.trans (bel.mono B4.out.size))
    have z5 := bel.size
    rw [HP.out]
    clear bel
    go_wp2
    go_ret
    exact ⟨rfl, B5.out⟩
  have HCS := Lib.hid (ord_cases hp)
  have HP := Lib.hid hp
  obtain ⟨R, hR⟩ : ∃ R, ordR L = R := ⟨_, rfl⟩
  obtain ⟨C, hC⟩ : ∃ C, ordC L = C := ⟨_, rfl⟩
  have HR := Lib.hid hR
  have HC := Lib.hid hC
  rw [hR, hC] at HCS
  have hc1 : (C == 1) = false := by rw [beq_eq_false_iff_ne]; have := HCS.out; omega
  have hcc : (C != C) = false := by simp
  have hrr : (R != R) = false := by simp
  clear hp hR hC
  go_wp2_with fail
  refine (iOrd_any w1 HX.out RP_1.out hn).mono ?_
  rintro e w2 ⟨rfl, bel⟩
  have RP_2 := Lib.hid (RP_1.out.keep bel)
  have RC_2 := Lib.hid (RC_1.out.keep bel)
  have B2 := Lib.hid (B1.out.trans (bel.mono B1.out.size))
  have z2 := bel.size
  rw [HR.out, HC.out]
  clear bel
  go_wp2_with fail
  refine (sOrd_any w2 HX.out RP_2.out hn).mono ?_
  rintro e w3 ⟨rfl, bel⟩
  have RP_3 := Lib.hid (RP_2.out.keep bel)
  have RC_3 := Lib.hid (RC_2.out.keep bel)
  have B3 := Lib.hid (B2.out.trans (bel.mono B2.out.size))
  have z3 := bel.size
  rw [HR.out, HC.out]
  clear bel
  go_wp2_with fail
  refine (iperm_any w3 HX.out RP_3.out hn).mono ?_
  rintro e w4 ⟨rfl, bel⟩
  have RP_4 := Lib.hid (RP_3.out.keep bel)
  have RC_4 := Lib.hid (RC_3.out.keep bel)
  have B4 := Lib.hid (B3.out.trans (bel.mono B3.out.size))
  have z4 := bel.size
  rw [HP.out]
  clear bel
  go_wp2_with fail
  refine (sperm_any w4 HX.out RP_4.out hn).mono ?_
  rintro e w5 ⟨rfl, bel⟩
  have RP_5 := Lib.hid (RP_4.out.keep bel)
  have RC_5 := Lib.hid (RC_4.out.keep bel)
  have B5 := Lib.hid (B4.out.trans (bel.mono B4.out.size))
  have z5 := bel.size
  rw [HP.out]
  clear bel
  go_wp2_with fail
  refine (roll_any w5 HL.out RC_5.out HU.out hn0 (s := 701) (by omega) (by omega)).mono ?_
  rintro e w6 ⟨g, at', h', rfl, hg, hg1, src, bel⟩
  have RP_6 := Lib.hid (RP_5.out.keep bel)
  have B6 := Lib.hid (B5.out.trans (bel.mono B5.out.size))
  have z6 := bel.size
  have S6 := Lib.hid (show SrcE w6 g A0 n0 c0 bs from ⟨at', h', src⟩)
  clear src
  have hgw : w.heap.size ≤ g := by have := B5.out.size; omega
  have HG := Lib.hid (fun (b o : Nat) (e : A = some ⟨b, o, none⟩) => (show b < g ∨ g + 1 ≤ b by have := HBK.out b o e; omega))
  clear bel
  go_wp2_with fail
  refine (belowE w6 S6.out hn0 (by omega)).mono ?_
  rintro e w7 ⟨r, rfl, ⟨r0, r1⟩, s, tu⟩
  have S7 := Lib.hid s
  have RP_7 := Lib.hid (tu.rd RP_6.out HG.out)
  have B7 := Lib.hid (tu.below B6.out B6.out.size hgw)
  clear s tu
  go_wp2_with fail
  refine (belowE w7 S7.out hn0 (by omega)).mono ?_
  rintro e w8 ⟨q, rfl, ⟨q0, q1⟩, s, tu⟩
  have S8 := Lib.hid s
  have RP_8 := Lib.hid (tu.rd RP_7.out HG.out)
  have B8 := Lib.hid (tu.below B7.out B7.out.size hgw)
  clear s tu
  go_wp2_with fail
  refine (iPowT _ w8 HX.out RP_8.out hn HP.out (by omega) (by omega)).mono ?_
  rintro e w9 ⟨A9, c9, rfl, own, bel⟩
  have RP_9 := Lib.hid (RP_8.out.keep bel)
  have B9 := Lib.hid (B8.out.trans (bel.mono B8.out.size))
  have z9 := bel.size
  have RX_9 := Lib.hid (own_rd own)
  clear bel own
  go_wp2_with fail
  refine (iPowT _ w9 HX.out RP_9.out hn HP.out (by omega) (by omega)).mono ?_
  rintro e w10 ⟨A10, c10, rfl, own, bel⟩
  have RP_10 := Lib.hid (RP_9.out.keep bel)
  have RX_10 := Lib.hid (RX_9.out.keep bel)
  have B10 := Lib.hid (B9.out.trans (bel.mono B9.out.size))
  have z10 := bel.size
  have RY_10 := Lib.hid (own_rd own)
  clear bel own
  go_wp2_with fail
  refine (iPowT _ w10 HX.out RP_10.out hn HP.out (by omega) (by omega)).mono ?_
  rintro e w11 ⟨A11, c11, rfl, own, bel⟩
  have RP_11 := Lib.hid (RP_10.out.keep bel)
  have RX_11 := Lib.hid (RX_10.out.keep bel)
  have RY_11 := Lib.hid (RY_10.out.keep bel)
  have B11 := Lib.hid (B10.out.trans (bel.mono B10.out.size))
  have z11 := bel.size
  have RZ_11 := Lib.hid (own_rd own)
  clear bel own
  go_wp2_with fail
  refine (iBothT w11 HX.out RX_11.out hn HP.out RY_11.out).mono ?_
  rintro e w12 ⟨A12, c12, rfl, own, bel⟩
  have RP_12 := Lib.hid (RP_11.out.keep bel)
  have RZ_12 := Lib.hid (RZ_11.out.keep bel)
  have B12 := Lib.hid (B11.out.trans (bel.mono B11.out.size))
  have z12 := bel.size
  have RB_12 := Lib.hid (own_rd own)
  clear bel own
  go_wp2_with fail
  refine (iInvT w12 HX.out RP_12.out hn HP.out).mono ?_
  rintro e w13 ⟨A13, c13, rfl, own, bel⟩
  have RP_13 := Lib.hid (RP_12.out.keep bel)
  have RZ_13 := Lib.hid (RZ_12.out.keep bel)
  have RB_13 := Lib.hid (RB_12.out.keep bel)
  have B13 := Lib.hid (B12.out.trans (bel.mono B12.out.size))
  have z13 := bel.size
  have RI_13 := Lib.hid (own_rd own)
  clear bel own
  go_wp2_with fail
  refine (iUnitT w13 HX.out RP_13.out hn HP.out RI_13.out).mono ?_
  rintro e w14 ⟨A14, c14, rfl, own, bel⟩
  have RP_14 := Lib.hid (RP_13.out.keep bel)
  have RZ_14 := Lib.hid (RZ_13.out.keep bel)
  have RB_14 := Lib.hid (RB_13.out.keep bel)
  have B14 := Lib.hid (B13.out.trans (bel.mono B13.out.size))
  have z14 := bel.size
  have RU_14 := Lib.hid (own_rd own)
  clear bel own
  obtain ⟨m, hm⟩ : ∃ m, (lensL L).length = m := ⟨_, rfl⟩
  have hmn : m ≤ n := by have h1 := lensL_length L; have h2 := cycL_le L; rw [HX.out] at h2; omega
  have HM := Lib.hid hm
  clear hm
  go_wp2_with fail
  refine (iLenT w14 HX.out RP_14.out hn HP.out HM.out).mono ?_
  rintro e w15 ⟨A15, c15, rfl, own, bel⟩
  have RP_15 := Lib.hid (RP_14.out.keep bel)
  have RZ_15 := Lib.hid (RZ_14.out.keep bel)
  have RB_15 := Lib.hid (RB_14.out.keep bel)
  have RU_15 := Lib.hid (RU_14.out.keep bel)
  have B15 := Lib.hid (B14.out.trans (bel.mono B14.out.size))
  have z15 := bel.size
  have RL_15 := Lib.hid (own_rd own)
  clear bel own
  have hnn : ((n : Int) != (n : Int)) = false := by simp
  go_wp2_with fail
  refine (likeB w15 (by rw [powL_length, HX.out]) (by rw [powL_length, HX.out]) RB_15.out RZ_15.out hn).mono ?_
  rintro e w16 ⟨rfl, bel⟩
  have RP_16 := Lib.hid (RP_15.out.keep bel)
  have RU_16 := Lib.hid (RU_15.out.keep bel)
  have RL_16 := Lib.hid (RL_15.out.keep bel)
  have B16 := Lib.hid (B15.out.trans (bel.mono B15.out.size))
  have z16 := bel.size
  rw [decide_eq_true (by first | rfl | (congr 1; omega))]
  clear bel
  go_wp2_with fail
  refine (sum_any w16 HM.out RL_16.out (by omega) (fun x hx => by obtain ⟨k, hk, rfl⟩ := List.mem_iff_getElem.1 hx; obtain ⟨l, h1, h2, h3⟩ := lens_bounds HP.out (List.getElem?_eq_getElem hk); omega)).mono ?_
  rintro e wz ⟨rfl, rfl⟩
  rw [lens_sum HX.out HP.out]
  go_wp2
  go_loop [25] (fun i => ∃ k : Nat, k ≤ n ∧ i = .int .i64 k) (fun i => n - (intOf i).toNat)
  case atStart => exact ⟨0, Nat.zero_le _, rfl⟩
  case round =>
    obtain ⟨k, hk, rfl⟩ := hrel
    by_cases hlt : k < n
    · obtain ⟨b, o, x, rfl, hgx, hcx⟩ := RU_16.out.int (k := k) (by rw [unitL_len]; exact hlt)
      obtain rfl : (k : Int) = x := by simpa [unitL, hlt] using hgx
      have hkk : ((k : Int) != (k : Int)) = false := by simp
      clear hgx
      go_wp2
      go_round
      case rel => exact ⟨k + 1, by omega, by go_num⟩
      case measure => simp [intOf]; omega
    · rcases HCS.out with ⟨rfl, rfl⟩ | ⟨rfl, hR, ho⟩
      · go_wp2
        go_ret
        exact ⟨rfl, B16.out⟩
      · obtain ⟨t, ht⟩ : ∃ t, ordO L = t := ⟨_, rfl⟩
        rw [ht] at hR ho
        subst hR
        have HT := Lib.hid ht
        clear ht
        by_cases hbt : (1000000000 : Int) < (t : Int)
        · go_wp2
          go_ret
          exact ⟨rfl, B16.out⟩
        · have hun := Lib.hid (show powL L (t : Int) = unitL n by have h := ord_unit HX.out HP.out (by rw [HT.out]; omega); rwa [HT.out] at h)
          have hpart := Lib.hid (show ∀ q, 2 ≤ q → q ∣ t → powL L ((t / q : Nat) : Int) ≠ unitL n from fun q h1 h2 => by have h := ord_part HX.out HP.out (q := q) (by rw [HT.out]; omega) h1 (by rw [HT.out]; exact h2); rwa [HT.out] at h)
          go_wp2_with fail
          refine (iPowT _ w16 HX.out RP_16.out hn HP.out (by omega) (by omega)).mono ?_
          rintro e w17 ⟨A17, c17, rfl, own, bel⟩
          rw [hun.out] at own
          have RP_17 := Lib.hid (RP_16.out.keep bel)
          have RU_17 := Lib.hid (RU_16.out.keep bel)
          have RW_17 := Lib.hid (own_rd own)
          have B17 := Lib.hid (B16.out.trans (bel.mono B16.out.size))
          clear own bel
          go_wp2_with fail
          refine (likeB w17 (unitL_len n) (unitL_len n) RW_17.out RU_17.out hn).mono ?_
          rintro e w18 ⟨rfl, bel⟩
          rw [decide_eq_true rfl]
          have RP_18 := Lib.hid (RP_17.out.keep bel)
          have RU_18 := Lib.hid (RU_17.out.keep bel)
          have B18 := Lib.hid (B17.out.trans (bel.mono B17.out.size))
          clear bel
          go_wp2
          go_loopw [28] (fun i wr => ∃ q : Nat, 2 ≤ q ∧ q ≤ 400 ∧ i = .int .i64 q ∧ Rd wr A (ints L) ∧ Rd wr A14 (ints (unitL n)) ∧ Below w.heap.size w wr) (fun i _ => 400 - (intOf i).toNat)
          case atStart => exact ⟨2, by omega, by omega, rfl, RP_18.out, RU_18.out, B18.out⟩
          case round =>
            obtain ⟨q, hq2, hq4, rfl, rp, ru, bel⟩ := hrel
            have RP := Lib.hid rp
            have RU := Lib.hid ru
            have BB := Lib.hid bel
            clear rp ru bel
            by_cases hql : q ≤ t
            · by_cases hq5 : q < 400
              · have hz : ((q : Int) == 0) = false := by rw [beq_eq_false_iff_ne]; omega
                by_cases hmod : t % q = 0
                · have hrem : ((t : Int) % (q : Int) != 0) = false := by rw [bne_eq_false_iff_eq]; exact_mod_cast hmod
                  obtain ⟨d, hd⟩ : ∃ d, t / q = d := ⟨_, rfl⟩
                  have hde : (t : Int) / (q : Int) = (d : Int) := by rw [← Int.natCast_ediv, hd]
                  have hdt : d ≤ t := by rw [← hd]; exact Nat.div_le_self _ _
                  have hne := Lib.hid (show powL L (d : Int) ≠ unitL n from by have h := hpart.out q hq2 (Nat.dvd_of_mod_eq_zero hmod); rwa [hd] at h)
                  clear hd
                  go_wp2_with fail
                  refine (iPowT (d : Int) wr HX.out RP.out hn HP.out (by omega) (by omega)).mono ?_
                  rintro e w20 ⟨A20, c20, rfl, own, bel⟩
                  have RP2 := Lib.hid (RP.out.keep bel)
                  have RU2 := Lib.hid (RU.out.keep bel)
                  have RW2 := Lib.hid (own_rd own)
                  have B20 := Lib.hid (BB.out.trans (bel.mono BB.out.size))
                  clear own bel
                  go_wp2_with fail
                  refine (likeB w20 (by rw [powL_length, HX.out]) (unitL_len n) RW2.out RU2.out hn).mono ?_
                  rintro e w21 ⟨rfl, bel⟩
                  rw [decide_eq_false hne.out]
                  have RP3 := Lib.hid (RP2.out.keep bel)
                  have RU3 := Lib.hid (RU2.out.keep bel)
                  have B21 := Lib.hid (B20.out.trans (bel.mono B20.out.size))
                  clear bel
                  go_wp2
                  go_roundw
                  case rel => exact ⟨q + 1, by omega, by omega, by go_num, RP3.out, RU3.out, B21.out⟩
                  case measure => simp [intOf]; omega
                · have hrem : ((t : Int) % (q : Int) != 0) = true := by rw [bne_iff_ne]; intro h; exact hmod (by exact_mod_cast h)
                  go_wp2
                  go_roundw
                  case rel => exact ⟨q + 1, by omega, by omega, by go_num, RP.out, RU.out, BB.out⟩
                  case measure => simp [intOf]; omega
              · go_wp2
                go_ret
                exact ⟨rfl, BB.out⟩
            · go_wp2
              go_ret
              exact ⟨rfl, BB.out⟩

theorem isRow_rd8 {w : World} {a : Option Addr} {len cap : Nat} {zs : List Int} (h : IsRow .u8 w a len cap zs) :
    ∃ bs : List Value, bs.length = len ∧ Rd w a bs ∧ ∀ v ∈ bs, ∃ x : Nat, v = .int .u8 x ∧ x < 256 := by
  rcases h with ⟨rfl, rfl, rfl, rfl⟩ | ⟨x, rfl, hl, hm, hz, hc, hw⟩
  · exact ⟨[], rfl, Rd.nil, by simp⟩
  · refine ⟨(zs.take len).map fun z => .int .u8 z, by simp; omega, fun hp => ?_, fun v hv => ?_⟩
    · obtain ⟨b, o, s⟩ := x
      have h0 := hc 0 (by simp at hp; omega)
      have hs : s = none := by simpa [Addr.add] using World.cell?_spot h0
      subst hs
      refine ⟨b, o, rfl, fun k u hu => ?_⟩
      have hk : k < len ∧ k < zs.length := by
        have := (List.getElem?_eq_some_iff.1 hu).1
        simp at this
        omega
      have hck := hc k hk.2
      simp [hk.1, hk.2] at hu
      rw [← hu]
      rw [Addr.add_lit] at hck
      simpa [List.getD, hk.2] using hck
    · obtain ⟨z, hz2, rfl⟩ := List.mem_map.1 hv
      have h1 := hw z (List.mem_of_mem_take hz2)
      have h2 : IntKind.u8.min ≤ z ∧ z ≤ IntKind.u8.max := by simpa [Lit.wf] using h1
      have h3 : IntKind.u8.min = 0 := by decide
      have h4 : IntKind.u8.max = 255 := by decide
      rw [h3, h4] at h2
      exact ⟨z.toNat, by rw [Int.toNat_of_nonneg h2.1], by omega⟩
theorem walk_FnPermutationOrders (a0 : Option Addr) (len0 cap0 : Nat) (z0 : List Int) (w : World) (w0 : IsRow .u8 w a0 len0 cap0 z0) :
    Calls Try.prog 3 #[.slice a0 len0 cap0] w fun e w' => e = .returned (.bool true) ∧ Below w.heap.size w w' := by
  obtain ⟨bs, h1, h2, h3⟩ := isRow_rd8 w0
  exact law_PermutationOrders w h1 h2 h3
end Go.Proofs.Ytbjfeogkdfmjpaa
