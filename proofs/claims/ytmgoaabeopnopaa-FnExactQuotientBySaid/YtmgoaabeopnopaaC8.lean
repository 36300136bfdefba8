/- spec.l07Quotient; QuotientBy of both sides. -/
import Derived.Test.YtmgoaabeopnopaaC7
namespace Go.Proofs.Ytmgoaabeopnopaa
open Go.RowKit

theorem swp4 {w0 w : World} {a b c d : Pc} (h : St w0 w [a, b, c, d]) : St w0 w [a, b, d, c] :=
  h.pick (fun i => if i = 2 then 3 else if i = 3 then 2 else i) (fun i hi => by simp at hi ⊢; split <;> (try split) <;> omega) (fun i hi => by
    match i, hi with
    | 0, _ => rfl
    | 1, _ => rfl
    | 2, _ => rfl
    | 3, _ => rfl) (fun i j hi hj h => by simp at hi hj ⊢; split <;> split <;> (try split) <;> (try split) <;> omega)
theorem quRow_take {LB g : List Int} {q o : Nat} (h : o < q) : (quRow LB q g).take (o + 1) = (quRow LB q g).take o ++ [fz LB (fz g (idxL LB (o : Int)))] := by
  rw [List.take_add_one]
  simp [quRow, h]

set_option maxHeartbeats 6400000 in
set_option maxRecDepth 100000 in
theorem sQuo_any {AL A : Option Addr} {c N nL cL : Nat} {xss PL : List (List Int)} (w : World) (hm : okMan xss = true) (hx : xss.length = N) (ha : RdSS w A xss) (hau : auB7 xss PL = true) (hl : nL = flN xss) (hL : Rd w AL (ints (labL PL (flN xss)))) :
    Calls Try.prog 85 #[.agg #[.slice A N c], .slice AL nL cL] w fun e w' => ∃ A' c', e = .returned (.agg #[.slice A' N c']) ∧ OwnSS w' w.heap.size w'.heap.size 36 A' N c' (quL7 xss PL) ∧ Below w.heap.size w w' := by
  have hman := okMan_iff.1 hm
  have hsys := hman.sys
  have hn4 := hman.f4
  have hn2 := hman.f2
  have hN5 := hman.r5
  rw [hx] at hN5
  have hps := auB7_sys hman hau
  have hcl := (orbsTo_facts hps (flN xss) (Nat.le_refl _)).2.2.1
  have hok := fun (g : List Int) (hg : g ∈ xss) => quOk7 hman hau hg
  have hsn : (quL7 xss PL).length = N := by rw [quL7_len, hx]
  have hqq : ∀ (k : Nat) (g : List Int), xss[k]? = some g → (quL7 xss PL).take (k + 1) = (quL7 xss PL).take k ++ [quRow (labL PL (flN xss)) (orbsTo PL (flN xss) (flN xss)).length g] := fun k g hg => by
    rw [List.take_add_one]
    congr 1
    rw [quL7, List.getElem?_map, hg]
    rfl
  obtain ⟨QL, hQL⟩ : ∃ Q, quL7 xss PL = Q := ⟨_, rfl⟩
  rw [hQL] at hsn hqq ⊢
  obtain ⟨b, o, A0, c0, rfl, hc0⟩ := man_row0 hman ha
  obtain ⟨n, hn⟩ : ∃ n, flN xss = n := ⟨_, rfl⟩
  rw [hn] at hsys hn2 hn4 hcl hok hqq hps hL hl
  subst hl
  obtain ⟨q, hq⟩ : ∃ q, (orbsTo PL nL nL).length = q := ⟨_, rfl⟩
  obtain ⟨OL, hOL⟩ : ∃ OL, labL PL nL = OL := ⟨_, rfl⟩
  have hlen : OL.length = nL := by rw [← hOL]; exact labL_length _ _
  have hgr : grtL OL = (q : Int) := by rw [← hOL, ← hq]; exact lab_cnt hps (by omega)
  rw [hq] at hcl hok hqq
  rw [hOL] at hok hqq hL
  have hin : ∀ (g : List Int), g ∈ xss → ∀ x ∈ OL, 0 ≤ x ∧ x < (nL : Int) := fun g hg x hx => by
    obtain ⟨f, hf, he⟩ := List.mem_iff_getElem.1 hx
    rw [hlen] at hf
    obtain ⟨j, hj, hjo⟩ := (hok g hg).lt f hf
    rw [List.getElem?_eq_getElem (by rw [hlen]; exact hf), he] at hjo
    injection hjo with hjo
    omega
  obtain ⟨bL, oL, _, hAL, _, _⟩ := hL.int (k := 0) (by omega)
  subst hAL
  have HX := Lib.hid hx
  have HA := Lib.hid ha
  have HL := Lib.hid hL
  have HS := Lib.hid hsys
  have HLEN := Lib.hid hlen
  have HSN := Lib.hid hsn
  have HOK := Lib.hid hok
  have HQQ := Lib.hid hqq
  have HGR := Lib.hid hgr
  have HIN := Lib.hid hin
  have st0 := ((((St.start w).addBlk #[.slice (some ⟨b, o, none⟩) N c] 27).addBlk #[.slice none 0 0] 27).addBlk #[.slice none 0 0] 27).addNilRows 2 36
  simp at st0
  have S0 := Lib.hid st0
  clear st0 hx ha hL hm hman hsys hps hc0 hlen hsn hok hqq hq hOL hn hQL hau hgr hin
  go_enter Try.func85, Try.ntmps85
  go_wp2
  go_loopw [6] (fun v wr => ∃ (k cR : Nat) (AR : Option Addr) (vals : List Value), k ≤ N ∧ v = .int .i64 k ∧ St w wr [.blk w.heap.size #[.slice (some ⟨b, o, none⟩) N c] 27, .blk (w.heap.size + 1) #[.slice none 0 0] 27, .blk (w.heap.size + 1 + 1) #[.slice AR k cR] 27, .rows 2 36 AR k cR vals (QL.take k)]) (fun v _ => N - (intOf v).toNat)
  case atStart => exact ⟨0, 0, none, [], Nat.zero_le _, rfl, S0.out⟩
  case round =>
    obtain ⟨k, cR, AR, vals, hk, rfl, st⟩ := hrel
    clear S0
    have hbc := (st.blk (i := 0) rfl).cell (i := 0) rfl
    by_cases hkN : k < N
    · have kI : (k : Int) < (N : Int) := by omega
      obtain ⟨m, hm⟩ : ∃ m, xss[k]? = some m := ⟨_, List.getElem?_eq_getElem (by rw [HX.out]; exact hkN)⟩
      have HM2 := Lib.hid hm
      have HMK := Lib.hid (HOK.out m (List.mem_of_getElem? hm))
      have HMI := Lib.hid (HIN.out m (List.mem_of_getElem? hm))
      have S5 := Lib.hid (st.addMade 2)
      obtain ⟨wo, hwo⟩ : ∃ wo, wo = wr := ⟨_, rfl⟩
      subst hwo
      clear st hm
      go_wp2
      clear hbc
      go_loopw [7, 8] (fun u v wr => ∃ (g c7 : Nat) (A7 : Option Addr), g ≤ q ∧ u = .slice A7 g c7 ∧ v = .int .i64 g ∧ St w wr [.blk w.heap.size #[.slice (some ⟨b, o, none⟩) N c] 27, .blk (w.heap.size + 1) #[.slice none 0 0] 27, .blk (w.heap.size + 1 + 1) #[.slice AR k cR] 27, .rows 2 36 AR k cR vals (QL.take k), .own 2 A7 g c7 (ints ((quRow OL q m).take g))]) (fun _ v _ => q - (intOf v).toNat)
      case atStart => exact ⟨0, 0, _, Nat.zero_le _, rfl, rfl, S5.out⟩
      case round =>
        obtain ⟨g, c7, A7, hg, rfl, rfl, st⟩ := hrel
        have S6 := Lib.hid st
        clear st S5
        go_wp2_with fail
        refine (grt_any _ HLEN.out (HL.out.keep S6.out.below) (by omega) HMI.out).mono ?_
        rintro e wa ⟨rfl, rfl⟩
        rw [HGR.out]
        by_cases hgf : g < q
        · have gI : (g : Int) < (q : Int) := by omega
          have hlo := S6.out.lo
          have S7 := Lib.hid (S6.out.go (below_drewN (Below.refl _ _) 1))
          have hbc := (S6.out.blk (i := 0) rfl).cell (i := 0) rfl
          obtain ⟨b3, o3, A4, c4, m', he, hg3, hc3, hrd, hms⟩ := (HA.out.keep S6.out.below).row (k := k) (by rw [HX.out]; exact hkN)
          obtain ⟨rfl, rfl⟩ : b = b3 ∧ o = o3 := by simpa using he
          obtain rfl : m' = m := by rw [HM2.out] at hg3; injection hg3 with hg3; exact hg3.symm
          have hml := sys_len HS.out hg3
          obtain ⟨lm, hlm⟩ : ∃ l, m'.length = l := ⟨_, rfl⟩
          rw [hlm] at hc3 hms hml
          obtain ⟨f, hfn, hfo⟩ := HMK.out.on g hgf
          have hi := fz_idx (List.mem_of_getElem? hfo)
          rw [HLEN.out] at hi
          obtain ⟨p, hp⟩ := Int.eq_ofNat_of_zero_le hi.1
          obtain ⟨b4, o4, y, rfl, hgy, hcy⟩ := hrd.int (k := p) (by omega)
          obtain ⟨y, rfl, hy0⟩ := sys_at HS.out hg3 hgy
          obtain ⟨x, hx, hxo⟩ := HMK.out.lt y (by omega)
          obtain ⟨b5, o5, x', he5, hgx, hcx⟩ := (HL.out.keep S6.out.below).int (k := y) (by rw [HLEN.out]; omega)
          obtain ⟨rfl, rfl⟩ : bL = b5 ∧ oL = o5 := by simpa using he5
          obtain rfl : x' = (x : Int) := by rw [hxo] at hgx; injection hgx with hgx; exact hgx.symm
          have HSU := Lib.hid (show (quRow OL q m').take (g + 1) = (quRow OL q m').take g ++ [(x : Int)] by
            rw [quRow_take hgf, hp, fz_at hgy, fz_at hxo])
          have HIX := Lib.hid hp
          have pI : (p : Int) < (lm : Int) := by omega
          have pN : p < nL := by omega
          have pM : p < lm := by omega
          have yI : (y : Int) < (nL : Int) := by omega
          have HRDL := Lib.hid (HL.out.keep S7.out.below)
          clear he hg3 hrd hgy hlm he5 hgx hxo hi hfo hp
          have hlo2 := S7.out.lo
          go_wp2
          go_region_law ((first
            | (go_simp; go_at_call 137
               refine (index_any (g : Int) _ HLEN.out HRDL.out (by omega)).mono ?_
               rintro e wq ⟨rfl, rfl⟩
               rw [HIX.out])
            | (refine step_push_h rfl (.tmp 24) (.tmp 38) 36 2 (by rfl) Try.underlying36 (.int .i64 0) 8 Try.info2 rfl wr.heap.size (by rfl) w.heap.size (.slice A7 g c7) g _ (by rfl) (S7.out.own (i := 4) rfl) _ (by rfl) (by rfl) (by omega) (by omega) hlo2 ?_; intro A8 c8 w8 own7 gr7 hat7)))
          all_goals
            have own8 : w8.ownsRow w.heap.size 2 1 (.slice A8 (g + 1) c8) (g + 1) (ints ((quRow OL q m').take (g + 1))) := by
              rw [HSU.out]
              simpa [ints] using own7
            have S8 := Lib.hid (S7.out.push (i := 4) rfl own8 gr7 hat7)
            clear own7 own8 gr7 hat7
            go_wp2
            go_roundw
            case rel => exact ⟨g + 1, _, _, by omega, rfl, by go_num, S8.out⟩
            case measure => simp [intOf]; omega
        · obtain rfl : g = q := by omega
          have gI : ¬ (g : Int) < (g : Int) := by omega
          have st7 := S6.out
          rw [List.take_of_length_le (l := quRow OL g m) (by rw [quRow_len]; exact Nat.le_refl _)] at st7
          have hlo := st7.lo
          have p1 := (st7.blk (i := 2) rfl).cell (i := 0) rfl
          have S7 := Lib.hid st7
          have HSU := Lib.hid (HQQ.out k m HM2.out)
          clear S6 st7
          go_wp2_with (at_builtin; refine wpList_push_at _ rfl _ _ 22 36 rfl Try.underlying22 (.slice none 0 0) 24 Try.infoS rfl w.heap.size _ _ _ rfl (S7.out.rows (i := 3) rfl) _ rfl rfl (by omega) (by omega) hlo ?_)
          intro A8 c8 w8 own8 gr8 hat8
          have st8 := (S7.out.rowPush (i := 3) (j := 4) rfl rfl quRow_len (by decide) (by decide) own8 gr8 hat8).take 4
          have q1 := (st8.blk (i := 2) rfl).cell (i := 0) rfl
          have f1 := (st8.blk (i := 2) rfl).free 0
          have st9 := st8.blkSet (i := 2) rfl 0 (.slice A8 (k + 1) c8)
          have S9 := Lib.hid (show St w (w8.setCell ⟨w.heap.size + 1 + 1, 0, none⟩ (.slice A8 (k + 1) c8)) [.blk w.heap.size #[.slice (some ⟨b, o, none⟩) N c] 27, .blk (w.heap.size + 1) #[.slice none 0 0] 27, .blk (w.heap.size + 1 + 1) #[.slice A8 (k + 1) c8] 27, .rows 2 36 A8 (k + 1) c8 (vals ++ [.slice A7 g c7]) (QL.take (k + 1))] from by
            rw [HSU.out]
            exact st9)
          clear own8 gr8 hat8 st8 st9 p1
          go_wp2
          go_roundw
          case rel => exact ⟨k + 1, _, _, _, by omega, by go_num, S9.out⟩
          case measure => simp [intOf]; omega
    · obtain rfl : k = N := by omega
      have kI : ¬ (k : Int) < (k : Int) := by omega
      rw [List.take_of_length_le (l := QL) (by rw [HSN.out]; exact Nat.le_refl _)] at st
      have z0 := (st.blk (i := 1) rfl).cell (i := 0) rfl
      have f0 := (st.blk (i := 1) rfl).free 0
      have o0 := (st.blk (i := 2) rfl).cell (i := 0) rfl
      have S5 := Lib.hid st
      clear st
      go_wp2
      have st4 := S5.out.blkSet (i := 1) rfl 0 (.slice AR k cR)
      have y0 := (st4.blk (i := 1) rfl).cell (i := 0) rfl
      refine bodyPost_ret (v := .agg #[.slice AR k cR]) (by simp [results, Try.results85, go_sem, y0]) rfl ⟨AR, cR, rfl, ?_, st4.below⟩
      exact st4.sep.ownSS (i := 3) rfl

set_option maxHeartbeats 6400000 in
set_option maxRecDepth 100000 in
theorem iQuotientBy_any {A B : Option Addr} {c N M d : Nat} {xss PL : List (List Int)} (w : World) (hx : xss.length = N) (ha : RdSS w A xss) (hN : N ≤ 1048576) (hr : ∀ xs ∈ xss, (xs.length : Int) ≤ 1048576) (hy : PL.length = M) (hb : RdSS w B PL) (hM : M ≤ 1048576) (hs : ∀ xs ∈ PL, (xs.length : Int) ≤ 1048576) :
    Calls Try.prog 21 #[.agg #[.slice A N c], .slice B M d] w (RetMC w (quR7 xss PL) (quC7 xss PL)) := by
  have HX := Lib.hid hx
  have HA := Lib.hid ha
  have HR := Lib.hid hr
  have HY := Lib.hid hy
  have HB := Lib.hid hb
  have HT := Lib.hid hs
  have st0 := ((St.start w).addBlk #[.slice A N c] 27).addBlk #[.slice none 0 0] 27
  simp at st0
  have S0 := Lib.hid st0
  have hbc := (st0.blk (i := 0) rfl).cell (i := 0) rfl
  clear st0
  cases ho : okMan xss
  · have h1 : quR7 xss PL = [] := by simp [quR7, ho]
    have h2 : quC7 xss PL = 1 := by simp [quC7, ho]
    rw [h1, h2]
    have HO := Lib.hid ho
    clear hx ha hr ho h1 h2 hy hb hs
    go_enter Try.func21, Try.ntmps21
    go_wp2_with fail
    refine (iMan_any _ HX.out (HA.out.keep S0.out.below) hN HR.out).mono ?_
    rintro e w1 ⟨rfl, bel⟩
    rw [HO.out]
    have st1 := S0.out.go bel
    have z0 := (st1.blk (i := 1) rfl).cell (i := 0) rfl
    have f0 := (st1.blk (i := 1) rfl).free 0
    have S1 := Lib.hid st1
    clear bel hbc st1
    go_wp2
    have st4 := S1.out.blkSet (i := 1) rfl 0 (.slice none 0 0)
    have y0 := (st4.blk (i := 1) rfl).cell (i := 0) rfl
    refine bodyPost_ret (v := .tuple #[.agg #[.slice none 0 0], .int .i64 1]) (by simp [results, Try.results21, go_sem, y0]) rfl ⟨none, 0, rfl, ownSS_nil _ _ _ _, st4.below⟩
  · have hman := okMan_iff.1 ho
    have HO := Lib.hid ho
    obtain ⟨r, hres⟩ : ∃ r, auB7 xss PL = r := ⟨_, rfl⟩
    have HRES := Lib.hid hres
    cases r with
    | false =>
      have h1 : quR7 xss PL = [] := by simp [quR7, hres]
      have h2 : quC7 xss PL = 2 := by simp [quC7, ho, hres]
      rw [h1, h2]
      clear hx ha hr ho h1 h2 hman hres hy hb hs
      go_enter Try.func21, Try.ntmps21
      go_wp2_with fail
      refine (iMan_any _ HX.out (HA.out.keep S0.out.below) hN HR.out).mono ?_
      rintro e w1 ⟨rfl, bel⟩
      rw [HO.out]
      have S1 := Lib.hid (S0.out.go bel)
      clear hbc bel
      have hbc := (S1.out.blk (i := 0) rfl).cell (i := 0) rfl
      go_wp2_with fail
      refine (iAre_any _ HO.out HX.out (HA.out.keep S1.out.below) HY.out (HB.out.keep S1.out.below) hM HT.out HRES.out).mono ?_
      rintro e w2 ⟨rfl, bel⟩
      have st1 := S1.out.go bel
      clear S1
      have z0 := (st1.blk (i := 1) rfl).cell (i := 0) rfl
      have f0 := (st1.blk (i := 1) rfl).free 0
      have S1 := Lib.hid st1
      clear bel hbc st1
      go_wp2
      have st4 := S1.out.blkSet (i := 1) rfl 0 (.slice none 0 0)
      have y0 := (st4.blk (i := 1) rfl).cell (i := 0) rfl
      refine bodyPost_ret (v := .tuple #[.agg #[.slice none 0 0], .int .i64 2]) (by simp [results, Try.results21, go_sem, y0]) rfl ⟨none, 0, rfl, ownSS_nil _ _ _ _, st4.below⟩
    | true =>
      have HQN := Lib.hid (show (quL7 xss PL).length = N by rw [quL7_len, hx])
      have HQR := Lib.hid (quL7_rows hman hres)
      obtain ⟨V, hV⟩ : ∃ V, okMan (quL7 xss PL) = V := ⟨_, rfl⟩
      have HV := Lib.hid hV
      cases V with
      | false =>
        have h1 : quR7 xss PL = [] := by simp [quR7, ho, hres, hV]
        have h2 : quC7 xss PL = 5 := by simp [quC7, ho, hres, hV]
        rw [h1, h2]
        clear hx ha hr ho h1 h2 hman hres hy hb hs hV
        go_enter Try.func21, Try.ntmps21
        go_wp2_with fail
        refine (iMan_any _ HX.out (HA.out.keep S0.out.below) hN HR.out).mono ?_
        rintro e w1 ⟨rfl, bel⟩
        rw [HO.out]
        have S1 := Lib.hid (S0.out.go bel)
        clear hbc bel
        have hbc := (S1.out.blk (i := 0) rfl).cell (i := 0) rfl
        go_wp2_with fail
        refine (iAre_any _ HO.out HX.out (HA.out.keep S1.out.below) HY.out (HB.out.keep S1.out.below) hM HT.out HRES.out).mono ?_
        rintro e w2 ⟨rfl, bel⟩
        have S3 := Lib.hid (S1.out.go bel)
        clear hbc bel S1
        have hbc := (S3.out.blk (i := 0) rfl).cell (i := 0) rfl
        go_wp2_with fail
        refine (iQuo_any _ HO.out HX.out (HA.out.keep S3.out.below) HY.out (HB.out.keep S3.out.below) HRES.out).mono ?_
        rintro e w4 ⟨A4, c4, rfl, own, bel⟩
        obtain ⟨vals, st⟩ := S3.out.addRows bel own (Nat.le_refl _) (Nat.le_refl _)
        have S4 := Lib.hid (st.addBlk #[.slice A4 N c4] 27)
        clear st own bel
        have q0 := (S4.out.blk (i := 3) rfl).cell (i := 0) rfl
        go_wp2_with fail
        refine (iMan_any _ HQN.out (ownSS_rd (S4.out.sep.ownSS (i := 2) rfl)) hN HQR.out).mono ?_
        rintro e w5 ⟨rfl, bel⟩
        rw [HV.out]
        have S5 := Lib.hid (S4.out.go bel)
        clear bel q0
        have q0 := (S5.out.blk (i := 3) rfl).cell (i := 0) rfl
        have z0 := (S5.out.blk (i := 1) rfl).cell (i := 0) rfl
        have f0 := (S5.out.blk (i := 1) rfl).free 0
        go_wp2
        have st4 := S5.out.blkSet (i := 1) rfl 0 (.slice none 0 0)
        have y0 := (st4.blk (i := 1) rfl).cell (i := 0) rfl
        refine bodyPost_ret (v := .tuple #[.agg #[.slice none 0 0], .int .i64 5]) (by simp [results, Try.results21, go_sem, y0]) rfl ⟨none, 0, rfl, ownSS_nil _ _ _ _, st4.below⟩
      | true =>
        have h1 : quR7 xss PL = quL7 xss PL := by simp [quR7, ho, hres, hV]
        have h2 : quC7 xss PL = 0 := by simp [quC7, ho, hres, hV]
        rw [h1, h2]
        clear hx ha hr ho h1 h2 hman hres hy hb hs hV
        go_enter Try.func21, Try.ntmps21
        go_wp2_with fail
        refine (iMan_any _ HX.out (HA.out.keep S0.out.below) hN HR.out).mono ?_
        rintro e w1 ⟨rfl, bel⟩
        rw [HO.out]
        have S1 := Lib.hid (S0.out.go bel)
        clear hbc bel
        have hbc := (S1.out.blk (i := 0) rfl).cell (i := 0) rfl
        go_wp2_with fail
        refine (iAre_any _ HO.out HX.out (HA.out.keep S1.out.below) HY.out (HB.out.keep S1.out.below) hM HT.out HRES.out).mono ?_
        rintro e w2 ⟨rfl, bel⟩
        have S3 := Lib.hid (S1.out.go bel)
        clear hbc bel S1
        have hbc := (S3.out.blk (i := 0) rfl).cell (i := 0) rfl
        go_wp2_with fail
        refine (iQuo_any _ HO.out HX.out (HA.out.keep S3.out.below) HY.out (HB.out.keep S3.out.below) HRES.out).mono ?_
        rintro e w4 ⟨A4, c4, rfl, own, bel⟩
        obtain ⟨vals, st⟩ := S3.out.addRows bel own (Nat.le_refl _) (Nat.le_refl _)
        have S4 := Lib.hid (st.addBlk #[.slice A4 N c4] 27)
        clear st own bel
        have q0 := (S4.out.blk (i := 3) rfl).cell (i := 0) rfl
        go_wp2_with fail
        refine (iMan_any _ HQN.out (ownSS_rd (S4.out.sep.ownSS (i := 2) rfl)) hN HQR.out).mono ?_
        rintro e w5 ⟨rfl, bel⟩
        rw [HV.out]
        have S5 := Lib.hid (S4.out.go bel)
        clear bel q0
        have q0 := (S5.out.blk (i := 3) rfl).cell (i := 0) rfl
        have z0 := (S5.out.blk (i := 1) rfl).cell (i := 0) rfl
        have f0 := (S5.out.blk (i := 1) rfl).free 0
        go_wp2
        have st4 := S5.out.blkSet (i := 1) rfl 0 (.slice A4 N c4)
        have y0 := (st4.blk (i := 1) rfl).cell (i := 0) rfl
        refine bodyPost_ret (v := .tuple #[.agg #[.slice A4 N c4], .int .i64 0]) (by simp [results, Try.results21, go_sem, y0]) rfl ⟨A4, c4, by rw [HQN.out], ?_, st4.below⟩
        rw [HQN.out]
        exact st4.sep.ownSS (i := 2) rfl

set_option maxHeartbeats 6400000 in
set_option maxRecDepth 100000 in
theorem sQuotientBy_any {A B : Option Addr} {c N M d : Nat} {xss PL : List (List Int)} (w : World) (hx : xss.length = N) (ha : RdSS w A xss) (hN : N ≤ 1048576) (hr : ∀ xs ∈ xss, (xs.length : Int) ≤ 1048576) (hy : PL.length = M) (hb : RdSS w B PL) (hM : M ≤ 1048576) (hs : ∀ xs ∈ PL, (xs.length : Int) ≤ 1048576) :
    Calls Try.prog 18 #[.agg #[.slice A N c], .slice B M d] w (RetMC w (quR7 xss PL) (quC7 xss PL)) := by
  have HX := Lib.hid hx
  have HA := Lib.hid ha
  have HR := Lib.hid hr
  have HY := Lib.hid hy
  have HB := Lib.hid hb
  have HT := Lib.hid hs
  have st0 := ((St.start w).addBlk #[.slice A N c] 27).addBlk #[.slice none 0 0] 27
  simp at st0
  have S0 := Lib.hid st0
  have hbc := (st0.blk (i := 0) rfl).cell (i := 0) rfl
  clear st0
  cases ho : okMan xss
  · have h1 : quR7 xss PL = [] := by simp [quR7, ho]
    have h2 : quC7 xss PL = 1 := by simp [quC7, ho]
    rw [h1, h2]
    have HO := Lib.hid ho
    clear hx ha hr ho h1 h2 hy hb hs
    go_enter Try.func18, Try.ntmps18
    go_wp2_with fail
    refine (sIs_any _ HX.out (HA.out.keep S0.out.below) hN HR.out).mono ?_
    rintro e w1 ⟨rfl, bel⟩
    rw [HO.out]
    have st1 := S0.out.go bel
    have z0 := (st1.blk (i := 1) rfl).cell (i := 0) rfl
    have f0 := (st1.blk (i := 1) rfl).free 0
    have S1 := Lib.hid st1
    clear bel hbc st1
    go_wp2
    have st4 := S1.out.blkSet (i := 1) rfl 0 (.slice none 0 0)
    have y0 := (st4.blk (i := 1) rfl).cell (i := 0) rfl
    refine bodyPost_ret (v := .tuple #[.agg #[.slice none 0 0], .int .i64 1]) (by simp [results, Try.results18, go_sem, y0]) rfl ⟨none, 0, rfl, ownSS_nil _ _ _ _, st4.below⟩
  · have hman := okMan_iff.1 ho
    have HO := Lib.hid ho
    obtain ⟨r, hres⟩ : ∃ r, auB7 xss PL = r := ⟨_, rfl⟩
    have HRES := Lib.hid hres
    have hn4 := hman.f4
    have hn2 := hman.f2
    have hpos := hman.pos hx
    obtain ⟨b, o, A0, c0, rfl, hc0⟩ := man_row0 hman ha
    have HC0 := Lib.hid hc0
    by_cases h16 : 16 < M
    · obtain rfl : r = false := by rw [← hres]; exact auQ_long (by rw [hy]; exact h16)
      have h1 : quR7 xss PL = [] := by simp [quR7, hres]
      have h2 : quC7 xss PL = 2 := by simp [quC7, ho, hres]
      rw [h1, h2]
      have hI : (16 : Int) < (M : Int) := by omega
      clear hx ha hr ho h1 h2 hman hres hy hb hs hc0
      go_enter Try.func18, Try.ntmps18
      go_wp2_with fail
      refine (sIs_any _ HX.out (HA.out.keep S0.out.below) hN HR.out).mono ?_
      rintro e w1 ⟨rfl, bel⟩
      rw [HO.out]
      have S1 := Lib.hid (S0.out.go bel)
      clear hbc bel
      have hbc := (S1.out.blk (i := 0) rfl).cell (i := 0) rfl
      have st1 := S1.out
      have bel := trivial
      clear S1
      have z0 := (st1.blk (i := 1) rfl).cell (i := 0) rfl
      have f0 := (st1.blk (i := 1) rfl).free 0
      have S1 := Lib.hid st1
      clear bel hbc st1
      go_wp2
      have st4 := S1.out.blkSet (i := 1) rfl 0 (.slice none 0 0)
      have y0 := (st4.blk (i := 1) rfl).cell (i := 0) rfl
      refine bodyPost_ret (v := .tuple #[.agg #[.slice none 0 0], .int .i64 2]) (by simp [results, Try.results18, go_sem, y0]) rfl ⟨none, 0, rfl, ownSS_nil _ _ _ _, st4.below⟩
    have hI : ¬ (16 : Int) < (M : Int) := by omega
    have hps := fun h => auB7_sys (PL := PL) hman h
    obtain ⟨RR, hRR⟩ : ∃ R, quR7 xss PL = R := ⟨_, rfl⟩
    obtain ⟨CC, hCC⟩ : ∃ C, quC7 xss PL = C := ⟨_, rfl⟩
    rw [hRR, hCC]
    have HNO := Lib.hid (fun (h : auB7 xss PL = false) => (show [] = RR ∧ (2 : Int) = CC from ⟨by rw [← hRR]; simp [quR7, h], by rw [← hCC]; simp [quC7, ho, h]⟩))
    have HBAD := Lib.hid (fun (h : auB7 xss PL = true) (h2 : okMan (quL7 xss PL) = false) => (show [] = RR ∧ (5 : Int) = CC from ⟨by rw [← hRR]; simp [quR7, h2], by rw [← hCC]; simp [quC7, ho, h, h2]⟩))
    have HOKK := Lib.hid (fun (h : auB7 xss PL = true) (h2 : okMan (quL7 xss PL) = true) => (show quL7 xss PL = RR ∧ (0 : Int) = CC from ⟨by rw [← hRR]; simp [quR7, ho, h, h2], by rw [← hCC]; simp [quC7, ho, h, h2]⟩))
    have HQN := Lib.hid (show (quL7 xss PL).length = N by rw [quL7_len, hx])
    have HQR := Lib.hid (fun h => quL7_rows (PL := PL) hman h)
    have HPS := Lib.hid hps
    have HLE := Lib.hid (show PL.length ≤ 16 by rw [hy]; omega)
    obtain ⟨n, hn⟩ : ∃ n, flN xss = n := ⟨_, rfl⟩
    rw [hn] at HPS HC0 hn4 hn2
    have HNN := Lib.hid hn
    clear hx ha hr ho hman hres hy hb hs hps hRR hCC hn hc0
    go_enter Try.func18, Try.ntmps18
    go_wp2_with fail
    refine (sIs_any _ HX.out (HA.out.keep S0.out.below) hN HR.out).mono ?_
    rintro e w1 ⟨rfl, bel⟩
    rw [HO.out]
    have S1 := Lib.hid (S0.out.go bel)
    clear hbc bel
    have hbc := (S1.out.blk (i := 0) rfl).cell (i := 0) rfl
    go_wp2
    go_loopw [6] (fun v wr => ∃ j : Nat, j ≤ M ∧ v = .int .i64 j ∧ St w wr [.blk w.heap.size #[.slice (some ⟨b, o, none⟩) N c] 27, .blk (w.heap.size + 1) #[.slice none 0 0] 27] ∧ AuQ xss PL j) (fun v _ => M - (intOf v).toNat)
    case atStart => exact ⟨0, Nat.zero_le _, rfl, S1.out, fun j hj => by omega⟩
    case round =>
      obtain ⟨j, hj, rfl, st, hq⟩ := hrel
      have S := Lib.hid st
      have Q := Lib.hid hq
      clear st hq S0 S1 hbc
      by_cases hlt : j < M
      · have Sd := Lib.hid (S.out.go (below_drewN (Below.refl _ _) 1))
        have x1 := (S.out.blk (i := 0) rfl).cell (i := 0) rfl
        obtain ⟨b3, o3, A4, c4, p, rfl, hp, hc, hrd, hms⟩ := (HB.out.keep S.out.below).row (k := j) (by rw [HY.out]; exact hlt)
        obtain ⟨lp, hlp⟩ : ∃ l, p.length = l := ⟨_, rfl⟩
        have hlb := HT.out p (List.mem_of_getElem? hp)
        rw [hlp] at hc hms hlb
        have HP := Lib.hid hp
        have HRD := Lib.hid (hrd.keep (show Below wr.heap.size wr (wr.drewN 1) from below_drewN (Below.refl _ _) 1))
        have HLP := Lib.hid hlp
        obtain ⟨cb, hcb⟩ : ∃ r, cvB7 xss xss p = r := ⟨_, rfl⟩
        have HCB := Lib.hid hcb
        clear hp hrd hlp hcb hms
        cases cb with
        | false =>
          go_wp2
          go_region_law ((go_simp; go_at_call 84
                          refine (sAu7_any _ HO.out HX.out HLP.out (HA.out.keep Sd.out.below) HRD.out (by omega) HCB.out).mono ?_
                          rintro e w3 ⟨rfl, bel⟩
                          have S3 := Lib.hid (Sd.out.go bel)
                          have z0 := (S3.out.blk (i := 1) rfl).cell (i := 0) rfl
                          have f0 := (S3.out.blk (i := 1) rfl).free 0
                          clear bel))
          all_goals
            have HF := Lib.hid (HNO.out (auQ_no HP.out HCB.out))
            go_wp2
            have st4 := S3.out.blkSet (i := 1) rfl 0 (.slice none 0 0)
            have y0 := (st4.blk (i := 1) rfl).cell (i := 0) rfl
            rw [← HF.out.1, ← HF.out.2]
            refine bodyPost_ret (v := .tuple #[.agg #[.slice none 0 0], .int .i64 2]) (by simp [results, Try.results18, go_sem, y0]) rfl ⟨none, 0, rfl, ownSS_nil _ _ _ _, st4.below⟩
        | true =>
          have Q2 := Lib.hid (auQ_step Q.out HP.out HCB.out)
          go_wp2
          go_region_law ((go_simp; go_at_call 84
                          refine (sAu7_any _ HO.out HX.out HLP.out (HA.out.keep Sd.out.below) HRD.out (by omega) HCB.out).mono ?_
                          rintro e w3 ⟨rfl, bel⟩
                          have S3 := Lib.hid (Sd.out.go bel)
                          clear bel))
          all_goals
            go_wp2
            go_roundw
            case rel => exact ⟨j + 1, by omega, by go_num, S3.out, Q2.out⟩
            case measure => simp [intOf]; omega
      · obtain rfl : j = M := by omega
        have hq := Q.out
        rw [← HY.out] at hq
        have hau := auQ_done hq HLE.out
        have HAU := Lib.hid hau
        have HSY := Lib.hid (HPS.out hau)
        obtain ⟨V, hV⟩ : ∃ V, okMan (quL7 xss PL) = V := ⟨_, rfl⟩
        have HV := Lib.hid hV
        have Sd := Lib.hid (S.out.go (below_drewN (Below.refl _ _) 1))
        have x1 := (S.out.blk (i := 0) rfl).cell (i := 0) rfl
        have x1b := ((S.out.addBlk #[.slice none 0 0] 27).blk (i := 0) rfl).cell (i := 0) rfl
        clear hq hau hV
        go_wp2
        go_region_law ((first
          | (go_simp; go_at_call 87
             first
             | refine (sFlags_bel _ hpos (cell_be HC0.out (Sd.out.addBlk #[.slice none 0 0] 27).below)).mono ?_
               rintro e wq1 ⟨rfl, bel⟩
               have Saz := Lib.hid (show St w wq1 [.blk w.heap.size #[.slice (some ⟨b, o, none⟩) N c] 27, .blk (w.heap.size + 1) #[.slice none 0 0] 27, .blk wr.heap.size #[.slice none 0 0] 27] from by simpa using (Sd.out.addBlk #[.slice none 0 0] 27).go bel)
               have xa := (Saz.out.blk (i := 0) rfl).cell (i := 0) rfl
             | refine (sFlags_bel _ hpos (cell_be HC0.out Sd.out.below)).mono ?_
               rintro e wq1 ⟨rfl, bel⟩
               have Sa := Lib.hid (Sd.out.go bel)
               have xa := (Sa.out.blk (i := 0) rfl).cell (i := 0) rfl
               have xab := ((Sa.out.addBlk #[.slice none 0 0] 27).blk (i := 0) rfl).cell (i := 0) rfl
             clear bel)
          | (go_simp; go_at_call 86
             first
             | refine (sorbs_any _ HY.out (HB.out.keep Saz.out.below) hM HSY.out).mono ?_
               rintro e wq2 ⟨A7, c7, rfl, own, bel⟩
               have Sbz := Lib.hid (Saz.out.addOwn bel own (Nat.le_refl _))
               have xb := (Sbz.out.blk (i := 0) rfl).cell (i := 0) rfl
             | refine (sorbs_any _ HY.out (HB.out.keep (Sa.out.addBlk #[.slice none 0 0] 27).below) hM HSY.out).mono ?_
               rintro e wq2 ⟨A7, c7, rfl, own, bel⟩
               have Sbz := Lib.hid ((Sa.out.addBlk #[.slice none 0 0] 27).addOwn bel own (Nat.le_refl _))
               have xb := (Sbz.out.blk (i := 0) rfl).cell (i := 0) rfl
             | refine (sorbs_any _ HY.out (HB.out.keep Sa.out.below) hM HSY.out).mono ?_
               rintro e wq2 ⟨A7, c7, rfl, own, bel⟩
               have Sb := Lib.hid (Sa.out.addOwn bel own (Nat.le_refl _))
               have xb := (Sb.out.blk (i := 0) rfl).cell (i := 0) rfl
               have xbb := ((Sb.out.addBlk #[.slice none 0 0] 27).blk (i := 0) rfl).cell (i := 0) rfl
             clear own bel)
          | (go_simp; go_at_call 85
             first
             | refine (sQuo_any _ HO.out HX.out (HA.out.keep Sbz.out.below) HAU.out HNN.out.symm (by rw [HNN.out]; exact own_rd (Sbz.out.own (i := 3) rfl))).mono ?_
               rintro e wq3 ⟨A4, c4, rfl, own, bel⟩
               obtain ⟨vals, st⟩ := (Sbz.out.drop 3).addRows bel own (Nat.le_refl _) (Nat.le_refl _)
               have bz := (st.blk (i := 2) rfl).cell (i := 0) rfl
               have fz7 := (st.blk (i := 2) rfl).free 0
               have S4 := Lib.hid (swp4 (st.blkSet (i := 2) rfl 0 (.slice A4 N c4)))
             | refine (sQuo_any _ HO.out HX.out (HA.out.keep (Sb.out.addBlk #[.slice none 0 0] 27).below) HAU.out HNN.out.symm (by rw [HNN.out]; exact own_rd ((Sb.out.addBlk #[.slice none 0 0] 27).own (i := 2) rfl))).mono ?_
               rintro e wq3 ⟨A4, c4, rfl, own, bel⟩
               obtain ⟨vals, st⟩ := ((Sb.out.addBlk #[.slice none 0 0] 27).drop 2).addRows bel own (Nat.le_refl _) (Nat.le_refl _)
               have bz := (st.blk (i := 2) rfl).cell (i := 0) rfl
               have fz7 := (st.blk (i := 2) rfl).free 0
               have S4 := Lib.hid (swp4 (st.blkSet (i := 2) rfl 0 (.slice A4 N c4)))
             | refine (sQuo_any _ HO.out HX.out (HA.out.keep Sb.out.below) HAU.out HNN.out.symm (by rw [HNN.out]; exact own_rd (Sb.out.own (i := 2) rfl))).mono ?_
               rintro e wq3 ⟨A4, c4, rfl, own, bel⟩
               obtain ⟨vals, st⟩ := (Sb.out.take 2).addRows bel own (Nat.le_refl _) (Nat.le_refl _)
               have S4 := Lib.hid (st.addBlk #[.slice A4 N c4] 27)
             clear st own bel)))
        all_goals
          have q0 := (S4.out.blk (i := 3) rfl).cell (i := 0) rfl
          clear S Sd x1 xa xb
          go_wp2_with fail
          refine (sIs_any _ HQN.out (ownSS_rd (S4.out.sep.ownSS (i := 2) rfl)) hN (HQR.out HAU.out)).mono ?_
          rintro e w5 ⟨rfl, bel⟩
          rw [HV.out]
          have S5 := Lib.hid (S4.out.go bel)
          clear bel q0
          have q0 := (S5.out.blk (i := 3) rfl).cell (i := 0) rfl
          have z0 := (S5.out.blk (i := 1) rfl).cell (i := 0) rfl
          have f0 := (S5.out.blk (i := 1) rfl).free 0
          cases V with
          | false =>
            have HF := Lib.hid (HBAD.out HAU.out HV.out)
            go_wp2
            have st4 := S5.out.blkSet (i := 1) rfl 0 (.slice none 0 0)
            have y0 := (st4.blk (i := 1) rfl).cell (i := 0) rfl
            rw [← HF.out.1, ← HF.out.2]
            refine bodyPost_ret (v := .tuple #[.agg #[.slice none 0 0], .int .i64 5]) (by simp [results, Try.results18, go_sem, y0]) rfl ⟨none, 0, rfl, ownSS_nil _ _ _ _, st4.below⟩
          | true =>
            have HF := Lib.hid (HOKK.out HAU.out HV.out)
            go_wp2
            have st4 := S5.out.blkSet (i := 1) rfl 0 (.slice A4 N c4)
            have y0 := (st4.blk (i := 1) rfl).cell (i := 0) rfl
            rw [← HF.out.1, ← HF.out.2]
            refine bodyPost_ret (v := .tuple #[.agg #[.slice A4 N c4], .int .i64 0]) (by simp [results, Try.results18, go_sem, y0]) rfl ⟨A4, c4, by rw [HQN.out], ?_, st4.below⟩
            rw [HQN.out]
            exact st4.sep.ownSS (i := 2) rfl

end Go.Proofs.Ytmgoaabeopnopaa
