/- spec.l03Meets; IsLattice of both. -/
import Derived.Test.YtdhcklfpammhkaaLw
namespace Go.Proofs.Ytdhcklfpammhkaa
open Go.RowKit

set_option maxHeartbeats 6400000 in
set_option maxRecDepth 100000 in
theorem smeets_any {R : Int} {A B : Option Addr} {N c M d : Nat} {xs : List Int} {bss : List (List Int)} (w : World) (hx : xs.length = N) (hy : bss.length = M) (hb : RdSS w B bss) (ok : OkPos R xs bss) (hr : ∀ xs ∈ bss, (xs.length : Int) ≤ 1048576) :
    Calls Try.prog 196 #[.agg #[.int .i64 R, .slice A N c, .slice B M d]] w fun e w' => e = .returned (.bool (pB (MeetsOk bss))) ∧ Below w.heap.size w w' := by
  have hMN : M = N := by have := ok.ranks.len; omega
  subst hMN
  have hN5 := ok.ranks.n
  rw [hx] at hN5
  have HY := Lib.hid hy
  have HB := Lib.hid hb
  have HR := Lib.hid hr
  have OK := Lib.hid ok
  have BX0 := Lib.hid (Bp.start w #[.int .i64 R, .slice A M c, .slice B M d] 71)
  have q0 := BX0.out.cell0
  have q1 := BX0.out.cell1
  clear hx hy hb ok hr
  go_enter Try.func196, Try.ntmps196
  go_wp2
  clear q0 q1
  go_loopw [4] (fun v wr => ∃ e : Nat, e ≤ M ∧ v = .int .i64 e ∧ (∀ e' f : Nat, f < e' → e' < e → MeetOk bss e' f) ∧ Bp w wr #[.int .i64 R, .slice A M c, .slice B M d] 71) (fun v _ => M - (intOf v).toNat)
  case atStart => exact ⟨0, Nat.zero_le _, rfl, fun e f _ h => absurd h (by omega), BX0.out⟩
  case round =>
    obtain ⟨e, he, rfl, hall, bx⟩ := hrel
    have HALL := Lib.hid hall
    have BX1 := Lib.hid bx
    clear hall bx
    by_cases heM : e < M
    · go_wp2
      go_loopw [5] (fun v wr => ∃ f : Nat, f ≤ e ∧ v = .int .i64 f ∧ (∀ f' : Nat, f' < f → MeetOk bss e f') ∧ Bp w wr #[.int .i64 R, .slice A M c, .slice B M d] 71) (fun v _ => e - (intOf v).toNat)
      case atStart => exact ⟨0, Nat.zero_le _, rfl, fun f' h => absurd h (by omega), BX1.out⟩
      case round =>
        obtain ⟨f, hf, rfl, hal2, bx⟩ := hrel
        have HAL2 := Lib.hid hal2
        have BX2 := Lib.hid bx
        clear hal2 bx
        by_cases hfe : f < e
        · obtain ⟨wb, hwb⟩ : ∃ wb, wb = wr := ⟨_, rfl⟩
          subst hwb
          obtain ⟨b1, o1, A1, c1, bf, rfl, hgf, hcf0, hrf, hmf⟩ := HB.out.row (k := f) (by rw [HY.out]; omega)
          obtain ⟨b2, o2, A2, c2, be, hbe, hge, hce0, hre, hme⟩ := HB.out.row (k := e) (by rw [HY.out]; exact heM)
          obtain ⟨rfl, rfl⟩ : b1 = b2 ∧ o1 = o2 := by simpa using hbe
          obtain ⟨n1, hl1⟩ : ∃ l, bf.length = l := ⟨_, rfl⟩
          obtain ⟨n2, hl2⟩ : ∃ l, be.length = l := ⟨_, rfl⟩
          have hr1 := HR.out bf (List.mem_of_getElem? hgf)
          have hr2 := HR.out be (List.mem_of_getElem? hge)
          rw [hl1] at hcf0 hmf hr1
          rw [hl2] at hce0 hme hr2
          have HL1 := Lib.hid hl1
          have HL2 := Lib.hid hl2
          have HGF := Lib.hid hgf
          have HGE := Lib.hid hge
          have HRF := Lib.hid hrf
          have HRE := Lib.hid hre
          have HCF := Lib.hid hcf0
          have HCE := Lib.hid hce0
          have fI : (f : Int) < (M : Int) := by omega
          have eI : (e : Int) < (M : Int) := by omega
          have ON0 := Lib.hid (show (wb.alloc (.cells #[] 2)).ownsRow wb.heap.size 2 1 (.slice (some ⟨wb.heap.size, 0, none⟩) 0 0) 0 (ints (cmS bss e f 0)) from by
            have := World.ownsRow_lit (base := wb.heap.size) (e := 2) (size := 1) wb #[] 0 (Nat.le_refl _) (by decide) (by simp)
            simpa [cmS] using this)
          clear hbe hl1 hl2 hgf hge hrf hre hcf0 hce0
          go_wp2
          go_loopw [6, 7] (fun u v wr => ∃ (k m6 c6 : Nat) (A6 : Option Addr), u = .slice A6 m6 c6 ∧ v = .int .i64 k ∧ k ≤ f + 1 ∧ (cmS bss e f k).length = m6 ∧ wr.ownsRow wb.heap.size 2 1 (.slice A6 m6 c6) m6 (ints (cmS bss e f k)) ∧ Below wb.heap.size wb wr) (fun _ v _ => f + 1 - (intOf v).toNat)
          case atStart => exact ⟨0, 0, 0, _, rfl, rfl, Nat.zero_le _, rfl, ON0.out, below1 _ _⟩
          case round =>
            obtain ⟨k, m6, c6, A6, rfl, rfl, hk, hm6, own, bel⟩ := hrel
            have hmk : m6 ≤ k := by rw [← hm6]; exact cmS_len
            have OW := Lib.hid own
            have BE := Lib.hid bel
            have BX3 := Lib.hid (BX2.out.go bel)
            have HM6 := Lib.hid hm6
            have hsz := bel.size
            clear own bel hm6 ON0
            have q2 := BX3.out.cell2
            have hcf := cell_be HCF.out BX3.out.below
            have hce := cell_be HCE.out BX3.out.below
            have HRF3 := Lib.hid (HRF.out.keep BX3.out.below)
            have HRE3 := Lib.hid (HRE.out.keep BX3.out.below)
            by_cases hkf : k ≤ f
            · have hsu := cmS_succ (bss := bss) (e := e) (f := f) (k := k)
              rw [getD_some HGF.out, getD_some HGE.out] at hsu
              by_cases hc1 : k = f ∨ (k : Int) ∈ bf
              · by_cases hc2 : (k : Int) ∈ be
                · rw [if_pos ⟨hc1, hc2⟩] at hsu
                  have HSU := Lib.hid hsu
                  have HIN := Lib.hid (decide_eq_true hc2)
                  by_cases hkk : k = f
                  · have heq : ((k : Int) == (f : Int)) = true := by rw [hkk]; simp
                    clear hsu hc1 hc2 hkk
                    go_wp2_with fail
                    refine (shas_any _ HL2.out HRE3.out (by omega)).mono ?_
                    rintro e' w' ⟨rfl, rfl⟩
                    rw [HIN.out]
                    go_wp2_with (at_builtin; refine wpList_push _ rfl _ _ 24 2 rfl Try.underlying24 (.int .i64 0) 8 Try.info2 rfl wb.heap.size _ m6 _ rfl OW.out _ rfl rfl (by omega) (by omega) hsz ?_)
                    intro A7 c7 w7 own7 bel7 _
                    have OW7 := Lib.hid (show w7.ownsRow wb.heap.size 2 1 (.slice A7 (m6 + 1) c7) (m6 + 1) (ints (cmS bss e f (k + 1))) from by rw [HSU.out]; simpa [ints] using own7)
                    have BE7 := Lib.hid (BE.out.trans bel7)
                    clear own7 bel7
                    go_wp2
                    go_roundw
                    case rel => exact ⟨k + 1, m6 + 1, c7, A7, rfl, by go_num, by omega, by rw [HSU.out, List.length_append, HM6.out]; rfl, OW7.out, BE7.out⟩
                    case measure => simp [intOf]; omega
                  · have heq : ((k : Int) == (f : Int)) = false := by rw [beq_eq_false_iff_ne]; omega
                    have HIF := Lib.hid (decide_eq_true (show (k : Int) ∈ bf from hc1.resolve_left hkk))
                    clear hsu hc1 hc2 hkk
                    go_wp2_with fail
                    refine (shas_any _ HL1.out HRF3.out (by omega)).mono ?_
                    rintro e' w' ⟨rfl, rfl⟩
                    rw [HIF.out]
                    go_wp2_with fail
                    refine (shas_any _ HL2.out HRE3.out (by omega)).mono ?_
                    rintro e' w' ⟨rfl, rfl⟩
                    rw [HIN.out]
                    go_wp2_with (at_builtin; refine wpList_push _ rfl _ _ 24 2 rfl Try.underlying24 (.int .i64 0) 8 Try.info2 rfl wb.heap.size _ m6 _ rfl OW.out _ rfl rfl (by omega) (by omega) hsz ?_)
                    intro A7 c7 w7 own7 bel7 _
                    have OW7 := Lib.hid (show w7.ownsRow wb.heap.size 2 1 (.slice A7 (m6 + 1) c7) (m6 + 1) (ints (cmS bss e f (k + 1))) from by rw [HSU.out]; simpa [ints] using own7)
                    have BE7 := Lib.hid (BE.out.trans bel7)
                    clear own7 bel7
                    go_wp2
                    go_roundw
                    case rel => exact ⟨k + 1, m6 + 1, c7, A7, rfl, by go_num, by omega, by rw [HSU.out, List.length_append, HM6.out]; rfl, OW7.out, BE7.out⟩
                    case measure => simp [intOf]; omega
                · rw [if_neg (fun h => hc2 h.2), List.append_nil] at hsu
                  have HSU := Lib.hid hsu
                  have HIN := Lib.hid (decide_eq_false hc2)
                  by_cases hkk : k = f
                  · have heq : ((k : Int) == (f : Int)) = true := by rw [hkk]; simp
                    clear hsu hc1 hc2 hkk
                    go_wp2_with fail
                    refine (shas_any _ HL2.out HRE3.out (by omega)).mono ?_
                    rintro e' w' ⟨rfl, rfl⟩
                    rw [HIN.out]
                    go_wp2
                    go_roundw
                    case rel => exact ⟨k + 1, m6, c6, A6, rfl, by go_num, by omega, by rw [HSU.out]; exact HM6.out, by rw [HSU.out]; exact OW.out, BE.out⟩
                    case measure => simp [intOf]; omega
                  · have heq : ((k : Int) == (f : Int)) = false := by rw [beq_eq_false_iff_ne]; omega
                    have HIF := Lib.hid (decide_eq_true (show (k : Int) ∈ bf from hc1.resolve_left hkk))
                    clear hsu hc1 hc2 hkk
                    go_wp2_with fail
                    refine (shas_any _ HL1.out HRF3.out (by omega)).mono ?_
                    rintro e' w' ⟨rfl, rfl⟩
                    rw [HIF.out]
                    go_wp2_with fail
                    refine (shas_any _ HL2.out HRE3.out (by omega)).mono ?_
                    rintro e' w' ⟨rfl, rfl⟩
                    rw [HIN.out]
                    go_wp2
                    go_roundw
                    case rel => exact ⟨k + 1, m6, c6, A6, rfl, by go_num, by omega, by rw [HSU.out]; exact HM6.out, by rw [HSU.out]; exact OW.out, BE.out⟩
                    case measure => simp [intOf]; omega
              · rw [if_neg (fun h => hc1 h.1), List.append_nil] at hsu
                have HSU := Lib.hid hsu
                have HIF := Lib.hid (decide_eq_false (show ¬ (k : Int) ∈ bf from fun h => hc1 (.inr h)))
                have heq : ((k : Int) == (f : Int)) = false := by rw [beq_eq_false_iff_ne]; intro h; exact hc1 (.inl (by omega))
                clear hsu hc1
                go_wp2_with fail
                refine (shas_any _ HL1.out HRF3.out (by omega)).mono ?_
                rintro e' w' ⟨rfl, rfl⟩
                rw [HIF.out]
                go_wp2
                go_roundw
                case rel => exact ⟨k + 1, m6, c6, A6, rfl, by go_num, by omega, by rw [HSU.out]; exact HM6.out, by rw [HSU.out]; exact OW.out, BE.out⟩
                case measure => simp [intOf]; omega
            · obtain rfl : k = f + 1 := by omega
              have hca := cmS_all OK.out hfe (show e < bss.length by rw [HY.out]; exact heM)
              have hcm := HM6.out
              have how := OW.out
              rw [hca] at hcm how
              have HCM := Lib.hid hcm
              have OC := Lib.hid how
              have MA := Lib.hid (meet_all (e := e) OK.out (show f < bss.length by rw [HY.out]; omega))
              clear hca hcm how OW HM6 q2 hcf hce
              obtain ⟨wz, hwz⟩ : ∃ wz, wz = wr := ⟨_, rfl⟩
              subst hwz
              go_wp2
              go_loopw [8] (fun v wr => ∃ i : Nat, i ≤ m6 ∧ v = .int .i64 i ∧ (∀ (i' : Nat) (x l : Int), i' < i → i' + 1 < (comL bss e f).length → (comL bss e f)[i']? = some x → (comL bss e f)[(comL bss e f).length - 1]? = some l → x ∈ bss.getD l.toNat []) ∧ Below wz.heap.size wz wr) (fun v _ => m6 - (intOf v).toNat)
              case atStart => exact ⟨0, Nat.zero_le _, rfl, fun i' x l h => absurd h (by omega), Below.refl _ _⟩
              case round =>
                obtain ⟨i, hi, rfl, hal3, bel⟩ := hrel
                have HAL3 := Lib.hid hal3
                have BX4 := Lib.hid (BX3.out.go bel)
                have OC4 := Lib.hid (own_below OC.out bel (Nat.le_refl _))
                have BE4 := Lib.hid bel
                clear hal3 bel
                by_cases him : i + 1 < m6
                · obtain ⟨x, hgx⟩ : ∃ x, (comL bss e f)[i]? = some x := ⟨_, List.getElem?_eq_getElem (by rw [HCM.out]; omega)⟩
                  obtain ⟨l, hgl⟩ : ∃ l, (comL bss e f)[m6 - 1]? = some l := ⟨_, List.getElem?_eq_getElem (by rw [HCM.out]; omega)⟩
                  obtain ⟨l, rfl, hlf⟩ := low_bd OK.out (show f < bss.length by rw [HY.out]; omega) (com_mem.1 (List.mem_of_getElem? hgl)).1
                  obtain ⟨m1, hm1⟩ : ∃ m1, m6 = m1 + 1 := ⟨m6 - 1, by omega⟩
                  obtain ⟨g6, rfl⟩ := own_shape OC4.out (show 0 < m6 by omega)
                  have hgl' : (comL bss e f)[m1]? = some (l : Int) := by rw [← hgl]; congr 1; omega
                  have hci := own_cell OC4.out (show (ints (comL bss e f))[i]? = some (.int .i64 x) by simp [hgx])
                  have hcl := own_cell OC4.out (show (ints (comL bss e f))[m1]? = some (.int .i64 (l : Int)) by simp [hgl'])
                  obtain ⟨b5, o5, A5, c5, bl, hbe5, hg5, hc50, hr5, hm5⟩ := HB.out.row (k := l) (by rw [HY.out]; omega)
                  obtain ⟨rfl, rfl⟩ : b1 = b5 ∧ o1 = o5 := by simpa using hbe5
                  obtain ⟨n5, hl5⟩ : ∃ n, bl.length = n := ⟨_, rfl⟩
                  have hrr5 := HR.out bl (List.mem_of_getElem? hg5)
                  rw [hl5] at hc50 hm5 hrr5
                  have HL5 := Lib.hid hl5
                  have HR5 := Lib.hid (hr5.keep BX4.out.below)
                  have p2 := BelowOf.cell BX4.out.cell2
                  have pi := BelowOf.cell hci
                  have pl := BelowOf.cell hcl
                  have p5 := BelowOf.cell (cell_be hc50 BX4.out.below)
                  have iI : (i : Int) < (m6 : Int) := by omega
                  have lI : (l : Int) < (M : Int) := by omega
                  have mI : (m1 : Int) < (m6 : Int) := by omega
                  have w5 : IntKind.i64.wrap ((m6 : Int) - 1) = (m1 : Int) := (IntWalk.i64_in _ (by omega)).trans (by omega)
                  have HGX := Lib.hid hgx
                  have HGL := Lib.hid (show (comL bss e f)[(comL bss e f).length - 1]? = some (l : Int) by rw [HCM.out]; exact hgl)
                  have HGB := Lib.hid (getD_some hg5)
                  clear hgx hgl hgl' hci hcl hbe5 hg5 hc50 hr5 hl5 hm1
                  cases hin : decide (x ∈ bl)
                  · have hs := Lib.hid (pB_false (p := MeetsOk bss) fun h => of_decide_eq_false hin (by
                      have := MA.out.1 (h e f hfe (by rw [HY.out]; exact heM)) i x l (by rw [HCM.out]; exact him) HGX.out HGL.out
                      rw [Int.toNat_natCast, HGB.out] at this
                      exact this))
                    have HIN := Lib.hid hin
                    clear hin
                    go_wp2
                    refine wp_region_quiet_below (by kernel_rfl) (by kernel_rfl) ?_
                    repeat (go_big_quiet_step ((go_at_call 177; exact Calls.below_of (shas_bel _ HL5.out (HR5.out.keep (BelowOf.h _)) (by omega) HIN.out))))
                    refine wpQuiet_nil ?_
                    intro wq hw'
                    obtain ⟨⟨wv, hbq⟩, hw''⟩ := hw'
                    subst hw''
                    go_wp2
                    go_ret
                    exact ⟨ret_bool hs.out.symm, (BX4.out.go hbq).below⟩
                  · have HAL4 := Lib.hid (show ∀ (i' : Nat) (x l : Int), i' < i + 1 → i' + 1 < (comL bss e f).length → (comL bss e f)[i']? = some x → (comL bss e f)[(comL bss e f).length - 1]? = some l → x ∈ bss.getD l.toNat [] from fun i' x' l' h1 h2 h3 h4 => by
                      rcases Nat.lt_succ_iff_lt_or_eq.1 h1 with h | rfl
                      · exact HAL3.out i' x' l' h h2 h3 h4
                      · rw [HGX.out] at h3
                        rw [HGL.out] at h4
                        injection h3 with h3
                        injection h4 with h4
                        subst h3
                        subst h4
                        rw [Int.toNat_natCast, HGB.out]
                        exact of_decide_eq_true hin)
                    have HIN := Lib.hid hin
                    clear hin
                    go_wp2
                    refine wp_region_quiet_below (by kernel_rfl) (by kernel_rfl) ?_
                    repeat (go_big_quiet_step ((go_at_call 177; exact Calls.below_of (shas_bel _ HL5.out (HR5.out.keep (BelowOf.h _)) (by omega) HIN.out))))
                    refine wpQuiet_nil ?_
                    intro wq hw'
                    obtain ⟨⟨wv, hbq⟩, hw''⟩ := hw'
                    subst hw''
                    have BE5 := Lib.hid (BE4.out.trans (hbq.mono BE4.out.size))
                    clear hbq
                    go_wp2
                    go_roundw
                    case rel => exact ⟨i + 1, by omega, by go_num, HAL4.out, BE5.out⟩
                    case measure => simp [intOf]; omega
                · have HAL4 := Lib.hid (show ∀ f' : Nat, f' < f + 1 → MeetOk bss e f' from fun f' hf' => by
                    rcases Nat.lt_succ_iff_lt_or_eq.1 hf' with h | rfl
                    · exact HAL2.out f' h
                    · exact MA.out.2 fun i' x l h1 h2 h3 => HAL3.out i' x l (by have := HCM.out; omega) h1 h2 h3)
                  go_wp2
                  go_roundw
                  case rel => exact ⟨f + 1, by omega, by go_num, HAL4.out, BX4.out⟩
                  case measure => simp [intOf]; omega
        · have HALL2 := Lib.hid (show ∀ e' f' : Nat, f' < e' → e' < e + 1 → MeetOk bss e' f' from fun e' f' hfe' he' => by
            rcases Nat.lt_succ_iff_lt_or_eq.1 he' with h | rfl
            · exact HALL.out e' f' hfe' h
            · exact HAL2.out f' (by omega))
          go_wp2
          go_roundw
          case rel => exact ⟨e + 1, by omega, by go_num, HALL2.out, BX2.out⟩
          case measure => simp [intOf]; omega
    · have hs := Lib.hid (pB_true (p := MeetsOk bss) fun e' f hf he' => HALL.out e' f hf (by rw [HY.out] at he'; omega))
      go_wp2
      go_ret
      exact ⟨ret_bool hs.out.symm, BX1.out.below⟩

noncomputable def latR (R : Int) (xs : List Int) (bss : List (List Int)) : Bool := posB R xs bss && (pB (MeetsOk bss) && pB (MeetsOk (opB bss)))
noncomputable def latC (R : Int) (xs : List Int) (bss : List (List Int)) : Int := if posB R xs bss = true then 0 else 1
theorem opB_rl {R : Int} {xs : List Int} {bss : List (List Int)} (ok : OkPos R xs bss) : ∀ b ∈ opB bss, (b.length : Int) ≤ 1048576 := fun b hb => by
  have := opB_row b hb
  have := ok.ranks.n
  have := ok.ranks.len
  omega

set_option maxHeartbeats 1600000 in
theorem iIsLattice_any {R : Int} {A B : Option Addr} {N c M d : Nat} {xs : List Int} {bss : List (List Int)} (w : World) (hx : xs.length = N) (ha : Rd w A (ints xs)) (hy : bss.length = M) (hb : RdSS w B bss) (hN : N ≤ 1048576) (hM : M ≤ 1048576) (hr : ∀ xs ∈ bss, (xs.length : Int) ≤ 1048576) :
    Calls Try.prog 83 #[.agg #[.int .i64 R, .slice A N c, .slice B M d]] w fun e w' => e = .returned (.tuple #[.bool (latR R xs bss), .int .i64 (latC R xs bss)]) ∧ Below w.heap.size w w' := by
  have HX := Lib.hid hx
  have HA := Lib.hid ha
  have HY := Lib.hid hy
  have HB := Lib.hid hb
  have HR := Lib.hid hr
  have BX0 := Lib.hid (Bp.start w #[.int .i64 R, .slice A N c, .slice B M d] 71)
  have q0 := BX0.out.cell0
  have q1 := BX0.out.cell1
  have q2 := BX0.out.cell2
  cases ho : posB R xs bss
  · have h1 : latR R xs bss = false := by simp [latR, ho]
    have h2 : latC R xs bss = 1 := by simp [latC, ho]
    rw [h1, h2]
    have HO := Lib.hid ho
    clear hx ha hy hb hr ho h1 h2
    go_enter Try.func83, Try.ntmps83
    go_wp2_with fail
    refine (iPos_any _ HX.out (HA.out.keep BX0.out.below) HY.out (HB.out.keep BX0.out.below) hN hM HR.out).mono ?_
    rintro e w1 ⟨rfl, bel⟩
    rw [HO.out]
    have BX1 := Lib.hid (BX0.out.go bel)
    clear bel q0 q1 q2
    go_wp2
    go_ret2
    exact ⟨rfl, BX1.out.below⟩
  · have ok := pB_iff.1 ho
    have h2 : latC R xs bss = 0 := by simp [latC, ho]
    have h1 : latR R xs bss = (pB (MeetsOk bss) && pB (MeetsOk (opB bss))) := by simp [latR, ho]
    rw [h1, h2]
    have HO := Lib.hid ho
    have OK := Lib.hid ok
    have OK2 := Lib.hid (opB_ok ok)
    cases hm : pB (MeetsOk bss)
    · have HM := Lib.hid hm
      clear hx ha hy hb hr ho h1 h2 ok hm
      go_enter Try.func83, Try.ntmps83
      go_wp2_with fail
      refine (iPos_any _ HX.out (HA.out.keep BX0.out.below) HY.out (HB.out.keep BX0.out.below) hN hM HR.out).mono ?_
      rintro e w1 ⟨rfl, bel⟩
      rw [HO.out]
      have BX1 := Lib.hid (BX0.out.go bel)
      clear bel q0 q1 q2
      have q0 := BX1.out.cell0
      have q1 := BX1.out.cell1
      have q2 := BX1.out.cell2
      go_wp2_with fail
      refine (imeets_any _ HX.out HY.out (HB.out.keep BX1.out.below) OK.out).mono ?_
      rintro e w2 ⟨rfl, bel⟩
      rw [HM.out]
      have BX2 := Lib.hid (BX1.out.go bel)
      clear bel q0 q1 q2
      go_wp2
      go_ret2
      exact ⟨rfl, BX2.out.below⟩
    · have HM := Lib.hid hm
      clear hx ha hy hb hr ho h1 h2 ok hm
      go_enter Try.func83, Try.ntmps83
      go_wp2_with fail
      refine (iPos_any _ HX.out (HA.out.keep BX0.out.below) HY.out (HB.out.keep BX0.out.below) hN hM HR.out).mono ?_
      rintro e w1 ⟨rfl, bel⟩
      rw [HO.out]
      have BX1 := Lib.hid (BX0.out.go bel)
      clear bel q0 q1 q2
      have q0 := BX1.out.cell0
      have q1 := BX1.out.cell1
      have q2 := BX1.out.cell2
      go_wp2_with fail
      refine (imeets_any _ HX.out HY.out (HB.out.keep BX1.out.below) OK.out).mono ?_
      rintro e w2 ⟨rfl, bel⟩
      rw [HM.out]
      have BX2 := Lib.hid (BX1.out.go bel)
      clear bel q0 q1 q2
      have q0 := BX2.out.cell0
      have q1 := BX2.out.cell1
      have q2 := BX2.out.cell2
      go_wp2_with fail
      refine (iopp_any _ HX.out (HA.out.keep BX2.out.below) HY.out (HB.out.keep BX2.out.below) OK.out).mono ?_
      rintro e w3 ⟨A', c', B', d', mid, rfl, _, _, own, pin, own2, bel⟩
      have BX3 := Lib.hid (BX2.out.go bel)
      have RD := Lib.hid (ownSS_rd own2)
      clear bel q0 q1 q2 own pin own2
      go_wp2_with fail
      refine (imeets_any _ rfl rfl RD.out OK2.out).mono ?_
      rintro e w4 ⟨rfl, bel⟩
      have BX4 := Lib.hid (BX3.out.go bel)
      clear bel
      go_wp2
      go_ret2
      exact ⟨rfl, BX4.out.below⟩

set_option maxHeartbeats 1600000 in
theorem sIsLattice_any {R : Int} {A B : Option Addr} {N c M d : Nat} {xs : List Int} {bss : List (List Int)} (w : World) (hx : xs.length = N) (ha : Rd w A (ints xs)) (hy : bss.length = M) (hb : RdSS w B bss) (hN : N ≤ 1048576) (hM : M ≤ 1048576) (hr : ∀ xs ∈ bss, (xs.length : Int) ≤ 1048576) :
    Calls Try.prog 118 #[.agg #[.int .i64 R, .slice A N c, .slice B M d]] w fun e w' => e = .returned (.tuple #[.bool (latR R xs bss), .int .i64 (latC R xs bss)]) ∧ Below w.heap.size w w' := by
  have HX := Lib.hid hx
  have HA := Lib.hid ha
  have HY := Lib.hid hy
  have HB := Lib.hid hb
  have HR := Lib.hid hr
  have BX0 := Lib.hid (Bp.start w #[.int .i64 R, .slice A N c, .slice B M d] 71)
  have q0 := BX0.out.cell0
  have q1 := BX0.out.cell1
  have q2 := BX0.out.cell2
  cases ho : posB R xs bss
  · have h1 : latR R xs bss = false := by simp [latR, ho]
    have h2 : latC R xs bss = 1 := by simp [latC, ho]
    have e4 : opPC R xs bss = 1 := by simp [opPC, ho]
    have E4 := Lib.hid e4
    rw [h1, h2]
    clear hx ha hy hb hr ho h1 h2 e4
    go_enter Try.func118, Try.ntmps118
    go_wp2_with fail
    refine (sOppositePoset_any _ HX.out (HA.out.keep BX0.out.below) HY.out (HB.out.keep BX0.out.below) hN hM HR.out).mono ?_
    rintro e w1 ⟨A', c', B', d', rfl, own, own2, bel⟩
    rw [E4.out]
    have BX1 := Lib.hid (BX0.out.go bel)
    clear bel q0 q1 q2 own own2
    go_wp2
    go_ret2
    exact ⟨rfl, (BX1.out.al _).below⟩
  · have ok := pB_iff.1 ho
    have h2 : latC R xs bss = 0 := by simp [latC, ho]
    have h1 : latR R xs bss = (pB (MeetsOk bss) && pB (MeetsOk (opB bss))) := by simp [latR, ho]
    have e1 : opPR R xs bss = R := by simp [opPR, ho]
    have e2 : opPX R xs bss = opX R xs := by simp [opPX, ho]
    have e3 : opPB R xs bss = opB bss := by simp [opPB, ho]
    have e4 : opPC R xs bss = 0 := by simp [opPC, ho]
    rw [h1, h2]
    have HS := Lib.hid (show ∀ (W : World), Rd W A (ints xs) → RdSS W B bss → Calls Try.prog 82 #[.agg #[.int .i64 R, .slice A N c, .slice B M d]] W (RetPU W R (opX R xs) (opB bss) 0) from fun W g1 g2 => by
      have := sOppositePoset_any (R := R) (c := c) (d := d) W hx g1 hy g2 hN hM hr
      rwa [e1, e2, e3, e4] at this)
    have OK := Lib.hid ok
    have OK2 := Lib.hid (opB_ok ok)
    have HR2 := Lib.hid (opB_rl ok)
    cases hm : pB (MeetsOk bss)
    · have HM := Lib.hid hm
      clear hx ha hy hb hr ho h1 h2 ok hm e1 e2 e3 e4
      go_enter Try.func118, Try.ntmps118
      go_wp2_with fail
      refine (HS.out _ (HA.out.keep BX0.out.below) (HB.out.keep BX0.out.below)).mono ?_
      rintro e w1 ⟨A', c', B', d', rfl, own, own2, bel⟩
      have BX1 := Lib.hid ((BX0.out.go bel).al (.cells #[.int .i64 R, .slice A' (opX R xs).length c', .slice B' (opB bss).length d'] 71))
      clear bel q0 q1 q2 own own2
      have q0 := BX1.out.cell0
      have q1 := BX1.out.cell1
      have q2 := BX1.out.cell2
      go_wp2_with fail
      refine (smeets_any _ HX.out HY.out (HB.out.keep BX1.out.below) OK.out HR.out).mono ?_
      rintro e w2 ⟨rfl, bel⟩
      rw [HM.out]
      have BX2 := Lib.hid (BX1.out.go bel)
      clear bel q0 q1 q2
      go_wp2
      go_ret2
      exact ⟨rfl, BX2.out.below⟩
    · have HM := Lib.hid hm
      clear hx ha hy hb hr ho h1 h2 ok hm e1 e2 e3 e4
      go_enter Try.func118, Try.ntmps118
      go_wp2_with fail
      refine (HS.out _ (HA.out.keep BX0.out.below) (HB.out.keep BX0.out.below)).mono ?_
      rintro e w1 ⟨A', c', B', d', rfl, own, own2, bel⟩
      have BX1 := Lib.hid ((BX0.out.go bel).al (.cells #[.int .i64 R, .slice A' (opX R xs).length c', .slice B' (opB bss).length d'] 71))
      have Y1 := Lib.hid (Blk.new w1 #[.int .i64 R, .slice A' (opX R xs).length c', .slice B' (opB bss).length d'] 71)
      have RD := Lib.hid ((ownSS_rd own2).al (.cells #[.int .i64 R, .slice A' (opX R xs).length c', .slice B' (opB bss).length d'] 71))
      clear bel q0 q1 q2 own own2
      have q0 := BX1.out.cell0
      have q1 := BX1.out.cell1
      have q2 := BX1.out.cell2
      go_wp2_with fail
      refine (smeets_any _ HX.out HY.out (HB.out.keep BX1.out.below) OK.out HR.out).mono ?_
      rintro e w2 ⟨rfl, bel⟩
      rw [HM.out]
      have BX2 := Lib.hid (BX1.out.go bel)
      have RD2 := Lib.hid (RD.out.keep bel)
      have Y2 := Lib.hid (Y1.out.go bel)
      clear bel q0 q1 q2
      have y0 := Y2.out.cell (i := 0) rfl
      have y1 := Y2.out.cell (i := 1) rfl
      have y2 := Y2.out.cell (i := 2) rfl
      go_wp2_with fail
      refine (smeets_any _ rfl rfl RD2.out OK2.out HR2.out).mono ?_
      rintro e w3 ⟨rfl, bel⟩
      have BX3 := Lib.hid (BX2.out.go bel)
      clear bel y0 y1 y2
      go_wp2
      go_ret2
      exact ⟨rfl, BX3.out.below⟩
end Go.Proofs.Ytdhcklfpammhkaa
