import Derived.Test.YtjkddoiacifhpaaMx
namespace Go.Proofs.Ytjkddoiacifhpaa
open Go.RowKit

noncomputable def colL (xss : List (List Int)) (n : Nat) : List Int := (distL xss n 0).map fun x => x % 2
/-- No move leads a flag to one of the same colour. -/
def ColOk (xss : List (List Int)) (n : Nat) (C : List Int) : Prop := ∀ g ∈ xss, ∀ f : Nat, f < n → fz C (fz g f) ≠ fz C f
noncomputable def colB (xss : List (List Int)) (n : Nat) : Bool := @decide (ColOk xss n (colL xss n)) (Classical.propDecidable _)
noncomputable def colR (xss : List (List Int)) (n : Nat) : List Int := if colB xss n then colL xss n else []
def RetSB (w : World) (L : List Int) (B : Bool) (e : Ending) (w' : World) : Prop :=
  ∃ A c, e = .returned (.tuple #[.slice A L.length c, .bool B]) ∧ w'.ownsRow w.heap.size 2 1 (.slice A L.length c) L.length (ints L) ∧ Below w.heap.size w w'
section
variable {xss : List (List Int)} {n : Nat} {g : List Int}
theorem colB_false (h : ¬ ColOk xss n (colL xss n)) : colB xss n = false := @decide_eq_false _ (Classical.propDecidable _) h
theorem colB_true (h : ColOk xss n (colL xss n)) : colB xss n = true := @decide_eq_true _ (Classical.propDecidable _) h
theorem retSB_no {w w' : World} (h : colB xss n = false) (bel : Below w.heap.size w w') : RetSB w (colR xss n) (colB xss n) (.returned (.tuple #[.slice none 0 0, .bool false])) w' := by
  have e : colR xss n = [] := by unfold colR; rw [h]; rfl
  rw [e, h]
  exact ⟨none, 0, rfl, World.ownsRow_nil _ _ _ _, bel⟩
theorem retSB_yes {w w' : World} {A : Option Addr} {c base : Nat} (h : colB xss n = true) (hl : (colL xss n).length = n) (own : w'.ownsRow base 2 1 (.slice A n c) n (ints (colL xss n))) (hb : w.heap.size ≤ base) (bel : Below w.heap.size w w') :
    RetSB w (colR xss n) (colB xss n) (.returned (.tuple #[.slice A n c, .bool true])) w' := by
  have e : colR xss n = colL xss n := by unfold colR; rw [h]; rfl
  rw [e, h]
  exact ⟨A, c, by rw [hl], by rw [hl]; exact own_base own hb, bel⟩
theorem mix_at {A B : List Int} {k : Nat} (hA : A.length = n) (hk : k < n) : (A.take k ++ B.drop k)[k]? = B[k]? := by
  have e : (A.take k).length = k := by simp; omega
  rw [List.getElem?_append_right (by omega), e, Nat.sub_self, List.getElem?_drop, Nat.add_zero]
theorem mix_step {A B : List Int} {k : Nat} {a : Int} (hA : A.length = n) (hB : B.length = n) (ha : A[k]? = some a) : (A.take k ++ B.drop k).set k a = A.take (k + 1) ++ B.drop (k + 1) := by
  have hk : k < A.length := (List.getElem?_eq_some_iff.1 ha).1
  have e : (A.take k).length = k := by simp; omega
  rw [List.set_append_right _ _ (by omega), e, Nat.sub_self, List.drop_eq_getElem_cons (by omega : k < B.length), List.set_cons_zero, List.take_add_one, ha]
  simp
theorem colL_len (h : (distL xss n 0).length = n) : (colL xss n).length = n := by simp [colL, h]
theorem colL_at {y d : Nat} (h : (distL xss n 0)[y]? = some (d : Int)) : (colL xss n)[y]? = some ((d : Int) % 2) := by simp [colL, h]

/-- Gone through flag by flag. -/
def CTo (xss : List (List Int)) (C : List Int) (f k : Nat) : Prop := (∀ f' : Nat, f' < f → ∀ g ∈ xss, fz C (fz g f') ≠ fz C f') ∧ ∀ g ∈ xss.take k, fz C (fz g f) ≠ fz C f
theorem cto_next {C : List Int} {f k : Nat} (h : CTo xss C f k) (hk : xss.length ≤ k) : CTo xss C (f + 1) 0 := by
  refine ⟨fun f' hf g hg => ?_, by simp⟩
  rcases Nat.lt_succ_iff_lt_or_eq.1 hf with h1 | rfl
  · exact h.1 f' h1 g hg
  · exact h.2 g (by rwa [List.take_of_length_le hk])
theorem cto_step {C : List Int} {f k : Nat} (h : CTo xss C f k) (hg : xss[k]? = some g) (hne : fz C (fz g f) ≠ fz C f) : CTo xss C f (k + 1) := by
  refine ⟨h.1, fun g' hg' => ?_⟩
  rw [List.take_add_one, hg] at hg'
  rcases List.mem_append.1 hg' with h1 | h1
  · exact h.2 g' h1
  · simp at h1; subst h1; exact hne
theorem cto_all {C : List Int} (h : CTo xss C n 0) : ColOk xss n C := fun g hg f hf => h.1 f hf g hg
/-- Gone through move by move. -/
def CMo (xss : List (List Int)) (n : Nat) (C : List Int) (k f : Nat) : Prop := (∀ g ∈ xss.take k, ∀ f' : Nat, f' < n → fz C (fz g f') ≠ fz C f') ∧ ∀ g : List Int, xss[k]? = some g → ∀ f' : Nat, f' < f → fz C (fz g f') ≠ fz C f'
theorem cmo_next {C : List Int} {k : Nat} (h : CMo xss n C k n) (hg : xss[k]? = some g) : CMo xss n C (k + 1) 0 := by
  refine ⟨fun g' hg' f' hf => ?_, fun _ _ f' hf => absurd hf (by omega)⟩
  rw [List.take_add_one, hg] at hg'
  rcases List.mem_append.1 hg' with h1 | h1
  · exact h.1 g' h1 f' hf
  · simp at h1; subst h1; exact h.2 _ hg f' hf
theorem cmo_step {C : List Int} {k f : Nat} (h : CMo xss n C k f) (hg : xss[k]? = some g) (hne : fz C (fz g f) ≠ fz C f) : CMo xss n C k (f + 1) := by
  refine ⟨h.1, fun g' hg' f' hf => ?_⟩
  rw [hg] at hg'
  injection hg' with hg'
  subst hg'
  rcases Nat.lt_succ_iff_lt_or_eq.1 hf with h1 | rfl
  · exact h.2 _ hg f' h1
  · exact hne
theorem cmo_all {C : List Int} {k : Nat} (h : CMo xss n C k 0) (hk : xss.length ≤ k) : ColOk xss n C := fun g hg f hf => h.1 g (by rwa [List.take_of_length_le hk]) f hf
end

set_option maxHeartbeats 3200000 in
set_option maxRecDepth 8000 in
theorem scol_any {b o c N n c0 : Nat} {A0 : Option Addr} {xss : List (List Int)} (w : World) (hx : xss.length = N) (ha : RdSS w (some ⟨b, o, none⟩) xss) (hN : N ≤ 1048576) (hsys : okSys n xss = true) (h0 : w.cell? ⟨b, o, none⟩ = some (.slice A0 n c0)) (hpos : 0 < N) (h2 : 2 ≤ n) (hall : (orbL xss n ((0 : Nat) : Int)).length = n) :
    Calls Try.prog 146 #[.agg #[.slice (some ⟨b, o, none⟩) N c]] w (RetSB w (colR xss n) (colB xss n)) := by
  have hp : 0 < n := by omega
  have HX := Lib.hid hx
  have HA := Lib.hid ha
  have HS := Lib.hid hsys
  have HC0 := Lib.hid h0
  have HALL := Lib.hid hall
  have hdl := distL_len hsys hp hall
  have HDL := Lib.hid hdl
  have HCL := Lib.hid (colL_len hdl)
  have hn4 := (sys_parts hsys).2.1
  have BX0 := Lib.hid (Bx.start w (.slice (some ⟨b, o, none⟩) N c) 51)
  clear hx ha hsys h0 hall hdl
  go_enter Try.func146, Try.ntmps146
  go_wp2_with fail
  refine (sdist_any (p := 0) _ HX.out (HA.out.al _) hN HS.out (cell_al HC0.out _) hpos hp HALL.out).mono ?_
  rintro e w1 ⟨A1, c1, rfl, own, bel⟩
  have hdl := HDL.out
  simp only [Int.ofNat_zero] at own hdl ⊢
  rw [hdl] at own ⊢
  obtain ⟨g1, rfl⟩ := own_shape own (by omega)
  have BX1 := Lib.hid (BX0.out.go bel)
  have OWN := Lib.hid (own_base own (base' := w.heap.size + 1) (by simp))
  clear own bel BX0 hdl
  go_wp2
  go_loopw [5] (fun i wr => ∃ k : Nat, k ≤ n ∧ i = .int .i64 k ∧ wr.ownsRow (w.heap.size + 1) 2 1 (.slice (some ⟨g1, 0, none⟩) n c1) n (ints ((colL xss n).take k ++ (distL xss n 0).drop k)) ∧ Bx w wr (.slice (some ⟨b, o, none⟩) N c) 51) (fun i _ => n - (intOf i).toNat)
  case atStart => exact ⟨0, Nat.zero_le _, rfl, by simpa using OWN.out, BX1.out⟩
  case round =>
    obtain ⟨k, hk, rfl, own, bx⟩ := hrel
    have OW := Lib.hid own
    have BX := Lib.hid bx
    clear own bx
    by_cases hlt : k < n
    · obtain ⟨d, hd, hdn⟩ := distL_at HS.out hp HALL.out hlt
      have hcx := own_cell OW.out (show (ints ((colL xss n).take k ++ (distL xss n 0).drop k))[k]? = some (.int .i64 d) by rw [ints, List.getElem?_map, mix_at HCL.out hlt]; simpa using congrArg (Option.map (Value.int .i64)) hd)
      have hfr := OW.out.frozenAt k
      have hglo := (OW.out.lt g1 rfl).1
      have O2 := Lib.hid (OW.out.stored k (.int .i64 ((d : Int) % 2))).1
      have HE := Lib.hid (mix_step (B := distL xss n 0) HCL.out HDL.out (colL_at hd))
      clear hd
      go_wp2
      go_roundw
      case rel => exact ⟨k + 1, by omega, by go_num, by have h := O2.out; rwa [ints_set, HE.out] at h, ⟨BX.out.bel.setCell (p := ⟨g1, k, none⟩) hglo _⟩⟩
      case measure => simp [intOf]; omega
    · have h := OW.out
      rw [List.take_of_length_le (by rw [HCL.out]; omega), List.drop_of_length_le (by have := HDL.out; simp only [Int.natCast_zero] at this; omega), List.append_nil] at h
      have OC := Lib.hid h
      clear h hk
      go_wp2
      clear hlt
      go_loopw [6] (fun i wr => ∃ f : Nat, f ≤ n ∧ i = .int .i64 f ∧ CTo xss (colL xss n) f 0 ∧ wr.ownsRow (w.heap.size + 1) 2 1 (.slice (some ⟨g1, 0, none⟩) n c1) n (ints (colL xss n)) ∧ Bx w wr (.slice (some ⟨b, o, none⟩) N c) 51) (fun i _ => n - (intOf i).toNat)
      case atStart => exact ⟨0, Nat.zero_le _, rfl, ⟨fun f h => absurd h (by omega), by simp⟩, OC.out, BX.out⟩
      case round =>
        obtain ⟨f, hf, rfl, ct, own, bx⟩ := hrel
        have CT := Lib.hid ct
        have OWF := Lib.hid own
        have BXF := Lib.hid bx
        clear ct own bx OC BX OW
        by_cases hlt : f < n
        · go_wp2
          go_loopw [7] (fun v wi => ∃ j : Nat, j ≤ N ∧ v = .int .i64 j ∧ CTo xss (colL xss n) f j ∧ wi.ownsRow (w.heap.size + 1) 2 1 (.slice (some ⟨g1, 0, none⟩) n c1) n (ints (colL xss n)) ∧ Bx w wi (.slice (some ⟨b, o, none⟩) N c) 51) (fun v _ => N - (intOf v).toNat)
          case atStart => exact ⟨0, Nat.zero_le _, rfl, CT.out, OWF.out, BXF.out⟩
          case round =>
            obtain ⟨j, hj, rfl, ct2, own2, bx2⟩ := hrel
            have CT2 := Lib.hid ct2
            have OW2 := Lib.hid own2
            have BX2 := Lib.hid bx2
            have hbc := bx2.cell
            clear ct2 own2 bx2 CT OWF BXF
            by_cases hjl : j < N
            · obtain ⟨b3, o3, A4, c4, gg, he, hg, hc, hrd, hms⟩ := (bx_rd BX2.out HA.out).row (k := j) (by rw [HX.out]; exact hjl)
              obtain ⟨rfl, rfl⟩ : b = b3 ∧ o = o3 := by simpa using he
              have hlg := sys_len HS.out hg
              obtain ⟨l, hl⟩ : ∃ l, gg.length = l := ⟨_, rfl⟩
              rw [hl] at hc hms hlg
              obtain ⟨b4, o4, y, rfl, hgy, hcy⟩ := hrd.int (k := f) (by omega)
              obtain ⟨q, rfl, hq0⟩ := sys_at HS.out hg hgy
              have hqn : q < n := by omega
              obtain ⟨d1, hd1, hd1n⟩ := distL_at HS.out hp HALL.out hqn
              obtain ⟨d2, hd2, hd2n⟩ := distL_at HS.out hp HALL.out hlt
              have hcq := own_cell OW2.out (show (ints (colL xss n))[q]? = some (.int .i64 ((d1 : Int) % 2)) by rw [ints, List.getElem?_map, colL_at hd1]; rfl)
              have hcf := own_cell OW2.out (show (ints (colL xss n))[f]? = some (.int .i64 ((d2 : Int) % 2)) by rw [ints, List.getElem?_map, colL_at hd2]; rfl)
              have F1 := Lib.hid (show fz (colL xss n) (fz gg f) = (d1 : Int) % 2 by rw [show fz gg f = (q : Int) from by simp [fz, hgy]]; exact fz_at (colL_at hd1))
              have F2 := Lib.hid (show fz (colL xss n) f = (d2 : Int) % 2 from fz_at (colL_at hd2))
              have HG := Lib.hid hg
              clear he hgy hrd hg hd1 hd2
              by_cases heq : (d1 : Int) % 2 = (d2 : Int) % 2
              · have hbe : (((d1 : Int) % 2) == ((d2 : Int) % 2)) = true := by rw [beq_iff_eq]; exact heq
                have HB := Lib.hid (colB_false (xss := xss) (n := n) fun h => h gg (List.mem_of_getElem? HG.out) f hlt (by rw [F1.out, F2.out]; exact heq))
                clear heq
                go_wp2
                go_quiet (fail)
                go_wp2
                go_ret2
                exact retSB_no HB.out (BX2.out.drewN _).below
              · have hbe : (((d1 : Int) % 2) == ((d2 : Int) % 2)) = false := by rw [beq_eq_false_iff_ne]; exact heq
                have CT3 := Lib.hid (cto_step CT2.out HG.out (by rw [F1.out, F2.out]; exact heq))
                clear heq
                go_wp2
                go_quiet (fail)
                have O3 := Lib.hid (own_below OW2.out (below_drewN (Below.refl _ _) nq) (Nat.le_refl _))
                go_wp2
                go_roundw
                case rel => exact ⟨j + 1, by omega, by go_num, CT3.out, O3.out, BX2.out.drewN _⟩
                case measure => simp [intOf]; omega
            · have CT3 := Lib.hid (cto_next CT2.out (by rw [HX.out]; omega))
              go_wp2
              go_roundw
              case rel => exact ⟨f + 1, by omega, by go_num, CT3.out, OW2.out, BX2.out⟩
              case measure => simp [intOf]; omega
        · obtain rfl : f = n := by omega
          have HB := Lib.hid (colB_true (cto_all CT.out))
          go_wp2
          go_ret2
          exact retSB_yes HB.out HCL.out OWF.out (by omega) BXF.out.below
end Go.Proofs.Ytjkddoiacifhpaa
