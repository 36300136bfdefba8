import Derived.Test.YtjkddoiacifhpaaL4
import Derived.Test.YtjkddoiacifhpaaMa
import Derived.Test.YtjkddoiacifhpaaL2
import Derived.Deep.RegionHeld3
namespace Go.Proofs.Ytjkddoiacifhpaa
open Go.RowKit

theorem cell_al {w : World} {b o : Nat} {v : Value} (h : w.cell? ⟨b, o, none⟩ = some v) (x : Obj) : (w.alloc x).cell? ⟨b, o, none⟩ = some v :=
  (((Below.refl w.heap.size w).alloc (Nat.le_refl _) x).cell (p := ⟨b, o, none⟩) (World.block_lt_of_cell? w _ h)).trans h

theorem rank_any {A : Option Addr} {c N : Nat} (w : World) :
    Calls Try.prog 135 #[.agg #[.slice A N c]] w fun e w' => e = .returned (.int .i64 N) ∧ w.alloc (.cells #[.slice A N c] 51) = w' := by
  go_enter Try.func135, Try.ntmps135
  go_wp2
  go_ret
  exact ⟨rfl, rfl⟩
theorem flags_any {b o c N n c0 : Nat} {A0 : Option Addr} (w : World) (hN : 0 < N) (h0 : w.cell? ⟨b, o, none⟩ = some (.slice A0 n c0)) :
    Calls Try.prog 127 #[.agg #[.slice (some ⟨b, o, none⟩) N c]] w fun e w' => e = .returned (.int .i64 n) ∧ w.alloc (.cells #[.slice (some ⟨b, o, none⟩) N c] 51) = w' := by
  have hlt := World.block_lt_of_cell? w _ h0
  go_enter Try.func127, Try.ntmps127
  go_wp2
  go_ret
  exact ⟨rfl, rfl⟩

/-- The struct that came in lies in the first block behind w; nothing before it has turned. -/
structure Bx (w wr : World) (v : Value) (T : TypeId) : Prop where
  bel : Below (w.heap.size + 1) (w.alloc (.cells #[v] T)) wr
section
variable {w wr w2 : World} {v : Value} {T : TypeId}
theorem Bx.below (h : Bx w wr v T) : Below w.heap.size w wr := (below1 w _).trans (h.bel.mono (by omega))
theorem Bx.size (h : Bx w wr v T) : w.heap.size < wr.heap.size := by have := h.bel.size; simp at this; omega
theorem Bx.cell (h : Bx w wr v T) : wr.cell? ⟨w.heap.size, 0, none⟩ = some v :=
  (h.bel.cell (p := ⟨w.heap.size, 0, none⟩) (by simp)).trans (by simp)
theorem Bx.start (w : World) (v : Value) (T : TypeId) : Bx w (w.alloc (.cells #[v] T)) v T := ⟨Below.refl _ _⟩
theorem Bx.go (h : Bx w wr v T) (hb : Below wr.heap.size wr w2) : Bx w w2 v T := ⟨h.bel.trans (hb.mono (by have := h.size; omega))⟩
theorem Bx.al (h : Bx w wr v T) (o : Obj) : Bx w (wr.alloc o) v T := h.go (below1 _ _)
theorem Bx.drewN (h : Bx w wr v T) (k : Nat) : Bx w (wr.drewN k) v T := h.go (below_drewN (Below.refl _ _) k)
theorem Bx.drew (h : Bx w wr v T) : Bx w wr.drew v T := h.drewN 1
end

structure SizesOk (xss : List (List Int)) : Prop where
  r1 : 1 ≤ xss.length
  r5 : xss.length ≤ 5
  f2 : 2 ≤ flN xss
  f4 : flN xss ≤ 400
  row : ∀ xs ∈ xss, xs.length = flN xss ∧ okFree xs = true
noncomputable def sizesB (xss : List (List Int)) : Bool := @decide (SizesOk xss) (Classical.propDecidable _)
theorem sizesB_false {xss : List (List Int)} (h : ¬ SizesOk xss) : sizesB xss = false := @decide_eq_false _ (Classical.propDecidable _) h
theorem sizesB_true {xss : List (List Int)} (h : SizesOk xss) : sizesB xss = true := @decide_eq_true _ (Classical.propDecidable _) h
theorem sizesB_iff {xss : List (List Int)} : sizesB xss = true ↔ SizesOk xss := ⟨fun h => @of_decide_eq_true _ (Classical.propDecidable _) h, sizesB_true⟩
theorem fl_of {xss : List (List Int)} {xs : List Int} (h : xss[0]? = some xs) : flN xss = xs.length := by
  cases xss with
  | nil => simp at h
  | cons a r => simp at h; simp [flN, h]
def rowsTo (xss : List (List Int)) (n k : Nat) : Prop := ∀ xs ∈ xss.take k, xs.length = n ∧ okFree xs = true
theorem rowsTo_succ {xss : List (List Int)} {n k : Nat} {xs : List Int} (h : rowsTo xss n k) (hx : xss[k]? = some xs) (h1 : xs.length = n) (h2 : okFree xs = true) : rowsTo xss n (k + 1) := by
  intro ys hy
  rw [List.take_add_one, hx] at hy
  rcases List.mem_append.1 hy with h3 | h3
  · exact h ys h3
  · simp at h3
    subst h3
    exact ⟨h1, h2⟩
theorem rowsTo_all {xss : List (List Int)} {n k : Nat} (h : rowsTo xss n k) (hk : xss.length ≤ k) : ∀ xs ∈ xss, xs.length = n ∧ okFree xs = true := by
  unfold rowsTo at h; rwa [List.take_of_length_le hk] at h

set_option maxHeartbeats 1600000 in
theorem sizes_any {A : Option Addr} {c N : Nat} {xss : List (List Int)} (w : World) (hx : xss.length = N) (ha : RdSS w A xss) (hN : N ≤ 1048576) (hr : ∀ xs ∈ xss, (xs.length : Int) ≤ 1048576) :
    Calls Try.prog 124 #[.agg #[.slice A N c]] w fun e w' => e = .returned (.bool (sizesB xss)) ∧ Below w.heap.size w w' := by
  have HX := Lib.hid hx
  have HA := Lib.hid ha
  have HR := Lib.hid hr
  by_cases h1 : N < 1
  · have hs := Lib.hid (sizesB_false (xss := xss) fun h => by have := h.r1; omega)
    clear hx ha hr
    go_enter Try.func124, Try.ntmps124
    go_wp2_with fail
    refine (rank_any _).mono ?_
    rintro e w' ⟨rfl, rfl⟩
    go_wp2
    go_ret
    exact ⟨ret_bool hs.out.symm, below2 w _ _⟩
  by_cases h5 : 5 < N
  · have hs := Lib.hid (sizesB_false (xss := xss) fun h => by have := h.r5; omega)
    clear hx ha hr
    go_enter Try.func124, Try.ntmps124
    go_wp2_with fail
    refine (rank_any _).mono ?_
    rintro e w' ⟨rfl, rfl⟩
    go_wp2_with fail
    refine (rank_any _).mono ?_
    rintro e w' ⟨rfl, rfl⟩
    go_wp2
    go_ret
    exact ⟨ret_bool hs.out.symm, below3 w _ _ _⟩
  obtain ⟨b, o, A0, c0, xs0, rfl, hg0, hc0, hrd0, hm0⟩ := ha.row (k := 0) (by omega)
  obtain ⟨n, hn⟩ : ∃ n, xs0.length = n := ⟨_, rfl⟩
  rw [hn, Nat.add_zero] at hc0
  rw [hn] at hm0
  have hfl := fl_of hg0
  rw [hn] at hfl
  have hn1 := hr xs0 (List.mem_of_getElem? hg0)
  rw [hn] at hn1
  have HFL := Lib.hid hfl
  have HC0 := Lib.hid hc0
  have hpos : 0 < N := by omega
  clear hrd0 hg0 hn hc0
  by_cases h2 : n < 2
  · have hs := Lib.hid (sizesB_false (xss := xss) fun h => by have := h.f2; omega)
    clear hx ha hr hfl
    go_enter Try.func124, Try.ntmps124
    go_wp2_with fail
    refine (rank_any _).mono ?_
    rintro e w' ⟨rfl, rfl⟩
    go_wp2_with fail
    refine (rank_any _).mono ?_
    rintro e w' ⟨rfl, rfl⟩
    go_wp2_with fail
    refine (flags_any _ hpos (cell_al (cell_al (cell_al HC0.out _) _) _)).mono ?_
    rintro e w' ⟨rfl, rfl⟩
    go_wp2
    go_ret
    exact ⟨ret_bool hs.out.symm, (below3 w _ _ _).alloc (by simp; omega) _⟩
  by_cases h4 : 400 < n
  · have hs := Lib.hid (sizesB_false (xss := xss) fun h => by have := h.f4; omega)
    clear hx ha hr hfl
    go_enter Try.func124, Try.ntmps124
    go_wp2_with fail
    refine (rank_any _).mono ?_
    rintro e w' ⟨rfl, rfl⟩
    go_wp2_with fail
    refine (rank_any _).mono ?_
    rintro e w' ⟨rfl, rfl⟩
    go_wp2_with fail
    refine (flags_any _ hpos (cell_al (cell_al (cell_al HC0.out _) _) _)).mono ?_
    rintro e w' ⟨rfl, rfl⟩
    go_wp2_with fail
    refine (flags_any _ hpos (cell_al (cell_al (cell_al (cell_al HC0.out _) _) _) _)).mono ?_
    rintro e w' ⟨rfl, rfl⟩
    go_wp2
    go_ret
    exact ⟨ret_bool hs.out.symm, ((below3 w _ _ _).alloc (by simp; omega) _).alloc (by simp; omega) _⟩
  clear hx ha hr hfl
  go_enter Try.func124, Try.ntmps124
  go_wp2_with fail
  refine (rank_any _).mono ?_
  rintro e w' ⟨rfl, rfl⟩
  go_wp2_with fail
  refine (rank_any _).mono ?_
  rintro e w' ⟨rfl, rfl⟩
  go_wp2_with fail
  refine (flags_any _ hpos (cell_al (cell_al (cell_al HC0.out _) _) _)).mono ?_
  rintro e w' ⟨rfl, rfl⟩
  go_wp2_with fail
  refine (flags_any _ hpos (cell_al (cell_al (cell_al (cell_al HC0.out _) _) _) _)).mono ?_
  rintro e w' ⟨rfl, rfl⟩
  go_wp2
  go_loopw [26] (fun i wr => ∃ k : Nat, k ≤ N ∧ i = .int .i64 k ∧ rowsTo xss n k ∧ Bx w wr (.slice (some ⟨b, o, none⟩) N c) 51) (fun i _ => N - (intOf i).toNat)
  case atStart => exact ⟨0, Nat.zero_le _, rfl, by simp [rowsTo], ((((Bx.start _ _ _).al _).al _).al _).al _⟩
  case round =>
    obtain ⟨k, hk, rfl, rt, bx⟩ := hrel
    have RT := Lib.hid rt
    have BX := Lib.hid bx
    clear rt bx
    by_cases hlt : k < N
    · obtain ⟨b', o', A', c', xs, he, hg, hc, hrd, hm⟩ := (HA.out.keep BX.out.below).row (k := k) (by rw [HX.out]; exact hlt)
      obtain ⟨rfl, rfl⟩ : b = b' ∧ o = o' := by simpa using he
      obtain ⟨l, hl⟩ : ∃ l, xs.length = l := ⟨_, rfl⟩
      have hlr := HR.out xs (List.mem_of_getElem? hg)
      rw [hl] at hc hm hlr
      have HL := Lib.hid hl
      have HG := Lib.hid hg
      have HRD := Lib.hid hrd
      have hbc := BX.out.cell
      have hc0 := (BX.out.below.cell (p := ⟨b, o, none⟩) (World.block_lt_of_cell? w _ HC0.out)).trans HC0.out
      clear he hl hg hrd
      by_cases hln : l = n
      · subst hln
        have hne : ((l : Int) != (l : Int)) = false := by simp
        cases hf : okFree xs
        · have hs := Lib.hid (sizesB_false (xss := xss) fun h => by have := (h.row xs (List.mem_of_getElem? HG.out)).2; rw [hf] at this; cases this)
          have HF := Lib.hid hf
          clear hf
          go_wp2_with fail
          refine (flags_any _ hpos hc0).mono ?_
          rintro e w' ⟨rfl, rfl⟩
          go_wp2_with fail
          refine (ifree_any _ HL.out (HRD.out.keep (below1 _ _)) (by omega)).mono ?_
          rintro e w' ⟨rfl, bel⟩
          rw [HF.out]
          have BX2 := Lib.hid ((BX.out.al _).go bel)
          clear bel
          go_wp2
          go_ret
          exact ⟨ret_bool hs.out.symm, BX2.out.below⟩
        · have RT2 := Lib.hid (rowsTo_succ RT.out HG.out HL.out hf)
          have HF := Lib.hid hf
          clear hf
          go_wp2_with fail
          refine (flags_any _ hpos hc0).mono ?_
          rintro e w' ⟨rfl, rfl⟩
          go_wp2_with fail
          refine (ifree_any _ HL.out (HRD.out.keep (below1 _ _)) (by omega)).mono ?_
          rintro e w' ⟨rfl, bel⟩
          rw [HF.out]
          have BX2 := Lib.hid ((BX.out.al _).go bel)
          clear bel
          go_wp2
          go_roundw
          case rel => exact ⟨k + 1, by omega, by go_num, RT2.out, BX2.out⟩
          case measure => simp [intOf]; omega
      · have hne : ((l : Int) != (n : Int)) = true := by rw [bne_iff_ne]; omega
        have hs := Lib.hid (sizesB_false (xss := xss) fun h => by have h3 := (h.row xs (List.mem_of_getElem? HG.out)).1; have h4 := HL.out; have h5 := HFL.out; omega)
        clear hln
        go_wp2_with fail
        refine (flags_any _ hpos hc0).mono ?_
        rintro e w' ⟨rfl, rfl⟩
        go_wp2
        go_ret
        exact ⟨ret_bool hs.out.symm, (BX.out.al _).below⟩
    · have hs := Lib.hid (sizesB_true (xss := xss) ⟨by rw [HX.out]; omega, by rw [HX.out]; omega, by rw [HFL.out]; omega, by rw [HFL.out]; omega, by rw [HFL.out]; exact rowsTo_all RT.out (by rw [HX.out]; omega)⟩)
      go_wp2
      go_ret
      exact ⟨ret_bool hs.out.symm, BX.out.below⟩
end Go.Proofs.Ytjkddoiacifhpaa
