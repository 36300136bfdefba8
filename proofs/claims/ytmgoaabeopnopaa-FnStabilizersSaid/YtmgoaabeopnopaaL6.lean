import Derived.Test.YtmgoaabeopnopaaL1
import Derived.Test.YtmgoaabeopnopaaL4
import Derived.Test.YtmgoaabeopnopaaL2
import Derived.Deep.RegionHeld3
/- A region that draws its order, whose operations only read, and whose callees answer with a plain value and may make memory of their own: walked once. -/
namespace Go.Proofs.Ytmgoaabeopnopaa
open Go.RowKit

/-- A world in which all that was there is as it was. -/
structure BelowOf (w : World) where
  v : World
  h : Below w.heap.size w v
instance (w : World) : Nonempty (BelowOf w) := ⟨⟨w, Below.refl _ _⟩⟩
theorem wp_region_quiet_below {P : Program} {id : Nat} {Q : Exit → Act → World → Prop} {a : Act} {w : World} {l : List Oper} (hm : P.follows .mixedOrders = true) (hB : Region.lexB .any l.toArray = true)
    (h : wpQuiet P l.toArray (fun w' => ∃ p : BelowOf w, w' = p.v) (fun a' => ∀ w', (∃ p : BelowOf w, w' = p.v) → Q .normal a' w') l a) : (Code.region id l.toArray true).wp P Q a w :=
  wp_region_quiet (C := fun w' => ∃ p : BelowOf w, w' = p.v) hm hB ⟨⟨_, below_drewN (Below.refl _ _) 1⟩, rfl⟩ (by simpa using h)
theorem Calls.below_of {P : Program} {f : FuncId} {args : Array Value} {w : World} {p : BelowOf w} {v : Value} (h : Calls P f args p.v fun e w' => e = .returned v ∧ Below p.v.heap.size p.v w') :
    Calls P f args p.v fun e w'' => e = .returned v ∧ ∃ p' : BelowOf w, w'' = p'.v :=
  h.mono fun _ w'' ⟨he, hb⟩ => ⟨he, ⟨⟨w'', p.h.trans (hb.mono p.h.size)⟩, rfl⟩⟩
theorem BelowOf.cell {w : World} {b o : Nat} {x : Value} (h : w.cell? ⟨b, o, none⟩ = some x) : ∀ p : BelowOf w, p.v.cell? ⟨b, o, none⟩ = some x :=
  fun p => (p.h.cell (p := ⟨b, o, none⟩) (World.block_lt_of_cell? w _ h)).trans h
end Go.Proofs.Ytmgoaabeopnopaa
namespace Go.Proofs.Ytmgoaabeopnopaa
open Go.RowKit

theorem RdSS.al {w : World} {A : Option Addr} {xss : List (List Int)} (h : RdSS w A xss) (o : Obj) : RdSS (w.alloc o) A xss := h.keep ((Below.refl _ _).alloc (Nat.le_refl _) o)
theorem below1 (w : World) (o : Obj) : Below w.heap.size w (w.alloc o) := (Below.refl _ _).alloc (Nat.le_refl _) o
theorem below2 (w : World) (o1 o2 : Obj) : Below w.heap.size w ((w.alloc o1).alloc o2) := (below1 w o1).alloc (by simp) o2
theorem below3 (w : World) (o1 o2 o3 : Obj) : Below w.heap.size w (((w.alloc o1).alloc o2).alloc o3) := (below2 w o1 o2).alloc (by simp; omega) o3

theorem bcell {W w1 : World} (hb : Below W.heap.size W w1) : (∀ b o, b < W.heap.size → w1.cell? ⟨b, o, none⟩ = W.cell? ⟨b, o, none⟩) ∧ (∀ b o, b < W.heap.size → w1.frozen? ⟨b, o, none⟩ = W.frozen? ⟨b, o, none⟩) :=
  ⟨fun b o h => hb.cell (p := ⟨b, o, none⟩) h, fun b o h => hb.frozen (p := ⟨b, o, none⟩) h⟩

theorem OwnSS.turns2 {w : World} {lo hi e n c : Nat} {A : Option Addr} {xss : List (List Int)} (h : OwnSS w lo hi e A n c xss) (b g : Nat) (v : Value) (hg : g < lo ∨ hi ≤ g) : OwnSS (w.setCell ⟨g, b, none⟩ v) lo hi e A n c xss :=
  ownSS_turns (lo' := g) (hi' := g + 1) h ⟨rfl, rfl, rfl, by simp, fun k _ hr => by
    have hne : g ≠ k := by omega
    simp [World.setCell, Array.getElem?_modify, hne]⟩ (by omega)

theorem szM_any {A : Option Addr} {c n : Nat} {xss : List (List Int)} (w : World) (hx : xss.length = n) (ha : RdSS w A xss) (hn : n ≤ 9223372036854775807) :
    Calls Try.prog 16 #[.agg #[.slice A n c], .int .i64 1048576] w fun e w' => ∃ r : Int, e = .returned (.int .i64 r) ∧ -1 ≤ r ∧ r ≤ 1048576 ∧ (0 ≤ r → (xss.length : Int) ≤ 1048576 ∧ ∀ xs ∈ xss, (xs.length : Int) ≤ 1048576) ∧ Below w.heap.size w w' := by
  have HX := Lib.hid hx
  have HA := Lib.hid ha
  clear hx ha
  go_enter Try.func16, Try.ntmps16
  go_wp2_with fail
  refine (sz_any _ HX.out (HA.out.al _) hn).mono ?_
  rintro e w2 ⟨r, rfl, h0, h1, h2, rfl⟩
  have H2 := Lib.hid h2
  clear h2
  by_cases hneg : r < 0
  · go_wp2
    go_ret
    exact ⟨-1, rfl, by omega, by omega, by omega, below1 _ _⟩
  · go_wp2
    go_ret
    exact ⟨r, rfl, by omega, by omega, H2.out, below1 _ _⟩

set_option maxHeartbeats 800000 in
theorem toM_any {A : Option Addr} {c n : Nat} {xss : List (List Int)} (w : World) (hx : xss.length = n) (ha : RdSS w A xss) (hn : n ≤ 1048576) (hr : ∀ xs ∈ xss, (xs.length : Int) ≤ 1048576) :
    Calls Try.prog 19 #[.agg #[.slice A n c]] w fun e w' => ∃ A' c', e = .returned (.agg #[.slice A' n c']) ∧ OwnSS w' w.heap.size w'.heap.size 36 A' n c' xss ∧ Below w.heap.size w w' := by
  have HX := Lib.hid hx
  have HA := Lib.hid ha
  have HR := Lib.hid hr
  clear hx ha hr
  go_enter Try.func19, Try.ntmps19
  go_wp2_with fail
  refine (toSS_any _ HX.out ((HA.out.al _).keep (below2 _ _ _)) hn HR.out).mono ?_
  rintro e w2 ⟨A', c', rfl, own, bel⟩
  have hsz := bel.size
  obtain ⟨hc, hf⟩ := bcell bel
  have OWN := Lib.hid own
  have BEL := Lib.hid bel
  clear own bel
  simp at hsz
  go_wp2
  refine bodyPost_ret (v := .agg #[.slice A' n c']) (by simp [results, Try.results19, go_sem, hc]) rfl ⟨A', c', rfl, ?_, ?_⟩
  · have h := OWN.out
    simp at h
    have h1 := (h.turns2 0 (w.heap.size + 1 + 1) (.slice A' n c') (by omega))
    have h2 := (h1.turns2 0 (w.heap.size + 1) (.slice A' n c') (by omega))
    exact ownSS_wide h2 (by omega) (by simp)
  · exact (((below3 w _ _ _).trans (BEL.out.mono (by simp; omega))).setCell (by simp; omega) _).setCell (by simp) _
theorem eqM_same {A B : Option Addr} {c d n m : Nat} {xss : List (List Int)} (w : World) (hx : xss.length = n) (hy : xss.length = m) (ha : RdSS w A xss) (hb : RdSS w B xss) (hn : n ≤ 9223372036854775807) :
    Calls Try.prog 22 #[.agg #[.slice A n c], .agg #[.slice B m d]] w fun e w' => e = .returned (.bool true) ∧ Below w.heap.size w w' := by
  have HX := Lib.hid hx
  have HY := Lib.hid hy
  have HA := Lib.hid ha
  have HB := Lib.hid hb
  clear hx hy ha hb
  go_enter Try.func22, Try.ntmps22
  go_wp2_with fail
  refine (eqSS_same _ HX.out HY.out (HA.out.keep (below2 _ _ _)) (HB.out.keep (below2 _ _ _)) hn).mono ?_
  rintro e w2 ⟨rfl, bel⟩
  go_wp2
  go_ret
  exact ⟨rfl, (below2 w _ _).trans (bel.mono (by simp; omega))⟩
end Go.Proofs.Ytmgoaabeopnopaa
namespace Go.Proofs.Ytmgoaabeopnopaa
open Go.RowKit

theorem cell_al {w : World} {b o : Nat} {v : Value} (h : w.cell? ⟨b, o, none⟩ = some v) (x : Obj) : (w.alloc x).cell? ⟨b, o, none⟩ = some v :=
  (((Below.refl w.heap.size w).alloc (Nat.le_refl _) x).cell (p := ⟨b, o, none⟩) (World.block_lt_of_cell? w _ h)).trans h

theorem rank_any {A : Option Addr} {c N : Nat} (w : World) :
    Calls Try.prog 138 #[.agg #[.slice A N c]] w fun e w' => e = .returned (.int .i64 N) ∧ w.alloc (.cells #[.slice A N c] 27) = w' := by
  go_enter Try.func138, Try.ntmps138
  go_wp2
  go_ret
  exact ⟨rfl, rfl⟩
theorem flags_any {b o c N n c0 : Nat} {A0 : Option Addr} (w : World) (hN : 0 < N) (h0 : w.cell? ⟨b, o, none⟩ = some (.slice A0 n c0)) :
    Calls Try.prog 106 #[.agg #[.slice (some ⟨b, o, none⟩) N c]] w fun e w' => e = .returned (.int .i64 n) ∧ w.alloc (.cells #[.slice (some ⟨b, o, none⟩) N c] 27) = w' := by
  have hlt := World.block_lt_of_cell? w _ h0
  go_enter Try.func106, Try.ntmps106
  go_wp2
  go_ret
  exact ⟨rfl, rfl⟩

/-- The struct that came in lies in the first block behind w; nothing before it has turned. -/
structure Bx (w wr : World) (v : Value) (T : TypeId) : Prop where
  bel : Below (w.heap.size + 1) (w.alloc (.cells #[v] T)) wr
section
variable {w wr w2 : World} {v : Value} {T : TypeId}
theorem Bx.below (h : Bx w wr v T) : Below w.heap.size w wr := (below1 w _).trans (h.bel.mono (by omega))
theorem Bx.size (h : Bx w wr v T) : w.heap.size < wr.heap.size := by have := h.bel.size; simp at this; omega
theorem Bx.cell (h : Bx w wr v T) : wr.cell? ⟨w.heap.size, 0, none⟩ = some v :=
  (h.bel.cell (p := ⟨w.heap.size, 0, none⟩) (by simp)).trans (by simp)
theorem Bx.start (w : World) (v : Value) (T : TypeId) : Bx w (w.alloc (.cells #[v] T)) v T := ⟨Below.refl _ _⟩
theorem Bx.go (h : Bx w wr v T) (hb : Below wr.heap.size wr w2) : Bx w w2 v T := ⟨h.bel.trans (hb.mono (by have := h.size; omega))⟩
theorem Bx.al (h : Bx w wr v T) (o : Obj) : Bx w (wr.alloc o) v T := h.go (below1 _ _)
theorem Bx.drewN (h : Bx w wr v T) (k : Nat) : Bx w (wr.drewN k) v T := h.go (below_drewN (Below.refl _ _) k)
theorem Bx.drew (h : Bx w wr v T) : Bx w wr.drew v T := h.drewN 1
end

structure SizesOk (xss : List (List Int)) : Prop where
  r1 : 1 ≤ xss.length
  r5 : xss.length ≤ 5
  f2 : 2 ≤ flN xss
  f4 : flN xss ≤ 400
  row : ∀ xs ∈ xss, xs.length = flN xss ∧ okFree xs = true
noncomputable def sizesB (xss : List (List Int)) : Bool := @decide (SizesOk xss) (Classical.propDecidable _)
theorem sizesB_false {xss : List (List Int)} (h : ¬ SizesOk xss) : sizesB xss = false := @decide_eq_false _ (Classical.propDecidable _) h
theorem sizesB_true {xss : List (List Int)} (h : SizesOk xss) : sizesB xss = true := @decide_eq_true _ (Classical.propDecidable _) h
theorem sizesB_iff {xss : List (List Int)} : sizesB xss = true ↔ SizesOk xss := ⟨fun h => @of_decide_eq_true _ (Classical.propDecidable _) h, sizesB_true⟩
theorem fl_of {xss : List (List Int)} {xs : List Int} (h : xss[0]? = some xs) : flN xss = xs.length := by
  cases xss with
  | nil => simp at h
  | cons a r => simp at h; simp [flN, h]
def rowsTo (xss : List (List Int)) (n k : Nat) : Prop := ∀ xs ∈ xss.take k, xs.length = n ∧ okFree xs = true
theorem rowsTo_succ {xss : List (List Int)} {n k : Nat} {xs : List Int} (h : rowsTo xss n k) (hx : xss[k]? = some xs) (h1 : xs.length = n) (h2 : okFree xs = true) : rowsTo xss n (k + 1) := by
  intro ys hy
  rw [List.take_add_one, hx] at hy
  rcases List.mem_append.1 hy with h3 | h3
  · exact h ys h3
  · simp at h3
    subst h3
    exact ⟨h1, h2⟩
theorem rowsTo_all {xss : List (List Int)} {n k : Nat} (h : rowsTo xss n k) (hk : xss.length ≤ k) : ∀ xs ∈ xss, xs.length = n ∧ okFree xs = true := by
  unfold rowsTo at h; rwa [List.take_of_length_le hk] at h

set_option maxHeartbeats 1600000 in
theorem sizes_any {A : Option Addr} {c N : Nat} {xss : List (List Int)} (w : World) (hx : xss.length = N) (ha : RdSS w A xss) (hN : N ≤ 1048576) (hr : ∀ xs ∈ xss, (xs.length : Int) ≤ 1048576) :
    Calls Try.prog 144 #[.agg #[.slice A N c]] w fun e w' => e = .returned (.bool (sizesB xss)) ∧ Below w.heap.size w w' := by
  have HX := Lib.hid hx
  have HA := Lib.hid ha
  have HR := Lib.hid hr
  by_cases h1 : N < 1
  · have hs := Lib.hid (sizesB_false (xss := xss) fun h => by have := h.r1; omega)
    clear hx ha hr
    go_enter Try.func144, Try.ntmps144
    go_wp2_with fail
    refine (rank_any _).mono ?_
    rintro e w' ⟨rfl, rfl⟩
    go_wp2
    go_ret
    exact ⟨ret_bool hs.out.symm, below2 w _ _⟩
  by_cases h5 : 5 < N
  · have hs := Lib.hid (sizesB_false (xss := xss) fun h => by have := h.r5; omega)
    clear hx ha hr
    go_enter Try.func144, Try.ntmps144
    go_wp2_with fail
    refine (rank_any _).mono ?_
    rintro e w' ⟨rfl, rfl⟩
    go_wp2_with fail
    refine (rank_any _).mono ?_
    rintro e w' ⟨rfl, rfl⟩
    go_wp2
    go_ret
    exact ⟨ret_bool hs.out.symm, below3 w _ _ _⟩
  obtain ⟨b, o, A0, c0, xs0, rfl, hg0, hc0, hrd0, hm0⟩ := ha.row (k := 0) (by omega)
  obtain ⟨n, hn⟩ : ∃ n, xs0.length = n := ⟨_, rfl⟩
  rw [hn, Nat.add_zero] at hc0
  rw [hn] at hm0
  have hfl := fl_of hg0
  rw [hn] at hfl
  have hn1 := hr xs0 (List.mem_of_getElem? hg0)
  rw [hn] at hn1
  have HFL := Lib.hid hfl
  have HC0 := Lib.hid hc0
  have hpos : 0 < N := by omega
  clear hrd0 hg0 hn hc0
  by_cases h2 : n < 2
  · have hs := Lib.hid (sizesB_false (xss := xss) fun h => by have := h.f2; omega)
    clear hx ha hr hfl
    go_enter Try.func144, Try.ntmps144
    go_wp2_with fail
    refine (rank_any _).mono ?_
    rintro e w' ⟨rfl, rfl⟩
    go_wp2_with fail
    refine (rank_any _).mono ?_
    rintro e w' ⟨rfl, rfl⟩
    go_wp2_with fail
    refine (flags_any _ hpos (cell_al (cell_al (cell_al HC0.out _) _) _)).mono ?_
    rintro e w' ⟨rfl, rfl⟩
    go_wp2
    go_ret
    exact ⟨ret_bool hs.out.symm, (below3 w _ _ _).alloc (by simp; omega) _⟩
  by_cases h4 : 400 < n
  · have hs := Lib.hid (sizesB_false (xss := xss) fun h => by have := h.f4; omega)
    clear hx ha hr hfl
    go_enter Try.func144, Try.ntmps144
    go_wp2_with fail
    refine (rank_any _).mono ?_
    rintro e w' ⟨rfl, rfl⟩
    go_wp2_with fail
    refine (rank_any _).mono ?_
    rintro e w' ⟨rfl, rfl⟩
    go_wp2_with fail
    refine (flags_any _ hpos (cell_al (cell_al (cell_al HC0.out _) _) _)).mono ?_
    rintro e w' ⟨rfl, rfl⟩
    go_wp2_with fail
    refine (flags_any _ hpos (cell_al (cell_al (cell_al (cell_al HC0.out _) _) _) _)).mono ?_
    rintro e w' ⟨rfl, rfl⟩
    go_wp2
    go_ret
    exact ⟨ret_bool hs.out.symm, ((below3 w _ _ _).alloc (by simp; omega) _).alloc (by simp; omega) _⟩
  clear hx ha hr hfl
  go_enter Try.func144, Try.ntmps144
  go_wp2_with fail
  refine (rank_any _).mono ?_
  rintro e w' ⟨rfl, rfl⟩
  go_wp2_with fail
  refine (rank_any _).mono ?_
  rintro e w' ⟨rfl, rfl⟩
  go_wp2_with fail
  refine (flags_any _ hpos (cell_al (cell_al (cell_al HC0.out _) _) _)).mono ?_
  rintro e w' ⟨rfl, rfl⟩
  go_wp2_with fail
  refine (flags_any _ hpos (cell_al (cell_al (cell_al (cell_al HC0.out _) _) _) _)).mono ?_
  rintro e w' ⟨rfl, rfl⟩
  go_wp2
  go_loopw [26] (fun i wr => ∃ k : Nat, k ≤ N ∧ i = .int .i64 k ∧ rowsTo xss n k ∧ Bx w wr (.slice (some ⟨b, o, none⟩) N c) 27) (fun i _ => N - (intOf i).toNat)
  case atStart => exact ⟨0, Nat.zero_le _, rfl, by simp [rowsTo], ((((Bx.start _ _ _).al _).al _).al _).al _⟩
  case round =>
    obtain ⟨k, hk, rfl, rt, bx⟩ := hrel
    have RT := Lib.hid rt
    have BX := Lib.hid bx
    clear rt bx
    by_cases hlt : k < N
    · obtain ⟨b', o', A', c', xs, he, hg, hc, hrd, hm⟩ := (HA.out.keep BX.out.below).row (k := k) (by rw [HX.out]; exact hlt)
      obtain ⟨rfl, rfl⟩ : b = b' ∧ o = o' := by simpa using he
      obtain ⟨l, hl⟩ : ∃ l, xs.length = l := ⟨_, rfl⟩
      have hlr := HR.out xs (List.mem_of_getElem? hg)
      rw [hl] at hc hm hlr
      have HL := Lib.hid hl
      have HG := Lib.hid hg
      have HRD := Lib.hid hrd
      have hbc := BX.out.cell
      have hc0 := (BX.out.below.cell (p := ⟨b, o, none⟩) (World.block_lt_of_cell? w _ HC0.out)).trans HC0.out
      clear he hl hg hrd
      by_cases hln : l = n
      · subst hln
        have hne : ((l : Int) != (l : Int)) = false := by simp
        cases hf : okFree xs
        · have hs := Lib.hid (sizesB_false (xss := xss) fun h => by have := (h.row xs (List.mem_of_getElem? HG.out)).2; rw [hf] at this; cases this)
          have HF := Lib.hid hf
          clear hf
          go_wp2_with fail
          refine (flags_any _ hpos hc0).mono ?_
          rintro e w' ⟨rfl, rfl⟩
          go_wp2_with fail
          refine (ifree_any _ HL.out (HRD.out.keep (below1 _ _)) (by omega)).mono ?_
          rintro e w' ⟨rfl, bel⟩
          rw [HF.out]
          have BX2 := Lib.hid ((BX.out.al _).go bel)
          clear bel
          go_wp2
          go_ret
          exact ⟨ret_bool hs.out.symm, BX2.out.below⟩
        · have RT2 := Lib.hid (rowsTo_succ RT.out HG.out HL.out hf)
          have HF := Lib.hid hf
          clear hf
          go_wp2_with fail
          refine (flags_any _ hpos hc0).mono ?_
          rintro e w' ⟨rfl, rfl⟩
          go_wp2_with fail
          refine (ifree_any _ HL.out (HRD.out.keep (below1 _ _)) (by omega)).mono ?_
          rintro e w' ⟨rfl, bel⟩
          rw [HF.out]
          have BX2 := Lib.hid ((BX.out.al _).go bel)
          clear bel
          go_wp2
          go_roundw
          case rel => exact ⟨k + 1, by omega, by go_num, RT2.out, BX2.out⟩
          case measure => simp [intOf]; omega
      · have hne : ((l : Int) != (n : Int)) = true := by rw [bne_iff_ne]; omega
        have hs := Lib.hid (sizesB_false (xss := xss) fun h => by have h3 := (h.row xs (List.mem_of_getElem? HG.out)).1; have h4 := HL.out; have h5 := HFL.out; omega)
        clear hln
        go_wp2_with fail
        refine (flags_any _ hpos hc0).mono ?_
        rintro e w' ⟨rfl, rfl⟩
        go_wp2
        go_ret
        exact ⟨ret_bool hs.out.symm, (BX.out.al _).below⟩
    · have hs := Lib.hid (sizesB_true (xss := xss) ⟨by rw [HX.out]; omega, by rw [HX.out]; omega, by rw [HFL.out]; omega, by rw [HFL.out]; omega, by rw [HFL.out]; exact rowsTo_all RT.out (by rw [HX.out]; omega)⟩)
      go_wp2
      go_ret
      exact ⟨ret_bool hs.out.symm, BX.out.below⟩
end Go.Proofs.Ytmgoaabeopnopaa
namespace Go.Proofs.Ytmgoaabeopnopaa
open Go.RowKit

noncomputable def sqB (n : Nat) (p q : List Int) : Bool := @decide (SqOk n p q) (Classical.propDecidable _)
theorem sqB_false {n : Nat} {p q : List Int} (h : ¬ SqOk n p q) : sqB n p q = false := @decide_eq_false _ (Classical.propDecidable _) h
theorem sqB_true {n : Nat} {p q : List Int} (h : SqOk n p q) : sqB n p q = true := @decide_eq_true _ (Classical.propDecidable _) h
theorem sqB_iff {n : Nat} {p q : List Int} : sqB n p q = true ↔ SqOk n p q := ⟨fun h => @of_decide_eq_true _ (Classical.propDecidable _) h, sqB_true⟩

set_option maxHeartbeats 1600000 in
theorem sq_any {A A2 : Option Addr} {c c2 n : Nat} {p q : List Int} (w : World) (hp : p.length = n) (hq : q.length = n) (ha : Rd w A (ints p)) (hb : Rd w A2 (ints q)) (okp : okP p = true) (okq : okP q = true) (hn : n ≤ 1048576) :
    Calls Try.prog 172 #[.slice A n c, .slice A2 n c2] w fun e w' => e = .returned (.bool (sqB n p q)) ∧ ∃ j, w' = w.drewN j := by
  have HP := Lib.hid hp
  have HQ := Lib.hid hq
  have OP := Lib.hid okp
  have OQ := Lib.hid okq
  clear hp hq okp okq
  go_enter Try.func172, Try.ntmps172
  go_wp2
  go_loopw [8] (fun i wr => ∃ k : Nat, k ≤ n ∧ i = .int .i64 k ∧ (∀ f : Nat, f < k → fz p f ≠ fz q f ∧ fz p (fz q f) = fz q (fz p f)) ∧ ∃ j, wr = w.drewN j) (fun i _ => n - (intOf i).toNat)
  case atStart => exact ⟨0, Nat.zero_le _, rfl, fun f h => absurd h (by omega), 0, rfl⟩
  case round =>
    obtain ⟨k, hk, rfl, hall, j, rfl⟩ := hrel
    have HALL := Lib.hid hall
    clear hall
    by_cases hlt : k < n
    · obtain ⟨b, o, x, rfl, hgx, hcx⟩ := ha.int (k := k) (by rw [HP.out]; exact hlt)
      obtain ⟨b2, o2, y, rfl, hgy, hcy⟩ := hb.int (k := k) (by rw [HQ.out]; exact hlt)
      obtain ⟨x, rfl, hxn⟩ := okP_at OP.out HP.out hgx
      obtain ⟨y, rfl, hyn⟩ := okP_at OQ.out HQ.out hgy
      obtain ⟨b', o', u, he, hgu, hcu⟩ := ha.int (k := y) (by rw [HP.out]; exact hyn)
      obtain ⟨rfl, rfl⟩ : b = b' ∧ o = o' := by simpa using he
      obtain ⟨b', o', v, he2, hgv, hcv⟩ := hb.int (k := x) (by rw [HQ.out]; exact hxn)
      obtain ⟨rfl, rfl⟩ : b2 = b' ∧ o2 = o' := by simpa using he2
      have FX := Lib.hid (fz_at hgx)
      have FY := Lib.hid (fz_at hgy)
      have FU := Lib.hid (fz_at hgu)
      have FV := Lib.hid (fz_at hgv)
      clear hgx hgy hgu hgv ha hb he he2
      by_cases h1 : x = y
      · subst h1
        have hd : ((x : Int) == (x : Int)) = true := by simp
        have hs := Lib.hid (sqB_false (n := n) (p := p) (q := q) fun h => (h k hlt).1 (by rw [FX.out, FY.out]))
        go_wp2
        go_quiet (fail)
        go_wp2
        go_ret
        exact ⟨ret_bool hs.out.symm, j + nq, World.drewN_drewN _ _ _⟩
      · have hd : ((x : Int) == (y : Int)) = false := by rw [beq_eq_false_iff_ne]; omega
        by_cases h2 : u = v
        · subst h2
          have hd2 : (u != u) = false := by simp
          have HS := Lib.hid (show ∀ f : Nat, f < k + 1 → fz p f ≠ fz q f ∧ fz p (fz q f) = fz q (fz p f) from fun f hf => by
            rcases Nat.lt_succ_iff_lt_or_eq.1 hf with h | rfl
            · exact HALL.out f h
            · exact ⟨by rw [FX.out, FY.out]; omega, by rw [FX.out, FY.out, FU.out, FV.out]⟩)
          go_wp2
          go_quiet (fail)
          go_wp2
          go_roundw
          case rel => exact ⟨k + 1, by omega, by go_num, HS.out, j + nq, by simp⟩
          case measure => simp [intOf]; omega
        · have hd2 : (u != v) = true := by rw [bne_iff_ne]; exact h2
          have hs := Lib.hid (sqB_false (n := n) (p := p) (q := q) fun h => h2 (by have := (h k hlt).2; rwa [FX.out, FY.out, FU.out, FV.out] at this))
          clear h2
          go_wp2
          go_quiet (fail)
          go_wp2
          go_ret
          exact ⟨ret_bool hs.out.symm, j + nq, World.drewN_drewN _ _ _⟩
    · obtain rfl : k = n := by omega
      have hs := Lib.hid (sqB_true HALL.out)
      go_wp2
      go_ret
      exact ⟨ret_bool hs.out.symm, j, rfl⟩

theorem sq_val {A A2 : Option Addr} {c c2 n : Nat} {p q : List Int} {r : Bool} (w : World) (hp : p.length = n) (hq : q.length = n) (ha : Rd w A (ints p)) (hb : Rd w A2 (ints q)) (okp : okP p = true) (okq : okP q = true) (hn : n ≤ 1048576) (hs : sqB n p q = r) :
    Calls Try.prog 172 #[.slice A n c, .slice A2 n c2] w fun e w' => e = .returned (.bool r) ∧ ∃ j, w' = w.drewN j :=
  (sq_any w hp hq ha hb okp okq hn).mono fun _ _ ⟨he, hj⟩ => ⟨by rw [he, hs], hj⟩

/-- All moves whose ranks differ by at least 2 commute. -/
def SqAll (xss : List (List Int)) (n : Nat) : Prop := ∀ (i k : Nat) (p q : List Int), i + 2 ≤ k → xss[i]? = some p → xss[k]? = some q → SqOk n p q
noncomputable def sqAllB (xss : List (List Int)) (n : Nat) : Bool := @decide (SqAll xss n) (Classical.propDecidable _)
theorem sqAllB_false {xss : List (List Int)} {n : Nat} (h : ¬ SqAll xss n) : sqAllB xss n = false := @decide_eq_false _ (Classical.propDecidable _) h
theorem sqAllB_true {xss : List (List Int)} {n : Nat} (h : SqAll xss n) : sqAllB xss n = true := @decide_eq_true _ (Classical.propDecidable _) h
theorem sqAllB_iff {xss : List (List Int)} {n : Nat} : sqAllB xss n = true ↔ SqAll xss n := ⟨fun h => @of_decide_eq_true _ (Classical.propDecidable _) h, sqAllB_true⟩
/-- The pairs gone through by hasSquares: all with the greater rank below k, and those of k with the lesser one below i. -/
def SqK (xss : List (List Int)) (n k i : Nat) : Prop := ∀ (a b : Nat) (p q : List Int), a + 2 ≤ b → (b < k ∨ (b = k ∧ a < i)) → xss[a]? = some p → xss[b]? = some q → SqOk n p q
theorem sqK_next {xss : List (List Int)} {n k i : Nat} (h : SqK xss n k i) (hi : k < i + 2) : SqK xss n (k + 1) 0 := by
  intro a b p q hab hc hp hq
  refine h a b p q hab ?_ hp hq
  omega
theorem sqK_step {xss : List (List Int)} {n k i : Nat} {p q : List Int} (h : SqK xss n k i) (hp : xss[i]? = some p) (hq : xss[k]? = some q) (hs : SqOk n p q) : SqK xss n k (i + 1) := by
  intro a b p' q' hab hc hp' hq'
  by_cases h1 : b = k ∧ a = i
  · obtain ⟨rfl, rfl⟩ := h1
    rw [hp] at hp'; rw [hq] at hq'
    injection hp' with e1; injection hq' with e2
    subst e1; subst e2
    exact hs
  · exact h a b p' q' hab (by omega) hp' hq'
theorem sqK_all {xss : List (List Int)} {n k : Nat} (h : SqK xss n k 0) (hk : xss.length ≤ k) : SqAll xss n := by
  intro i b p q hab hp hq
  exact h i b p q hab (.inl (by have := (List.getElem?_eq_some_iff.1 hq).1; omega)) hp hq

set_option maxHeartbeats 1600000 in
theorem squares_any {A : Option Addr} {c N n : Nat} {xss : List (List Int)} (w : World) (hx : xss.length = N) (ha : RdSS w A xss) (hN : N ≤ 1048576) (hsys : okSys n xss = true) :
    Calls Try.prog 145 #[.agg #[.slice A N c]] w fun e w' => e = .returned (.bool (sqAllB xss n)) ∧ Below w.heap.size w w' := by
  have HX := Lib.hid hx
  have HA := Lib.hid ha
  have HS := Lib.hid hsys
  have hn4 := (sys_parts hsys).2.1
  clear hx ha hsys
  go_enter Try.func145, Try.ntmps145
  go_wp2
  go_loopw [8] (fun v wr => ∃ k : Nat, k ≤ N ∧ v = .int .i64 k ∧ SqK xss n k 0 ∧ Bx w wr (.slice A N c) 27) (fun v _ => N - (intOf v).toNat)
  case atStart => exact ⟨0, Nat.zero_le _, rfl, fun a b p q h1 h2 => by omega, Bx.start _ _ _⟩
  case round =>
    obtain ⟨k, hk, rfl, sk, bx⟩ := hrel
    have SK := Lib.hid sk
    have BX := Lib.hid bx
    clear sk bx
    by_cases hkn : k < N
    · go_wp2
      go_loopw [4] (fun v wr => ∃ i : Nat, i ≤ N ∧ v = .int .i64 i ∧ SqK xss n k i ∧ Bx w wr (.slice A N c) 27) (fun v _ => N - (intOf v).toNat)
      case atStart => exact ⟨0, Nat.zero_le _, rfl, SK.out, BX.out⟩
      case round =>
        obtain ⟨i, hi, rfl, sk2, bx2⟩ := hrel
        have SK2 := Lib.hid sk2
        have BX2 := Lib.hid bx2
        clear sk2 bx2
        by_cases hik : i + 2 ≤ k
        · obtain ⟨b, o, A1, c1, p, rfl, hg1, hc1, hrd1, hm1⟩ := (HA.out.keep BX2.out.below).row (k := i) (by rw [HX.out]; omega)
          obtain ⟨b', o', A2, c2, q, he, hg2, hc2, hrd2, hm2⟩ := (HA.out.keep BX2.out.below).row (k := k) (by rw [HX.out]; omega)
          obtain ⟨rfl, rfl⟩ : b = b' ∧ o = o' := by simpa using he
          have l1 := sys_len HS.out hg1
          have l2 := sys_len HS.out hg2
          have k1 : p.length = n := by omega
          have k2 : q.length = n := by omega
          rw [k1] at hc1
          rw [k2] at hc2
          have OK1 := Lib.hid ((sys_parts HS.out).2.2.2 p (List.mem_of_getElem? hg1)).2
          have OK2 := Lib.hid ((sys_parts HS.out).2.2.2 q (List.mem_of_getElem? hg2)).2
          have K1 := Lib.hid k1
          have K2 := Lib.hid k2
          have R1 := Lib.hid hrd1
          have R2 := Lib.hid hrd2
          have G1 := Lib.hid hg1
          have G2 := Lib.hid hg2
          have hbx := BX2.out.cell
          have hn6 : n ≤ 1048576 := by omega
          have hiI : (i : Int) < (N : Int) := by omega
          have hkI : (k : Int) < (N : Int) := by omega
          clear he k1 k2 l1 l2 hrd1 hrd2 hg1 hg2
          cases hs : sqB n p q
          · have HSq := Lib.hid hs
            have hf := Lib.hid (sqAllB_false (xss := xss) (n := n) fun h => by have := sqB_true (h i k p q hik G1.out G2.out); rw [hs] at this; cases this)
            clear hs
            go_wp2
            go_quiet ((go_at_call 172; refine Calls.quiet_of (sq_val _ K1.out K2.out R1.out R2.out OK1.out OK2.out hn6 HSq.out)))
            go_wp2
            go_ret
            exact ⟨ret_bool hf.out.symm, (BX2.out.drewN _).below⟩
          · have HSq := Lib.hid hs
            have hf := Lib.hid (sqK_step SK2.out G1.out G2.out (sqB_iff.1 hs))
            clear hs
            go_wp2
            go_quiet ((go_at_call 172; refine Calls.quiet_of (sq_val _ K1.out K2.out R1.out R2.out OK1.out OK2.out hn6 HSq.out)))
            go_wp2
            go_roundw
            case rel => exact ⟨i + 1, by omega, by go_num, hf.out, BX2.out.drewN _⟩
            case measure => simp [intOf]; omega
        · have hf := Lib.hid (sqK_next SK2.out (by omega))
          go_wp2
          go_roundw
          case rel => exact ⟨k + 1, by omega, by go_num, hf.out, BX2.out⟩
          case measure => simp [intOf]; omega
    · have hf := Lib.hid (sqAllB_true (sqK_all SK.out (by rw [HX.out]; omega)))
      go_wp2
      go_ret
      exact ⟨ret_bool hf.out.symm, BX.out.below⟩
end Go.Proofs.Ytmgoaabeopnopaa
namespace Go.Proofs.Ytmgoaabeopnopaa
open Go.RowKit

theorem cell_be {w w' : World} {b o : Nat} {v : Value} (h : w.cell? ⟨b, o, none⟩ = some v) (hb : Below w.heap.size w w') : w'.cell? ⟨b, o, none⟩ = some v :=
  (hb.cell (p := ⟨b, o, none⟩) (World.block_lt_of_cell? w _ h)).trans h

theorem cell_ald {w : World} {b o : Nat} {v : Value} (h : w.cell? ⟨b, o, none⟩ = some v) (x : Obj) : (w.alloc x).drew.cell? ⟨b, o, none⟩ = some v := cell_al h x

theorem own_drew {w : World} {base e size n : Nat} {v : Value} {vs : List Value} (h : w.ownsRow base e size v n vs) : w.drew.ownsRow base e size v n vs := h
theorem turns_cell {w w' : World} {lo hi b o : Nat} {v : Value} (tu : Turns lo hi w w') (h : w.cell? ⟨b, o, none⟩ = some v) (hb : b < lo ∨ hi ≤ b) : w'.cell? ⟨b, o, none⟩ = some v :=
  (World.cell?_of_block (w := w) (tu.block b (World.block_lt_of_cell? w _ h) hb)).trans h

set_option maxHeartbeats 1600000 in
theorem flagsFrom_any {A : Option Addr} {c N n p : Nat} {xss : List (List Int)} (w : World) (hx : xss.length = N) (ha : RdSS w A xss) (hN : N ≤ 1048576) (hsys : okSys n xss = true) (hpos : 0 < N) (hp : p < n) :
    Calls Try.prog 146 #[.agg #[.slice A N c], .int .i64 p] w (Ret1 w (orbL xss n p)) := by
  have HX := Lib.hid hx
  have HA := Lib.hid ha
  have HS := Lib.hid hsys
  have hn4 := (sys_parts hsys).2.1
  obtain ⟨b, o, A0, c0, xs0, rfl, hg0, hc0, hrd0, hm0⟩ := ha.row (k := 0) (by omega)
  have hl0 := sys_len hsys hg0
  have hl0 : xs0.length = n := by omega
  rw [hl0, Nat.add_zero] at hc0
  have hmk := run_make_row' (P := Try.prog) 150 4 (.bool false) 1 Try.underlying150 Try.infoB rfl .i64 .i64 n (by omega) (by omega)
  have hlt := World.block_lt_of_cell? w _ hc0
  have hsn := seen_start ((w.alloc (.cells #[.slice (some ⟨b, o, none⟩) N c] 27)).alloc (.cells #[.slice (some ⟨b, o, none⟩) N c] 27)) n (by omega)
  have hs2 : ((w.alloc (.cells #[.slice (some ⟨b, o, none⟩) N c] 27)).alloc (.cells #[.slice (some ⟨b, o, none⟩) N c] 27)).heap.size = w.heap.size + 1 + 1 := by simp
  rw [hs2] at hsn
  have HSN := Lib.hid (own_drew hsn)
  clear hx ha hsys hg0 hrd0 hl0 hm0 hsn hs2
  go_enter Try.func146, Try.ntmps146
  go_wp2_with fail
  go_region_held3 (fun w' => w'.cell? ⟨w.heap.size, 0, none⟩ = some (.slice (some ⟨b, o, none⟩) N c) ∧ w'.cell? ⟨b, o, none⟩ = some (.slice A0 n c0)) (first | (go_keep; done) | (exact ⟨cell_ald (cell_al (Bx.start w _ _).cell _) _, cell_ald (cell_al (cell_al hc0 _) _) _⟩) | (exact ⟨q1, q2⟩))
    (first
      | (go_at_call 106; refine (flags_any (n := n) (c0 := c0) (A0 := A0) _ hpos ?_).mono ?_; (simp [*]); rintro e w' ⟨rfl, rfl⟩)
      | (go_at_call 173
         refine (iorb_any w _ HX.out HA.out ?c1 ?c2 hN HS.out hp (passed_nil n) (closed_nil xss) ?c3 HSN.out).mono ?_
         case c1 => exact below_drewN (below3 _ _ _ _) 1
         case c2 => omega
         case c3 => simp
         rintro e w' ⟨A', c', rfl, own, seen, tu⟩
         have q1 := turns_cell (b := w.heap.size) (o := 0) tu (cell_ald (cell_al (Bx.start w _ _).cell _) _) (.inl (by omega))
         have q2 := turns_cell tu (cell_ald (cell_al (cell_al hc0 _) _) _) (.inl (by omega))))
  go_wp2
  go_ret
  exact ⟨A', c', rfl, own_base own (below_drewN (below3 w _ _ _) 1).size, Turns.below (below_drewN (below3 w _ _ _) 1) tu (below_drewN (below3 w _ _ _) 1).size (by omega)⟩
end Go.Proofs.Ytmgoaabeopnopaa
namespace Go.Proofs.Ytmgoaabeopnopaa
open Go.RowKit

theorem beq_nat (m n : Nat) : ((m : Int) == (n : Int)) = decide (m = n) := by
  by_cases h : m = n
  · subst h; simp
  · rw [decide_eq_false h, beq_eq_false_iff_ne]; omega
theorem okFree_iff {xs : List Int} : okFree xs = true ↔ okP xs = true ∧ freeP xs = true := by unfold okFree; simp
theorem sizes_sys {xss : List (List Int)} (h : SizesOk xss) : okSys (flN xss) xss = true :=
  decide_eq_true ⟨by omega, by have := h.f4; omega, by have := h.r5; omega, fun xs hx => ⟨by rw [(h.row xs hx).1], (okFree_iff.1 (h.row xs hx).2).1⟩⟩
theorem man_iff {xss : List (List Int)} : IsMan xss ↔ SizesOk xss ∧ SqAll xss (flN xss) ∧ (orbL xss (flN xss) 0).length = flN xss :=
  ⟨fun h => ⟨⟨h.r1, h.r5, h.f2, h.f4, fun xs hx => ⟨(h.row xs hx).1, okFree_iff.2 (h.row xs hx).2⟩⟩, h.sq, h.orb⟩,
   fun ⟨h1, h2, h3⟩ => ⟨h1.r1, h1.r5, h1.f2, h1.f4, fun xs hx => ⟨(h1.row xs hx).1, okFree_iff.1 (h1.row xs hx).2⟩, h2, h3⟩⟩
theorem s2_go {w W W' : World} {p q : Nat} {v : Value} (h : Below w.heap.size w W ∧ W.cell? ⟨p, q, none⟩ = some v) (hb : Below W.heap.size W W') :
    Below w.heap.size w W' ∧ W'.cell? ⟨p, q, none⟩ = some v :=
  ⟨h.1.trans (hb.mono h.1.size), cell_be h.2 hb⟩
theorem rd_s2 {w W : World} {A : Option Addr} {xss : List (List Int)} {p q : Nat} {v : Value} (ha : RdSS w A xss) (h : Below w.heap.size w W ∧ W.cell? ⟨p, q, none⟩ = some v) : RdSS W A xss := ha.keep h.1
theorem cell_s2 {w W : World} {p q b o : Nat} {v u : Value} (hc : w.cell? ⟨b, o, none⟩ = some u) (h : Below w.heap.size w W ∧ W.cell? ⟨p, q, none⟩ = some v) : W.cell? ⟨b, o, none⟩ = some u := cell_be hc h.1
theorem rd_s3 {w W : World} {A : Option Addr} {xss : List (List Int)} {b o p q : Nat} {u v : Value} (ha : RdSS w A xss) (h : Below w.heap.size w W ∧ W.cell? ⟨p, q, none⟩ = some v ∧ W.cell? ⟨b, o, none⟩ = some u) : RdSS W A xss := ha.keep h.1
theorem s3_go {w W W' : World} {b o p q : Nat} {u v : Value} (h : Below w.heap.size w W ∧ W.cell? ⟨p, q, none⟩ = some v ∧ W.cell? ⟨b, o, none⟩ = some u) (hb : Below W.heap.size W W') :
    Below w.heap.size w W' ∧ W'.cell? ⟨p, q, none⟩ = some v ∧ W'.cell? ⟨b, o, none⟩ = some u :=
  ⟨h.1.trans (hb.mono h.1.size), cell_be h.2.1 hb, cell_be h.2.2 hb⟩

theorem flags_bel {b o c N n c0 : Nat} {A0 : Option Addr} (w : World) (hN : 0 < N) (h0 : w.cell? ⟨b, o, none⟩ = some (.slice A0 n c0)) :
    Calls Try.prog 106 #[.agg #[.slice (some ⟨b, o, none⟩) N c]] w fun e w' => e = .returned (.int .i64 n) ∧ Below w.heap.size w w' :=
  (flags_any w hN h0).mono fun _ _ ⟨he, hb⟩ => ⟨he, hb ▸ below1 _ _⟩
theorem sizes_val {A : Option Addr} {c N : Nat} {xss : List (List Int)} {r : Bool} (w : World) (hx : xss.length = N) (ha : RdSS w A xss) (hN : N ≤ 1048576) (hr : ∀ xs ∈ xss, (xs.length : Int) ≤ 1048576) (hs : sizesB xss = r) :
    Calls Try.prog 144 #[.agg #[.slice A N c]] w fun e w' => e = .returned (.bool r) ∧ Below w.heap.size w w' :=
  (sizes_any w hx ha hN hr).mono fun _ _ ⟨he, hb⟩ => ⟨by rw [he, hs], hb⟩
theorem squares_val {A : Option Addr} {c N n : Nat} {xss : List (List Int)} {r : Bool} (w : World) (hx : xss.length = N) (ha : RdSS w A xss) (hN : N ≤ 1048576) (hsys : okSys n xss = true) (hs : sqAllB xss n = r) :
    Calls Try.prog 145 #[.agg #[.slice A N c]] w fun e w' => e = .returned (.bool r) ∧ Below w.heap.size w w' :=
  (squares_any w hx ha hN hsys).mono fun _ _ ⟨he, hb⟩ => ⟨by rw [he, hs], hb⟩

set_option maxHeartbeats 3200000 in
theorem iMan_any {A : Option Addr} {c N : Nat} {xss : List (List Int)} (w : World) (hx : xss.length = N) (ha : RdSS w A xss) (hN : N ≤ 1048576) (hr : ∀ xs ∈ xss, (xs.length : Int) ≤ 1048576) :
    Calls Try.prog 88 #[.agg #[.slice A N c]] w fun e w' => e = .returned (.bool (okMan xss)) ∧ Below w.heap.size w w' := by
  have HX := Lib.hid hx
  have HA1 := Lib.hid (ha.al (.cells #[.slice A N c] 27))
  have HR := Lib.hid hr
  have hbx := BelowOf.cell (Bx.start w (.slice A N c) 27).cell
  cases hs : sizesB xss
  · have ho := Lib.hid (okMan_false fun h => by have := sizesB_true (man_iff.1 h).1; rw [hs] at this; cases this)
    have HS := Lib.hid hs
    clear hx ha hr hs
    go_enter Try.func88, Try.ntmps88
    go_wp2_with fail
    refine wp_region_quiet_below (by kernel_rfl) (by kernel_rfl) ?_
    repeat (go_big_quiet_step ((go_at_call 144; exact Calls.below_of (sizes_val _ HX.out (HA1.out.keep (BelowOf.h _)) hN HR.out HS.out))))
    refine wpQuiet_nil ?_
    intro _ hw'
    obtain ⟨⟨wq, hbq⟩, hw''⟩ := hw'
    subst hw''
    go_wp2
    go_ret
    exact ⟨ret_bool ho.out.symm, (below1 w _).trans (hbq.mono (by simp))⟩
  · have hsz := sizesB_iff.1 hs
    have hsys := sizes_sys hsz
    cases hq : sqAllB xss (flN xss)
    · have ho := Lib.hid (okMan_false fun h => by have := sqAllB_true (man_iff.1 h).2.1; rw [hq] at this; cases this)
      have HS := Lib.hid hs
      have HQ := Lib.hid hq
      have HSY := Lib.hid hsys
      clear hx ha hr hs hq hsys hsz
      go_enter Try.func88, Try.ntmps88
      go_wp2_with fail
      refine wp_region_quiet_below (by kernel_rfl) (by kernel_rfl) ?_
      repeat (go_big_quiet_step ((first | (go_at_call 144; exact Calls.below_of (sizes_val _ HX.out (HA1.out.keep (BelowOf.h _)) hN HR.out HS.out)) | (go_at_call 145; exact Calls.below_of (squares_val _ HX.out (HA1.out.keep (BelowOf.h _)) hN HSY.out HQ.out)))))
      refine wpQuiet_nil ?_
      intro _ hw'
      obtain ⟨⟨wq, hbq⟩, hw''⟩ := hw'
      subst hw''
      go_wp2
      go_ret
      exact ⟨ret_bool ho.out.symm, (below1 w _).trans (hbq.mono (by simp))⟩
    · have HS := Lib.hid hs
      have HQ := Lib.hid hq
      have HSY := Lib.hid hsys
      have hpos : 0 < N := by have := hsz.r1; omega
      obtain ⟨b, o, A0, c0, xs0, rfl, hg0, hc0, hrd0, hm0⟩ := ha.row (k := 0) (by omega)
      have hfl := fl_of hg0
      obtain ⟨n, hn⟩ : ∃ n, flN xss = n := ⟨_, rfl⟩
      rw [hn] at hfl
      rw [← hfl, Nat.add_zero] at hc0
      have hz : 0 < n := by have := hsz.f2; omega
      have HC0 := Lib.hid hc0
      have HN := Lib.hid hn
      have HA := Lib.hid ha
      obtain ⟨m, hm⟩ : ∃ m, (orbL xss n 0).length = m := ⟨_, rfl⟩
      have ho := Lib.hid (show okMan xss = decide (m = n) from by
        by_cases h : m = n
        · rw [decide_eq_true h]; exact okMan_true (man_iff.2 ⟨hsz, sqAllB_iff.1 hq, by rw [hn, hm, h]⟩)
        · rw [decide_eq_false h]; exact okMan_false fun h2 => h (by have := (man_iff.1 h2).2.2; rw [hn, hm] at this; exact this))
      rw [hn] at HQ HSY
      have HM := Lib.hid hm
      clear hx ha hr hs hq hsys hsz hg0 hrd0 hm0 hc0 hn hm hfl hbx
      go_enter Try.func88, Try.ntmps88
      go_wp2_with fail
      go_region_held3 (fun w' => Below w.heap.size w w' ∧ w'.cell? ⟨w.heap.size, 0, none⟩ = some (.slice (some ⟨b, o, none⟩) N c)) (first | (exact ⟨below_drewN (below1 w _) 1, (Bx.start w _ _).cell⟩) | (exact q))
        (first
          | (go_at_call 144
             refine (sizes_val _ HX.out (rd_s2 HA.out (by assumption)) hN HR.out HS.out).mono ?_
             rintro e w' ⟨rfl, bel⟩
             have q := s2_go (by assumption) bel)
          | (go_at_call 145
             refine (squares_val _ HX.out (rd_s2 HA.out (by assumption)) hN HSY.out HQ.out).mono ?_
             rintro e w' ⟨rfl, bel⟩
             have q := s2_go (by assumption) bel)
          | (go_at_call 146
             refine (flagsFrom_any _ HX.out (rd_s2 HA.out (by assumption)) hN HSY.out hpos hz).mono ?_
             rintro e w' ⟨A', c', rfl, own, bel⟩
             have q := s2_go (by assumption) bel)
          | (go_at_call 106
             refine (flags_bel _ hpos (cell_s2 HC0.out (by assumption))).mono ?_
             rintro e w' ⟨rfl, bel⟩
             have q := s2_go (by assumption) bel))
      all_goals
        go_wp2
        go_ret
      all_goals
        refine ⟨ret_bool ?_, q.1⟩
        rw [ho.out, HM.out]
        exact beq_nat m n
end Go.Proofs.Ytmgoaabeopnopaa
namespace Go.Proofs.Ytmgoaabeopnopaa
open Go.RowKit

theorem perm_val {A : Option Addr} {c : Nat} {xs : List Int} {n : Nat} {r : Bool} (w : World) (hx : xs.length = n) (ha : Rd w A (ints xs)) (hn : n ≤ 1048576) (hs : okP xs = r) :
    Calls Try.prog 141 #[.slice A n c] w fun e w' => e = .returned (.bool r) ∧ Below w.heap.size w w' :=
  (perm_any w hx ha hn).mono fun _ _ ⟨he, hb⟩ => ⟨by rw [he, hs], hb⟩
theorem free_val {A : Option Addr} {c : Nat} {xs : List Int} {n : Nat} {r : Bool} (w : World) (hx : xs.length = n) (ha : Rd w A (ints xs)) (hn : n ≤ 1048576) (hp : okP xs = true) (hs : freeP xs = r) :
    Calls Try.prog 142 #[.slice A n c] w fun e w' => e = .returned (.bool r) ∧ Below w.heap.size w w' :=
  (sfree_loop w hx ha hn hp).mono fun _ _ ⟨he, hb⟩ => ⟨by rw [he, hs], hb ▸ Below.refl _ _⟩

/-- The pairs gone through by the model: all with the lesser rank below i, those of i with the greater one below k, and the flags below f of the pair of both. -/
def SqI (xss : List (List Int)) (n i k : Nat) : Prop := ∀ (a b : Nat) (p q : List Int), a + 2 ≤ b → (a < i ∨ (a = i ∧ b < k)) → xss[a]? = some p → xss[b]? = some q → SqOk n p q
theorem sqI_next {xss : List (List Int)} {n i k : Nat} (h : SqI xss n i k) (hk : xss.length ≤ k) : SqI xss n (i + 1) 0 := by
  intro a b p q hab hc hp hq
  have := (List.getElem?_eq_some_iff.1 hq).1
  exact h a b p q hab (by omega) hp hq
theorem sqI_step {xss : List (List Int)} {n i k : Nat} {p q : List Int} (h : SqI xss n i k) (hp : xss[i]? = some p) (hq : xss[k]? = some q) (hs : SqOk n p q) : SqI xss n i (k + 1) := by
  intro a b p' q' hab hc hp' hq'
  by_cases h1 : a = i ∧ b = k
  · obtain ⟨rfl, rfl⟩ := h1
    rw [hp] at hp'; rw [hq] at hq'
    injection hp' with e1; injection hq' with e2
    subst e1; subst e2
    exact hs
  · exact h a b p' q' hab (by omega) hp' hq'
theorem sqI_start {xss : List (List Int)} {n i : Nat} (h : SqI xss n i 0) : SqI xss n i (i + 2) := by
  intro a b p q hab hc hp hq
  exact h a b p q hab (by omega) hp hq
theorem sqI_all {xss : List (List Int)} {n i : Nat} (h : SqI xss n i 0) (hk : xss.length ≤ i) : SqAll xss n := by
  intro a b p q hab hp hq
  have := (List.getElem?_eq_some_iff.1 hp).1
  exact h a b p q hab (by omega) hp hq

set_option maxHeartbeats 6400000 in
set_option maxRecDepth 8000 in
theorem sIs_any {A : Option Addr} {c N : Nat} {xss : List (List Int)} (w : World) (hx : xss.length = N) (ha : RdSS w A xss) (hN : N ≤ 1048576) (hr : ∀ xs ∈ xss, (xs.length : Int) ≤ 1048576) :
    Calls Try.prog 83 #[.agg #[.slice A N c]] w fun e w' => e = .returned (.bool (okMan xss)) ∧ Below w.heap.size w w' := by
  have HX := Lib.hid hx
  have HA := Lib.hid ha
  have HR := Lib.hid hr
  by_cases h1 : N < 1
  · have hs := Lib.hid (okMan_false (xss := xss) fun h => by have := h.r1; omega)
    clear hx ha hr
    go_enter Try.func83, Try.ntmps83
    go_wp2
    go_ret
    exact ⟨ret_bool hs.out.symm, below1 w _⟩
  by_cases h5 : 5 < N
  · have hs := Lib.hid (okMan_false (xss := xss) fun h => by have := h.r5; omega)
    clear hx ha hr
    go_enter Try.func83, Try.ntmps83
    go_wp2
    go_ret
    exact ⟨ret_bool hs.out.symm, below1 w _⟩
  obtain ⟨b, o, A0, c0, xs0, rfl, hg0, hc0, hrd0, hm0⟩ := ha.row (k := 0) (by omega)
  obtain ⟨n, hn⟩ : ∃ n, xs0.length = n := ⟨_, rfl⟩
  rw [hn, Nat.add_zero] at hc0
  rw [hn] at hm0
  have hfl := fl_of hg0
  rw [hn] at hfl
  have hn1 := hr xs0 (List.mem_of_getElem? hg0)
  rw [hn] at hn1
  have HFL := Lib.hid hfl
  have HC0 := Lib.hid hc0
  have hpos : 0 < N := by omega
  have hposI : (0 : Int) < (N : Int) := by omega
  have hlt0 := World.block_lt_of_cell? w _ hc0
  clear hrd0 hg0 hn
  by_cases h2 : n < 2
  · have hs := Lib.hid (okMan_false (xss := xss) fun h => by have := h.f2; omega)
    clear hx ha hr hfl
    go_enter Try.func83, Try.ntmps83
    go_wp2
    go_ret
    exact ⟨ret_bool hs.out.symm, below1 w _⟩
  by_cases h4 : 400 < n
  · have hs := Lib.hid (okMan_false (xss := xss) fun h => by have := h.f4; omega)
    clear hx ha hr hfl
    go_enter Try.func83, Try.ntmps83
    go_wp2
    go_ret
    exact ⟨ret_bool hs.out.symm, below1 w _⟩
  clear hx ha hr hfl
  go_enter Try.func83, Try.ntmps83
  go_wp2
  clear hc0 hlt0
  go_loopw [4] (fun i wr => ∃ k : Nat, k ≤ N ∧ i = .int .i64 k ∧ rowsTo xss n k ∧ Bx w wr (.slice (some ⟨b, o, none⟩) N c) 27) (fun i _ => N - (intOf i).toNat)
  case atStart => exact ⟨0, Nat.zero_le _, rfl, by simp [rowsTo], Bx.start _ _ _⟩
  case round =>
    obtain ⟨k, hk, rfl, rt, bx⟩ := hrel
    have RT := Lib.hid rt
    have BX := Lib.hid bx
    clear rt bx
    by_cases hlt : k < N
    · obtain ⟨b', o', A', c', xs, he, hg, hc, hrd, hm⟩ := (HA.out.keep BX.out.below).row (k := k) (by rw [HX.out]; exact hlt)
      obtain ⟨rfl, rfl⟩ : b = b' ∧ o = o' := by simpa using he
      obtain ⟨l, hl⟩ : ∃ l, xs.length = l := ⟨_, rfl⟩
      have hlr := HR.out xs (List.mem_of_getElem? hg)
      rw [hl] at hc hm hlr
      have HL := Lib.hid hl
      have HG := Lib.hid hg
      have HRD := Lib.hid hrd
      have hbc := BelowOf.cell BX.out.cell
      have hc0 := BelowOf.cell (cell_be HC0.out BX.out.below)
      have hck := BelowOf.cell hc
      have hkI : (k : Int) < (N : Int) := by omega
      have hkI0 : (0 : Int) ≤ (k : Int) := by omega
      have hlb : l ≤ 1048576 := by omega
      clear he hl hg hrd hc
      by_cases hln : l = n
      · subst hln
        have hne : ((l : Int) != (l : Int)) = false := by simp
        cases hp : okP xs
        · have hs := Lib.hid (okMan_false (xss := xss) fun h => by have := (h.row xs (List.mem_of_getElem? HG.out)).2.1; rw [hp] at this; cases this)
          have HP := Lib.hid hp
          clear hp
          go_wp2_with fail
          refine wp_region_quiet_below (by kernel_rfl) (by kernel_rfl) ?_
          repeat (go_big_quiet_step ((go_at_call 141; exact Calls.below_of (perm_val _ HL.out (HRD.out.keep (BelowOf.h _)) hlb HP.out))))
          refine wpQuiet_nil ?_
          intro _ hw'
          obtain ⟨⟨wq, hbq⟩, hw''⟩ := hw'
          subst hw''
          go_wp2
          go_ret
          exact ⟨ret_bool hs.out.symm, (BX.out.go hbq).below⟩
        · have HP := Lib.hid hp
          cases hf : freeP xs
          · have hs := Lib.hid (okMan_false (xss := xss) fun h => by have := (h.row xs (List.mem_of_getElem? HG.out)).2.2; rw [hf] at this; cases this)
            have HF := Lib.hid hf
            clear hp hf
            go_wp2_with fail
            refine wp_region_quiet_below (by kernel_rfl) (by kernel_rfl) ?_
            repeat (go_big_quiet_step ((first | (go_at_call 141; exact Calls.below_of (perm_val _ HL.out (HRD.out.keep (BelowOf.h _)) hlb HP.out)) | (go_at_call 142; exact Calls.below_of (free_val _ HL.out (HRD.out.keep (BelowOf.h _)) hlb HP.out HF.out)))))
            refine wpQuiet_nil ?_
            intro _ hw'
            obtain ⟨⟨wq, hbq⟩, hw''⟩ := hw'
            subst hw''
            go_wp2
            go_ret
            exact ⟨ret_bool hs.out.symm, (BX.out.go hbq).below⟩
          · have RT2 := Lib.hid (rowsTo_succ RT.out HG.out HL.out (okFree_iff.2 ⟨hp, hf⟩))
            have HF := Lib.hid hf
            clear hp hf
            go_wp2_with fail
            refine wp_region_quiet_below (by kernel_rfl) (by kernel_rfl) ?_
            repeat (go_big_quiet_step ((first | (go_at_call 141; exact Calls.below_of (perm_val _ HL.out (HRD.out.keep (BelowOf.h _)) hlb HP.out)) | (go_at_call 142; exact Calls.below_of (free_val _ HL.out (HRD.out.keep (BelowOf.h _)) hlb HP.out HF.out)))))
            refine wpQuiet_nil ?_
            intro _ hw'
            obtain ⟨⟨wq, hbq⟩, hw''⟩ := hw'
            subst hw''
            have BX2 := Lib.hid (BX.out.go hbq)
            clear hbq
            go_wp2
            go_roundw
            case rel => exact ⟨k + 1, by omega, by go_num, RT2.out, BX2.out⟩
            case measure => simp [intOf]; omega
      · have hne : ((l : Int) != (n : Int)) = true := by rw [bne_iff_ne]; omega
        have hs := Lib.hid (okMan_false (xss := xss) fun h => by have h3 := (h.row xs (List.mem_of_getElem? HG.out)).1; have h4 := HL.out; have h5 := HFL.out; omega)
        clear hln
        go_wp2_with fail
        refine wp_region_quiet_below (by kernel_rfl) (by kernel_rfl) ?_
        repeat (go_big_quiet_step ((fail)))
        refine wpQuiet_nil ?_
        intro _ hw'
        obtain ⟨⟨wq, hbq⟩, hw''⟩ := hw'
        subst hw''
        go_wp2
        go_ret
        exact ⟨ret_bool hs.out.symm, (BX.out.go hbq).below⟩
    · have hsz : SizesOk xss := ⟨by rw [HX.out]; omega, by rw [HX.out]; omega, by rw [HFL.out]; omega, by rw [HFL.out]; omega, by rw [HFL.out]; exact rowsTo_all RT.out (by rw [HX.out]; omega)⟩
      have hsys := sizes_sys hsz
      rw [HFL.out] at hsys
      have HSZ := Lib.hid hsz
      have HSY := Lib.hid hsys
      clear hsz hsys
      go_wp2
      clear hposI
      go_loopw [5] (fun i wr => ∃ k : Nat, k ≤ N ∧ i = .int .i64 k ∧ SqI xss n k 0 ∧ Bx w wr (.slice (some ⟨b, o, none⟩) N c) 27) (fun i _ => N - (intOf i).toNat)
      case atStart => exact ⟨0, Nat.zero_le _, rfl, fun a b p q h1 h2 => by omega, BX.out⟩
      case round =>
        obtain ⟨i, hi, rfl, sq, bx⟩ := hrel
        have SQ := Lib.hid sq
        have BX1 := Lib.hid bx
        clear sq bx
        by_cases hiN : i < N
        · have S0 := Lib.hid (sqI_start SQ.out)
          go_wp2
          go_loopw [6] (fun v wr => ∃ j : Nat, j ≤ N + 2 ∧ v = .int .i64 j ∧ i + 2 ≤ j ∧ SqI xss n i j ∧ Bx w wr (.slice (some ⟨b, o, none⟩) N c) 27) (fun v _ => N + 2 - (intOf v).toNat)
          case atStart => exact ⟨i + 2, by omega, by go_num, by omega, S0.out, BX1.out⟩
          case round =>
            obtain ⟨j, hj, rfl, hij, sq, bx⟩ := hrel
            have SQ2 := Lib.hid sq
            have BX2 := Lib.hid bx
            clear sq bx
            by_cases hjN : j < N
            · obtain ⟨b1, o1, A1, c1, p, he, hg1, hc1, hrd1, hm1⟩ := (HA.out.keep BX2.out.below).row (k := i) (by rw [HX.out]; omega)
              obtain ⟨rfl, rfl⟩ : b = b1 ∧ o = o1 := by simpa using he
              obtain ⟨b1, o1, A2, c2, q, he, hg2, hc2, hrd2, hm2⟩ := (HA.out.keep BX2.out.below).row (k := j) (by rw [HX.out]; omega)
              obtain ⟨rfl, rfl⟩ : b = b1 ∧ o = o1 := by simpa using he
              have l1 := sys_len HSY.out hg1
              have l2 := sys_len HSY.out hg2
              have k1 : p.length = n := by omega
              have k2 : q.length = n := by omega
              rw [k1] at hc1
              rw [k2] at hc2
              have OK1 := Lib.hid ((sys_parts HSY.out).2.2.2 p (List.mem_of_getElem? hg1)).2
              have OK2 := Lib.hid ((sys_parts HSY.out).2.2.2 q (List.mem_of_getElem? hg2)).2
              have K1 := Lib.hid k1
              have K2 := Lib.hid k2
              have R1 := Lib.hid hrd1
              have R2 := Lib.hid hrd2
              have G1 := Lib.hid hg1
              have G2 := Lib.hid hg2
              have C1 := Lib.hid hc1
              have C2 := Lib.hid hc2
              have hiI : (i : Int) < (N : Int) := by omega
              have hjI : (j : Int) < (N : Int) := by omega
              clear he k1 k2 l1 l2 hrd1 hrd2 hg1 hg2 hc1 hc2
              obtain ⟨wo, rfl⟩ : ∃ wo : World, wo = wr := ⟨_, rfl⟩
              go_wp2
              go_loopw [7] (fun v wi => ∃ f : Nat, f ≤ n ∧ v = .int .i64 f ∧ (∀ f' : Nat, f' < f → fz p f' ≠ fz q f' ∧ fz p (fz q f') = fz q (fz p f')) ∧ Below wo.heap.size wo wi) (fun v _ => n - (intOf v).toNat)
              case atStart => exact ⟨0, Nat.zero_le _, rfl, fun f h => absurd h (by omega), Below.refl _ _⟩
              case round =>
                obtain ⟨f, hf, rfl, hall, bel⟩ := hrel
                have HALL := Lib.hid hall
                have BEL := Lib.hid bel
                clear hall bel
                have hrow0 := cell_be (cell_be HC0.out BX2.out.below) BEL.out
                have hbox0 := (BX2.out.go BEL.out).cell
                by_cases hfn : f < n
                · obtain ⟨b1, o1, x, rfl, hgx, hcx⟩ := (R1.out.keep BEL.out).int (k := f) (by rw [K1.out]; exact hfn)
                  obtain ⟨b2, o2, y, rfl, hgy, hcy⟩ := (R2.out.keep BEL.out).int (k := f) (by rw [K2.out]; exact hfn)
                  obtain ⟨x, rfl, hxn⟩ := okP_at OK1.out K1.out hgx
                  obtain ⟨y, rfl, hyn⟩ := okP_at OK2.out K2.out hgy
                  obtain ⟨b', o', u, he, hgu, hcu⟩ := (R1.out.keep BEL.out).int (k := y) (by rw [K1.out]; exact hyn)
                  obtain ⟨rfl, rfl⟩ : b1 = b' ∧ o1 = o' := by simpa using he
                  obtain ⟨b', o', v, he2, hgv, hcv⟩ := (R2.out.keep BEL.out).int (k := x) (by rw [K2.out]; exact hxn)
                  obtain ⟨rfl, rfl⟩ : b2 = b' ∧ o2 = o' := by simpa using he2
                  have FX := Lib.hid (fz_at hgx)
                  have FY := Lib.hid (fz_at hgy)
                  have FU := Lib.hid (fz_at hgu)
                  have FV := Lib.hid (fz_at hgv)
                  have hbc := BelowOf.cell hbox0
                  have hc0 := BelowOf.cell hrow0
                  have hr1 := BelowOf.cell (cell_be C1.out BEL.out)
                  have hr2 := BelowOf.cell (cell_be C2.out BEL.out)
                  have hx' := BelowOf.cell hcx
                  have hy' := BelowOf.cell hcy
                  have hu' := BelowOf.cell hcu
                  have hv' := BelowOf.cell hcv
                  have hfI : (f : Int) < (n : Int) := by omega
                  have hxI : (x : Int) < (n : Int) := by omega
                  have hyI : (y : Int) < (n : Int) := by omega
                  clear hgx hgy hgu hgv he he2 hcx hcy hcu hcv
                  by_cases h1 : v = u
                  · subst h1
                    have hd : (v != v) = false := by simp
                    by_cases h2 : x = y
                    · subst h2
                      have hd2 : ((x : Int) == (x : Int)) = true := by simp
                      have hs := Lib.hid (okMan_false (xss := xss) fun h => (h.sq i j p q hij G1.out G2.out f (by rw [HFL.out]; exact hfn)).1 (by rw [FX.out, FY.out]))
                      go_wp2_with fail
                      refine wp_region_quiet_below (by kernel_rfl) (by kernel_rfl) ?_
                      repeat (go_big_quiet_step ((fail)))
                      refine wpQuiet_nil ?_
                      intro _ hw'
                      obtain ⟨⟨wq, hbq⟩, hw''⟩ := hw'
                      subst hw''
                      go_wp2
                      go_ret
                      exact ⟨ret_bool hs.out.symm, ((BX2.out.go BEL.out).go hbq).below⟩
                    · have hd2 : ((x : Int) == (y : Int)) = false := by rw [beq_eq_false_iff_ne]; omega
                      have HS2 := Lib.hid (show ∀ f' : Nat, f' < f + 1 → fz p f' ≠ fz q f' ∧ fz p (fz q f') = fz q (fz p f') from fun f' hf' => by
                        rcases Nat.lt_succ_iff_lt_or_eq.1 hf' with h | rfl
                        · exact HALL.out f' h
                        · exact ⟨by rw [FX.out, FY.out]; omega, by rw [FX.out, FY.out, FU.out, FV.out]⟩)
                      clear h2
                      go_wp2_with fail
                      refine wp_region_quiet_below (by kernel_rfl) (by kernel_rfl) ?_
                      repeat (go_big_quiet_step ((fail)))
                      refine wpQuiet_nil ?_
                      intro _ hw'
                      obtain ⟨⟨wq, hbq⟩, hw''⟩ := hw'
                      subst hw''
                      have B3 := Lib.hid (BEL.out.trans (hbq.mono BEL.out.size))
                      clear hbq
                      go_wp2
                      go_roundw
                      case rel => exact ⟨f + 1, by omega, by go_num, HS2.out, B3.out⟩
                      case measure => simp [intOf]; omega
                  · have hd : (v != u) = true := by rw [bne_iff_ne]; exact h1
                    have hs := Lib.hid (okMan_false (xss := xss) fun h => h1 (by have := (h.sq i j p q hij G1.out G2.out f (by rw [HFL.out]; exact hfn)).2; rw [FX.out, FY.out, FU.out, FV.out] at this; exact this.symm))
                    clear h1
                    go_wp2_with fail
                    refine wp_region_quiet_below (by kernel_rfl) (by kernel_rfl) ?_
                    repeat (go_big_quiet_step ((fail)))
                    refine wpQuiet_nil ?_
                    intro _ hw'
                    obtain ⟨⟨wq, hbq⟩, hw''⟩ := hw'
                    subst hw''
                    go_wp2
                    go_ret
                    exact ⟨ret_bool hs.out.symm, ((BX2.out.go BEL.out).go hbq).below⟩
                · obtain rfl : f = n := by omega
                  have S3 := Lib.hid (sqI_step SQ2.out G1.out G2.out HALL.out)
                  have BX3 := Lib.hid (BX2.out.go BEL.out)
                  go_wp2
                  go_roundw
                  case rel => exact ⟨j + 1, by omega, by go_num, by omega, S3.out, BX3.out⟩
                  case measure => simp [intOf]; omega
            · have S3 := Lib.hid (sqI_next SQ2.out (by rw [HX.out]; omega))
              go_wp2
              go_roundw
              case rel => exact ⟨i + 1, by omega, by go_num, S3.out, BX2.out⟩
              case measure => simp [intOf]; omega
        · have SA := Lib.hid (sqI_all SQ.out (by rw [HX.out]; omega))
          obtain ⟨m, hm⟩ : ∃ m, (orbL xss n 0).length = m := ⟨_, rfl⟩
          have ho := Lib.hid (show okMan xss = decide (m = n) from by
            by_cases h : m = n
            · rw [decide_eq_true h]; exact okMan_true (man_iff.2 ⟨HSZ.out, by rw [HFL.out]; exact SA.out, by rw [HFL.out, hm, h]⟩)
            · rw [decide_eq_false h]; exact okMan_false fun h2 => h (by have := (man_iff.1 h2).2.2; rw [HFL.out, hm] at this; exact this))
          have HM := Lib.hid hm
          have hz : 0 < n := by omega
          have hposI : (0 : Int) < (N : Int) := by omega
          have HRD := Lib.hid (HA.out.keep BX1.out.below)
          have HB := Lib.hid BX1.out.below
          have hbc := BX1.out.cell
          have hrow0 := cell_be HC0.out BX1.out.below
          clear hm
          go_wp2_with fail
          go_region_held3 (fun w' => Below wr.heap.size wr w' ∧ w'.cell? ⟨w.heap.size, 0, none⟩ = some (.slice (some ⟨b, o, none⟩) N c) ∧ w'.cell? ⟨b, o, none⟩ = some (.slice A0 n c0)) (first | (exact ⟨below_drewN (Below.refl _ _) 1, hbc, hrow0⟩) | (exact q))
            (first
              | (go_at_call 143
                 refine (sorb_any _ HX.out (rd_s3 HRD.out (by assumption)) hN HSY.out hz).mono ?_
                 rintro e w' ⟨A', c', rfl, own, bel⟩
                 have q := s3_go (by assumption) bel))
          go_wp2
          go_ret
          refine ⟨ret_bool ?_, HB.out.trans (q.1.mono HB.out.size)⟩
          rw [ho.out, HM.out]
          exact beq_nat m n
end Go.Proofs.Ytmgoaabeopnopaa
namespace Go.Proofs.Ytmgoaabeopnopaa
open Go.RowKit

end Go.Proofs.Ytmgoaabeopnopaa
namespace Go.Proofs.Ytmgoaabeopnopaa
open Go.RowKit

theorem man_row0 {w : World} {A : Option Addr} {xss : List (List Int)} (h : IsMan xss) (ha : RdSS w A xss) : ∃ (b o : Nat) (A0 : Option Addr) (c0 : Nat), A = some ⟨b, o, none⟩ ∧ w.cell? ⟨b, o, none⟩ = some (.slice A0 (flN xss) c0) := by
  obtain ⟨b, o, A0, c0, xs0, rfl, hg0, hc0, _, _⟩ := ha.row (k := 0) (by have := h.r1; omega)
  rw [← fl_of hg0, Nat.add_zero] at hc0
  exact ⟨b, o, A0, c0, rfl, hc0⟩
def flagB (n : Nat) (f : Int) : Bool := decide (0 ≤ f ∧ f < (n : Int))
theorem flagB_true {n : Nat} {f : Int} (h : flagB n f = true) : ∃ p : Nat, f = (p : Int) ∧ p < n := by
  have h1 := of_decide_eq_true h
  exact ⟨f.toNat, by omega, by omega⟩
theorem flagB_false {n : Nat} {f : Int} (h : flagB n f = false) : f < 0 ∨ (n : Int) ≤ f := by
  have h1 := of_decide_eq_false h
  omega
theorem in_val {x a b : Int} {r : Bool} (w : World) (h : decide (a ≤ x ∧ x ≤ b) = r) : Calls Try.prog 108 #[.int .i64 x, .int .i64 a, .int .i64 b] w fun e w' => e = .returned (.bool r) ∧ Below w.heap.size w w' := by
  by_cases h1 : a ≤ x ∧ x ≤ b
  · rw [decide_eq_true h1] at h
    subst h
    exact (in_yes x a b w h1.1 h1.2).mono fun _ _ ⟨he, hw⟩ => ⟨he, hw ▸ Below.refl _ _⟩
  · rw [decide_eq_false h1] at h
    subst h
    exact (in_no x a b w (by omega)).mono fun _ _ ⟨he, hw⟩ => ⟨he, hw ▸ Below.refl _ _⟩
theorem sFlags_bel {b o c N n c0 : Nat} {A0 : Option Addr} (w : World) (hN : 0 < N) (h0 : w.cell? ⟨b, o, none⟩ = some (.slice A0 n c0)) :
    Calls Try.prog 87 #[.agg #[.slice (some ⟨b, o, none⟩) N c]] w fun e w' => e = .returned (.int .i64 n) ∧ Below w.heap.size w w' := by
  have hlt := World.block_lt_of_cell? w _ h0
  go_enter Try.func87, Try.ntmps87
  go_wp2
  go_ret
  exact ⟨rfl, below1 _ _⟩
theorem sFlag_bel {b o c N n c0 : Nat} {A0 : Option Addr} {r : Bool} (f : Int) (w : World) (hN : 0 < N) (h0 : w.cell? ⟨b, o, none⟩ = some (.slice A0 n c0)) (hn : n ≤ 1048576) (hr : flagB n f = r) :
    Calls Try.prog 96 #[.agg #[.slice (some ⟨b, o, none⟩) N c], .int .i64 f] w fun e w' => e = .returned (.bool r) ∧ Below w.heap.size w w' := by
  have HC0 := Lib.hid (cell_al h0 (.cells #[.slice (some ⟨b, o, none⟩) N c] 27))
  have HR := Lib.hid (show decide ((0 : Int) ≤ f ∧ f ≤ (n : Int) - 1) = r from by rw [← hr]; unfold flagB; congr 1; simp only [eq_iff_iff]; omega)
  clear h0 hr
  go_enter Try.func96, Try.ntmps96
  go_wp2_with fail
  refine (sFlags_bel _ hN HC0.out).mono ?_
  rintro e w1 ⟨rfl, bel⟩
  go_wp2_with fail
  refine (in_val _ HR.out).mono ?_
  rintro e w2 ⟨rfl, bel2⟩
  go_wp2
  go_ret
  exact ⟨rfl, (below1 w _).trans ((bel.mono (by simp)).trans (bel2.mono (by have := bel.size; simp at this; omega)))⟩
def wordB (xss : List (List Int)) (word : List Int) : Bool := wordOk xss word && decide (word.length ≤ 64)
set_option maxHeartbeats 800000 in
theorem sRunL_bel {A A2 : Option Addr} {c c2 N m n : Nat} {xss : List (List Int)} {word : List Int} (p : Nat) (w : World) (hx : xss.length = N) (ha : RdSS w A xss) (hsys : okSys n xss = true) (hy : word.length = m) (ha2 : Rd w A2 (ints word)) (hm : m ≤ 1048576) (hp : p < n) (hw : wordOk xss word = true) :
    Calls Try.prog 190 #[.agg #[.slice A N c], .int .i64 p, .slice A2 m c2] w fun e w' => e = .returned (.int .i64 (runW xss p word)) ∧ Below w.heap.size w w' := by
  have HX := Lib.hid hx
  have HA := Lib.hid ha
  have HS := Lib.hid hsys
  have HY := Lib.hid hy
  have HA2 := Lib.hid ha2
  have HW := Lib.hid hw
  have hn4 := (sys_parts hsys).2.1
  clear hx ha hy ha2 hsys hw
  go_enter Try.func190, Try.ntmps190
  go_wp2
  go_loopw [1, 7] (fun v i wr => ∃ k q : Nat, k ≤ m ∧ i = .int .i64 k ∧ v = .int .i64 q ∧ q < n ∧ (q : Int) = runW xss p (word.take k) ∧ Bx w wr (.slice A N c) 27) (fun _ i _ => m - (intOf i).toNat)
  case atStart => exact ⟨0, p, Nat.zero_le _, rfl, rfl, hp, by simp [runW], Bx.start _ _ _⟩
  case round =>
    obtain ⟨k, q, hk, rfl, rfl, hq, hrun, bx⟩ := hrel
    have HRUN := Lib.hid hrun
    have BX := Lib.hid bx
    clear hrun bx
    by_cases hlt : k < m
    · obtain ⟨b2, o2, x, rfl, hgx, hcx⟩ := (HA2.out.keep BX.out.below).int (k := k) (by rw [HY.out]; exact hlt)
      obtain ⟨g, rfl, hg⟩ := wordOk_at HW.out hgx
      obtain ⟨b, o, A1, c1, xs, rfl, hgr, hcr, hrd, _⟩ := (HA.out.keep BX.out.below).row (k := g) hg
      have hl := sys_len HS.out hgr
      have hl : xs.length = n := by omega
      rw [hl] at hcr
      obtain ⟨b3, o3, y, rfl, hgy, hcy⟩ := hrd.int (k := q) (by omega)
      obtain ⟨y, rfl, hy0⟩ := sys_at HS.out hgr hgy
      have HR2 := Lib.hid (show (y : Int) = runW xss p (word.take (k + 1)) from by rw [runW_succ hgx, ← HRUN.out, stepW_of hgr hgy])
      have hbc := BelowOf.cell BX.out.cell
      have hxc := BelowOf.cell hcx
      have hrc := BelowOf.cell hcr
      have hyc := BelowOf.cell hcy
      have hkI : (k : Int) < (m : Int) := by omega
      have hgI : (g : Int) < (N : Int) := by rw [HX.out] at hg; omega
      have hqI : (q : Int) < (n : Int) := by omega
      clear hgx hcx hgr hcr hrd hl hgy hcy hg
      go_wp2_with fail
      refine wp_region_quiet_below (by kernel_rfl) (by kernel_rfl) ?_
      repeat (go_big_quiet_step ((fail)))
      refine wpQuiet_nil ?_
      intro _ hw'
      obtain ⟨⟨wq, hbq⟩, hw''⟩ := hw'
      subst hw''
      have BX2 := Lib.hid (BX.out.go hbq)
      clear hbq
      go_wp2
      go_roundw
      case rel => exact ⟨k + 1, y, by omega, by go_num, rfl, by omega, HR2.out, BX2.out⟩
      case measure => simp [intOf]; omega
    · have hs := Lib.hid (show (q : Int) = runW xss p word from by rw [HRUN.out, List.take_of_length_le (by rw [HY.out]; omega)])
      go_wp2
      go_ret
      exact ⟨ret_i64 hs.out, BX.out.below⟩

noncomputable def runC (xss : List (List Int)) (f : Int) (word : List Int) : Int := if okMan xss then appC (flN xss) xss word f else 1
noncomputable def runR (xss : List (List Int)) (f : Int) (word : List Int) : Int := if okMan xss then appR (flN xss) xss word f else 0
theorem IsMan.pos {xss : List (List Int)} (h : IsMan xss) {N : Nat} (hx : xss.length = N) : 0 < N := by have := h.r1; omega

set_option maxHeartbeats 1600000 in
theorem iRun_any {A A2 : Option Addr} {c c2 N m : Nat} {xss : List (List Int)} {word : List Int} (f : Int) (w : World) (hx : xss.length = N) (ha : RdSS w A xss) (hN : N ≤ 1048576) (hr : ∀ xs ∈ xss, (xs.length : Int) ≤ 1048576) (hy : word.length = m) (ha2 : Rd w A2 (ints word)) (hm : m ≤ 1048576) :
    Calls Try.prog 80 #[.agg #[.slice A N c], .int .i64 f, .slice A2 m c2] w fun e w' => e = .returned (.tuple #[.int .i64 (runR xss f word), .int .i64 (runC xss f word)]) ∧ Below w.heap.size w w' := by
  have HX := Lib.hid hx
  have HA := Lib.hid ha
  have HR := Lib.hid hr
  have HY := Lib.hid hy
  have HA2 := Lib.hid ha2
  cases ho : okMan xss
  · have h1 := Lib.hid (show runR xss f word = 0 by simp [runR, ho])
    have h2 := Lib.hid (show runC xss f word = 1 by simp [runC, ho])
    have HO := Lib.hid ho
    clear hx ha hr hy ha2 ho
    go_enter Try.func80, Try.ntmps80
    go_wp2_with fail
    refine (iMan_any _ HX.out (HA.out.al _) hN HR.out).mono ?_
    rintro e w1 ⟨rfl, bel⟩
    rw [HO.out]
    go_wp2
    go_ret2
    exact ⟨ret2_i64 h1.out.symm h2.out.symm, (below1 w _).trans (bel.mono (by simp))⟩
  · have hman := okMan_iff.1 ho
    have h1 := Lib.hid (show runR xss f word = appR (flN xss) xss word f by simp [runR, ho])
    have h2 := Lib.hid (show runC xss f word = appC (flN xss) xss word f by simp [runC, ho])
    have hpos := hman.pos hx
    obtain ⟨b, o, A0, c0, rfl, hc0⟩ := man_row0 hman ha
    obtain ⟨n, hn⟩ : ∃ n, flN xss = n := ⟨_, rfl⟩
    rw [hn] at hc0 h1 h2
    have HC0 := Lib.hid hc0
    have HO := Lib.hid ho
    have BX0 := Lib.hid (Bx.start w (.slice (some ⟨b, o, none⟩) N c) 27)
    clear hx ha hr hy ha2 ho hman hn hc0
    go_enter Try.func80, Try.ntmps80
    go_wp2_with fail
    refine (iMan_any _ HX.out (HA.out.al _) hN HR.out).mono ?_
    rintro e w1 ⟨rfl, bel⟩
    rw [HO.out]
    have BX1 := Lib.hid (BX0.out.go bel)
    have HC1 := Lib.hid (cell_be (cell_al HC0.out _) bel)
    have HA1 := Lib.hid (HA.out.keep BX1.out.below)
    have HA21 := Lib.hid (HA2.out.keep BX1.out.below)
    have hbc := BelowOf.cell BX1.out.cell
    clear bel BX0
    go_wp2_with fail
    refine wp_region_quiet_below (by kernel_rfl) (by kernel_rfl) ?_
    repeat (go_big_quiet_step ((first | (go_at_call 106; exact Calls.below_of (flags_bel _ hpos (BelowOf.cell HC1.out _))) | (go_at_call 140; exact Calls.below_of (iapp_any _ _ _ HX.out (HA1.out.keep (BelowOf.h _)) hN HR.out HY.out (HA21.out.keep (BelowOf.h _)) hm)))))
    refine wpQuiet_nil ?_
    intro _ hw'
    obtain ⟨⟨wq, hbq⟩, hw''⟩ := hw'
    subst hw''
    go_wp2
    go_ret2
    exact ⟨ret2_i64 h1.out.symm h2.out.symm, (BX1.out.go hbq).below⟩

end Go.Proofs.Ytmgoaabeopnopaa
namespace Go.Proofs.Ytmgoaabeopnopaa
open Go.RowKit

theorem markM_any {A : Option Addr} {c n lo hi e : Nat} {xss : List (List Int)} (k0 : Int) (w : World) (ho : OwnSS w lo hi e A n c xss) (he : e ≠ 2) (hn : n ≤ 1048576) (hr : ∀ xs ∈ xss, (xs.length : Int) ≤ 1048576) (h0 : 0 ≤ k0) (h1 : k0 ≤ 100000000000000000) :
    Calls Try.prog 24 #[.agg #[.slice A n c], .int .i64 k0] w fun e' w' => e' = .returned (.int .i64 (k0 + totalL xss)) ∧ OwnSS w' lo hi e A n c (marksSS k0 xss) ∧ Turns lo hi w w' := by
  have HO := Lib.hid (ownSS_below ho (below1 w (.cells #[.slice A n c] 27)) (Nat.le_refl _))
  have HR := Lib.hid hr
  clear ho hr
  go_enter Try.func24, Try.ntmps24
  go_wp2_with fail
  refine (markSS_any k0 _ HO.out he hn HR.out h0 h1).mono ?_
  rintro e' w' ⟨rfl, own, tu⟩
  have OWN := Lib.hid own
  have TU := Lib.hid tu
  clear own tu
  go_wp2
  go_ret
  exact ⟨rfl, OWN.out, (Turns.of_below (below1 _ _) (Nat.le_refl _)).trans TU.out⟩
theorem Bx.tu {w wr w2 : World} {v : Value} {T : TypeId} {lo hi : Nat} (h : Bx w wr v T) (tu : Turns lo hi wr w2) (hlo : w.heap.size + 1 ≤ lo) : Bx w w2 v T :=
  ⟨tu.below h.bel (by have := h.size; omega) hlo⟩
end Go.Proofs.Ytmgoaabeopnopaa
namespace Go.Proofs.Ytmgoaabeopnopaa
open Go.RowKit

theorem heldM_any {A : Option Addr} {c n : Nat} {xss : List (List Int)} (k0 : Int) (w : World) (hx : xss.length = n) (ha : RdSS w A (marksSS k0 xss)) (hn : n ≤ 1048576) (hr : ∀ xs ∈ xss, (xs.length : Int) ≤ 1048576) (h0 : 0 ≤ k0) (h1 : k0 ≤ 1000000000000) :
    Calls Try.prog 26 #[.agg #[.slice A n c], .int .i64 k0] w fun e' w' => e' = .returned (.int .i64 (k0 + totalL xss)) ∧ Below w.heap.size w w' := by
  have HX := Lib.hid hx
  have HA := Lib.hid (ha.al (.cells #[.slice A n c] 27))
  have HR := Lib.hid hr
  have ht := totalL_le hr xss.length
  rw [List.take_length, hx] at ht
  have hz : 0 ≤ k0 + (totalL xss : Int) := by omega
  have hz2 : k0 + (totalL xss : Int) ≤ 3000000000000 := by omega
  clear hx ha hr
  go_enter Try.func26, Try.ntmps26
  go_wp2_with fail
  refine (heldSS_any k0 _ HX.out HA.out hn HR.out h0 (by omega)).mono ?_
  rintro e' w' ⟨rfl, rfl⟩
  go_wp2
  go_ret
  exact ⟨rfl, below1 w _⟩
end Go.Proofs.Ytmgoaabeopnopaa
