/- spec.l01Draw gives a permutation; spec.l01Matching. -/
import Derived.Test.YtckmmgepoccopaaDr
import Derived.Test.YtckmmgepoccopaaPool
import Derived.Deep.RegionLaw
import Derived.Deep.DeepMust
namespace Go.Proofs.Ytckmmgepoccopaa
open Go.RowKit

theorem okP_swap {L : List Int} {j k : Nat} {x y : Int} (hok : okP L = true) (hj : L[j]? = some x) (hk : L[k]? = some y) : okP ((L.set j y).set k x) = true := by
  obtain ⟨hjl, hjx⟩ := List.getElem?_eq_some_iff.1 hj
  obtain ⟨hkl, hky⟩ := List.getElem?_eq_some_iff.1 hk
  have hperm : ((L.set j y).set k x).Perm L := by
    have h1 := Array.swap_perm (xs := L.toArray) (i := j) (j := k) (by simpa using hjl) (by simpa using hkl)
    have h2 := Array.perm_iff_toList_perm.1 h1
    have h3 : (L.toArray.swap j k (by simpa using hjl) (by simpa using hkl)).toList = (L.set j y).set k x := by simp [hjx, hky]
    rwa [h3] at h2
  have h0 : L.length ≤ 400 ∧ IsP L := of_decide_eq_true hok
  have hl := hperm.length_eq
  refine decide_eq_true ⟨by omega, fun v hv => ?_, hperm.nodup_iff.2 h0.2.2⟩
  rw [hl]
  exact h0.2.1 v (hperm.mem_iff.1 hv)
theorem okP_unit {N : Nat} (hN : N ≤ 400) : okP (unitL N) = true := by
  refine decide_eq_true ⟨by simp [unitL]; exact hN, fun v hv => ?_, ?_⟩
  · simp [unitL] at hv ⊢
    obtain ⟨k, hk, rfl⟩ := hv
    omega
  · refine List.pairwise_map.2 (List.Pairwise.imp ?_ (List.nodup_range (n := N)))
    intro a b hab he
    exact hab (by omega)
/-- A drawn list. -/
def RetDL (w : World) (g : Nat) (A : Option Addr) (n c : Nat) (bs : List Value) (N : Nat) (good : List Int → Prop) (e : Ending) (w' : World) : Prop :=
  ∃ (wb : World) (A' : Option Addr) (c' : Nat) (L : List Int), e = .returned (.slice A' N c') ∧ L.length = N ∧ good L ∧ Dr g A n c bs w wb ∧ St wb w' [.own 2 A' N c' (ints L)]
section
variable {A : Option Addr} {g n c : Nat} {bs : List Value}
set_option maxHeartbeats 1600000 in
theorem drawP {N : Nat} (w : World) (hs : SrcE w g A n c bs) (hn : n ≤ 1048576) (hN : N ≤ 400) :
    Calls Try.prog 159 #[.pointer (some ⟨g, 0, none⟩), .int .i64 N] w (RetDL w g A n c bs N fun L => okP L = true) := by
  have HS := Lib.hid hs
  have hlt := hs.lt
  clear hs
  go_enter Try.func159, Try.ntmps159
  go_wp2_with fail
  refine (unit_any N w (by omega)).mono ?_
  rintro e w1 ⟨A1, c1, rfl, own, bel⟩
  have ST := Lib.hid (show DSt w w1 g A n c bs A1 N c1 (unitL N) from ⟨by simp [unitL], own, HS.out.turns (lo := w.heap.size) (hi := w.heap.size) (Turns.of_below bel (Nat.le_refl _)) hlt, Turns.of_below bel (Nat.le_refl _), hlt⟩)
  have HP0 := Lib.hid (okP_unit hN)
  clear own bel
  go_wp2
  go_loopw [6] (fun q wr => ∃ (i : Int) (L : List Int), -1 ≤ i ∧ i < N ∧ q = .int .i64 i ∧ okP L = true ∧ DSt w wr g A n c bs A1 N c1 L) (fun q _ => (intOf q).toNat)
  case atStart => exact ⟨(N : Int) - 1, unitL N, by omega, by omega, by first | rfl | go_num, HP0.out, ST.out⟩
  case round =>
    obtain ⟨i, L, hi0, hi1, rfl, hok, st⟩ := hrel
    have S := Lib.hid st
    have HOK := Lib.hid hok
    clear st ST hok
    by_cases h0 : 0 < i
    · obtain ⟨b, rfl⟩ := own_shape S.out.own (by omega)
      obtain ⟨j, rfl⟩ := Int.eq_ofNat_of_zero_le (show 0 ≤ i by omega)
      go_wp2_with fail
      refine (nextE wr S.out.src hn (by omega)).mono ?_
      rintro e w2 ⟨r, rfl, ⟨hr0, hr1⟩, hs2, tu2⟩
      obtain ⟨k, rfl⟩ := Int.eq_ofNat_of_zero_le hr0
      have S2 := Lib.hid (S.out.next hs2 tu2)
      clear hs2 tu2
      have hjg := List.getElem?_eq_getElem (show j < L.length by rw [S2.out.len]; omega)
      have hkg := List.getElem?_eq_getElem (show k < L.length by rw [S2.out.len]; omega)
      obtain ⟨x, hx0⟩ : ∃ x, L[j]'(by rw [S2.out.len]; omega) = x := ⟨_, rfl⟩
      obtain ⟨y, hy0⟩ : ∃ y, L[k]'(by rw [S2.out.len]; omega) = y := ⟨_, rfl⟩
      rw [hx0] at hjg
      rw [hy0] at hkg
      have HSW := Lib.hid (okP_swap HOK.out hjg hkg)
      have hx : (ints L)[j]? = some (.int .i64 x) := by simp [hjg]
      have hy : (ints L)[k]? = some (.int .i64 y) := by simp [hkg]
      have hcx := own_cell S2.out.own hx
      have hcy := own_cell S2.out.own hy
      have hfx := S2.out.own.frozenAt j
      have S3 := Lib.hid (S2.out.set (k := j) (x := y))
      obtain ⟨z, hz⟩ := ints_at S3.out.len (show k < N by omega)
      have hcz := own_cell S3.out.own hz
      have hfz := S3.out.own.frozenAt k
      have S4 := Lib.hid (S3.out.set (k := k) (x := x))
      clear hx hy hz hjg hkg hx0 hy0
      go_wp2
      go_roundw
      case rel => exact ⟨(j : Int) - 1, _, by omega, by omega, by go_num, HSW.out, S4.out⟩
      case measure => simp [intOf]; omega
    · go_wp2
      go_ret
      obtain ⟨wb, d, s⟩ := Dr.of S.out.src S.out.tu S.out.lt (Sep.oneOwn S.out.own)
      exact ⟨wb, A1, c1, L, rfl, S.out.len, HOK.out, d, s⟩
end
/-- The first t pairs of points of a list are matched. -/
def MatTo (L : List Int) (t : Nat) (p : List Int) : Prop := ∀ s, s < t → ∀ x y : Nat, L[2 * s]? = some (x : Int) → L[2 * s + 1]? = some (y : Int) → p[x]? = some (y : Int) ∧ p[y]? = some (x : Int)
section
variable {L p : List Int} {N t x y : Nat}
theorem mat_step (hok : okP L = true) (hL : L.length = N) (hp : p.length = N) (h : MatTo L t p) (hx : L[2 * t]? = some (x : Int)) (hy : L[2 * t + 1]? = some (y : Int)) : MatTo L (t + 1) ((p.set x (y : Int)).set y (x : Int)) := by
  have h0 : L.length ≤ 400 ∧ IsP L := of_decide_eq_true hok
  have inj : ∀ (i j : Nat) (v : Int), L[i]? = some v → L[j]? = some v → i = j := fun i j v h1 h2 => by
    obtain ⟨a1, b1⟩ := List.getElem?_eq_some_iff.1 h1
    obtain ⟨a2, b2⟩ := List.getElem?_eq_some_iff.1 h2
    exact (List.getElem_inj h0.2.2).1 (b1.trans b2.symm)
  have rng : ∀ (i v : Nat), L[i]? = some (v : Int) → v < N := fun i v h1 => by
    have := (h0.2.1 _ (List.mem_of_getElem? h1)).2
    omega
  intro s hs x' y' hx' hy'
  have lx := rng _ _ hx
  have ly := rng _ _ hy
  have lx' := rng _ _ hx'
  have ly' := rng _ _ hy'
  rcases Nat.lt_succ_iff_lt_or_eq.1 hs with h1 | rfl
  · have e1 : x ≠ x' := fun e => by subst e; have := inj _ _ _ hx hx'; omega
    have e2 : x ≠ y' := fun e => by subst e; have := inj _ _ _ hx hy'; omega
    have e3 : y ≠ x' := fun e => by subst e; have := inj _ _ _ hy hx'; omega
    have e4 : y ≠ y' := fun e => by subst e; have := inj _ _ _ hy hy'; omega
    rw [List.getElem?_set_ne e3, List.getElem?_set_ne e1, List.getElem?_set_ne e4, List.getElem?_set_ne e2]
    exact h s h1 x' y' hx' hy'
  · rw [hx] at hx'
    rw [hy] at hy'
    injection hx' with hx'
    injection hy' with hy'
    have e1 : x = x' := by omega
    have e2 : y = y' := by omega
    subst e1
    subst e2
    have hne : y ≠ x := fun e => by subst e; have := inj _ _ _ hx hy; omega
    rw [List.getElem?_set_ne hne, List.getElem?_set_self (by omega), List.getElem?_set_self (by simp; omega)]
    exact ⟨rfl, rfl⟩
theorem mat_inv (hok : okP L = true) (hL : L.length = N) (hp : p.length = N) (h : MatTo L t p) (ht : N = 2 * t) : InvL N p := by
  have h0 : L.length ≤ 400 ∧ IsP L := of_decide_eq_true hok
  refine ⟨hp, fun x hx => ?_⟩
  have hpa : Passed N L := ⟨fun v hv => by have := h0.2.1 v hv; omega, h0.2.2⟩
  obtain ⟨i, hi, he⟩ := List.mem_iff_getElem.1 (mem_all hL hpa hx)
  have hxi : L[i]? = some (x : Int) := by rw [List.getElem?_eq_getElem hi, he]
  have pt : ∀ j, j < N → ∃ y : Nat, y < N ∧ L[j]? = some (y : Int) := fun j hj => by
    have hg := List.getElem?_eq_getElem (show j < L.length by omega)
    have hb := hpa.1 _ (List.mem_of_getElem? hg)
    obtain ⟨y, hy⟩ := Int.eq_ofNat_of_zero_le hb.1
    exact ⟨y, by omega, by rw [hg, hy]⟩
  by_cases hev : i % 2 = 0
  · obtain ⟨y, hy, hyi⟩ := pt (i + 1) (by omega)
    have e1 : 2 * (i / 2) = i := by omega
    have := h (i / 2) (by omega) x y (by rw [e1]; exact hxi) (by rw [e1]; exact hyi)
    exact ⟨y, hy, this.1, this.2⟩
  · obtain ⟨y, hy, hyi⟩ := pt (i - 1) (by omega)
    have e1 : 2 * (i / 2) = i - 1 := by omega
    have e2 : 2 * (i / 2) + 1 = i := by omega
    have := h (i / 2) (by omega) y x (by rw [e1]; exact hyi) (by rw [e2]; exact hxi)
    exact ⟨y, hy, this.2, this.1⟩
end
section
variable {A : Option Addr} {g n c : Nat} {bs : List Value}
set_option maxRecDepth 8000 in
set_option maxHeartbeats 3200000 in
theorem matchP {N : Nat} (w : World) (hs : SrcE w g A n c bs) (hn : n ≤ 1048576) (hN : N ≤ 400) :
    Calls Try.prog 123 #[.pointer (some ⟨g, 0, none⟩), .int .i64 N] w (RetDL w g A n c bs N fun p => N % 2 = 0 → InvL N p) := by
  have hlt := hs.lt
  have hmk := run_make_row' (P := Try.prog) 28 2 (.int .i64 0) 8 Try.underlying28 Try.info2 rfl .i64 .i64 N (by omega) (by omega)
  have S0 := Lib.hid ((St.start w).go (below_drewN (Below.refl _ _) 1))
  have S0m := Lib.hid (((St.start w).go (below_drewN (Below.refl _ _) 1)).addMake (.int .i64 0) N 2 (by unfold maxLen; omega))
  have D0 := Lib.hid (Dr.start hs)
  clear hs
  go_enter Try.func123, Try.ntmps123
  go_wp2
  go_region_law ((first
    | (go_simp; go_at_call 159
       refine (drawP _ (D0.out.now S0.out) hn hN).mono ?_
       rintro e w1 ⟨wb1, A1, c1, L, rfl, hL, hok, d1, st1⟩
       obtain ⟨wb, d, st⟩ := D0.out.join S0.out d1 st1
       have D1 := Lib.hid d
       have S1 := Lib.hid (show St wb (w1.alloc (.cells (madeCells #[.int .i64 0] N) 2)) [.own 2 A1 N c1 (ints L), .own 2 (some ⟨w1.heap.size, 0, none⟩) N N (ints (List.replicate N 0))] from by simpa [ints] using (show St wb w1 [.own 2 A1 N c1 (ints L)] from st).addMake (.int .i64 0) N 2 (by unfold maxLen; omega))
       have hgP : ∃ gP, gP = w1.heap.size := ⟨_, rfl⟩
       clear d st d1 st1)
    | (go_simp; go_at_call 159
       refine (drawP _ (D0.out.now S0m.out) hn hN).mono ?_
       rintro e w1 ⟨wb1, A1, c1, L, rfl, hL, hok, d1, st1⟩
       obtain ⟨wb, d, st⟩ := D0.out.join S0m.out d1 st1
       have D1 := Lib.hid d
       have S1 := Lib.hid (show St wb w1 [.own 2 A1 N c1 (ints L), .own 2 (some ⟨w.heap.size, 0, none⟩) N N (ints (List.replicate N 0))] from by
         have h := St.front (Qs := [Pc.own 2 (some ⟨w.heap.size, 0, none⟩) N N (List.replicate N (Value.int .i64 0))]) st
         simpa [ints] using h)
       have hgP : ∃ gP, gP = w.heap.size := ⟨_, rfl⟩
       clear d st d1 st1)))
  all_goals
    have HL := Lib.hid hL
    have HOK := Lib.hid hok
    obtain ⟨gP, hgP⟩ := hgP
    rw [← hgP] at S1 ⊢
    clear hL hok hmk hgP S0 S0m D0
    have M0 := Lib.hid (show MatTo L 0 (List.replicate N 0) from fun s h => absurd h (by omega))
    go_wp2
    go_loopw [7] (fun q wr => ∃ (t i : Nat) (p : List Int), i = 2 * t ∧ i ≤ N ∧ q = .int .i64 i ∧ p.length = N ∧ MatTo L t p ∧ St wb wr [.own 2 A1 N c1 (ints L), .own 2 (some ⟨gP, 0, none⟩) N N (ints p)]) (fun q _ => N + 1 - (intOf q).toNat)
    case atStart => exact ⟨0, 0, _, rfl, Nat.zero_le _, rfl, by simp, M0.out, S1.out⟩
    case round =>
      obtain ⟨t, i, p, hit, hi, rfl, hpl, hm, st⟩ := hrel
      have HIT := Lib.hid hit
      have HPL := Lib.hid hpl
      have HM := Lib.hid hm
      clear hit hpl hm M0 S1
      have j1 : IntKind.i64.wrap ((i : Int) + 1) = ((i + 1 : Nat) : Int) := (IntWalk.i64_in _ (by omega)).trans (by omega)
      by_cases hlt2 : i + 1 < N
      · have pt : ∀ j, j < N → ∃ y : Nat, y < N ∧ L[j]? = some (y : Int) := fun j hj => by
          have hg := List.getElem?_eq_getElem (show j < L.length by rw [HL.out]; exact hj)
          have h0 : L.length ≤ 400 ∧ IsP L := of_decide_eq_true HOK.out
          have hb := h0.2.1 _ (List.mem_of_getElem? hg)
          have := HL.out
          obtain ⟨y, hy⟩ := Int.eq_ofNat_of_zero_le hb.1
          exact ⟨y, by omega, by rw [hg, hy]⟩
        obtain ⟨x, hxN, hx⟩ := pt i (by omega)
        obtain ⟨y, hyN, hy⟩ := pt (i + 1) (by omega)
        obtain ⟨gA, rfl⟩ := own_shape (st.own (i := 0) rfl) (show 0 < N by omega)
        have c1' := own_cell (st.own (i := 0) rfl) (show (ints L)[i]? = some (.int .i64 (x : Int)) by simp [hx])
        have c2' := own_cell (st.own (i := 0) rfl) (show (ints L)[i + 1]? = some (.int .i64 (y : Int)) by simp [hy])
        obtain ⟨u, hu⟩ := ints_at HPL.out hxN
        have c3' := own_cell (st.own (i := 1) rfl) hu
        have f3' := (st.own (i := 1) rfl).frozenAt x
        have st2 : St wb ((wr.setCell ⟨gP, x, none⟩ (.int .i64 (y : Int))).drew.drew) [.own 2 (some ⟨gA, 0, none⟩) N c1 (ints L), .own 2 (some ⟨gP, 0, none⟩) N N (ints (p.set x (y : Int)))] := by
          rw [← ints_set]
          exact (st.store (i := 1) rfl x (.int .i64 (y : Int))).go (below_drewN (below_drewN (Below.refl _ _) 1) 1)
        have d1 := own_cell (st2.own (i := 0) rfl) (show (ints L)[i]? = some (.int .i64 (x : Int)) by simp [hx])
        have d2 := own_cell (st2.own (i := 0) rfl) (show (ints L)[i + 1]? = some (.int .i64 (y : Int)) by simp [hy])
        obtain ⟨v, hv⟩ := ints_at (xs := p.set x (y : Int)) (n := N) (by simp [HPL.out]) hyN
        have d3 := own_cell (st2.own (i := 1) rfl) hv
        have g3 := (st2.own (i := 1) rfl).frozenAt y
        have st3 : St wb (((wr.setCell ⟨gP, x, none⟩ (.int .i64 (y : Int))).drew.drew).setCell ⟨gP, y, none⟩ (.int .i64 (x : Int))) [.own 2 (some ⟨gA, 0, none⟩) N c1 (ints L), .own 2 (some ⟨gP, 0, none⟩) N N (ints ((p.set x (y : Int)).set y (x : Int)))] := by
          rw [← ints_set]
          exact st2.store (i := 1) rfl y (.int .i64 (x : Int))
        have i0I : 0 ≤ (i : Int) + 1 := by omega
        have i0N : ((i : Int) + 1).toNat = i + 1 := by omega
        have S3 := Lib.hid st3
        have HM2 := Lib.hid (mat_step HOK.out HL.out HPL.out HM.out (by rw [← HIT.out]; exact hx) (by rw [← HIT.out]; exact hy))
        have iI : (i : Int) < (N : Int) := by omega
        have i1I : ((i + 1 : Nat) : Int) < (N : Int) := by omega
        have xI : (x : Int) < (N : Int) := by omega
        have yI : (y : Int) < (N : Int) := by omega
        clear st st2 st3 hx hy hu hv pt
        go_wp2
        go_region
        go_wp2
        go_region
        go_wp2
        go_roundw
        case rel => exact ⟨t + 1, i + 2, _, by have := HIT.out; omega, by omega, by go_num, by simp [HPL.out], HM2.out, S3.out⟩
        case measure => simp [intOf]; omega
      · have S3 := Lib.hid st
        have HMI := Lib.hid (show N % 2 = 0 → InvL N p from fun hev => mat_inv HOK.out HL.out HPL.out HM.out (by have := HIT.out; omega))
        clear st
        go_wp2
        go_ret
        exact ⟨wb, _, N, p, rfl, HPL.out, HMI.out, D1.out, S3.out.drop 0⟩
end
end Go.Proofs.Ytckmmgepoccopaa
