/- StabilizerOf: the codes, and rows picked out of a list of rows. -/
import Derived.Test.YtmgoaabeopnopaaL23
import Derived.Test.YtmgoaabeopnopaaIsf
namespace Go.Proofs.Ytmgoaabeopnopaa
open Go.RowKit

/-- The code of a maniplex and a rank. -/
noncomputable def rkC (xss : List (List Int)) (i : Int) : Int := if okMan xss then (if flagB xss.length i then 0 else 2) else 1
/-- A list that was made of some rows of another one reads as those rows. -/
theorem St.sel {w0 w : World} {Ps : List Pc} {i j : Nat} {A A' : Option Addr} {n c m c' : Nat} {vals : List Value} {xss : List (List Int)} {js : List Nat} (h : St w0 w Ps) (hi : Ps[i]? = some (.rows 2 36 A n c vals xss)) (hj : Ps[j]? = some (.own 36 A' m c' (js.map fun j => vals.getD j undef))) (hp : js.Pairwise (· < ·)) (hl : ∀ j ∈ js, j < xss.length) :
    OwnSS w w0.heap.size w.heap.size 36 A' m c' (js.map fun j => xss.getD j []) := by
  obtain ⟨vals2, o1, _, hlen, hrow, hd⟩ := h.sep.ownSS hi
  have e := row_unique o1 (h.rows hi)
  subst e
  have own := h.own hj
  have hm : js.length = m := by have := own.1; simpa using this
  have hvl : vals2.length = n := by have := o1.1; omega
  refine ⟨_, own, own_in own, by simpa using hm, fun k xs hk => ?_, fun a b u v hab hu hv => ?_⟩
  · rw [List.getElem?_map] at hk
    obtain ⟨j', hj', hxs⟩ := Option.map_eq_some_iff.1 hk
    have hjl := hl j' (List.mem_of_getElem? hj')
    have hx : xss[j']? = some xs := by
      rw [List.getD_eq_getElem?_getD, List.getElem?_eq_getElem hjl] at hxs
      rw [List.getElem?_eq_getElem hjl, ← hxs]
      rfl
    obtain ⟨A2, c2, h1, h2, h3⟩ := hrow j' xs hx
    refine ⟨A2, c2, ?_, h2, h3⟩
    rw [List.getElem?_map, hj']
    simp only [Option.map_some]
    rw [List.getD_eq_getElem?_getD, h1]
    rfl
  · rw [List.getElem?_map] at hu hv
    obtain ⟨ja, hja, hua⟩ := Option.map_eq_some_iff.1 hu
    obtain ⟨jb, hjb, hvb⟩ := Option.map_eq_some_iff.1 hv
    have hla := hl ja (List.mem_of_getElem? hja)
    have hlb := hl jb (List.mem_of_getElem? hjb)
    have hne : ja ≠ jb := fun e => by
      subst e
      have hnd : js.Nodup := hp.imp (fun hlt => by omega)
      have := (List.getElem?_inj (List.getElem?_eq_some_iff.1 hja).1 hnd).1 (hja.trans hjb.symm)
      exact hab this
    refine hd ja jb u v hne ?_ ?_
    · rw [List.getD_eq_getElem?_getD, List.getElem?_eq_getElem (by omega)] at hua
      rw [List.getElem?_eq_getElem (by omega), ← hua]
      rfl
    · rw [List.getD_eq_getElem?_getD, List.getElem?_eq_getElem (by omega)] at hvb
      rw [List.getElem?_eq_getElem (by omega), ← hvb]
      rfl
/-- Which rows are picked out of the first k ones. -/
def Pick (P : List (List Int)) (pr : List Int → Bool) (k : Nat) (js : List Nat) : Prop := js.Pairwise (· < ·) ∧ (∀ j ∈ js, j < k) ∧ (P.take k).filter pr = js.map fun j => P.getD j []
theorem pick_start {P : List (List Int)} {pr : List Int → Bool} : Pick P pr 0 [] := ⟨List.Pairwise.nil, by simp, by simp⟩
theorem pick_yes {P : List (List Int)} {pr : List Int → Bool} {k : Nat} {js : List Nat} {L : List Int} (h : Pick P pr k js) (hL : P[k]? = some L) (hp : pr L = true) : Pick P pr (k + 1) (js ++ [k]) := by
  obtain ⟨h1, h2, h3⟩ := h
  refine ⟨List.pairwise_append.2 ⟨h1, List.pairwise_singleton _ _, fun a ha b hb => by simp at hb; subst hb; exact h2 a ha⟩, fun j hj => ?_, ?_⟩
  · rcases List.mem_append.1 hj with h4 | h4
    · have := h2 j h4; omega
    · simp at h4; omega
  · rw [List.take_add_one, hL, Option.toList_some, List.filter_append, h3, List.map_append]
    simp [hp, List.getD, hL]
theorem pick_no {P : List (List Int)} {pr : List Int → Bool} {k : Nat} {js : List Nat} {L : List Int} (h : Pick P pr k js) (hL : P[k]? = some L) (hp : pr L = false) : Pick P pr (k + 1) js := by
  obtain ⟨h1, h2, h3⟩ := h
  refine ⟨h1, fun j hj => by have := h2 j hj; omega, ?_⟩
  rw [List.take_add_one, hL, Option.toList_some, List.filter_append, h3]
  simp [hp]
theorem pick_len {P : List (List Int)} {pr : List Int → Bool} {k : Nat} {js : List Nat} (h : Pick P pr k js) : js.length ≤ k := by
  have h3 := congrArg List.length h.2.2
  have h4 := List.length_filter_le pr (P.take k)
  simp at h3 h4
  omega

set_option maxHeartbeats 3200000 in
set_option maxRecDepth 8000 in
theorem scode6_any {A : Option Addr} {c N : Nat} {xss : List (List Int)} (i : Int) (w : World) (hx : xss.length = N) (ha : RdSS w A xss) (hN : N ≤ 1048576) (hr : ∀ xs ∈ xss, (xs.length : Int) ≤ 1048576) :
    Calls Try.prog 129 #[.agg #[.slice A N c], .int .i64 i] w fun e w' => e = .returned (.int .i64 (rkC xss i)) ∧ Below w.heap.size w w' := by
  have HX := Lib.hid hx
  have HA := Lib.hid ha
  have HR := Lib.hid hr
  have st0 := (St.start w).addBlk #[.slice A N c] 27
  have S0 := Lib.hid st0
  have x0 := (st0.blk (i := 0) rfl).cell (i := 0) rfl
  have hsub : IntKind.i64.wrap ((N : Int) - 1) = (N : Int) - 1 := IntWalk.i64_in _ (by omega)
  clear st0
  cases ho : okMan xss
  · have h1 : rkC xss i = 1 := by simp [rkC, ho]
    rw [h1]
    have HO := Lib.hid ho
    clear hx ha hr ho h1
    go_enter Try.func129, Try.ntmps129
    go_wp2_with fail
    refine (sIs_any _ HX.out (HA.out.keep S0.out.below) hN HR.out).mono ?_
    rintro e w1 ⟨rfl, bel⟩
    rw [HO.out]
    have S1 := Lib.hid (S0.out.go bel)
    clear bel x0
    go_wp2
    go_ret
    exact ⟨rfl, S1.out.below⟩
  · cases hf : flagB N i
    · have h1 : rkC xss i = 2 := by simp [rkC, ho, hx, hf]
      rw [h1]
      have HO := Lib.hid ho
      have HF := Lib.hid hf
      clear hx ha hr ho h1 hf
      go_enter Try.func129, Try.ntmps129
      go_wp2_with fail
      refine (sIs_any _ HX.out (HA.out.keep S0.out.below) hN HR.out).mono ?_
      rintro e w1 ⟨rfl, bel⟩
      rw [HO.out]
      have S1 := Lib.hid (S0.out.go bel)
      have x1 := (S1.out.blk (i := 0) rfl).cell (i := 0) rfl
      clear bel x0
      go_wp2_with fail
      refine (in_val (r := false) _ (by have := HF.out; simp [flagB] at this; refine decide_eq_false fun h => ?_; omega)).mono ?_
      rintro e w2 ⟨rfl, bel⟩
      have S2 := Lib.hid (S1.out.go bel)
      clear bel x1
      go_wp2
      go_ret
      exact ⟨rfl, S2.out.below⟩
    · have h1 : rkC xss i = 0 := by simp [rkC, ho, hx, hf]
      rw [h1]
      have HO := Lib.hid ho
      have HF := Lib.hid hf
      clear hx ha hr ho h1 hf
      go_enter Try.func129, Try.ntmps129
      go_wp2_with fail
      refine (sIs_any _ HX.out (HA.out.keep S0.out.below) hN HR.out).mono ?_
      rintro e w1 ⟨rfl, bel⟩
      rw [HO.out]
      have S1 := Lib.hid (S0.out.go bel)
      have x1 := (S1.out.blk (i := 0) rfl).cell (i := 0) rfl
      clear bel x0
      go_wp2_with fail
      refine (in_val (r := true) _ (by have := HF.out; simp [flagB] at this; refine decide_eq_true ?_; omega)).mono ?_
      rintro e w2 ⟨rfl, bel⟩
      have S2 := Lib.hid (S1.out.go bel)
      clear bel x1
      go_wp2
      go_ret
      exact ⟨rfl, S2.out.below⟩
end Go.Proofs.Ytmgoaabeopnopaa
