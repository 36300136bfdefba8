import Derived.Test.YtbjfeogkdfmjpaaSSb
namespace Go.Proofs.Ytbjfeogkdfmjpaa
open Go.RowKit

def totalL : List (List Int) → Nat
  | [] => 0
  | xs :: r => xs.length + totalL r
/-- What the law writes into rows of rows. -/
def marksSS (k : Int) : List (List Int) → List (List Int)
  | [] => []
  | xs :: r => marks k xs.length :: marksSS (k + xs.length) r
theorem marksSS_length (xss : List (List Int)) : ∀ k, (marksSS k xss).length = xss.length := by
  induction xss with
  | nil => intro k; rfl
  | cons xs r ih => intro k; simp [marksSS, ih]
theorem marksSS_at {xss : List (List Int)} : ∀ {k : Int} {j : Nat} {xs : List Int}, xss[j]? = some xs → (marksSS k xss)[j]? = some (marks (k + totalL (xss.take j)) xs.length) := by
  induction xss with
  | nil => intro k j xs h; simp at h
  | cons ys r ih =>
    intro k j xs h
    cases j with
    | zero => simp at h; subst h; simp [marksSS, totalL]
    | succ j =>
      simp at h
      have := ih (k := k + ys.length) h
      simp only [marksSS, List.getElem?_cons_succ, List.take_succ_cons, totalL]
      rw [this]
      congr 2
      omega
theorem totalL_succ {xss : List (List Int)} : ∀ {j : Nat} {xs : List Int}, xss[j]? = some xs → totalL (xss.take (j + 1)) = totalL (xss.take j) + xs.length := by
  induction xss with
  | nil => intro j xs h; simp at h
  | cons ys r ih =>
    intro j xs h
    cases j with
    | zero => simp at h; subst h; simp [totalL]
    | succ j =>
      simp at h
      simp only [List.take_succ_cons, totalL]
      rw [ih h]
      omega
theorem totalL_le {xss : List (List Int)} (h : ∀ xs ∈ xss, (xs.length : Int) ≤ 1048576) : ∀ j, totalL (xss.take j) ≤ j * 1048576 := by
  intro j
  induction j with
  | zero => rw [List.take_zero]; exact Nat.zero_le _
  | succ j ih =>
    by_cases hj : j < xss.length
    · rw [totalL_succ (List.getElem?_eq_getElem hj)]
      have := h xss[j] (List.getElem_mem hj)
      omega
    · have e1 : xss.take (j + 1) = xss := List.take_of_length_le (by omega)
      have e2 : xss.take j = xss := List.take_of_length_le (by omega)
      rw [e2] at ih
      rw [e1]
      exact Nat.le_trans ih (Nat.mul_le_mul_right _ (Nat.le_succ j))
theorem get_some {xss : List (List Int)} {k : Nat} (h : k < xss.length) : ∃ xs, xss[k]? = some xs := ⟨_, List.getElem?_eq_getElem h⟩
theorem own_ne {w : World} {b1 b2 e1 e2 n1 n2 : Nat} {v1 v2 : Value} {xs1 xs2 : List Value} (h1 : w.ownsRow b1 e1 1 v1 n1 xs1) (h2 : w.ownsRow b2 e2 1 v2 n2 xs2) (hne : e1 ≠ e2) : v1.ownBlock = none ∨ v1.ownBlock ≠ v2.ownBlock := by
  rcases h1.2 with ⟨rfl, _⟩ | ⟨g, cap, cur, rfl, _, hg, _⟩
  · left; rfl
  · right
    rcases h2.2 with ⟨rfl, _⟩ | ⟨g', cap', cur', rfl, _, hg', _⟩
    · simp [Value.ownBlock]
    · intro he
      have e : g = g' := by simpa [Value.ownBlock] using he
      subst e
      rw [hg] at hg'
      injection hg' with hg'
      injection hg' with _ hx
      exact hne hx
theorem own_base_of {w w' : World} {b1 b2 e n m : Nat} {v : Value} {xs ys : List Value} (h : w.ownsRow b1 e 1 v n xs) (h' : w'.ownsRow b2 e 1 v m ys) : w'.ownsRow b1 e 1 v m ys := by
  refine ⟨h'.1, ?_⟩
  rcases h'.2 with hn | ⟨g, cap, cur, hv, _, rest⟩
  · exact .inl hn
  · refine .inr ⟨g, cap, cur, hv, ?_, rest⟩
    exact (h.lt g (by rw [hv]; rfl)).1
/-- One row is written; the others are as they were. -/
theorem ownSS_set {w w' : World} {lo hi e n c k c1 : Nat} {A A1 : Option Addr} {xss : List (List Int)} {xs ys : List Int} (h : OwnSS w lo hi e A n c xss) (he : e ≠ 2) (hx : xss[k]? = some xs) (hl : ys.length = xs.length)
    (hrow : ∀ vals : List Value, w.ownsRow lo e 1 (.slice A n c) n vals → vals[k]? = some (.slice A1 xs.length c1)) (hg : w.grownBy w' (Value.slice A1 xs.length c1).ownBlock)
    (own : ∀ base, w.ownsRow base 2 1 (.slice A1 xs.length c1) xs.length (ints xs) → w'.ownsRow base 2 1 (.slice A1 xs.length c1) xs.length (ints ys)) : OwnSS w' lo hi e A n c (xss.set k ys) := by
  obtain ⟨vals, h1, hp, h2, h3, h4⟩ := h
  have hk := hrow vals h1
  obtain ⟨A', c', e1, o1, p1⟩ := h3 k xs hx
  rw [hk] at e1
  simp only [Option.some.injEq, Value.slice.injEq] at e1
  obtain ⟨rfl, _, rfl⟩ := e1
  refine ⟨vals, h1.kept hg (own_ne h1 o1 he), hp, by simp [h2], ?_, h4⟩
  intro j zs hj
  by_cases ej : j = k
  · subst ej
    have hlt : j < xss.length := (List.getElem?_eq_some_iff.1 hx).1
    rw [List.getElem?_set_self hlt] at hj
    injection hj with hj
    subst hj
    exact ⟨A1, c1, by rw [hl]; exact hk, by rw [hl]; exact own lo o1, by rw [hl]; exact p1⟩
  · rw [List.getElem?_set_ne (fun e => ej e.symm)] at hj
    obtain ⟨A2, c2, e2, o2, p2⟩ := h3 j zs hj
    refine ⟨A2, c2, e2, o2.kept hg ?_, p2⟩
    cases hb : (Value.slice A2 zs.length c2).ownBlock with
    | none => exact .inl rfl
    | some g => exact .inr fun h => h4 j k _ _ ej e2 hk g hb h.symm
/-- The value of a row, whichever way the outer row is told. -/
theorem row_unique {w : World} {b1 e n c : Nat} {A : Option Addr} {vs vs' : List Value} (h : w.ownsRow b1 e 1 (.slice A n c) n vs) (h' : w.ownsRow b1 e 1 (.slice A n c) n vs') : vs = vs' := by
  rcases h.2 with ⟨hv, h0⟩ | ⟨g, cap, cur, hv, _, hg, _, _, _, ht⟩
  · have e1 := h.1
    have e2 := h'.1
    subst h0
    simp at e1 e2
    rw [e1, e2]
  · rcases h'.2 with ⟨hv', h0⟩ | ⟨g', cap', cur', hv', _, hg', _, _, _, ht'⟩
    · rw [hv] at hv'; cases hv'
    · rw [hv] at hv'
      simp only [Value.slice.injEq, Option.some.injEq, Addr.mk.injEq, and_true, true_and] at hv'
      obtain ⟨rfl, rfl⟩ := hv'
      rw [hg] at hg'
      injection hg' with hg'
      injection hg' with hc
      subst hc
      rw [← ht, ← ht']

def markTo (k0 : Int) (xss : List (List Int)) (k : Nat) : List (List Int) := (marksSS k0 xss).take k ++ xss.drop k
theorem markTo_set {k0 : Int} {xss : List (List Int)} {k : Nat} {xs : List Int} (hx : xss[k]? = some xs) : (markTo k0 xss k).set k (marks (k0 + totalL (xss.take k)) xs.length) = markTo k0 xss (k + 1) := by
  have hk : k < xss.length := (List.getElem?_eq_some_iff.1 hx).1
  have hl : ((marksSS k0 xss).take k).length = k := by simp [marksSS_length]; omega
  unfold markTo
  rw [List.set_append_right _ _ (by omega), hl, Nat.sub_self, List.drop_eq_getElem_cons hk, List.set_cons_zero, List.take_add_one, marksSS_at hx]
  simp
theorem markTo_at {k0 : Int} {xss : List (List Int)} {k : Nat} {xs : List Int} (hx : xss[k]? = some xs) : (markTo k0 xss k)[k]? = some xs := by
  have hk : k < xss.length := (List.getElem?_eq_some_iff.1 hx).1
  have hl : ((marksSS k0 xss).take k).length = k := by simp [marksSS_length]; omega
  unfold markTo
  rw [List.getElem?_append_right (by omega), hl, Nat.sub_self, List.getElem?_drop, Nat.add_zero, hx]

set_option maxHeartbeats 800000 in
theorem markSS_any {A : Option Addr} {c n lo hi e : Nat} {xss : List (List Int)} (k0 : Int) (w : World) (ho : OwnSS w lo hi e A n c xss) (he : e ≠ 2) (hn : n ≤ 1048576) (hr : ∀ xs ∈ xss, (xs.length : Int) ≤ 1048576) (h0 : 0 ≤ k0) (h1 : k0 ≤ 100000000000000000) :
    Calls Try.prog 63 #[.slice A n c, .int .i64 k0] w fun e' w' => e' = .returned (.int .i64 (k0 + totalL xss)) ∧ OwnSS w' lo hi e A n c (marksSS k0 xss) ∧ Turns lo hi w w' := by
  have hx : xss.length = n := ho.choose_spec.2.2.1
  have HX := Lib.hid hx
  have HO := Lib.hid ho
  have HR := Lib.hid hr
  have HE := Lib.hid he
  clear hx ho hr he
  go_enter Try.func63, Try.ntmps63
  go_wp2
  go_loopw [1, 5] (fun q i wr => ∃ k t : Nat, k ≤ n ∧ i = .int .i64 k ∧ q = .int .i64 (k0 + t) ∧ t = totalL (xss.take k) ∧ OwnSS wr lo hi e A n c (markTo k0 xss k) ∧ Turns lo hi w wr) (fun _ i _ => n - (intOf i).toNat)
  case atStart => exact ⟨0, 0, Nat.zero_le _, rfl, by simp, by simp [totalL], by simpa [markTo] using HO.out, Turns.refl _ _ _⟩
  case round =>
    obtain ⟨k, t, hk, rfl, rfl, ht, own, tu⟩ := hrel
    have hb := totalL_le HR.out k
    have htb : t ≤ k * 1048576 := by omega
    have OWN := Lib.hid own
    have TU := Lib.hid tu
    have HT := Lib.hid ht
    clear own tu ht hb
    by_cases hlt : k < n
    · obtain ⟨xs, hxs⟩ := get_some (xss := xss) (k := k) (by rw [HX.out]; exact hlt)
      have hlen := HR.out xs (List.mem_of_getElem? hxs)
      obtain ⟨vals, a1, a2, a3, a4, a5⟩ := OWN.out
      obtain ⟨A', c', e1, o1, p1⟩ := a4 k xs (markTo_at hxs)
      obtain ⟨g, rfl⟩ := own_shape a1 (by omega)
      have hcell := own_cell a1 e1
      have hrow : ∀ vals' : List Value, wr.ownsRow lo e 1 (.slice (some ⟨g, 0, none⟩) n c) n vals' → vals'[k]? = some (.slice A' xs.length c') := fun vals' h => by rw [← row_unique a1 h]; exact e1
      have O1 := Lib.hid o1
      have P1 := Lib.hid p1
      have HROW := Lib.hid hrow
      have HXS := Lib.hid hxs
      clear a1 a2 a3 a4 a5 e1 o1 p1 hrow hxs
      go_wp2_with fail
      refine (mark_any (k0 + t) wr O1.out (by omega) (by omega) (by omega)).mono ?_
      rintro e' w1 ⟨rfl, own1, gr⟩
      have hnew := ownSS_set OWN.out HE.out (markTo_at HXS.out) (marks_length _ _) HROW.out gr (fun base hb => own_base_of hb own1)
      rw [HT.out, markTo_set HXS.out] at hnew
      have NEW := Lib.hid hnew
      have GR := Lib.hid gr
      clear hnew own1 gr
      go_wp2
      go_roundw
      case rel => exact ⟨k + 1, t + xs.length, by omega, by go_num, by go_num, by rw [totalL_succ HXS.out, HT.out], NEW.out, TU.out.trans (Turns.of_grown GR.out P1.out)⟩
      case measure => simp [intOf]; omega
    · go_wp2
      go_ret
      obtain rfl : k = n := by omega
      have e2 : xss.take k = xss := List.take_of_length_le (by rw [HX.out]; exact Nat.le_refl _)
      refine ⟨ret_i64 (by rw [HT.out, e2]), ?_, TU.out⟩
      have h := OWN.out
      unfold markTo at h
      rwa [List.take_of_length_le (by rw [marksSS_length, HX.out]; exact Nat.le_refl _), List.drop_of_length_le (by rw [HX.out]; exact Nat.le_refl _), List.append_nil] at h

set_option maxHeartbeats 800000 in
theorem heldSS_any {A : Option Addr} {c n : Nat} {xss : List (List Int)} (k0 : Int) (w : World) (hx : xss.length = n) (ha : RdSS w A (marksSS k0 xss)) (hn : n ≤ 1048576) (hr : ∀ xs ∈ xss, (xs.length : Int) ≤ 1048576) (h0 : 0 ≤ k0) (h1 : k0 ≤ 100000000000000000) :
    Calls Try.prog 65 #[.slice A n c, .int .i64 k0] w fun e' w' => e' = .returned (.int .i64 (k0 + totalL xss)) ∧ w = w' := by
  have HX := Lib.hid hx
  have HA := Lib.hid ha
  have HR := Lib.hid hr
  clear hx ha hr
  go_enter Try.func65, Try.ntmps65
  go_wp2
  go_loop [1, 5] (fun q i => ∃ k t : Nat, k ≤ n ∧ i = .int .i64 k ∧ q = .int .i64 (k0 + t) ∧ t = totalL (xss.take k)) (fun _ i => n - (intOf i).toNat)
  case atStart => exact ⟨0, 0, Nat.zero_le _, rfl, by simp, by simp [totalL]⟩
  case round =>
    obtain ⟨k, t, hk, rfl, rfl, ht⟩ := hrel
    have hb := totalL_le HR.out k
    have htb : t ≤ k * 1048576 := by omega
    have HT := Lib.hid ht
    clear ht hb
    by_cases hlt : k < n
    · obtain ⟨xs, hxs⟩ := get_some (xss := xss) (k := k) (by rw [HX.out]; exact hlt)
      have hlen := HR.out xs (List.mem_of_getElem? hxs)
      obtain ⟨b, o, A', c', ys, rfl, hg, hc, hrd, hm⟩ := HA.out.row (k := k) (by rw [marksSS_length, HX.out]; exact hlt)
      rw [marksSS_at hxs] at hg
      injection hg with hg
      subst hg
      rw [marks_length] at hc
      have HRD := Lib.hid hrd
      have HXS := Lib.hid hxs
      have HE := Lib.hid HT.out
      clear hrd hxs hm
      go_wp2_with fail
      refine (held_any (k0 + t) w (by rw [HT.out]; exact HRD.out) (by omega) (by omega) (by omega)).mono ?_
      rintro e' w1 ⟨rfl, rfl⟩
      clear HE
      go_wp2
      go_round
      case rel => exact ⟨k + 1, t + xs.length, by omega, by go_num, by go_num, by rw [totalL_succ HXS.out, HT.out]⟩
      case measure => simp [intOf]; omega
    · go_wp2
      go_ret
      obtain rfl : k = n := by omega
      have e2 : xss.take k = xss := List.take_of_length_le (by rw [HX.out]; exact Nat.le_refl _)
      exact ⟨ret_i64 (by rw [HT.out, e2]), rfl⟩
end Go.Proofs.Ytbjfeogkdfmjpaa
