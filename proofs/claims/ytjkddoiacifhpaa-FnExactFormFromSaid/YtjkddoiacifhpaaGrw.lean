import Derived.Test.YtjkddoiacifhpaaWd5
import Derived.Lib.AppendZerosOnto
import Derived.Lib.SliceRun
namespace Go.Proofs.Ytjkddoiacifhpaa
open Go.RowKit Go.Lib

theorem zc_size (v : Value) (k : Nat) : (Builtin.zeroCells #[v] k).size = k := by
  unfold Builtin.zeroCells
  simp
set_option maxHeartbeats 2000000 in
theorem grow_any (n : Nat) (w : World) (hn : n ≤ 1048576) :
    Calls Try.prog 217 #[.slice none 0 0, .int .i64 n] w fun e w' => ∃ A c, e = .returned (.slice A 0 c) ∧ w'.ownsRow w.heap.size 24 1 (.slice A 0 c) 0 [] ∧ Below w.heap.size w w' := by
  by_cases h0 : n = 0
  · subst h0
    go_enter Try.func217, Try.ntmps217
    go_wp2
    go_ret
    exact ⟨none, 0, rfl, World.ownsRow_nil _ _ _ _, Below.refl _ _⟩
  · obtain ⟨i, hi, hzz⟩ := Option.map_eq_some_iff.1 Try.infoS
    simp only [Prod.mk.injEq] at hzz
    obtain ⟨hz, hs1, hb1⟩ := hzz
    have hrz : ∀ ty, (Builtin.append_ #[35, 3] ty #[.slice none 0 0, .int .i64 (n : Int)]).run Try.prog w =
        .ok (.slice (some ⟨w.heap.size, 0, none⟩) n (grownCap w n 0 24)) (w.drew.alloc (.cells (([] : List Value).toArray ++ Builtin.zeroCells (Value.slice none 0 0).cells n ++ Builtin.zeroCells (Value.slice none 0 0).cells (grownCap w n 0 24 - n)) 24)) := fun ty => by
      have h := Lib.run_append_grow_zeros (P := Try.prog) w 35 3 ty 24 i (.slice none 0 0) .i64 .i64 Try.underlying35 Try.underlying3 hi hz none 0 0 [] (run_firstCells_none w.drew i.size 0 0 0) n (by omega) (by omega) (by omega) (by omega) (by rw [hb1]; omega) (by rw [Nat.zero_add]; exact growslice_fits (by omega) (by rw [hb1]; omega))
      simpa using h
    have hge := grownCap_ge w n 0 24
    have hle := grownCap_le_maxLen w n 0 24 (by unfold maxLen; omega)
    obtain ⟨G, hG⟩ : ∃ G, G = grownCap w n 0 24 := ⟨_, rfl⟩
    rw [← hG] at hrz hge hle
    unfold maxLen at hle
    have h1 : ¬ ((n : Int) < 0) := by omega
    have h2 : (n : Int) > 0 := by omega
    clear hG hz hs1 hb1 hi
    go_enter Try.func217, Try.ntmps217
    go_wp2_with (at_builtin; refine Lib.wpList_append_run _ rfl _ _ _ _ rfl _ _ rfl rfl _ _ (hrz _) ?_)
    go_ret
    refine ⟨_, G, rfl, ⟨by simp, .inr ⟨w.heap.size, G, _, rfl, Nat.le_refl _, heap_alloc_new w.drew _, Nat.zero_le _, by unfold maxLen; omega, ?_, by simp⟩⟩, below_drewN (Below.refl _ _) 1 |>.alloc (by simp) _⟩
    simp [zc_size]
    omega

/-- How many elements the first j of two lists have. -/
def twoTo (n1 n2 : Nat) : Nat → Nat
  | 0 => 0
  | 1 => n1
  | _ => n1 + n2
def twoL {α : Type} (l1 l2 : List α) : Nat → List α
  | 0 => []
  | 1 => l1
  | _ => l1 ++ l2
theorem rows_one {w : World} {xss : List (List Int)} {vals : List Value} (hl : vals.length = xss.length)
    (h : ∀ (j : Nat) (xs : List Int), xss[j]? = some xs → ∃ (A' : Option Addr) (c' : Nat), vals[j]? = some (Value.slice A' xs.length c') ∧ Rd w A' (ints xs) ∧ xs.length ≤ 9223372036854775807) : ∀ u ∈ vals, u.oneCell' = true := by
  intro u hu
  obtain ⟨j, hj, rfl⟩ := List.mem_iff_getElem.1 hu
  obtain ⟨A', c', h1, _, _⟩ := h j _ (List.getElem?_eq_getElem (by omega))
  rw [List.getElem?_eq_getElem hj] at h1
  injection h1 with h1
  rw [h1]
  rfl
/-- One of two slices: its rows, where they lie. -/
structure Part (w : World) (b o n c : Nat) (xss : List (List Int)) (vals : List Value) : Prop where
  lv : vals.length = n
  lx : xss.length = n
  cell : ∀ k u, vals[k]? = some u → w.cell? ⟨b, o + k, none⟩ = some u
  row : ∀ (j : Nat) (xs : List Int), xss[j]? = some xs → ∃ (A' : Option Addr) (c' : Nat), vals[j]? = some (Value.slice A' xs.length c') ∧ Rd w A' (ints xs) ∧ xs.length ≤ 9223372036854775807
theorem part_of {w : World} {b o n c : Nat} {xss : List (List Int)} (hl : xss.length = n) (h : RdSS w (some ⟨b, o, none⟩) xss) : ∃ vals, Part w b o n c xss vals := by
  obtain ⟨vals, h1, h2, h3⟩ := h
  refine ⟨vals, by omega, hl, fun k u hu => ?_, h3⟩
  obtain ⟨b', o', he, hc⟩ := h1 (by have := (List.getElem?_eq_some_iff.1 hu).1; omega)
  obtain ⟨rfl, rfl⟩ : b = b' ∧ o = o' := by simpa using he
  exact hc k u hu
theorem Part.keep {w w' : World} {b o n c : Nat} {xss : List (List Int)} {vals : List Value} (h : Part w b o n c xss vals) (hb : Below w.heap.size w w') : Part w' b o n c xss vals :=
  ⟨h.lv, h.lx, fun k u hu => cell_be (h.cell k u hu) hb, fun j xs hj => by obtain ⟨A', c', h1, h2, h3⟩ := h.row j xs hj; exact ⟨A', c', h1, h2.keep hb, h3⟩⟩
theorem two_rd {w : World} {b1 o1 n1 c1 b2 o2 n2 c2 : Nat} {x1 x2 : List (List Int)} {v1 v2 : List Value} {A : Option Addr} (h1 : Part w b1 o1 n1 c1 x1 v1) (h2 : Part w b2 o2 n2 c2 x2 v2) (h : Rd w A (v1 ++ v2)) : RdSS w A (x1 ++ x2) := by
  refine ⟨v1 ++ v2, h, by simp [h1.lv, h1.lx, h2.lv, h2.lx], fun j xs hj => ?_⟩
  by_cases hlt : j < x1.length
  · rw [List.getElem?_append_left hlt] at hj
    obtain ⟨A', c', a1, a2, a3⟩ := h1.row j xs hj
    exact ⟨A', c', by rw [List.getElem?_append_left (by have := h1.lv; have := h1.lx; omega)]; exact a1, a2, a3⟩
  · rw [List.getElem?_append_right (by omega)] at hj
    obtain ⟨A', c', a1, a2, a3⟩ := h2.row _ xs hj
    exact ⟨A', c', by rw [List.getElem?_append_right (by have := h1.lv; have := h1.lx; omega), h1.lv, ← h1.lx]; exact a1, a2, a3⟩

/-- 'append' of all elements of a slice onto a slice that the call owns. -/
theorem wpList_cat {P : Program} (w : World) {ops : Array Oper} {rest : List Oper} {o : Oper} {a : Act} {Q : Exit → Act → World → Prop} (hgd : o.guard = none) (s x : Operand) (t e : TypeId)
    (ho : o.op = .call { callee := .builtin .append, args := #[s, x], argTypes := #[t, t] }) (ht : P.underlying t = some (.slice e))
    (z : Value) (bytes : Nat) (hinfo : (P.info? e).map (fun i => (i.zero, i.size, i.bytes)) = some (some z, 1, bytes)) (hz : z.cells.size = 1)
    (base : Nat) (v : Value) (n : Nat) (vs : List Value) (hs : a.eval s = v) (hown : w.ownsRow base e 1 v n vs) (ad : Addr) (m c : Nat) (us : List Value)
    (hx : a.eval x = .slice (some ad) m c) (hl : us.length = m) (hus : ∀ j u, us[j]? = some u → w.cell? (ad.add j) = some u) (h1 : ∀ u ∈ us, u.oneCell' = true) (hn : (n + m) * bytes ≤ 140737488355328) (hm : n + m ≤ 9223372036854775807) (hb : base ≤ w.heap.size)
    (h : ∀ A' c' w', w'.ownsRow base e 1 (.slice A' (n + m) c') (n + m) (vs ++ us) → w.grownBy w' v.ownBlock → wpList P ops Q rest (a.put o.dst (.slice A' (n + m) c')) w') :
    wpList P ops Q (o :: rest) a w := by
  obtain ⟨i, hi, hzz⟩ := Option.map_eq_some_iff.1 hinfo
  simp only [Prod.mk.injEq] at hzz
  obtain ⟨e1, e2, e3⟩ := hzz
  refine wpList_append_own _ hgd s x t ho base e i z 1 bytes ht hi e1 e2 e3 hz (by decide) v n vs hs hown ad m c us hx (by omega) hus h1 (by unfold maxLen; omega) hn hb ?_
  intro v' w' hown' hg _
  have hown2 := hown'
  rcases hown'.2 with ⟨rfl, h0⟩ | ⟨g, cap, cur, rfl, rest⟩
  · have hn0 : n = 0 := by omega
    have hm0 : m = 0 := by omega
    subst hn0
    subst hm0
    exact h none 0 _ hown2 hg
  · exact h _ _ _ hown2 hg
theorem Addr.add_zero_spot (b o j : Nat) : (⟨b, o, none⟩ : Addr).add j = ⟨b, o + j, none⟩ := by simp [Addr.add]

set_option maxHeartbeats 3200000 in
theorem concat_any {g b1 o1 n1 c1 b2 o2 n2 c2 : Nat} {x1 x2 : List (List Int)} {v1 v2 : List Value} (w : World) (p1 : Part w b1 o1 n1 c1 x1 v1) (p2 : Part w b2 o2 n2 c2 x2 v2) (hn1 : n1 ≤ 1048576) (hn2 : n2 ≤ 100)
    (hc1 : w.cell? ⟨g, 0, none⟩ = some (.slice (some ⟨b1, o1, none⟩) n1 c1)) (hc2 : w.cell? ⟨g, 1, none⟩ = some (.slice (some ⟨b2, o2, none⟩) n2 c2)) (hs : n1 + n2 ≤ 100000) :
    Calls Try.prog 180 #[.slice (some ⟨g, 0, none⟩) 2 2] w fun e w' => ∃ A' c', e = .returned (.slice A' (n1 + n2) c') ∧ RdSS w' A' (x1 ++ x2) ∧ Below w.heap.size w w' := by
  have P1 := Lib.hid p1
  have P2 := Lib.hid p2
  have C1 := Lib.hid hc1
  have C2 := Lib.hid hc2
  clear p1 p2
  go_enter Try.func180, Try.ntmps180
  go_wp2
  go_loop [3, 11] (fun v i => ∃ k : Nat, k ≤ 2 ∧ i = .int .i64 k ∧ v = .int .i64 (twoTo n1 n2 k)) (fun _ i => 2 - (intOf i).toNat)
  case atStart => exact ⟨0, by omega, rfl, rfl⟩
  case round =>
    obtain ⟨k, hk, rfl, rfl⟩ := hrel
    by_cases hlt : k < 2
    · by_cases h0 : k = 0
      · subst h0
        simp only [twoTo]
        go_wp2
        go_round
        case rel => exact ⟨1, by omega, by go_num, by simp⟩
        case measure => simp [intOf]
      · obtain rfl : k = 1 := by omega
        simp only [twoTo]
        go_wp2
        go_round
        case rel => exact ⟨2, by omega, by go_num, by simp⟩
        case measure => simp [intOf]
    · obtain rfl : k = 2 := by omega
      have e2 : twoTo n1 n2 2 = n1 + n2 := rfl
      rw [e2]
      clear e2 hk hlt
      go_wp2_with fail
      refine (grow_any (n1 + n2) w (by omega)).mono ?_
      rintro e w1 ⟨A, c, rfl, own, bel⟩
      have OWN := Lib.hid own
      have BEL := Lib.hid bel
      clear own bel hc1 hc2
      go_wp2
      go_loopw [6, 27] (fun v i wr => ∃ (k : Nat) (A : Option Addr) (c : Nat), k ≤ 2 ∧ i = .int .i64 k ∧ v = .slice A (twoTo n1 n2 k) c ∧ wr.ownsRow w.heap.size 24 1 (.slice A (twoTo n1 n2 k) c) (twoTo n1 n2 k) (twoL v1 v2 k) ∧ Below w.heap.size w wr) (fun _ i _ => 2 - (intOf i).toNat)
      case atStart => exact ⟨0, A, c, by omega, rfl, rfl, OWN.out, BEL.out⟩
      case round =>
        obtain ⟨k, A2, c2', hk, rfl, rfl, own, bel⟩ := hrel
        have OW := Lib.hid own
        have BE := Lib.hid bel
        have hsz := bel.size
        have hc1 := cell_be C1.out bel
        have hc2 := cell_be C2.out bel
        clear own bel OWN BEL
        have q1 := P1.out.keep BE.out
        have q2 := P2.out.keep BE.out
        by_cases hlt : k < 2
        · by_cases h0 : k = 0
          · subst h0
            have e0 : twoTo n1 n2 0 = 0 := rfl
            have ow := OW.out
            rw [e0] at ow ⊢
            have OW0 := Lib.hid ow
            have Q := Lib.hid q1
            clear ow e0 q1 q2 OW
            go_wp2_with (at_builtin; refine wpList_cat _ rfl _ _ 35 24 rfl Try.underlying35 (.slice none 0 0) 24 Try.infoS rfl w.heap.size _ 0 [] rfl OW0.out ⟨b1, o1, none⟩ n1 c1 v1 rfl Q.out.lv ?h2 (rows_one (by rw [Q.out.lv, Q.out.lx]) Q.out.row) (by omega) (by omega) hsz ?_)
            case h2 => exact fun j u hj => by rw [Addr.add_zero_spot]; exact Q.out.cell j u hj
            intro A5 c5 w5 own5 gr5
            have B5 := Lib.hid (BE.out.grown gr5 hsz fun q hq => (OW0.out.lt q hq).1)
            have O5 := Lib.hid own5
            clear own5 gr5
            go_wp2
            go_roundw
            case rel => exact ⟨1, A5, c5, by omega, by go_num, rfl, by simpa [twoTo, twoL] using O5.out, B5.out⟩
            case measure => simp [intOf]
          · obtain rfl : k = 1 := by omega
            have e0 : twoTo n1 n2 1 = n1 := rfl
            have ow := OW.out
            rw [e0] at ow ⊢
            have OW0 := Lib.hid ow
            have Q := Lib.hid q2
            clear ow e0 q1 q2 OW
            go_wp2_with (at_builtin; refine wpList_cat _ rfl _ _ 35 24 rfl Try.underlying35 (.slice none 0 0) 24 Try.infoS rfl w.heap.size _ n1 v1 rfl OW0.out ⟨b2, o2, none⟩ n2 c2 v2 rfl Q.out.lv ?h2 (rows_one (by rw [Q.out.lv, Q.out.lx]) Q.out.row) (by omega) (by omega) hsz ?_)
            case h2 => exact fun j u hj => by rw [Addr.add_zero_spot]; exact Q.out.cell j u hj
            intro A5 c5 w5 own5 gr5
            have B5 := Lib.hid (BE.out.grown gr5 hsz fun q hq => (OW0.out.lt q hq).1)
            have O5 := Lib.hid own5
            clear own5 gr5
            go_wp2
            go_roundw
            case rel => exact ⟨2, A5, c5, by omega, by go_num, rfl, by simpa [twoTo, twoL] using O5.out, B5.out⟩
            case measure => simp [intOf]
        · obtain rfl : k = 2 := by omega
          have Q1 := Lib.hid q1
          have Q2 := Lib.hid q2
          clear q1 q2
          go_wp2
          go_ret
          exact ⟨A2, c2', rfl, two_rd Q1.out Q2.out (own_rd OW.out), BE.out⟩
end Go.Proofs.Ytjkddoiacifhpaa
