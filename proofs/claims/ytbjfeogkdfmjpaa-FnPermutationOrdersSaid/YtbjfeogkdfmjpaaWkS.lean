import Derived.Test.YtbjfeogkdfmjpaaSort
import Derived.Test.YtbjfeogkdfmjpaaWkE
namespace Go.Proofs.Ytbjfeogkdfmjpaa
open Go.RowKit

set_option maxHeartbeats 800000 in
theorem own_any {A : Option Addr} {c n base : Nat} {xs : List Int} (w : World) (ho : w.ownsRow base 2 1 (.slice A n c) n (ints xs)) (hn : n ≤ 1048576) :
    Calls Try.prog 116 #[.slice A n c] w fun e w' => ∃ A' c', e = .returned (.slice A' n c') ∧ w'.ownsRow w.heap.size 2 1 (.slice A' n c') n (ints xs) ∧ Below w.heap.size w w' := by
  obtain ⟨i0, hi, hz0, hz1, hz2⟩ := info_parts Try.info2
  have hempty := World.ownsRow_made (base := w.heap.size) (e := 2) (size := 1) w #[] 0 (Nat.le_refl _) (Nat.zero_le _) (by simp)
  rcases ho.2 with ⟨hv, h0⟩ | ⟨g, cap, cur, hv, hbase, hb, h1, h2, h3, h4⟩
  · simp only [Value.slice.injEq] at hv
    obtain ⟨rfl, _, rfl⟩ := hv
    subst h0
    have hx : xs = [] := List.eq_nil_of_length_eq_zero (by simpa using ho.1)
    subst hx
    have HE := Lib.hid hempty
    clear ho hempty
    go_enter Try.func116, Try.ntmps116
    go_wp2_with (at_builtin; refine wpList_append_own_none rfl _ _ 24 rfl w.heap.size 2 i0 1 Try.underlying24 hi _ _ _ rfl HE.out rfl ?_)
    go_ret
    exact ⟨_, _, rfl, HE.out, (Below.refl _ _).alloc (Nat.le_refl _) _⟩
  · simp only [Value.slice.injEq, true_and] at hv
    obtain ⟨rfl, rfl⟩ := hv
    have hx : xs.length = n := by simpa using ho.1
    have HE := Lib.hid hempty
    have HX := Lib.hid hx
    have HO := Lib.hid ho
    clear ho hempty hx hb h1 h2 h3 h4
    go_enter Try.func116, Try.ntmps116
    go_wp2_with (at_builtin; refine wpList_append_own _ rfl _ _ 24 rfl w.heap.size 2 i0 (.int .i64 0) 1 8 Try.underlying24 hi hz0 hz1 hz2 rfl (by decide) _ _ _ rfl HE.out ⟨g, 0, none⟩ n c (ints xs) rfl ?c0 ?c1 ?c2 ?c3 ?c4 ?c5 ?_)
    case c0 => simp [HX.out]
    case c1 =>
      have h := (HO.out.alloc (.cells #[] 2)).cells (g := g) rfl
      exact h
    case c2 => exact ints_oneCell _ _
    case c3 => unfold maxLen; omega
    case c4 => omega
    case c5 => simp
    · intro v' w1 own' gr _
      rcases own'.2 with ⟨hnil, h0⟩ | ⟨g', cap', cur', rfl, rest⟩
      · subst h0
        have hbel : Below w.heap.size w w1 := ((Below.refl _ _).alloc (Nat.le_refl _) _).grown gr (by simp) (fun k hk => by simp [Value.ownBlock] at hk; omega)
        subst hnil
        have OWN := Lib.hid own'
        have BEL := Lib.hid hbel
        clear own' gr hbel
        go_wp2
        go_ret
        exact ⟨_, _, rfl, OWN.out, BEL.out⟩
      · have hbel : Below w.heap.size w w1 := ((Below.refl _ _).alloc (Nat.le_refl _) _).grown gr (by simp) (fun k hk => by simp [Value.ownBlock] at hk; omega)
        have OWN := Lib.hid own'
        have BEL := Lib.hid hbel
        clear own' gr hbel rest
        go_wp2
        go_ret
        exact ⟨_, _, rfl, OWN.out, BEL.out⟩

theorem _root_.Go.World.ownsRow.drewN' {w : World} {base e size n : Nat} {v : Value} {vs : List Value} (h : w.ownsRow base e size v n vs) (k : Nat) : (w.drewN k).ownsRow base e size v n vs := h
set_option maxHeartbeats 1600000 in
theorem ssort_any {A : Option Addr} {c n base : Nat} {xs : List Int} (w : World) (ho : w.ownsRow base 2 1 (.slice A n c) n (ints xs)) (hn : n ≤ 1048576) :
    Calls Try.prog 101 #[.slice A n c] w fun e w' => ∃ A' c', e = .returned (.slice A' n c') ∧ w'.ownsRow w.heap.size 2 1 (.slice A' n c') n (ints (sortL xs)) ∧ Below w.heap.size w w' := by
  have HO := Lib.hid ho
  clear ho
  go_enter Try.func101, Try.ntmps101
  go_wp2_with fail
  refine (own_any w HO.out hn).mono ?_
  rintro e w1 ⟨A1, c1, rfl, own, bel⟩
  have hlx : xs.length = n := by simpa using own.1
  have HLX := Lib.hid hlx
  have OWN := Lib.hid own
  have BEL := Lib.hid bel
  clear own bel HO hlx
  go_wp2
  go_loopw [4] (fun q wr => ∃ (i : Nat) (L : List Int), 1 ≤ i ∧ q = .int .i64 i ∧ wr.ownsRow w.heap.size 2 1 (.slice A1 n c1) n (ints L) ∧ L.Perm xs ∧ (L.take i).Pairwise (· ≤ ·) ∧ Below w.heap.size w wr) (fun q _ => n - (intOf q).toNat)
  case atStart => exact ⟨1, xs, by omega, rfl, OWN.out, List.Perm.refl _, by cases xs <;> simp, BEL.out⟩
  case round =>
    obtain ⟨i, L, hi, rfl, own, hp, hs, bel⟩ := hrel
    have hlen : L.length = n := by simpa using own.1
    have OWN2 := Lib.hid own
    have BEL2 := Lib.hid bel
    have HP := Lib.hid hp
    have HS := Lib.hid hs
    have HL := Lib.hid hlen
    clear own bel hp hs hlen OWN BEL
    by_cases hlt : i < n
    · obtain ⟨g, rfl⟩ := own_shape OWN2.out (by omega)
      obtain ⟨x, R, hst⟩ := ins_start HP.out (i := i) (by rw [HL.out]; exact hlt) HS.out
      have ST := Lib.hid hst
      clear hst
      go_wp2
      go_loopw [5] (fun q wi => ∃ (k : Nat) (L' P S R' : List Int) (x' : Int), k ≤ i ∧ q = .int .i64 k ∧ Ins L' xs i k P x' S R' ∧ wi.ownsRow w.heap.size 2 1 (.slice (some ⟨g, 0, none⟩) n c1) n (ints L') ∧ Below w.heap.size w wi) (fun q _ => (intOf q).toNat)
      case atStart => exact ⟨i, L, _, _, _, _, Nat.le_refl _, rfl, ST.out, OWN2.out, BEL2.out⟩
      case round =>
        obtain ⟨k, L', P, S, R', x', hki, rfl, ins, own, bel⟩ := hrel
        have hlen : L'.length = n := by simpa using own.1
        have INS := Lib.hid ins
        have OWN3 := Lib.hid own
        have BEL3 := Lib.hid bel
        have HL3 := Lib.hid hlen
        clear ins own bel ST OWN2 BEL2 HP HS HL hlen
        by_cases hk : k < 1
        · have hk0 : k = 0 := by omega
          have hd : decide ((0 : Int) < (k : Int)) = false := decide_eq_false (by omega)
          have hd2 : decide (0 < k) = false := decide_eq_false (by omega)
          have HK := Lib.hid hk0
          clear hk hk0
          go_wp2
          go_quiet (fail)
          go_wp2
          go_roundw
          case rel => exact ⟨i + 1, L', by omega, by go_num, OWN3.out, INS.out.perm, ins_zero (HK.out ▸ INS.out), below_drewN BEL3.out _⟩
          case measure => simp [intOf]; omega
        · have hk1 : 1 ≤ k := by omega
          have hk1' : (0 : Int) < (k : Int) := by omega
          have hk2 : 0 < k := by omega
          obtain ⟨Q, y, hy, hmv, hdn⟩ := ins_move INS.out hk1
          have hcx := own_cell OWN3.out (k := k) (u := .int .i64 x') (by simp [ins_at INS.out])
          have hcy := own_cell OWN3.out (k := k - 1) (u := .int .i64 y) (by simp [hy])
          have hf1 := OWN3.out.frozenAt k
          have hf2 := OWN3.out.frozenAt (k - 1)
          have hkn : k < n := by omega
          by_cases hxy : x' < y
          · have MV := Lib.hid (hmv hxy)
            clear hmv hdn hy hk
            go_wp2
            go_quiet (fail)
            go_wp2
            go_roundw
            case rel =>
              have h1 := OWN3.out.drewN' nq
              have h2 := (h1.stored k (.int .i64 y)).1
              have h3 := (h2.stored (k - 1) (.int .i64 x')).1
              rw [ints_set, ints_set] at h3
              refine ⟨k - 1, _, _, _, _, _, by omega, by rw [show ((k - 1 : Nat) : Int) = (k : Int) - 1 by omega], MV.out, h3, ((below_drewN BEL3.out _).setCell ?_ _).setCell ?_ _⟩
              · exact (OWN3.out.lt g rfl).1
              · exact (OWN3.out.lt g rfl).1
            case measure => simp [intOf]; omega
          · have DN := Lib.hid (hdn hxy)
            have hxy' : decide (x' < y) = false := decide_eq_false hxy
            clear hmv hdn hy hk
            go_wp2
            go_quiet (fail)
            go_wp2
            go_roundw
            case rel => exact ⟨i + 1, L', by omega, by go_num, OWN3.out, INS.out.perm, DN.out, below_drewN BEL3.out _⟩
            case measure => simp [intOf]; omega
    · go_wp2
      go_ret
      have hs := HS.out
      rw [List.take_of_length_le (by rw [HL.out]; omega)] at hs
      rw [← sortL_eq HP.out hs]
      exact ⟨_, _, rfl, OWN2.out, BEL2.out⟩
end Go.Proofs.Ytbjfeogkdfmjpaa
