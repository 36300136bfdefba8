import Derived.Test.YtbjfeogkdfmjpaaSum
namespace Go.Proofs.Ytbjfeogkdfmjpaa
open Go.RowKit

def PL : List Int := [2, 3, 5, 7, 11, 13, 17, 19, 23, 29, 31, 37, 41, 43, 47]
theorem PL_mem {x : Int} (h : x ∈ PL) : 2 ≤ x ∧ x ≤ 47 := by simp [PL] at h; omega
structure PrSt (w2 wr : World) (A' : Option Addr) (m c' : Nat) (L : List Int) : Prop where
  own : wr.ownsRow w2.heap.size 2 1 (.slice A' m c') m (ints L)
  pr : Rd wr (some ⟨w2.heap.size + 1, 0, none⟩) (ints PL)
  ne : ∀ k, (Value.slice A' m c').ownBlock = some k → k ≠ w2.heap.size + 1
  hd : L = [] ∨ L[0]? = some 1
  bel : Below w2.heap.size w2 wr
theorem PrSt.len {w2 wr : World} {A' : Option Addr} {m c' : Nat} {L : List Int} (h : PrSt w2 wr A' m c' L) : L.length = m := by have := h.own.1; simpa using this
theorem PrSt.push {w2 wr w4 : World} {A' A4 : Option Addr} {m c' c4 : Nat} {L : List Int} {y : Int} {o : Obj} (h : PrSt w2 wr A' m c' L) (own4 : w4.ownsRow w2.heap.size 2 1 (.slice A4 (m + 1) c4) (m + 1) (ints L ++ [.int .i64 y]))
    (gr : (wr.alloc o).grownBy w4 (Value.slice A' m c').ownBlock) (hy : L = [] → y = 1) : PrSt w2 w4 A4 (m + 1) c4 (L ++ [y]) := by
  have hp4 : Rd w4 (some ⟨w2.heap.size + 1, 0, none⟩) (ints PL) := (h.pr.keep ((Below.refl _ _).alloc (Nat.le_refl _) o)).grown gr fun b o e he => by
    simp only [Option.some.injEq, Addr.mk.injEq] at e
    exact h.ne b he.symm e.1.symm
  have hhd : (L ++ [y])[0]? = some 1 := by
    rcases h.hd with h1 | h1
    · subst h1; simp [hy rfl]
    · rw [List.getElem?_append_left (List.getElem?_eq_some_iff.1 h1).1]; exact h1
  have own5 : w4.ownsRow w2.heap.size 2 1 (.slice A4 (m + 1) c4) (m + 1) (ints (L ++ [y])) := by simpa using own4
  refine ⟨own5, hp4, ?_, .inr hhd, ?_⟩
  · intro k hk he
    obtain ⟨g, rfl⟩ := own_shape own4 (Nat.succ_pos m)
    have hg : g = k := by simpa [Value.ownBlock] using hk
    subst hg
    have h1 := own_cell own5 (k := 0) (u := .int .i64 1) (by rw [ints, List.getElem?_map, hhd]; rfl)
    obtain ⟨b, o', e, hc⟩ := hp4 (by simp [PL])
    have h2 := hc 0 (.int .i64 2) rfl
    simp only [Option.some.injEq, Addr.mk.injEq] at e
    obtain ⟨rfl, rfl, _⟩ := e
    rw [he] at h1
    simp only [Nat.add_zero] at h2
    rw [h1] at h2
    simp at h2
  · exact (h.bel.alloc h.bel.size o).grown gr (by have := h.bel.size; simp; omega) fun b hb => (h.own.lt b hb).1

set_option maxHeartbeats 3200000 in
set_option maxRecDepth 8000 in
theorem drawOrd {A : Option Addr} {n c : Nat} {bs : List Value} (w : World) (hl : bs.length = n) (hr : Rd w A bs) (hu : ∀ v ∈ bs, ∃ x : Nat, v = .int .u8 x ∧ x < 256) (hn : n ≤ 1048576) :
    Calls Try.prog 20 #[.slice A n c] w (RetLs w) := by
  have HL := Lib.hid hl
  have HR := Lib.hid hr
  have HU := Lib.hid hu
  clear hl hr hu
  go_enter Try.func20, Try.ntmps20
  go_wp2_with fail
  refine (from_any w HL.out HR.out HU.out hn).mono ?_
  rintro e w1 ⟨g, at', h', rfl, hg, hg1, src, bel⟩
  have S1 := Lib.hid (show SrcE w1 g A n c bs from ⟨at', h', src⟩)
  have BEL := Lib.hid bel
  clear src bel
  go_wp2_with fail
  refine (nextE w1 S1.out hn (by omega)).mono ?_
  rintro e w2 ⟨q, rfl, hq, s2, t2⟩
  have S2 := Lib.hid s2
  have B2 := Lib.hid (t2.below BEL.out (by have := BEL.out.size; omega) hg)
  have T2 := Lib.hid t2
  have hz2 := t2.size
  clear s2 t2
  by_cases hq0 : q = 0
  · subst hq0
    have hs1 : (w2.alloc (Obj.cells #[] 2)).heap.size = w2.heap.size + 1 := by simp
    have hlit := lit_rd (w2.alloc (Obj.cells #[] 2)) PL 2
    rw [hs1] at hlit
    have ST := Lib.hid (show PrSt w2 _ (some ⟨w2.heap.size, 0, none⟩) 0 0 [] from ⟨by simpa using (World.ownsRow_made (base := w2.heap.size) (e := 2) (size := 1) w2 #[] 0 (Nat.le_refl _) (Nat.zero_le _) (by simp)).alloc _, hlit, fun k hk => by simp [Value.ownBlock] at hk; omega, .inl rfl, ((Below.refl _ _).alloc (Nat.le_refl _) _).alloc (by simp) _⟩)
    clear hlit
    go_wp2
    go_loopw [4, 6] (fun v q wr => ∃ (i m c' : Nat) (A' : Option Addr) (L : List Int), i ≤ 15 ∧ m ≤ 400 ∧ (m = 0 → i = 0) ∧ q = .int .i64 i ∧ v = .slice A' m c' ∧ PrSt w2 wr A' m c' L) (fun _ q _ => 15 - (intOf q).toNat)
    case atStart => exact ⟨0, 0, 0, _, [], by omega, by omega, fun _ => rfl, rfl, rfl, ST.out⟩
    case round =>
      obtain ⟨i, m, c', A', L, hi, hm, hmi, rfl, rfl, st⟩ := hrel
      have S := Lib.hid st
      clear st ST
      by_cases hlt : i < 15
      · obtain ⟨bb, oo, x, he, hgx, hcx⟩ := S.out.pr.int (k := i) hlt
        simp only [Option.some.injEq, Addr.mk.injEq] at he
        obtain ⟨rfl, rfl, _⟩ := he
        rw [Nat.zero_add] at hcx
        have hxb := PL_mem (List.mem_of_getElem? hgx)
        obtain ⟨P, rfl⟩ := Int.eq_ofNat_of_zero_le (show 0 ≤ x by omega)
        have h2 : i = 0 → P = 2 := fun h => by subst h; simp [PL] at hgx; omega
        have HGX := Lib.hid hgx
        clear hgx
        by_cases hle : (m : Int) + (P : Int) ≤ 400
        · have hz : ((P : Int) == 0) = false := by rw [beq_eq_false_iff_ne]; omega
          go_wp2
          clear hcx
          go_loopw [4, 8] (fun v q wi => ∃ (k m2 c2 : Nat) (A2 : Option Addr) (L2 : List Int), k ≤ P ∧ m2 = m + k ∧ q = .int .i64 k ∧ v = .slice A2 m2 c2 ∧ PrSt w2 wi A2 m2 c2 L2) (fun _ q _ => P - (intOf q).toNat)
          case atStart => exact ⟨0, m, c', A', L, Nat.zero_le _, rfl, rfl, rfl, S.out⟩
          case round =>
            obtain ⟨k, m2, c2, A2, L2, hk, rfl, rfl, rfl, st2⟩ := hrel
            have SI := Lib.hid st2
            have hsz := st2.bel.size
            clear st2 S
            obtain ⟨bb, oo, x, he, hgx, hcx⟩ := SI.out.pr.int (k := i) hlt
            simp only [Option.some.injEq, Addr.mk.injEq] at he
            obtain ⟨rfl, rfl, _⟩ := he
            rw [Nat.zero_add] at hcx
            rw [HGX.out] at hgx
            injection hgx with hgx
            subst hgx
            by_cases hkP : k < P
            · have hb1 : 0 ≤ ((k : Int) + 1) % (P : Int) := Int.emod_nonneg _ (by omega)
              have hb2 : ((k : Int) + 1) % (P : Int) < (P : Int) := Int.emod_lt_of_pos _ (by omega)
              have HY := Lib.hid (show L2 = [] → (m : Int) + ((k : Int) + 1) % (P : Int) = 1 from fun h => by
                have hl := SI.out.len
                rw [h] at hl
                have hm0 : m = 0 := by simp at hl; omega
                have hk0 : k = 0 := by simp at hl; omega
                have hP := h2 (hmi hm0)
                subst hm0 hk0 hP
                rfl)
              go_wp2_with (at_builtin; refine wpList_push2 _ rfl _ _ 24 2 rfl Try.underlying24 (.int .i64 0) 8 Try.info2 rfl w2.heap.size _ _ _ rfl SI.out.own _ rfl rfl (by omega) (by omega) (by omega) ?_)
              intro A5 c5 w5 own5 gr5
              have S6 := Lib.hid (SI.out.push own5 gr5 HY.out)
              clear own5 gr5
              go_wp2
              go_roundw
              case rel => exact ⟨k + 1, m + k + 1, c5, A5, _, by omega, by omega, by go_num, rfl, S6.out⟩
              case measure => simp [intOf]; omega
            · go_wp2
              go_roundw
              case rel => exact ⟨i + 1, m + k, c2, A2, L2, by omega, by omega, by omega, by go_num, rfl, SI.out⟩
              case measure => simp [intOf]; omega
        · go_wp2
          go_ret
          have hz1 := BEL.out.size
          exact ⟨A', c', m, L, rfl, S.out.len, by omega, own_base S.out.own (by omega), B2.out.trans (S.out.bel.mono (by omega))⟩
      · go_wp2
        go_ret
        have hz1 := BEL.out.size
        exact ⟨A', c', m, L, rfl, S.out.len, by omega, own_base S.out.own (by omega), B2.out.trans (S.out.bel.mono (by omega))⟩
  · have hne : (q == 0) = false := by rw [beq_eq_false_iff_ne]; exact hq0
    go_wp2_with fail
    refine (sizeE w2 S2.out hn).mono ?_
    rintro e w3 ⟨r, rfl, ⟨hr0, hr1⟩, s3, t3⟩
    obtain ⟨N, rfl⟩ := Int.eq_ofNat_of_zero_le hr0
    have S3 := Lib.hid s3
    have T3 := Lib.hid (T2.out.trans t3)
    have hz3 := t3.size
    clear s3 t3
    go_wp2_with fail
    refine (spoilE w3 S3.out hn (by omega)).mono ?_
    rintro e w4 ⟨A4, c4, L4, rfl, hL4, own4, s4, t4⟩
    have HL4 := Lib.hid hL4
    have OWN4 := Lib.hid own4
    have B4 := Lib.hid ((T3.out.trans t4).below BEL.out (by have := BEL.out.size; omega) hg)
    have hz1 := BEL.out.size
    clear own4 s4 t4 hL4
    go_wp2
    go_ret
    exact ⟨A4, c4, N, L4, rfl, HL4.out, by omega, own_base OWN4.out (by omega), B4.out⟩
end Go.Proofs.Ytbjfeogkdfmjpaa
