import Derived.Test.YtmgoaabeopnopaaL1
import Derived.Test.YtmgoaabeopnopaaL3
import Derived.BigQuiet
import Derived.Laws.Bits64b
import Derived.RegionTactic
import Derived.ChangeAlike
import Derived.BigRegion
import Derived.Test.YtmgoaabeopnopaaL4
namespace Go.Proofs.Ytmgoaabeopnopaa
open Go.RowKit
set_option maxHeartbeats 400000 in
theorem like_any {A B : Option Addr} {c d : Nat} {xs ys : List Int} {n m : Nat} (w : World) (hx : xs.length = n) (hy : ys.length = m) (ha : Rd w A (ints xs)) (hb : Rd w B (ints ys)) (hn : n ≤ 9223372036854775807) :
    Calls Try.prog 68 #[.slice A n c, .slice B m d] w fun e w' => e = .returned (.bool (decide (xs = ys))) ∧ ∃ j, w' = w.drewN j := by
  by_cases hl : n = m
  · subst hl
    have HX := Lib.hid hx
    have HY := Lib.hid hy
    clear hx hy
    go_enter Try.func68, Try.ntmps68
    go_wp2
    go_loopw [5] (fun i wr => ∃ k : Nat, k ≤ n ∧ i = .int .i64 k ∧ xs.take k = ys.take k ∧ ∃ j, wr = w.drewN j) (fun i _ => n - (intOf i).toNat)
    case atStart => exact ⟨0, Nat.zero_le _, rfl, rfl, 0, rfl⟩
    case round =>
      obtain ⟨k, hk, rfl, heq, j, rfl⟩ := hrel
      have HE := Lib.hid heq
      clear heq
      by_cases hlt : k < n
      · obtain ⟨b, o, x, rfl, hgx, hcx⟩ := ha.int (k := k) (by rw [HX.out]; exact hlt)
        obtain ⟨b', o', y, rfl, hgy, hcy⟩ := hb.int (k := k) (by rw [HY.out]; exact hlt)
        have HGX := Lib.hid hgx
        have HGY := Lib.hid hgy
        clear hgx hgy ha hb
        go_wp2
        go_quiet (fail)
        go_wp2
        · have hne : (x != y) = true := by assumption
          go_ret
          refine ⟨ret_bool ?_, j + nq, World.drewN_drewN _ _ _⟩
          have hxy : x ≠ y := by simpa using hne
          refine (decide_eq_false ?_).symm
          intro h
          have h1 := HGX.out
          rw [h, HGY.out] at h1
          exact hxy (by simpa using h1.symm)
        · have heq : x = y := by simpa using (by assumption : (x != y) = false)
          go_roundw
          case rel => exact ⟨k + 1, by omega, by go_num, by rw [take_succ_of HGX.out, take_succ_of HGY.out, HE.out, heq], j + nq, by simp⟩
          case measure => simp [intOf]; omega
      · go_wp2
        go_ret
        exact ⟨ret_bool (decide_eq_true (decide_eq_take HX.out HY.out (by omega) HE.out)).symm, _, rfl⟩
  · have hne : ((n : Int) != (m : Int)) = true := by rw [bne_iff_ne]; omega
    have hd : decide (xs = ys) = false := decide_eq_false (fun h => hl (by rw [← hx, ← hy, h]))
    go_enter Try.func68, Try.ntmps68
    go_wp2
    go_ret
    exact ⟨ret_bool hd.symm, 0, rfl⟩
end Go.Proofs.Ytmgoaabeopnopaa
/- The numbers that the draws hand out: the source's next number, whatever it is. -/
namespace Go.Proofs.Ytmgoaabeopnopaa
open Go.RowKit

/-- A source of numbers over the bytes v lies in block g. -/
structure Src (w : World) (g : Nat) (A : Option Addr) (n c at_ : Nat) (h : Int) (bs : List Value) : Prop where
  c0 : w.cell? ⟨g, 0, none⟩ = some (.slice A n c)
  c1 : w.cell? ⟨g, 1, none⟩ = some (.int .i64 at_)
  c2 : w.cell? ⟨g, 2, none⟩ = some (.int .u64 h)
  f1 : w.frozen? ⟨g, 1, none⟩ = false
  f2 : w.frozen? ⟨g, 2, none⟩ = false
  le : at_ ≤ n
  rd : Rd w A bs
  len : bs.length = n
  u8 : ∀ v ∈ bs, ∃ x : Nat, v = .int .u8 x ∧ x < 256
  out : 0 < bs.length → ∀ b o, A = some ⟨b, o, none⟩ → b < g

theorem rnd (X : Int) : ∃ r : Nat, r < 16777216 ∧ wrap64 (bits .and .u64 (IntKind.u64.wrap X / 8589934592) 16777215) = (r : Int) := by
  obtain ⟨Y, hY⟩ := Int.eq_ofNat_of_zero_le (show 0 ≤ IntKind.u64.wrap X / 8589934592 by rw [IntKind.wrap_u64]; omega)
  have hlt : Y < 18446744073709551616 := by rw [IntKind.wrap_u64] at hY; omega
  have h1 := bits_and_u64_nat Y 16777215 hlt (by omega)
  have h2 : Y &&& 16777215 ≤ 16777215 := Nat.and_le_right
  refine ⟨Y &&& 16777215, by omega, ?_⟩
  rw [hY]
  exact (congrArg wrap64 h1).trans (IntWalk.wrap64_in _ (by omega))
section
variable {w : World} {g n c at_ : Nat} {h : Int} {A : Option Addr} {bs : List Value}
theorem Src.set2 (hs : Src w g A n c at_ h bs) (h' : Int) : Src (w.setCell ⟨g, 2, none⟩ (.int .u64 h')) g A n c at_ h' bs := by
  refine ⟨?_, ?_, World.cell?_setCell_same _ _ _ hs.c2, by simpa using hs.f1, by simpa using hs.f2, hs.le, ?_, hs.len, hs.u8, hs.out⟩
  · exact (World.cell?_setCell_other (w := w) (a := ⟨g, 2, none⟩) (b := ⟨g, 0, none⟩) (v := (.int .u64 h')) (by simp)).trans hs.c0
  · exact (World.cell?_setCell_other (w := w) (a := ⟨g, 2, none⟩) (b := ⟨g, 1, none⟩) (v := (.int .u64 h')) (by simp)).trans hs.c1
  · intro hl
    obtain ⟨b, o, e, hc⟩ := hs.rd hl
    exact ⟨b, o, e, fun k u hu => (World.cell?_setCell_other (w := w) (a := ⟨g, 2, none⟩) (b := ⟨b, o + k, none⟩) (v := (.int .u64 h')) (by have := hs.out hl b o e; intro h1; injection h1 with h2; omega)).trans (hc k u hu)⟩
theorem Src.set1 (hs : Src w g A n c at_ h bs) {a' : Nat} (ha : a' ≤ n) : Src (w.setCell ⟨g, 1, none⟩ (.int .i64 a')) g A n c a' h bs := by
  refine ⟨?_, World.cell?_setCell_same _ _ _ hs.c1, ?_, by simpa using hs.f1, by simpa using hs.f2, ha, ?_, hs.len, hs.u8, hs.out⟩
  · exact (World.cell?_setCell_other (w := w) (a := ⟨g, 1, none⟩) (b := ⟨g, 0, none⟩) (v := (.int .i64 a')) (by simp)).trans hs.c0
  · exact (World.cell?_setCell_other (w := w) (a := ⟨g, 1, none⟩) (b := ⟨g, 2, none⟩) (v := (.int .i64 a')) (by simp)).trans hs.c2
  · intro hl
    obtain ⟨b, o, e, hc⟩ := hs.rd hl
    exact ⟨b, o, e, fun k u hu => (World.cell?_setCell_other (w := w) (a := ⟨g, 1, none⟩) (b := ⟨b, o + k, none⟩) (v := (.int .i64 a')) (by have := hs.out hl b o e; intro h1; injection h1 with h2; omega)).trans (hc k u hu)⟩
theorem Src.drew (hs : Src w g A n c at_ h bs) (k : Nat) : Src (w.drewN k) g A n c at_ h bs := ⟨hs.c0, hs.c1, hs.c2, hs.f1, hs.f2, hs.le, hs.rd, hs.len, hs.u8, hs.out⟩
theorem turns_set (w : World) (g k : Nat) (v : Value) : Turns g (g + 1) w (w.setCell ⟨g, k, none⟩ v) :=
  ⟨rfl, rfl, rfl, by simp, fun b hb hn => by
    have hne : g ≠ b := by omega
    simp [World.setCell, Array.getElem?_modify, hne]⟩
theorem turns_drew (w : World) (g k : Nat) : Turns g (g + 1) w (w.drewN k) := ⟨rfl, rfl, rfl, Nat.le_refl _, fun _ _ _ => rfl⟩
end

set_option maxHeartbeats 1600000 in
theorem next_any {A : Option Addr} {g n c at_ : Nat} {h N : Int} {bs : List Value} (w : World) (hs : Src w g A n c at_ h bs) (hn : n ≤ 1048576) (hN : 1 ≤ N) :
    Calls Try.prog 114 #[.pointer (some ⟨g, 0, none⟩), .int .i64 N] w fun e w' => ∃ (r : Nat) (at' : Nat) (h' : Int), e = .returned (.int .i64 r) ∧ (r : Int) < N ∧ Src w' g A n c at' h' bs ∧ Turns g (g + 1) w w' := by
  have h0 := hs.c0
  have h1 := hs.c1
  have h2 := hs.c2
  have h3 := hs.f1
  have h4 := hs.f2
  have HS := Lib.hid hs
  clear hs
  go_enter Try.func114, Try.ntmps114
  go_wp2
  obtain ⟨r0, hr0, hre⟩ := rnd (IntKind.u64.wrap (h * 6364136223846793005) + 1442695040888963407)
  rw [hre]
  obtain ⟨H, hH⟩ : ∃ H, IntKind.u64.wrap (IntKind.u64.wrap (h * 6364136223846793005) + 1442695040888963407) = H := ⟨_, rfl⟩
  rw [hH]
  have S1 := Lib.hid (HS.out.set2 H)
  have T1 := Lib.hid (turns_set w g 2 (.int .u64 H))
  clear h0 h1 h2 h3 h4 hre hH
  obtain ⟨w1, hw1⟩ : ∃ w1, w.setCell ⟨g, 2, none⟩ (.int .u64 H) = w1 := ⟨_, rfl⟩
  rw [hw1] at S1 T1 ⊢
  have h0 := S1.out.c0
  have h1 := S1.out.c1
  clear hw1
  by_cases hlt : at_ < n
  · obtain ⟨b, o, he, hcs⟩ := S1.out.rd (by rw [S1.out.len]; omega)
    subst he
    obtain ⟨v, hv⟩ : ∃ v, bs[at_]? = some v := ⟨_, List.getElem?_eq_getElem (by rw [S1.out.len]; exact hlt)⟩
    obtain ⟨x, rfl, hx⟩ := S1.out.u8 v (List.mem_of_getElem? hv)
    have hcx := hcs at_ _ hv
    have hf1 := S1.out.f1
    clear hcs hv
    go_quiet (fail)
    go_wp2
    go_quiet (fail)
    go_wp2
    obtain ⟨q, hq⟩ := Int.eq_ofNat_of_zero_le (Int.emod_nonneg ((r0 : Int) + (x : Int)) (show N ≠ 0 by omega))
    have hqN := Int.emod_lt_of_pos ((r0 : Int) + (x : Int)) (show 0 < N by omega)
    rw [hq] at hqN ⊢
    go_ret
    exact ⟨q, at_ + 1, H, rfl, hqN, (S1.out.drew _).set1 (a' := at_ + 1) hlt, T1.out.trans ((turns_drew w1 g _).trans (turns_set _ g 1 _))⟩
  · go_quiet (fail)
    go_wp2
    obtain ⟨q, hq⟩ := Int.eq_ofNat_of_zero_le (Int.emod_nonneg (r0 : Int) (show N ≠ 0 by omega))
    have hqN := Int.emod_lt_of_pos (r0 : Int) (show 0 < N by omega)
    rw [hq] at hqN ⊢
    go_ret
    exact ⟨q, at_, H, rfl, hqN, S1.out.drew _, T1.out.trans (turns_drew w1 g _)⟩
set_option maxHeartbeats 1600000 in
theorem below_any {A : Option Addr} {g n c at_ : Nat} {h N : Int} {bs : List Value} (w : World) (hs : Src w g A n c at_ h bs) (hn : n ≤ 1048576) (hN : 1 ≤ N) :
    Calls Try.prog 64 #[.pointer (some ⟨g, 0, none⟩), .int .i64 N] w fun e w' => ∃ (r : Nat) (at' : Nat) (h' : Int), e = .returned (.int .i64 r) ∧ (r : Int) < N ∧ Src w' g A n c at' h' bs ∧ Turns g (g + 1) w w' := by
  have h0 := hs.c0
  have h1 := hs.c1
  have h2 := hs.c2
  have h3 := hs.f1
  have h4 := hs.f2
  have HS := Lib.hid hs
  clear hs
  go_enter Try.func64, Try.ntmps64
  go_wp2
  obtain ⟨r0, hr0, hre⟩ := rnd (IntKind.u64.wrap (h * 6364136223846793005) + 1442695040888963407)
  rw [hre]
  obtain ⟨H, hH⟩ : ∃ H, IntKind.u64.wrap (IntKind.u64.wrap (h * 6364136223846793005) + 1442695040888963407) = H := ⟨_, rfl⟩
  rw [hH]
  have S1 := Lib.hid (HS.out.set2 H)
  have T1 := Lib.hid (turns_set w g 2 (.int .u64 H))
  clear h0 h1 h2 h3 h4 hre hH
  obtain ⟨w1, hw1⟩ : ∃ w1, w.setCell ⟨g, 2, none⟩ (.int .u64 H) = w1 := ⟨_, rfl⟩
  rw [hw1] at S1 T1 ⊢
  have h0 := S1.out.c0
  have h1 := S1.out.c1
  clear hw1
  by_cases hlt : at_ < n
  · obtain ⟨b, o, he, hcs⟩ := S1.out.rd (by rw [S1.out.len]; omega)
    subst he
    obtain ⟨v, hv⟩ : ∃ v, bs[at_]? = some v := ⟨_, List.getElem?_eq_getElem (by rw [S1.out.len]; exact hlt)⟩
    obtain ⟨x, rfl, hx⟩ := S1.out.u8 v (List.mem_of_getElem? hv)
    have hcx := hcs at_ _ hv
    have hf1 := S1.out.f1
    clear hcs hv
    go_quiet (fail)
    go_wp2
    go_quiet (fail)
    go_wp2
    obtain ⟨q, hq⟩ := Int.eq_ofNat_of_zero_le (Int.emod_nonneg ((r0 : Int) + (x : Int)) (show N ≠ 0 by omega))
    have hqN := Int.emod_lt_of_pos ((r0 : Int) + (x : Int)) (show 0 < N by omega)
    rw [hq] at hqN ⊢
    go_ret
    exact ⟨q, at_ + 1, H, rfl, hqN, (S1.out.drew _).set1 (a' := at_ + 1) hlt, T1.out.trans ((turns_drew w1 g _).trans (turns_set _ g 1 _))⟩
  · go_quiet (fail)
    go_wp2
    obtain ⟨q, hq⟩ := Int.eq_ofNat_of_zero_le (Int.emod_nonneg (r0 : Int) (show N ≠ 0 by omega))
    have hqN := Int.emod_lt_of_pos (r0 : Int) (show 0 < N by omega)
    rw [hq] at hqN ⊢
    go_ret
    exact ⟨q, at_, H, rfl, hqN, S1.out.drew _, T1.out.trans (turns_drew w1 g _)⟩
end Go.Proofs.Ytmgoaabeopnopaa
namespace Go.Proofs.Ytmgoaabeopnopaa
open Go.RowKit

theorem src_start {A : Option Addr} {n c : Nat} {bs : List Value} (w : World) (t : TypeId) (h : Int) (hl : bs.length = n) (hr : Rd w A bs) (hu : ∀ v ∈ bs, ∃ x : Nat, v = .int .u8 x ∧ x < 256) :
    Src (w.alloc (.cells #[.slice A n c, .int .i64 0, .int .u64 h] t)) w.heap.size A n c 0 h bs :=
  ⟨by simp, by simp, by simp, by simp, by simp, Nat.zero_le _, hr.keep ((Below.refl _ _).alloc (Nat.le_refl _) _), hl, hu, fun h0 b o e => by
    obtain ⟨b', o', e', hc⟩ := hr h0
    rw [e] at e'
    simp only [Option.some.injEq, Addr.mk.injEq] at e'
    obtain ⟨rfl, rfl, _⟩ := e'
    have := World.block_lt_of_cell? w _ (hc 0 bs[0] (List.getElem?_eq_getElem h0))
    simp at this
    omega⟩

theorem Src.drew1 {w : World} {g n c at_ : Nat} {h : Int} {A : Option Addr} {bs : List Value} (hs : Src w g A n c at_ h bs) : Src w.drew g A n c at_ h bs := hs.drew 1
theorem below_drew1 {B : Nat} {w w' : World} (h : Below B w w') : Below B w w'.drew := below_drewN h 1
set_option maxHeartbeats 3200000 in
set_option maxRecDepth 8000 in
theorem from_any {A : Option Addr} {n c : Nat} {bs : List Value} (w : World) (hl : bs.length = n) (hr : Rd w A bs) (hu : ∀ v ∈ bs, ∃ x : Nat, v = .int .u8 x ∧ x < 256) (hn : n ≤ 1048576) :
    Calls Try.prog 113 #[.slice A n c] w fun e w' => ∃ (g at' : Nat) (h' : Int), e = .returned (.pointer (some ⟨g, 0, none⟩)) ∧ w.heap.size ≤ g ∧ g < w'.heap.size ∧ Src w' g A n c at' h' bs ∧ Below w.heap.size w w' := by
  have ST := Lib.hid (src_start w 133 (8191 + n) (c := c) hl hr hu)
  clear hl hr hu
  go_enter Try.func113, Try.ntmps113
  go_wp2
  go_loopw [4] (fun i wr => ∃ (k : Nat) (h : Int), k ≤ n ∧ i = .int .i64 k ∧ Src wr w.heap.size A n c 0 h bs ∧ Below w.heap.size w wr ∧ w.heap.size < wr.heap.size) (fun i _ => n - (intOf i).toNat)
  case atStart => exact ⟨0, _, Nat.zero_le _, rfl, ST.out, (Below.refl _ _).alloc (Nat.le_refl _) _, by simp⟩
  case round =>
    obtain ⟨k, h, hk, rfl, st, bel, hsz⟩ := hrel
    have S := Lib.hid st
    have BEL := Lib.hid bel
    have h2 := st.c2
    have f2 := st.f2
    clear st bel ST
    by_cases hlt : k < n
    · by_cases h4 : (k : Int) < 4096
      · obtain ⟨b, o, he, hcs⟩ := S.out.rd (by rw [S.out.len]; omega)
        subst he
        obtain ⟨v, hv⟩ : ∃ v, bs[k]? = some v := ⟨_, List.getElem?_eq_getElem (by rw [S.out.len]; exact hlt)⟩
        obtain ⟨x, rfl, hx⟩ := S.out.u8 v (List.mem_of_getElem? hv)
        have hcx := hcs k _ hv
        clear hcs hv
        go_wp2
        go_region
        go_wp2
        go_roundw
        case rel => exact ⟨k + 1, _, by omega, by go_num, (S.out.set2 _).drew1, below_drew1 (BEL.out.setCell (Nat.le_refl _) _), by simpa using hsz⟩
        case measure => simp [intOf]; omega
      · go_wp2
        go_ret
        first | exact ⟨w.heap.size, rfl, Nat.le_refl _, hsz, ⟨0, h, S.out⟩, BEL.out⟩ | exact ⟨w.heap.size, 0, h, rfl, Nat.le_refl _, hsz, S.out, BEL.out⟩
    · go_wp2
      go_ret
      first | exact ⟨w.heap.size, rfl, Nat.le_refl _, hsz, ⟨0, h, S.out⟩, BEL.out⟩ | exact ⟨w.heap.size, 0, h, rfl, Nat.le_refl _, hsz, S.out, BEL.out⟩
set_option maxHeartbeats 3200000 in
set_option maxRecDepth 8000 in
theorem roll_any {A : Option Addr} {n c : Nat} {bs : List Value} (w : World) (hl : bs.length = n) (hr : Rd w A bs) (hu : ∀ v ∈ bs, ∃ x : Nat, v = .int .u8 x ∧ x < 256) (hn : n ≤ 1048576) {s : Int} (hs0 : 0 ≤ s) (hs1 : s ≤ 1000000) :
    Calls Try.prog 63 #[.slice A n c, .int .u64 s] w fun e w' => ∃ (g at' : Nat) (h' : Int), e = .returned (.pointer (some ⟨g, 0, none⟩)) ∧ w.heap.size ≤ g ∧ g < w'.heap.size ∧ Src w' g A n c at' h' bs ∧ Below w.heap.size w w' := by
  have ST := Lib.hid (src_start w 116 (s * 7681 + n) (c := c) hl hr hu)
  clear hl hr hu
  go_enter Try.func63, Try.ntmps63
  go_wp2
  go_loopw [6] (fun i wr => ∃ (k : Nat) (h : Int), k ≤ n ∧ i = .int .i64 k ∧ Src wr w.heap.size A n c 0 h bs ∧ Below w.heap.size w wr ∧ w.heap.size < wr.heap.size) (fun i _ => n - (intOf i).toNat)
  case atStart => exact ⟨0, _, Nat.zero_le _, rfl, ST.out, (Below.refl _ _).alloc (Nat.le_refl _) _, by simp⟩
  case round =>
    obtain ⟨k, h, hk, rfl, st, bel, hsz⟩ := hrel
    have S := Lib.hid st
    have BEL := Lib.hid bel
    have h2 := st.c2
    have f2 := st.f2
    clear st bel ST
    by_cases hlt : k < n
    · obtain ⟨b, o, he, hcs⟩ := S.out.rd (by rw [S.out.len]; omega)
      subst he
      obtain ⟨v, hv⟩ : ∃ v, bs[k]? = some v := ⟨_, List.getElem?_eq_getElem (by rw [S.out.len]; exact hlt)⟩
      obtain ⟨x, rfl, hx⟩ := S.out.u8 v (List.mem_of_getElem? hv)
      have hcx := hcs k _ hv
      clear hcs hv
      go_wp2
      go_region
      go_wp2
      go_roundw
      case rel => exact ⟨k + 1, _, by omega, by go_num, (S.out.set2 _).drew1, below_drew1 (BEL.out.setCell (Nat.le_refl _) _), by simpa using hsz⟩
      case measure => simp [intOf]; omega
    · go_wp2
      go_ret
      first | exact ⟨w.heap.size, rfl, Nat.le_refl _, hsz, ⟨0, h, S.out⟩, BEL.out⟩ | exact ⟨w.heap.size, 0, h, rfl, Nat.le_refl _, hsz, S.out, BEL.out⟩
end Go.Proofs.Ytmgoaabeopnopaa
namespace Go.Proofs.Ytmgoaabeopnopaa
open Go.RowKit

/-- A source as the draws use it: its numbers don't matter. -/
def SrcE (w : World) (g : Nat) (A : Option Addr) (n c : Nat) (bs : List Value) : Prop := ∃ (a : Nat) (h : Int), Src w g A n c a h bs
/-- What a call hands back that only turns the source: a number that meets p. -/
def RetD (w : World) (g : Nat) (A : Option Addr) (n c : Nat) (bs : List Value) (p : Int → Prop) (e : Ending) (w' : World) : Prop :=
  ∃ r : Int, e = .returned (.int .i64 r) ∧ p r ∧ SrcE w' g A n c bs ∧ Turns g (g + 1) w w'
section
variable {A : Option Addr} {g n c : Nat} {bs : List Value}
theorem nextE {N : Int} (w : World) (hs : SrcE w g A n c bs) (hn : n ≤ 1048576) (hN : 1 ≤ N) :
    Calls Try.prog 114 #[.pointer (some ⟨g, 0, none⟩), .int .i64 N] w (RetD w g A n c bs fun r => 0 ≤ r ∧ r < N) := by
  obtain ⟨a, h, hs⟩ := hs
  refine (next_any w hs hn hN).mono ?_
  rintro e w' ⟨r, a', h', rfl, h1, h2, h3⟩
  exact ⟨r, rfl, ⟨by omega, h1⟩, ⟨a', h', h2⟩, h3⟩
theorem belowE {N : Int} (w : World) (hs : SrcE w g A n c bs) (hn : n ≤ 1048576) (hN : 1 ≤ N) :
    Calls Try.prog 64 #[.pointer (some ⟨g, 0, none⟩), .int .i64 N] w (RetD w g A n c bs fun r => 0 ≤ r ∧ r < N) := by
  obtain ⟨a, h, hs⟩ := hs
  refine (below_any w hs hn hN).mono ?_
  rintro e w' ⟨r, a', h', rfl, h1, h2, h3⟩
  exact ⟨r, rfl, ⟨by omega, h1⟩, ⟨a', h', h2⟩, h3⟩
theorem pickE {A2 : Option Addr} {m c2 : Nat} {xs : List Int} (w : World) (hs : SrcE w g A n c bs) (hn : n ≤ 1048576) (hx : xs.length = m) (hm : 1 ≤ m) (hm2 : m ≤ 1048576) (hr : Rd w A2 (ints xs)) (hg : ∀ b o, A2 = some ⟨b, o, none⟩ → b < g ∨ g + 1 ≤ b) :
    Calls Try.prog 117 #[.pointer (some ⟨g, 0, none⟩), .slice A2 m c2] w (RetD w g A n c bs fun r => r ∈ xs) := by
  have HS := Lib.hid hs
  have HX := Lib.hid hx
  have HR := Lib.hid hr
  have HG := Lib.hid hg
  clear hs hx hr hg
  go_enter Try.func117, Try.ntmps117
  go_wp2_with fail
  refine (nextE w HS.out hn (by omega)).mono ?_
  rintro e w1 ⟨r, rfl, ⟨h0, h1⟩, hs1, tu⟩
  obtain ⟨k, rfl⟩ := Int.eq_ofNat_of_zero_le h0
  obtain ⟨b, o, x, rfl, hgx, hcx⟩ := (tu.rd HR.out HG.out).int (k := k) (by rw [HX.out]; omega)
  have HGX := Lib.hid (List.mem_of_getElem? hgx)
  have HS1 := Lib.hid hs1
  have TU := Lib.hid tu
  clear hgx hs1 tu
  go_wp2
  go_ret
  exact ⟨x, rfl, HGX.out, HS1.out, TU.out⟩
theorem Src.turns {w w' : World} {a lo hi : Nat} {h : Int} (hs : Src w g A n c a h bs) (ht : Turns lo hi w w') (hlo : g < lo) : Src w' g A n c a h bs := by
  have hg := World.block_lt_of_cell? w _ hs.c0
  have hb := ht.block g hg (by omega)
  have hc : ∀ k, w'.cell? ⟨g, k, none⟩ = w.cell? ⟨g, k, none⟩ := fun k => by unfold World.cell?; simp only [hb]
  have hf : ∀ k, w'.frozen? ⟨g, k, none⟩ = w.frozen? ⟨g, k, none⟩ := fun k => by unfold World.frozen?; simp only [hb]
  refine ⟨(hc 0).trans hs.c0, (hc 1).trans hs.c1, (hc 2).trans hs.c2, (hf 1).trans hs.f1, (hf 2).trans hs.f2, hs.le, ?_, hs.len, hs.u8, hs.out⟩
  intro hl
  obtain ⟨b, o, e, hcc⟩ := hs.rd hl
  refine ⟨b, o, e, fun k u hu => ?_⟩
  have h1 := hcc k u hu
  have h2 := ht.block b (World.block_lt_of_cell? w _ h1) (by have := hs.out hl b o e; omega)
  rw [← h1]
  unfold World.cell?
  simp only [h2]
theorem SrcE.turns {w w' : World} {lo hi : Nat} (hs : SrcE w g A n c bs) (ht : Turns lo hi w w') (hlo : g < lo) : SrcE w' g A n c bs := by
  obtain ⟨a, h, hs⟩ := hs
  exact ⟨a, h, hs.turns ht hlo⟩
theorem SrcE.lt {w : World} (hs : SrcE w g A n c bs) : g < w.heap.size := by
  obtain ⟨a, h, hs⟩ := hs
  exact World.block_lt_of_cell? w _ hs.c0
/-- A drawn list of N numbers, whatever they are. -/
def RetL (w : World) (g : Nat) (A : Option Addr) (n c : Nat) (bs : List Value) (N : Nat) (e : Ending) (w' : World) : Prop :=
  ∃ (A' : Option Addr) (c' : Nat) (L : List Int), e = .returned (.slice A' N c') ∧ L.length = N ∧ w'.ownsRow w.heap.size 2 1 (.slice A' N c') N (ints L) ∧ SrcE w' g A n c bs ∧ Turns g (g + 1) w w'
structure DSt (w wr : World) (g : Nat) (A : Option Addr) (n c : Nat) (bs : List Value) (A' : Option Addr) (N c' : Nat) (L : List Int) : Prop where
  len : L.length = N
  own : wr.ownsRow w.heap.size 2 1 (.slice A' N c') N (ints L)
  src : SrcE wr g A n c bs
  tu : Turns g (g + 1) w wr
  lt : g < w.heap.size
theorem DSt.next {w wr w2 : World} {A' : Option Addr} {N c' : Nat} {L : List Int} (h : DSt w wr g A n c bs A' N c' L) (hs : SrcE w2 g A n c bs) (tu : Turns g (g + 1) wr w2) : DSt w w2 g A n c bs A' N c' L :=
  ⟨h.len, tu.own h.own (own_in h.own) (.inr h.lt), hs, h.tu.trans tu, h.lt⟩
theorem DSt.set {w wr : World} {b N c' k : Nat} {L : List Int} {x : Int} (h : DSt w wr g A n c bs (some ⟨b, 0, none⟩) N c' L) : DSt w (wr.setCell ⟨b, k, none⟩ (.int .i64 x)) g A n c bs (some ⟨b, 0, none⟩) N c' (L.set k x) := by
  have hst := h.own.stored k (.int .i64 x)
  have hb := (h.own.lt b rfl).1
  have h1 := hst.1
  rw [ints_set] at h1
  have hlt := h.lt
  exact ⟨by simp [h.len], h1, h.src.turns (lo := b) (hi := b + 1) (turns_set wr b k _) (by omega), turns_grown h.tu hst.2 fun k hk => .inl (by simp at hk; omega), h.lt⟩

set_option maxHeartbeats 1600000 in
theorem drawE {N : Nat} (w : World) (hs : SrcE w g A n c bs) (hn : n ≤ 1048576) (hN : N ≤ 1048576) :
    Calls Try.prog 161 #[.pointer (some ⟨g, 0, none⟩), .int .i64 N] w (RetL w g A n c bs N) := by
  have HS := Lib.hid hs
  have hlt := hs.lt
  clear hs
  go_enter Try.func161, Try.ntmps161
  go_wp2_with fail
  refine (unit_any N w hN).mono ?_
  rintro e w1 ⟨A1, c1, rfl, own, bel⟩
  have ST := Lib.hid (show DSt w w1 g A n c bs A1 N c1 (unitL N) from ⟨by simp [unitL], own, HS.out.turns (lo := w.heap.size) (hi := w.heap.size) (Turns.of_below bel (Nat.le_refl _)) hlt, Turns.of_below bel (Nat.le_refl _), hlt⟩)
  clear own bel
  go_wp2
  go_loopw [6] (fun q wr => ∃ (i : Int) (L : List Int), -1 ≤ i ∧ i < N ∧ q = .int .i64 i ∧ DSt w wr g A n c bs A1 N c1 L) (fun q _ => (intOf q).toNat)
  case atStart => exact ⟨(N : Int) - 1, unitL N, by omega, by omega, by first | rfl | go_num, ST.out⟩
  case round =>
    obtain ⟨i, L, hi0, hi1, rfl, st⟩ := hrel
    have S := Lib.hid st
    clear st ST
    by_cases h0 : 0 < i
    · obtain ⟨b, rfl⟩ := own_shape S.out.own (by omega)
      obtain ⟨j, rfl⟩ := Int.eq_ofNat_of_zero_le (show 0 ≤ i by omega)
      go_wp2_with fail
      refine (nextE wr S.out.src hn (by omega)).mono ?_
      rintro e w2 ⟨r, rfl, ⟨hr0, hr1⟩, hs2, tu2⟩
      obtain ⟨k, rfl⟩ := Int.eq_ofNat_of_zero_le hr0
      have S2 := Lib.hid (S.out.next hs2 tu2)
      clear hs2 tu2
      obtain ⟨x, hx⟩ := ints_at S2.out.len (show j < N by omega)
      obtain ⟨y, hy⟩ := ints_at S2.out.len (show k < N by omega)
      have hcx := own_cell S2.out.own hx
      have hcy := own_cell S2.out.own hy
      have hfx := S2.out.own.frozenAt j
      have S3 := Lib.hid (S2.out.set (k := j) (x := y))
      obtain ⟨z, hz⟩ := ints_at S3.out.len (show k < N by omega)
      have hcz := own_cell S3.out.own hz
      have hfz := S3.out.own.frozenAt k
      have S4 := Lib.hid (S3.out.set (k := k) (x := x))
      clear hx hy hz
      go_wp2
      go_roundw
      case rel => exact ⟨(j : Int) - 1, _, by omega, by omega, by go_num, S4.out⟩
      case measure => simp [intOf]; omega
    · go_wp2
      go_ret
      exact ⟨A1, c1, L, rfl, S.out.len, S.out.own, S.out.src, S.out.tu⟩
end
end Go.Proofs.Ytmgoaabeopnopaa
namespace Go.Proofs.Ytmgoaabeopnopaa
open Go.RowKit
section
variable {A : Option Addr} {g n c : Nat} {bs : List Value}
theorem DSt.alloc {w wr : World} {A' : Option Addr} {N c' : Nat} {L : List Int} (h : DSt w wr g A n c bs A' N c' L) (o : Obj) : DSt w (wr.alloc o) g A n c bs A' N c' L :=
  ⟨h.len, h.own.alloc o, h.src.turns (lo := wr.heap.size) (hi := wr.heap.size) (Turns.of_below ((Below.refl _ _).alloc (Nat.le_refl _) o) (Nat.le_refl _)) h.src.lt, turns_alloc h.tu o, h.lt⟩
theorem SrcE.alloc {w : World} (h : SrcE w g A n c bs) (o : Obj) : SrcE (w.alloc o) g A n c bs :=
  h.turns (lo := w.heap.size) (hi := w.heap.size) (Turns.of_below ((Below.refl _ _).alloc (Nat.le_refl _) o) (Nat.le_refl _)) h.lt
/-- A literal list, just made. -/
theorem lit_rd (w : World) (xs : List Int) (t : TypeId) : Rd (w.alloc (.cells (ints xs).toArray t)) (some ⟨w.heap.size, 0, none⟩) (ints xs) := fun _ =>
  ⟨w.heap.size, 0, rfl, fun k u hu => by simp at hu; simp [hu]⟩

end
end Go.Proofs.Ytmgoaabeopnopaa
namespace Go.Proofs.Ytmgoaabeopnopaa
open Go.RowKit

theorem big_any {A : Option Addr} {c n : Nat} (w : World) : Calls Try.prog 48 #[.slice A n c] w fun e w' => e = .returned (.bool (decide ((4096 : Int) < (n : Int)))) ∧ w = w' := by
  go_enter Try.func48, Try.ntmps48
  go_wp2
  go_ret
  exact ⟨rfl, rfl⟩
section
/-- A drawn list whose length is its own affair. -/
def RetLs (w : World) (e : Ending) (w' : World) : Prop :=
  ∃ (A' : Option Addr) (c' m : Nat) (L : List Int), e = .returned (.slice A' m c') ∧ L.length = m ∧ m ≤ 1048576 ∧ w'.ownsRow w.heap.size 2 1 (.slice A' m c') m (ints L) ∧ Below w.heap.size w w'
/-- Two drawn lists. -/
def RetP (w : World) (e : Ending) (w' : World) : Prop :=
  ∃ (A1 A2 : Option Addr) (c1 c2 m1 m2 : Nat) (L1 L2 : List Int), e = .returned (.tuple #[.slice A1 m1 c1, .slice A2 m2 c2]) ∧ L1.length = m1 ∧ m1 ≤ 1048576 ∧ L2.length = m2 ∧ m2 ≤ 1048576 ∧
    w'.ownsRow w.heap.size 2 1 (.slice A1 m1 c1) m1 (ints L1) ∧ w'.ownsRow w.heap.size 2 1 (.slice A2 m2 c2) m2 (ints L2) ∧ Below w.heap.size w w'
variable {A : Option Addr} {n c : Nat} {bs : List Value}
end
end Go.Proofs.Ytmgoaabeopnopaa
namespace Go.Proofs.Ytmgoaabeopnopaa
open Go.RowKit

def PL : List Int := [2, 3, 5, 7, 11, 13, 17, 19, 23, 29, 31, 37, 41, 43, 47]
theorem PL_mem {x : Int} (h : x ∈ PL) : 2 ≤ x ∧ x ≤ 47 := by simp [PL] at h; omega
structure PrSt (w2 wr : World) (A' : Option Addr) (m c' : Nat) (L : List Int) : Prop where
  own : wr.ownsRow w2.heap.size 2 1 (.slice A' m c') m (ints L)
  pr : Rd wr (some ⟨w2.heap.size + 1, 0, none⟩) (ints PL)
  ne : ∀ k, (Value.slice A' m c').ownBlock = some k → k ≠ w2.heap.size + 1
  hd : L = [] ∨ L[0]? = some 1
  bel : Below w2.heap.size w2 wr
theorem PrSt.len {w2 wr : World} {A' : Option Addr} {m c' : Nat} {L : List Int} (h : PrSt w2 wr A' m c' L) : L.length = m := by have := h.own.1; simpa using this
theorem PrSt.push {w2 wr w4 : World} {A' A4 : Option Addr} {m c' c4 : Nat} {L : List Int} {y : Int} {o : Obj} (h : PrSt w2 wr A' m c' L) (own4 : w4.ownsRow w2.heap.size 2 1 (.slice A4 (m + 1) c4) (m + 1) (ints L ++ [.int .i64 y]))
    (gr : (wr.alloc o).grownBy w4 (Value.slice A' m c').ownBlock) (hy : L = [] → y = 1) : PrSt w2 w4 A4 (m + 1) c4 (L ++ [y]) := by
  have hp4 : Rd w4 (some ⟨w2.heap.size + 1, 0, none⟩) (ints PL) := (h.pr.keep ((Below.refl _ _).alloc (Nat.le_refl _) o)).grown gr fun b o e he => by
    simp only [Option.some.injEq, Addr.mk.injEq] at e
    exact h.ne b he.symm e.1.symm
  have hhd : (L ++ [y])[0]? = some 1 := by
    rcases h.hd with h1 | h1
    · subst h1; simp [hy rfl]
    · rw [List.getElem?_append_left (List.getElem?_eq_some_iff.1 h1).1]; exact h1
  have own5 : w4.ownsRow w2.heap.size 2 1 (.slice A4 (m + 1) c4) (m + 1) (ints (L ++ [y])) := by simpa using own4
  refine ⟨own5, hp4, ?_, .inr hhd, ?_⟩
  · intro k hk he
    obtain ⟨g, rfl⟩ := own_shape own4 (Nat.succ_pos m)
    have hg : g = k := by simpa [Value.ownBlock] using hk
    subst hg
    have h1 := own_cell own5 (k := 0) (u := .int .i64 1) (by rw [ints, List.getElem?_map, hhd]; rfl)
    obtain ⟨b, o', e, hc⟩ := hp4 (by simp [PL])
    have h2 := hc 0 (.int .i64 2) rfl
    simp only [Option.some.injEq, Addr.mk.injEq] at e
    obtain ⟨rfl, rfl, _⟩ := e
    rw [he] at h1
    simp only [Nat.add_zero] at h2
    rw [h1] at h2
    simp at h2
  · exact (h.bel.alloc h.bel.size o).grown gr (by have := h.bel.size; simp; omega) fun b hb => (h.own.lt b hb).1

end Go.Proofs.Ytmgoaabeopnopaa
/- What the orders and powers of a permutation keep: plain facts, no program. -/
namespace Go.Proofs.Ytmgoaabeopnopaa
open Go.RowKit

theorem point_cycle {xs : List Int} {n : Nat} (hxn : xs.length = n) (hok : okP xs = true) {x : Int} (h0 : 0 ≤ x) (h1 : x < (n : Int)) :
    ∃ (k : Nat) (c : List Int) (i : Nat), (cycL xs)[k]? = some c ∧ c[i]? = some x ∧ i < c.length := by
  obtain ⟨p, rfl⟩ := Int.eq_ofNat_of_zero_le h0
  have hc := (cyc_all hxn hok n (Nat.le_refl _)).2.2 p (by omega)
  have e : cycTo xs n n = cycL xs := by unfold cycL; rw [hxn]
  rw [e] at hc
  obtain ⟨c, hcm, hp⟩ := List.mem_flatten.1 hc
  obtain ⟨k, hk, rfl⟩ := List.mem_iff_getElem.1 hcm
  obtain ⟨i, hi, hx⟩ := List.mem_iff_getElem.1 hp
  exact ⟨k, _, i, List.getElem?_eq_getElem hk, by rw [List.getElem?_eq_getElem hi, hx], hi⟩
theorem pw_at {xs c : List Int} {n k i : Nat} {x : Int} (hxn : xs.length = n) (hok : okP xs = true) (hc : (cycL xs)[k]? = some c) (hx : c[i]? = some x) (a : Int) : c[(i + (a % (c.length : Int)).toNat) % c.length]? = some (pwT xs a x) := by
  obtain ⟨h1, h2, h3, _⟩ := cyc_facts hxn hok hc
  have hn := Int.emod_nonneg a (show (c.length : Int) ≠ 0 by omega)
  exact cyc_pow hxn hok h2 h1 (by omega) hx
theorem shift_add (a b : Int) (i l : Nat) (hl : 0 < l) : ((i + (a % (l : Int)).toNat) % l + (b % (l : Int)).toNat) % l = (i + ((a + b) % (l : Int)).toNat) % l := by
  have ha := Int.emod_nonneg a (show (l : Int) ≠ 0 by omega)
  have hb := Int.emod_nonneg b (show (l : Int) ≠ 0 by omega)
  have hab := Int.emod_nonneg (a + b) (show (l : Int) ≠ 0 by omega)
  obtain ⟨p, hp⟩ := Int.eq_ofNat_of_zero_le ha
  obtain ⟨q, hq⟩ := Int.eq_ofNat_of_zero_le hb
  obtain ⟨r, hr⟩ := Int.eq_ofNat_of_zero_le hab
  have e : r = (p + q) % l := by
    have h : ((r : Nat) : Int) = (((p + q) % l : Nat) : Int) := by rw [← hr, Int.add_emod, hp, hq]; rfl
    exact_mod_cast h
  rw [hp, hq, hr, e]
  simp only [Int.toNat_natCast]
  rw [Nat.mod_add_mod, Nat.add_mod_mod, Nat.add_assoc]
theorem pw_add {xs : List Int} {n : Nat} (hxn : xs.length = n) (hok : okP xs = true) {x : Int} (h0 : 0 ≤ x) (h1 : x < (n : Int)) (a b : Int) : pwT xs b (pwT xs a x) = pwT xs (a + b) x := by
  obtain ⟨k, c, i, hc, hx, hi⟩ := point_cycle hxn hok h0 h1
  have e1 := pw_at hxn hok hc (pw_at hxn hok hc hx a) b
  have e2 := pw_at hxn hok hc hx (a + b)
  rw [shift_add a b i c.length (by omega), e2] at e1
  injection e1 with e1
  exact e1.symm
theorem pw_in {xs : List Int} {n : Nat} (hxn : xs.length = n) (hok : okP xs = true) {x : Int} (h0 : 0 ≤ x) (h1 : x < (n : Int)) (a : Int) : 0 ≤ pwT xs a x ∧ pwT xs a x < (n : Int) := by
  obtain ⟨k, c, i, hc, hx, hi⟩ := point_cycle hxn hok h0 h1
  exact (cyc_facts hxn hok hc).2.1 _ (List.mem_of_getElem? (pw_at hxn hok hc hx a))
theorem powL_add {xs : List Int} {n : Nat} (hxn : xs.length = n) (hok : okP xs = true) (a b : Int) : thenL (powL xs a) (powL xs b) = powL xs (a + b) := by
  apply List.ext_getElem?
  intro j
  by_cases hj : j < n
  · have h1 := powL_at (xs := xs) (k := a) (j := j) (by omega)
    have h2 := pw_in hxn hok (x := (j : Int)) (by omega) (by omega) a
    obtain ⟨m, hm⟩ := Int.eq_ofNat_of_zero_le h2.1
    have h3 := powL_at (xs := xs) (k := b) (j := m) (by omega)
    rw [hm] at h1
    rw [thenL_at h1 h3, powL_at (by omega), ← hm, pw_add hxn hok (by omega) (by omega)]
  · rw [List.getElem?_eq_none (by rw [thenL_length, powL_length]; omega), List.getElem?_eq_none (by rw [powL_length]; omega)]
theorem then_inv {xs : List Int} {n : Nat} (hxn : xs.length = n) (hok : okP xs = true) : thenL xs (invL xs) = unitL n := by
  apply List.ext_getElem?
  intro j
  by_cases hj : j < n
  · have hx : xs[j]? = some xs[j] := List.getElem?_eq_getElem (by omega)
    obtain ⟨q, hq, hlt⟩ := okP_at hok hxn hx
    rw [hq] at hx
    have h1 := backTo_at hxn hok n (Nat.le_refl _) j q hj hx
    have e : invL xs = backTo xs n n := by unfold invL; rw [hxn]
    rw [thenL_at hx (by rw [e]; exact h1)]
    simp [unitL, hj]
  · rw [List.getElem?_eq_none (by rw [thenL_length]; omega), List.getElem?_eq_none (by simp [unitL]; omega)]
theorem flat_len {xs : List Int} {n : Nat} (hxn : xs.length = n) (hok : okP xs = true) : (cycL xs).flatten.length = n := by
  have e : cycTo xs n n = cycL xs := by unfold cycL; rw [hxn]
  have hp := cycTo_passed hxn hok n (Nat.le_refl _)
  rw [e] at hp
  have h1 := passed_len hp
  have hs : (List.range n).map (fun (j : Nat) => (j : Int)) ⊆ (cycL xs).flatten := by
    intro x hx
    obtain ⟨j, hj, rfl⟩ := List.mem_map.1 hx
    have := (cyc_all hxn hok n (Nat.le_refl _)).2.2 j (List.mem_range.1 hj)
    rwa [e] at this
  have hnd : ((List.range n).map (fun (j : Nat) => (j : Int))).Nodup := by
    refine List.pairwise_map.2 (List.Pairwise.imp ?_ List.nodup_range)
    intro a b h h2
    exact h (by omega)
  have h2 := List.Nodup.length_le_of_subset hnd hs
  rw [List.length_map, List.length_range] at h2
  omega
theorem perm_sum {l l' : List Int} (h : l.Perm l') : l.sum = l'.sum := by
  induction h with
  | nil => rfl
  | cons x _ ih => simp [ih]
  | swap x y l => simp only [List.sum_cons]; omega
  | trans _ _ h1 h2 => exact h1.trans h2
theorem sum_len (cs : List (List Int)) : (cs.map fun c => (c.length : Int)).sum = (cs.flatten.length : Int) := by
  induction cs with
  | nil => rfl
  | cons c cs ih => simp [ih]
theorem lens_sum {xs : List Int} {n : Nat} (hxn : xs.length = n) (hok : okP xs = true) : (lensL xs).sum = (n : Int) := by
  have h1 : (lensL xs).sum = (lenL xs).sum := perm_sum (sortL_perm (lenL xs))
  rw [h1, lenL, sum_len, flat_len hxn hok]
theorem ordF_all : ∀ (l : List Int) (o : Nat), ordF l o ≤ 1000000000000000 → o ∣ ordF l o ∧ (∀ x ∈ l, x.toNat ∣ ordF l o) ∧ ∀ m, o ∣ m → (∀ x ∈ l, x.toNat ∣ m) → ordF l o ∣ m
  | [], o, _ => ⟨Nat.dvd_refl _, by simp, fun m h _ => h⟩
  | x :: r, o, h => by
    have e : o / Nat.gcd o x.toNat * x.toNat = Nat.lcm o x.toNat := by
      unfold Nat.lcm
      rw [Nat.div_mul_right_comm (Nat.gcd_dvd_left o x.toNat)]
    unfold ordF at h ⊢
    rw [e] at h ⊢
    by_cases hb : 1000000000000000 < Nat.lcm o x.toNat
    · rw [if_pos hb] at h
      omega
    · rw [if_neg hb] at h ⊢
      obtain ⟨h1, h2, h3⟩ := ordF_all r (Nat.lcm o x.toNat) h
      refine ⟨Nat.dvd_trans (Nat.dvd_lcm_left _ _) h1, fun y hy => ?_, fun m hm hall => ?_⟩
      · rcases List.mem_cons.1 hy with rfl | hy
        · exact Nat.dvd_trans (Nat.dvd_lcm_right _ _) h1
        · exact h2 y hy
      · exact h3 m (Nat.lcm_dvd hm (hall x (by simp))) fun y hy => hall y (List.mem_cons.2 (.inr hy))
theorem len_mem {xs c : List Int} {k : Nat} (h : (cycL xs)[k]? = some c) : (c.length : Int) ∈ lensL xs :=
  (sortL_perm _).mem_iff.2 (List.mem_map.2 ⟨c, List.mem_of_getElem? h, rfl⟩)
/-- The power by a common multiple of the lengths of the cycles leaves each point. -/
theorem pow_unit {xs : List Int} {n m : Nat} (hxn : xs.length = n) (hok : okP xs = true) (h : ∀ x ∈ lensL xs, x.toNat ∣ m) : powL xs (m : Int) = unitL n := by
  apply List.ext_getElem?
  intro j
  by_cases hj : j < n
  · obtain ⟨k, c, i, hc, hx, hi⟩ := point_cycle hxn hok (x := (j : Int)) (by omega) (by omega)
    have h1 := pw_at hxn hok hc hx (m : Int)
    have hd := h _ (len_mem hc)
    simp only [Int.toNat_natCast] at hd
    have e : ((m : Int) % (c.length : Int)) = 0 := by
      have := Nat.mod_eq_zero_of_dvd hd
      exact_mod_cast this
    rw [e] at h1
    simp only [Int.toNat_zero, Nat.add_zero] at h1
    rw [Nat.mod_eq_of_lt hi, hx] at h1
    rw [powL_at (by omega), ← h1]
    simp [unitL, hj]
  · rw [List.getElem?_eq_none (by rw [powL_length]; omega), List.getElem?_eq_none (by simp [unitL]; omega)]
theorem cyc_nodup {xs c : List Int} {n k : Nat} (hxn : xs.length = n) (hok : okP xs = true) (hc : (cycL xs)[k]? = some c) : c.Nodup := by
  have e : cycTo xs n n = cycL xs := by unfold cycL; rw [hxn]
  have hp := (cycTo_passed hxn hok n (Nat.le_refl _)).2
  rw [e] at hp
  exact (List.pairwise_flatten.1 hp).1 c (List.mem_of_getElem? hc)
/-- Where a power leaves each point, each length divides the exponent. -/
theorem pow_div {xs : List Int} {n m : Nat} (hxn : xs.length = n) (hok : okP xs = true) (h : powL xs (m : Int) = unitL n) : ∀ x ∈ lensL xs, x.toNat ∣ m := by
  intro x hx
  obtain ⟨c, hcm, rfl⟩ := List.mem_map.1 ((sortL_perm _).mem_iff.1 hx)
  obtain ⟨k, hk, rfl⟩ := List.mem_iff_getElem.1 hcm
  have hc : (cycL xs)[k]? = some (cycL xs)[k] := List.getElem?_eq_getElem hk
  obtain ⟨c, hce⟩ : ∃ c, (cycL xs)[k] = c := ⟨_, rfl⟩
  rw [hce] at hc ⊢
  obtain ⟨h1, h2, h3, h4⟩ := cyc_facts hxn hok hc
  have hx0 : c[0]? = some c[0] := List.getElem?_eq_getElem (by omega)
  have hr := h2 _ (List.mem_of_getElem? hx0)
  obtain ⟨p, hp⟩ := Int.eq_ofNat_of_zero_le hr.1
  rw [hp] at hx0 hr
  have e1 := pw_at hxn hok hc hx0 (m : Int)
  have e2 := powL_at (xs := xs) (k := (m : Int)) (j := p) (by omega)
  rw [h] at e2
  have e3 : (unitL n)[p]? = some (p : Int) := by simp [unitL, show p < n by omega]
  rw [e3] at e2
  injection e2 with e2
  rw [← e2] at e1
  obtain ⟨s, hs⟩ := Int.eq_ofNat_of_zero_le (Int.emod_nonneg (m : Int) (show (c.length : Int) ≠ 0 by omega))
  have hsl : s < c.length := by have := Int.emod_lt_of_pos (m : Int) (show 0 < (c.length : Int) by omega); omega
  rw [hs] at e1
  simp only [Int.toNat_natCast, Nat.zero_add] at e1
  rw [Nat.mod_eq_of_lt hsl] at e1
  have hnd := cyc_nodup hxn hok hc
  have hs0 : s = 0 := by
    rcases Nat.eq_zero_or_pos s with h0 | h0
    · exact h0
    · exact absurd ((List.getElem?_eq_some_iff.1 hx0).2.trans (List.getElem?_eq_some_iff.1 e1).2.symm) (List.pairwise_iff_getElem.1 hnd 0 s (by omega) hsl h0)
  simp only [Int.toNat_natCast]
  apply Nat.dvd_of_mod_eq_zero
  rw [hs0] at hs
  exact_mod_cast hs
theorem lensL_pos {xs : List Int} (hok : okP xs = true) {x : Int} (h : x ∈ lensL xs) : 1 ≤ x.toNat := by
  obtain ⟨k, hk, rfl⟩ := List.mem_iff_getElem.1 h
  obtain ⟨l, hl, h1, _⟩ := lens_bounds hok (List.getElem?_eq_getElem hk)
  omega
theorem ordF_pos : ∀ (l : List Int) (o : Nat), 1 ≤ o → (∀ x ∈ l, 1 ≤ x.toNat) → 1 ≤ ordF l o
  | [], o, h, _ => h
  | x :: r, o, h, hl => by
    unfold ordF
    split
    · omega
    · refine ordF_pos r _ ?_ fun y hy => hl y (List.mem_cons.2 (.inr hy))
      have hx := hl x (by simp)
      have hg := Nat.gcd_pos_of_pos_left x.toNat h
      exact Nat.mul_pos (Nat.div_pos (Nat.gcd_le_left _ h) hg) hx
/-- The order's power leaves each point. -/
theorem ord_unit {xs : List Int} {n : Nat} (hxn : xs.length = n) (hok : okP xs = true) (h : ordO xs ≤ 1000000000000000) : powL xs (ordO xs : Int) = unitL n :=
  pow_unit hxn hok (ordF_all _ _ h).2.1
/-- No part of the order does. -/
theorem ord_part {xs : List Int} {n q : Nat} (hxn : xs.length = n) (hok : okP xs = true) (h : ordO xs ≤ 1000000000000000) (hq : 2 ≤ q) (hd : q ∣ ordO xs) : powL xs ((ordO xs / q : Nat) : Int) ≠ unitL n := by
  intro he
  have h1 := pow_div hxn hok he
  have hpos : 1 ≤ ordO xs := ordF_pos _ _ (Nat.le_refl _) fun x hx => lensL_pos hok hx
  have h2 := (ordF_all _ _ h).2.2 (ordO xs / q) (Nat.one_dvd _) h1
  obtain ⟨t, ht⟩ := hd
  have e : ordO xs / q = t := by rw [ht]; exact Nat.mul_div_cancel_left t (by omega)
  rw [e] at h2
  have ht0 : 0 < t := by rcases Nat.eq_zero_or_pos t with h0 | h0; · rw [h0] at ht; omega
                         · exact h0
  have h3 : ordO xs ≤ t := Nat.le_of_dvd ht0 h2
  have h4 : 2 * t ≤ q * t := Nat.mul_le_mul_right t hq
  omega
end Go.Proofs.Ytmgoaabeopnopaa
namespace Go.Proofs.Ytmgoaabeopnopaa
open Go.RowKit

theorem inv_powL (xs : List Int) : invL xs = powL xs (-1) := by
  unfold powL pwBase
  rw [if_pos (by decide), show (-1 : Int).natAbs = 1 from rfl, powN_one (invL_len xs)]
theorem pw_zero (xs : List Int) (x : Int) : pwT xs 0 x = x := rfl
theorem okP_powL {xs : List Int} (hok : okP xs = true) (a : Int) : okP (powL xs a) = true := by
  have h4 := (of_decide_eq_true hok).1
  have hl := powL_length xs a
  refine decide_eq_true ⟨by omega, ?_, ?_⟩
  · intro x hx
    rw [hl]
    obtain ⟨j, hj, rfl⟩ := List.mem_iff_getElem.1 hx
    have h1 := powL_at (xs := xs) (k := a) (j := j) (by omega)
    rw [List.getElem?_eq_getElem hj] at h1
    injection h1 with h1
    rw [h1]
    exact pw_in rfl hok (by omega) (by omega) a
  · refine List.pairwise_iff_getElem.2 fun i j hi hj hij he => ?_
    have h1 := powL_at (xs := xs) (k := a) (j := i) (by omega)
    have h2 := powL_at (xs := xs) (k := a) (j := j) (by omega)
    rw [List.getElem?_eq_getElem hi] at h1
    rw [List.getElem?_eq_getElem hj] at h2
    injection h1 with h1
    injection h2 with h2
    rw [h1, h2] at he
    have e1 := pw_add rfl hok (x := (i : Int)) (by omega) (by omega) a (-a)
    have e2 := pw_add rfl hok (x := (j : Int)) (by omega) (by omega) a (-a)
    rw [he, e2, show a + -a = 0 by omega, pw_zero, pw_zero] at e1
    omega
def RetT (w : World) (L : List Int) (n : Nat) (C : Int) (e : Ending) (w' : World) : Prop :=
  ∃ A c, e = .returned (.tuple #[.slice A n c, .int .i64 C]) ∧ w'.ownsRow w.heap.size 2 1 (.slice A n c) n (ints L) ∧ Below w.heap.size w w'
theorem retT_of {w w' : World} {e : Ending} {L L' : List Int} {C C' : Int} {n : Nat} (h : RetS w L C e w') (h1 : L = L') (h2 : L'.length = n) (h3 : C = C') : RetT w L' n C' e w' := by
  subst h1 h2 h3; exact h
section
variable {A A2 : Option Addr} {c c2 n : Nat} {xs ys : List Int}
theorem likeB {m : Nat} (w : World) (hx : xs.length = n) (hy : ys.length = m) (ha : Rd w A (ints xs)) (hb : Rd w A2 (ints ys)) (hn : n ≤ 1048576) :
    Calls Try.prog 68 #[.slice A n c, .slice A2 m c2] w fun e w' => e = .returned (.bool (decide (xs = ys))) ∧ Below w.heap.size w w' :=
  (like_any w hx hy ha hb (by omega)).mono fun _ _ ⟨he, j, hj⟩ => ⟨he, by rw [hj]; exact below_drewN (Below.refl _ _) j⟩
end
/-- What the order's answer and code can be. -/
theorem ord_cases {xs : List Int} (hp : okP xs = true) : (ordC xs = 3 ∧ ordR xs = 0) ∨ (ordC xs = 0 ∧ ordR xs = (ordO xs : Int) ∧ ordO xs ≤ 1000000000000000) := by
  unfold ordC ordR
  rw [if_pos hp, if_pos hp]
  split
  · exact .inl ⟨rfl, rfl⟩
  · rename_i h
    exact .inr ⟨rfl, rfl, by omega⟩
end Go.Proofs.Ytmgoaabeopnopaa
/- Conjugation keeps the lengths of the cycles: plain facts, no program. -/
namespace Go.Proofs.Ytmgoaabeopnopaa
open Go.RowKit

theorem perm_nodup : ∀ {l1 l2 : List Int}, l1.Nodup → l2.Nodup → (∀ a, a ∈ l1 ↔ a ∈ l2) → l1.Perm l2
  | [], l2, _, _, h => by
    have : l2 = [] := List.eq_nil_iff_forall_not_mem.2 fun a ha => by have := (h a).2 ha; simp at this
    rw [this]
  | a :: t, l2, h1, h2, h => by
    have ha : a ∈ l2 := (h a).1 (by simp)
    have hn := List.nodup_cons.1 h1
    have ih : t.Perm (l2.erase a) := perm_nodup hn.2 (h2.erase a) fun b => by
      rw [List.Nodup.mem_erase_iff h2]
      constructor
      · intro hb
        exact ⟨fun e => hn.1 (e ▸ hb), (h b).1 (List.mem_cons.2 (.inr hb))⟩
      · rintro ⟨hb, hm⟩
        exact (List.mem_cons.1 ((h b).2 hm)).resolve_left hb
    exact (List.Perm.cons a ih).trans (List.perm_cons_erase ha).symm
theorem passed_all {n : Nat} {l : List Int} (h : Passed n l) (hl : l.length = n) {p : Nat} (hp : p < n) : (p : Int) ∈ l := by
  by_cases hm : (p : Int) ∈ l
  · exact hm
  · have := passed_len (passed_snoc h hp hm)
    simp at this
    omega
/-- Cycles that make up a permutation. -/
structure Decomp (f : Int → Int) (n : Nat) (cs : List (List Int)) : Prop where
  cyc : ∀ c ∈ cs, ∀ (i : Nat) (x : Int), c[i]? = some x → c[(i + 1) % c.length]? = some (f x)
  ne : ∀ c ∈ cs, 1 ≤ c.length
  ps : Passed n cs.flatten
  len : cs.flatten.length = n
def itf (f : Int → Int) : Nat → Int → Int
  | 0, x => x
  | m + 1, x => itf f m (f x)
theorem itf_at {f : Int → Int} {c : List Int} (h : ∀ (i : Nat) (x : Int), c[i]? = some x → c[(i + 1) % c.length]? = some (f x)) : ∀ (m i : Nat) (x : Int), c[i]? = some x → c[(i + m) % c.length]? = some (itf f m x)
  | 0, i, x, hx => by
    have := (List.getElem?_eq_some_iff.1 hx).1
    rw [Nat.add_zero, Nat.mod_eq_of_lt this]
    exact hx
  | m + 1, i, x, hx => by
    have h1 := itf_at h m _ _ (h i x hx)
    rw [itf, ← h1]
    congr 1
    rw [Nat.mod_add_mod]
    congr 1
    omega
/-- The point comes back after L steps and not before. -/
def Per (f : Int → Int) (L : Nat) (x : Int) : Bool := decide (itf f L x = x ∧ ∀ m < L, 1 ≤ m → itf f m x ≠ x)
theorem per_iff {f : Int → Int} {c : List Int} {L i : Nat} {x : Int} (h : ∀ (i : Nat) (x : Int), c[i]? = some x → c[(i + 1) % c.length]? = some (f x)) (hnd : c.Nodup) (hL : 1 ≤ L) (hx : c[i]? = some x) : Per f L x = decide (c.length = L) := by
  have hi := (List.getElem?_eq_some_iff.1 hx).1
  have key : ∀ m, itf f m x = x ↔ m % c.length = 0 := fun m => by
    have h1 := itf_at h m i x hx
    constructor
    · intro he
      rw [he] at h1
      have hlt : (i + m) % c.length < c.length := Nat.mod_lt _ (by omega)
      have hii : (i + m) % c.length = i := by
        have e1 := (List.getElem?_eq_some_iff.1 hx).2
        have e2 := (List.getElem?_eq_some_iff.1 h1).2
        rcases Nat.lt_trichotomy ((i + m) % c.length) i with h2 | h2 | h2
        · exact absurd (e2.trans e1.symm) (List.pairwise_iff_getElem.1 hnd _ _ hlt hi h2)
        · exact h2
        · exact absurd (e1.trans e2.symm) (List.pairwise_iff_getElem.1 hnd _ _ hi hlt h2)
      rw [Nat.add_mod, Nat.mod_eq_of_lt hi] at hii
      have hml : m % c.length < c.length := Nat.mod_lt _ (by omega)
      by_cases hs : i + m % c.length < c.length
      · rw [Nat.mod_eq_of_lt hs] at hii; omega
      · rw [Nat.mod_eq_sub_mod (by omega), Nat.mod_eq_of_lt (by omega)] at hii; omega
    · intro hm
      rw [Nat.add_mod, hm, Nat.add_zero, Nat.mod_mod, Nat.mod_eq_of_lt hi, hx] at h1
      injection h1 with h1
      exact h1.symm
  unfold Per
  by_cases hl : c.length = L
  · rw [decide_eq_true hl]
    refine decide_eq_true ⟨(key L).2 (by rw [hl, Nat.mod_self]), fun m hm hm1 he => ?_⟩
    have h0 := (key m).1 he
    rw [hl, Nat.mod_eq_of_lt hm] at h0
    omega
  · rw [decide_eq_false hl]
    refine decide_eq_false ?_
    rintro ⟨h1, h2⟩
    have h0 := (key L).1 h1
    have hd := Nat.le_of_dvd (by omega) (Nat.dvd_of_mod_eq_zero h0)
    exact h2 c.length (by omega) (by omega) ((key _).2 (Nat.mod_self _))
theorem count_len {f : Int → Int} {L : Nat} (hL : 1 ≤ L) : ∀ (cs : List (List Int)), (∀ c ∈ cs, ∀ (i : Nat) (x : Int), c[i]? = some x → c[(i + 1) % c.length]? = some (f x)) → (∀ c ∈ cs, c.Nodup) →
    cs.flatten.countP (Per f L) = L * (cs.map fun c => (c.length : Int)).count (L : Int)
  | [], _, _ => by simp
  | c :: cs, h, hn => by
    have ih := count_len hL cs (fun c' h' => h c' (List.mem_cons.2 (.inr h'))) (fun c' h' => hn c' (List.mem_cons.2 (.inr h')))
    have hc : c.countP (Per f L) = if c.length = L then L else 0 := by
      have hall : ∀ x ∈ c, Per f L x = decide (c.length = L) := fun x hx => by
        obtain ⟨i, hi, rfl⟩ := List.mem_iff_getElem.1 hx
        exact per_iff (h c (by simp)) (hn c (by simp)) hL (List.getElem?_eq_getElem hi)
      split
      · rename_i e
        rw [List.countP_eq_length.2 fun x hx => by rw [hall x hx]; exact decide_eq_true e, e]
      · rename_i e
        rw [List.countP_eq_zero]
        intro x hx
        rw [hall x hx]
        simp [e]
    rw [List.flatten_cons, List.countP_append, ih, hc, List.map_cons, List.count_cons, Nat.mul_add]
    have e : ((c.length : Int) == (L : Int)) = decide (c.length = L) := by
      by_cases h2 : c.length = L
      · rw [h2]; simp
      · rw [decide_eq_false h2, beq_eq_false_iff_ne]; omega
    rw [e]
    by_cases h2 : c.length = L
    · simp [h2]; omega
    · simp [h2]
/-- Two ways to make up one permutation have the same lengths. -/
theorem decomp_lens {f : Int → Int} {n : Nat} {cs ds : List (List Int)} (h1 : Decomp f n cs) (h2 : Decomp f n ds) : (cs.map fun c => (c.length : Int)).Perm (ds.map fun c => (c.length : Int)) := by
  have hp : cs.flatten.Perm ds.flatten := perm_nodup h1.ps.2 h2.ps.2 fun a => by
    constructor
    · intro ha
      have := h1.ps.1 a ha
      obtain ⟨p, rfl⟩ := Int.eq_ofNat_of_zero_le this.1
      exact passed_all h2.ps h2.len (by omega)
    · intro ha
      have := h2.ps.1 a ha
      obtain ⟨p, rfl⟩ := Int.eq_ofNat_of_zero_le this.1
      exact passed_all h1.ps h1.len (by omega)
  refine List.perm_iff_count.2 fun a => ?_
  have nd1 : ∀ c ∈ cs, c.Nodup := (List.pairwise_flatten.1 h1.ps.2).1
  have nd2 : ∀ c ∈ ds, c.Nodup := (List.pairwise_flatten.1 h2.ps.2).1
  by_cases ha : 1 ≤ a
  · obtain ⟨L, rfl⟩ := Int.eq_ofNat_of_zero_le (show 0 ≤ a by omega)
    have hL : 1 ≤ L := by omega
    have e1 := count_len hL cs h1.cyc nd1
    have e2 := count_len hL ds h2.cyc nd2
    rw [hp.countP_eq, e2] at e1
    exact (Nat.eq_of_mul_eq_mul_left (by omega) e1).symm
  · have hz : ∀ (es : List (List Int)), (∀ c ∈ es, 1 ≤ c.length) → (es.map fun c => (c.length : Int)).count a = 0 := fun es he => by
      refine List.count_eq_zero.2 fun hm => ?_
      obtain ⟨c, hc, rfl⟩ := List.mem_map.1 hm
      have := he c hc
      omega
    rw [hz cs h1.ne, hz ds h2.ne]
end Go.Proofs.Ytmgoaabeopnopaa
namespace Go.Proofs.Ytmgoaabeopnopaa
open Go.RowKit

theorem fz_some {xs : List Int} {n : Nat} (hxn : xs.length = n) {x : Int} (h0 : 0 ≤ x) (h1 : x < (n : Int)) : xs[x.toNat]? = some (fz xs x) := by
  have h : x.toNat < xs.length := by omega
  simp [fz, h]
theorem fz_then {xs ys : List Int} {n : Nat} (hxn : xs.length = n) (hyn : ys.length = n) (hp : okP xs = true) {x : Int} (h0 : 0 ≤ x) (h1 : x < (n : Int)) : fz (thenL xs ys) x = fz ys (fz xs x) := by
  have hx := fz_some hxn h0 h1
  have hr := fz_in hxn hp h0 h1
  obtain ⟨m, hm⟩ := Int.eq_ofNat_of_zero_le hr.1
  have hy := fz_some hyn hr.1 hr.2
  rw [hm] at hx hy
  rw [Int.toNat_natCast] at hy
  have h2 := thenL_at hx hy
  rw [hm]
  obtain ⟨p, rfl⟩ := Int.eq_ofNat_of_zero_le h0
  rw [Int.toNat_natCast] at h2
  exact fz_at h2
theorem okP_of {zs : List Int} {n : Nat} (hn : zs.length = n) (h4 : n ≤ 400) (h1 : ∀ x : Int, 0 ≤ x → x < (n : Int) → 0 ≤ fz zs x ∧ fz zs x < (n : Int)) (h2 : ∀ x y : Int, 0 ≤ x → x < (n : Int) → 0 ≤ y → y < (n : Int) → fz zs x = fz zs y → x = y) : okP zs = true := by
  refine decide_eq_true ⟨by omega, fun x hx => ?_, ?_⟩
  · obtain ⟨j, hj, rfl⟩ := List.mem_iff_getElem.1 hx
    have h := h1 j (by omega) (by omega)
    rw [fz_at (List.getElem?_eq_getElem hj)] at h
    rw [hn]
    exact h
  · refine List.pairwise_iff_getElem.2 fun i j hi hj hij he => ?_
    have h := h2 i j (by omega) (by omega) (by omega) (by omega) (by rw [fz_at (List.getElem?_eq_getElem hi), fz_at (List.getElem?_eq_getElem hj), he])
    omega
theorem okP_len {xs : List Int} {n : Nat} (hxn : xs.length = n) (hp : okP xs = true) : n ≤ 400 := by have := (of_decide_eq_true hp).1; omega
theorem okP_then {xs ys : List Int} {n : Nat} (hxn : xs.length = n) (hyn : ys.length = n) (hp : okP xs = true) (hq : okP ys = true) : okP (thenL xs ys) = true := by
  refine okP_of (by rw [thenL_length, hxn]) (okP_len hxn hp) (fun x h0 h1 => ?_) (fun x y h0 h1 g0 g1 he => ?_)
  · have h2 := fz_in hxn hp h0 h1
    rw [fz_then hxn hyn hp h0 h1]
    exact fz_in hyn hq h2.1 h2.2
  · rw [fz_then hxn hyn hp h0 h1, fz_then hxn hyn hp g0 g1] at he
    have a := fz_in hxn hp h0 h1
    have b := fz_in hxn hp g0 g1
    exact fz_inj hxn hp h0 h1 g0 g1 (fz_inj hyn hq a.1 a.2 b.1 b.2 he)
theorem okP_inv {xs : List Int} (hp : okP xs = true) : okP (invL xs) = true := by rw [inv_powL]; exact okP_powL hp _
/-- The inverse, from the other side. -/
theorem fz_inv2 {xs : List Int} {n : Nat} (hxn : xs.length = n) (hp : okP xs = true) {x : Int} (h0 : 0 ≤ x) (h1 : x < (n : Int)) : fz xs (fz (invL xs) x) = x := by
  have h := pw_add hxn hp h0 h1 (-1) 1
  have e1 : ∀ z, pwT xs 1 z = fz xs z := fun z => rfl
  have e2 : pwT xs (-1) x = fz (invL xs) x := rfl
  rw [e1, e2, show (-1 : Int) + 1 = 0 by decide, pw_zero] at h
  exact h
theorem conj_len {xs ys : List Int} {n : Nat} (hyn : ys.length = n) : (conjL xs ys).length = n := by unfold conjL; rw [thenL_length, thenL_length, invL_len, hyn]
theorem okP_conj {xs ys : List Int} {n : Nat} (hxn : xs.length = n) (hyn : ys.length = n) (hp : okP xs = true) (hq : okP ys = true) : okP (conjL xs ys) = true := by
  have hi : (invL ys).length = n := by rw [invL_len, hyn]
  exact okP_then (by rw [thenL_length, hi]) hyn (okP_then hi hxn (okP_inv hq) hp) hq
theorem fz_conj {xs ys : List Int} {n : Nat} (hxn : xs.length = n) (hyn : ys.length = n) (hp : okP xs = true) (hq : okP ys = true) {x : Int} (h0 : 0 ≤ x) (h1 : x < (n : Int)) : fz (conjL xs ys) (fz ys x) = fz ys (fz xs x) := by
  have hi : (invL ys).length = n := by rw [invL_len, hyn]
  have h2 := fz_in hyn hq h0 h1
  unfold conjL
  rw [fz_then (by rw [thenL_length, hi]) hyn (okP_then hi hxn (okP_inv hq) hp) h2.1 h2.2, fz_then hi hxn (okP_inv hq) h2.1 h2.2, fz_inv hyn hq h0 h1]
theorem list_fz {xs ys : List Int} {n : Nat} (hxn : xs.length = n) (hyn : ys.length = n) (h : ∀ x : Int, 0 ≤ x → x < (n : Int) → fz xs x = fz ys x) : xs = ys := by
  apply List.ext_getElem (by omega)
  intro i h1 h2
  have := h i (by omega) (by omega)
  rwa [fz_at (List.getElem?_eq_getElem h1), fz_at (List.getElem?_eq_getElem h2)] at this
/-- Conjugating twice is conjugating by the product. -/
theorem conj_conj {p q r : List Int} {n : Nat} (hpn : p.length = n) (hqn : q.length = n) (hrn : r.length = n) (hp : okP p = true) (hq : okP q = true) (hr : okP r = true) : conjL (conjL p q) r = conjL p (thenL q r) := by
  have hc : (conjL p q).length = n := conj_len hqn
  have ht : (thenL q r).length = n := by rw [thenL_length, hqn]
  have hok := okP_then hqn hrn hq hr
  refine list_fz (conj_len hrn) (conj_len ht) fun y h0 h1 => ?_
  have i0 := fz_in (xs := invL (thenL q r)) (by rw [invL_len, ht]) (okP_inv hok) h0 h1
  have e := fz_inv2 ht hok h0 h1
  obtain ⟨x, hx⟩ : ∃ x, fz (invL (thenL q r)) y = x := ⟨_, rfl⟩
  rw [hx] at e i0
  rw [← e, fz_conj hpn ht hp hok i0.1 i0.2]
  have a := fz_in hqn hq i0.1 i0.2
  have b := fz_in hpn hp i0.1 i0.2
  rw [fz_then hqn hrn hq i0.1 i0.2, fz_conj hc hrn (okP_conj hpn hqn hp hq) hr a.1 a.2, fz_conj hpn hqn hp hq i0.1 i0.2, fz_then hqn hrn hq b.1 b.2]
theorem decomp_cyc {xs : List Int} {n : Nat} (hxn : xs.length = n) (hp : okP xs = true) : Decomp (fz xs) n (cycL xs) := by
  have e : cycTo xs n n = cycL xs := by unfold cycL; rw [hxn]
  have h := cyc_all hxn hp n (Nat.le_refl _)
  have hps := cycTo_passed hxn hp n (Nat.le_refl _)
  rw [e] at h hps
  exact ⟨h.1, fun c hc => (cyc_bounds hxn hp n (Nat.le_refl _) c (by rw [e]; exact hc)).1, hps, flat_len hxn hp⟩
theorem decomp_conj {xs ys : List Int} {n : Nat} (hxn : xs.length = n) (hyn : ys.length = n) (hp : okP xs = true) (hq : okP ys = true) : Decomp (fz (conjL xs ys)) n ((cycL xs).map fun c => c.map (fz ys)) := by
  have d := decomp_cyc hxn hp
  have hfl : ((cycL xs).map fun c => c.map (fz ys)).flatten = (cycL xs).flatten.map (fz ys) := by rw [List.map_flatten]
  have hin : ∀ c ∈ cycL xs, ∀ x ∈ c, 0 ≤ x ∧ x < (n : Int) := fun c hc x hx => d.ps.1 x (List.mem_flatten.2 ⟨c, hc, hx⟩)
  refine ⟨fun c' hc' i x hx => ?_, fun c' hc' => ?_, ?_, by rw [hfl, List.length_map, d.len]⟩
  · obtain ⟨c, hc, rfl⟩ := List.mem_map.1 hc'
    rw [List.getElem?_map] at hx
    obtain ⟨z, hz, rfl⟩ := Option.map_eq_some_iff.1 hx
    have hr := hin c hc z (List.mem_of_getElem? hz)
    rw [List.length_map, List.getElem?_map, d.cyc c hc i z hz, fz_conj hxn hyn hp hq hr.1 hr.2]
    rfl
  · obtain ⟨c, hc, rfl⟩ := List.mem_map.1 hc'
    rw [List.length_map]
    exact d.ne c hc
  · rw [hfl]
    refine ⟨fun y hy => ?_, ?_⟩
    · obtain ⟨x, hx, rfl⟩ := List.mem_map.1 hy
      have := d.ps.1 x hx
      exact fz_in hyn hq this.1 this.2
    · refine List.pairwise_map.2 (List.Pairwise.imp_of_mem ?_ d.ps.2)
      intro a b ha hb hab he
      have h1 := d.ps.1 a ha
      have h2 := d.ps.1 b hb
      exact hab (fz_inj hyn hq h1.1 h1.2 h2.1 h2.2 he)
theorem sorted_perm : ∀ {l1 l2 : List Int}, l1.Pairwise (· ≤ ·) → l2.Pairwise (· ≤ ·) → l1.Perm l2 → l1 = l2
  | [], l2, _, _, h => (List.nil_perm.1 h).symm ▸ rfl
  | a :: t, [], _, _, h => by have := h.length_eq; simp at this
  | a :: t, b :: s, h1, h2, h => by
    have ha := List.pairwise_cons.1 h1
    have hb := List.pairwise_cons.1 h2
    have e : a = b := by
      have m1 : a ∈ b :: s := h.mem_iff.1 (by simp)
      have m2 : b ∈ a :: t := h.mem_iff.2 (by simp)
      rcases List.mem_cons.1 m1 with e | m1
      · exact e
      rcases List.mem_cons.1 m2 with e | m2
      · exact e.symm
      have := hb.1 a m1
      have := ha.1 b m2
      omega
    subst e
    rw [sorted_perm ha.2 hb.2 (List.Perm.cons_inv h)]
/-- Conjugates have the same lengths of cycles. -/
theorem conj_lens {xs ys : List Int} {n : Nat} (hxn : xs.length = n) (hyn : ys.length = n) (hp : okP xs = true) (hq : okP ys = true) : lensL (conjL xs ys) = lensL xs := by
  have h1 := decomp_lens (decomp_cyc (conj_len (xs := xs) hyn) (okP_conj hxn hyn hp hq)) (decomp_conj hxn hyn hp hq)
  have h2 : ((cycL xs).map fun c => c.map (fz ys)).map (fun c => (c.length : Int)) = lenL xs := by
    rw [List.map_map, lenL]
    apply List.map_congr_left
    intro c _
    simp
  rw [h2] at h1
  exact sorted_perm (sortL_sorted _) (sortL_sorted _) ((sortL_perm _).trans (h1.trans (sortL_perm _).symm))
end Go.Proofs.Ytmgoaabeopnopaa
