/- The numbers that the draws hand out: the source's next number, whatever it is. -/
import Derived.Test.YtjkddoiacifhpaaL3
import Derived.BigQuiet
import Derived.Laws.Bits64b
namespace Go.Proofs.Ytjkddoiacifhpaa
open Go.RowKit

/-- A source of numbers over the bytes v lies in block g. -/
structure Src (w : World) (g : Nat) (A : Option Addr) (n c at_ : Nat) (h : Int) (bs : List Value) : Prop where
  c0 : w.cell? ⟨g, 0, none⟩ = some (.slice A n c)
  c1 : w.cell? ⟨g, 1, none⟩ = some (.int .i64 at_)
  c2 : w.cell? ⟨g, 2, none⟩ = some (.int .u64 h)
  f1 : w.frozen? ⟨g, 1, none⟩ = false
  f2 : w.frozen? ⟨g, 2, none⟩ = false
  le : at_ ≤ n
  rd : Rd w A bs
  len : bs.length = n
  u8 : ∀ v ∈ bs, ∃ x : Nat, v = .int .u8 x ∧ x < 256
  out : 0 < bs.length → ∀ b o, A = some ⟨b, o, none⟩ → b < g

theorem rnd (X : Int) : ∃ r : Nat, r < 16777216 ∧ wrap64 (bits .and .u64 (IntKind.u64.wrap X / 8589934592) 16777215) = (r : Int) := by
  obtain ⟨Y, hY⟩ := Int.eq_ofNat_of_zero_le (show 0 ≤ IntKind.u64.wrap X / 8589934592 by rw [IntKind.wrap_u64]; omega)
  have hlt : Y < 18446744073709551616 := by rw [IntKind.wrap_u64] at hY; omega
  have h1 := bits_and_u64_nat Y 16777215 hlt (by omega)
  have h2 : Y &&& 16777215 ≤ 16777215 := Nat.and_le_right
  refine ⟨Y &&& 16777215, by omega, ?_⟩
  rw [hY]
  exact (congrArg wrap64 h1).trans (IntWalk.wrap64_in _ (by omega))
section
variable {w : World} {g n c at_ : Nat} {h : Int} {A : Option Addr} {bs : List Value}
theorem Src.set2 (hs : Src w g A n c at_ h bs) (h' : Int) : Src (w.setCell ⟨g, 2, none⟩ (.int .u64 h')) g A n c at_ h' bs := by
  refine ⟨?_, ?_, World.cell?_setCell_same _ _ _ hs.c2, by simpa using hs.f1, by simpa using hs.f2, hs.le, ?_, hs.len, hs.u8, hs.out⟩
  · exact (World.cell?_setCell_other (w := w) (a := ⟨g, 2, none⟩) (b := ⟨g, 0, none⟩) (v := (.int .u64 h')) (by simp)).trans hs.c0
  · exact (World.cell?_setCell_other (w := w) (a := ⟨g, 2, none⟩) (b := ⟨g, 1, none⟩) (v := (.int .u64 h')) (by simp)).trans hs.c1
  · intro hl
    obtain ⟨b, o, e, hc⟩ := hs.rd hl
    exact ⟨b, o, e, fun k u hu => (World.cell?_setCell_other (w := w) (a := ⟨g, 2, none⟩) (b := ⟨b, o + k, none⟩) (v := (.int .u64 h')) (by have := hs.out hl b o e; intro h1; injection h1 with h2; omega)).trans (hc k u hu)⟩
theorem Src.set1 (hs : Src w g A n c at_ h bs) {a' : Nat} (ha : a' ≤ n) : Src (w.setCell ⟨g, 1, none⟩ (.int .i64 a')) g A n c a' h bs := by
  refine ⟨?_, World.cell?_setCell_same _ _ _ hs.c1, ?_, by simpa using hs.f1, by simpa using hs.f2, ha, ?_, hs.len, hs.u8, hs.out⟩
  · exact (World.cell?_setCell_other (w := w) (a := ⟨g, 1, none⟩) (b := ⟨g, 0, none⟩) (v := (.int .i64 a')) (by simp)).trans hs.c0
  · exact (World.cell?_setCell_other (w := w) (a := ⟨g, 1, none⟩) (b := ⟨g, 2, none⟩) (v := (.int .i64 a')) (by simp)).trans hs.c2
  · intro hl
    obtain ⟨b, o, e, hc⟩ := hs.rd hl
    exact ⟨b, o, e, fun k u hu => (World.cell?_setCell_other (w := w) (a := ⟨g, 1, none⟩) (b := ⟨b, o + k, none⟩) (v := (.int .i64 a')) (by have := hs.out hl b o e; intro h1; injection h1 with h2; omega)).trans (hc k u hu)⟩
theorem Src.drew (hs : Src w g A n c at_ h bs) (k : Nat) : Src (w.drewN k) g A n c at_ h bs := ⟨hs.c0, hs.c1, hs.c2, hs.f1, hs.f2, hs.le, hs.rd, hs.len, hs.u8, hs.out⟩
theorem turns_set (w : World) (g k : Nat) (v : Value) : Turns g (g + 1) w (w.setCell ⟨g, k, none⟩ v) :=
  ⟨rfl, rfl, rfl, by simp, fun b hb hn => by
    have hne : g ≠ b := by omega
    simp [World.setCell, Array.getElem?_modify, hne]⟩
theorem turns_drew (w : World) (g k : Nat) : Turns g (g + 1) w (w.drewN k) := ⟨rfl, rfl, rfl, Nat.le_refl _, fun _ _ _ => rfl⟩
end

set_option maxHeartbeats 1600000 in
theorem next_any {A : Option Addr} {g n c at_ : Nat} {h N : Int} {bs : List Value} (w : World) (hs : Src w g A n c at_ h bs) (hn : n ≤ 1048576) (hN : 1 ≤ N) :
    Calls Try.prog 140 #[.pointer (some ⟨g, 0, none⟩), .int .i64 N] w fun e w' => ∃ (r : Nat) (at' : Nat) (h' : Int), e = .returned (.int .i64 r) ∧ (r : Int) < N ∧ Src w' g A n c at' h' bs ∧ Turns g (g + 1) w w' := by
  have h0 := hs.c0
  have h1 := hs.c1
  have h2 := hs.c2
  have h3 := hs.f1
  have h4 := hs.f2
  have HS := Lib.hid hs
  clear hs
  go_enter Try.func140, Try.ntmps140
  go_wp2
  obtain ⟨r0, hr0, hre⟩ := rnd (IntKind.u64.wrap (h * 6364136223846793005) + 1442695040888963407)
  rw [hre]
  obtain ⟨H, hH⟩ : ∃ H, IntKind.u64.wrap (IntKind.u64.wrap (h * 6364136223846793005) + 1442695040888963407) = H := ⟨_, rfl⟩
  rw [hH]
  have S1 := Lib.hid (HS.out.set2 H)
  have T1 := Lib.hid (turns_set w g 2 (.int .u64 H))
  clear h0 h1 h2 h3 h4 hre hH
  obtain ⟨w1, hw1⟩ : ∃ w1, w.setCell ⟨g, 2, none⟩ (.int .u64 H) = w1 := ⟨_, rfl⟩
  rw [hw1] at S1 T1 ⊢
  have h0 := S1.out.c0
  have h1 := S1.out.c1
  clear hw1
  by_cases hlt : at_ < n
  · obtain ⟨b, o, he, hcs⟩ := S1.out.rd (by rw [S1.out.len]; omega)
    subst he
    obtain ⟨v, hv⟩ : ∃ v, bs[at_]? = some v := ⟨_, List.getElem?_eq_getElem (by rw [S1.out.len]; exact hlt)⟩
    obtain ⟨x, rfl, hx⟩ := S1.out.u8 v (List.mem_of_getElem? hv)
    have hcx := hcs at_ _ hv
    have hf1 := S1.out.f1
    clear hcs hv
    go_quiet (fail)
    go_wp2
    go_quiet (fail)
    go_wp2
    obtain ⟨q, hq⟩ := Int.eq_ofNat_of_zero_le (Int.emod_nonneg ((r0 : Int) + (x : Int)) (show N ≠ 0 by omega))
    have hqN := Int.emod_lt_of_pos ((r0 : Int) + (x : Int)) (show 0 < N by omega)
    rw [hq] at hqN ⊢
    go_ret
    exact ⟨q, at_ + 1, H, rfl, hqN, (S1.out.drew _).set1 (a' := at_ + 1) hlt, T1.out.trans ((turns_drew w1 g _).trans (turns_set _ g 1 _))⟩
  · go_quiet (fail)
    go_wp2
    obtain ⟨q, hq⟩ := Int.eq_ofNat_of_zero_le (Int.emod_nonneg (r0 : Int) (show N ≠ 0 by omega))
    have hqN := Int.emod_lt_of_pos (r0 : Int) (show 0 < N by omega)
    rw [hq] at hqN ⊢
    go_ret
    exact ⟨q, at_, H, rfl, hqN, S1.out.drew _, T1.out.trans (turns_drew w1 g _)⟩
set_option maxHeartbeats 1600000 in
theorem below_any {A : Option Addr} {g n c at_ : Nat} {h N : Int} {bs : List Value} (w : World) (hs : Src w g A n c at_ h bs) (hn : n ≤ 1048576) (hN : 1 ≤ N) :
    Calls Try.prog 37 #[.pointer (some ⟨g, 0, none⟩), .int .i64 N] w fun e w' => ∃ (r : Nat) (at' : Nat) (h' : Int), e = .returned (.int .i64 r) ∧ (r : Int) < N ∧ Src w' g A n c at' h' bs ∧ Turns g (g + 1) w w' := by
  have h0 := hs.c0
  have h1 := hs.c1
  have h2 := hs.c2
  have h3 := hs.f1
  have h4 := hs.f2
  have HS := Lib.hid hs
  clear hs
  go_enter Try.func37, Try.ntmps37
  go_wp2
  obtain ⟨r0, hr0, hre⟩ := rnd (IntKind.u64.wrap (h * 6364136223846793005) + 1442695040888963407)
  rw [hre]
  obtain ⟨H, hH⟩ : ∃ H, IntKind.u64.wrap (IntKind.u64.wrap (h * 6364136223846793005) + 1442695040888963407) = H := ⟨_, rfl⟩
  rw [hH]
  have S1 := Lib.hid (HS.out.set2 H)
  have T1 := Lib.hid (turns_set w g 2 (.int .u64 H))
  clear h0 h1 h2 h3 h4 hre hH
  obtain ⟨w1, hw1⟩ : ∃ w1, w.setCell ⟨g, 2, none⟩ (.int .u64 H) = w1 := ⟨_, rfl⟩
  rw [hw1] at S1 T1 ⊢
  have h0 := S1.out.c0
  have h1 := S1.out.c1
  clear hw1
  by_cases hlt : at_ < n
  · obtain ⟨b, o, he, hcs⟩ := S1.out.rd (by rw [S1.out.len]; omega)
    subst he
    obtain ⟨v, hv⟩ : ∃ v, bs[at_]? = some v := ⟨_, List.getElem?_eq_getElem (by rw [S1.out.len]; exact hlt)⟩
    obtain ⟨x, rfl, hx⟩ := S1.out.u8 v (List.mem_of_getElem? hv)
    have hcx := hcs at_ _ hv
    have hf1 := S1.out.f1
    clear hcs hv
    go_quiet (fail)
    go_wp2
    go_quiet (fail)
    go_wp2
    obtain ⟨q, hq⟩ := Int.eq_ofNat_of_zero_le (Int.emod_nonneg ((r0 : Int) + (x : Int)) (show N ≠ 0 by omega))
    have hqN := Int.emod_lt_of_pos ((r0 : Int) + (x : Int)) (show 0 < N by omega)
    rw [hq] at hqN ⊢
    go_ret
    exact ⟨q, at_ + 1, H, rfl, hqN, (S1.out.drew _).set1 (a' := at_ + 1) hlt, T1.out.trans ((turns_drew w1 g _).trans (turns_set _ g 1 _))⟩
  · go_quiet (fail)
    go_wp2
    obtain ⟨q, hq⟩ := Int.eq_ofNat_of_zero_le (Int.emod_nonneg (r0 : Int) (show N ≠ 0 by omega))
    have hqN := Int.emod_lt_of_pos (r0 : Int) (show 0 < N by omega)
    rw [hq] at hqN ⊢
    go_ret
    exact ⟨q, at_, H, rfl, hqN, S1.out.drew _, T1.out.trans (turns_drew w1 g _)⟩
end Go.Proofs.Ytjkddoiacifhpaa
