import Derived.Test.YtjkddoiacifhpaaDice
import Derived.RegionTactic
import Derived.ChangeAlike
import Derived.BigRegion
namespace Go.Proofs.Ytjkddoiacifhpaa
open Go.RowKit

theorem src_start {A : Option Addr} {n c : Nat} {bs : List Value} (w : World) (t : TypeId) (h : Int) (hl : bs.length = n) (hr : Rd w A bs) (hu : ∀ v ∈ bs, ∃ x : Nat, v = .int .u8 x ∧ x < 256) :
    Src (w.alloc (.cells #[.slice A n c, .int .i64 0, .int .u64 h] t)) w.heap.size A n c 0 h bs :=
  ⟨by simp, by simp, by simp, by simp, by simp, Nat.zero_le _, hr.keep ((Below.refl _ _).alloc (Nat.le_refl _) _), hl, hu, fun h0 b o e => by
    obtain ⟨b', o', e', hc⟩ := hr h0
    rw [e] at e'
    simp only [Option.some.injEq, Addr.mk.injEq] at e'
    obtain ⟨rfl, rfl, _⟩ := e'
    have := World.block_lt_of_cell? w _ (hc 0 bs[0] (List.getElem?_eq_getElem h0))
    simp at this
    omega⟩

theorem Src.drew1 {w : World} {g n c at_ : Nat} {h : Int} {A : Option Addr} {bs : List Value} (hs : Src w g A n c at_ h bs) : Src w.drew g A n c at_ h bs := hs.drew 1
theorem below_drew1 {B : Nat} {w w' : World} (h : Below B w w') : Below B w w'.drew := below_drewN h 1
set_option maxHeartbeats 3200000 in
set_option maxRecDepth 8000 in
theorem from_any {A : Option Addr} {n c : Nat} {bs : List Value} (w : World) (hl : bs.length = n) (hr : Rd w A bs) (hu : ∀ v ∈ bs, ∃ x : Nat, v = .int .u8 x ∧ x < 256) (hn : n ≤ 1048576) :
    Calls Try.prog 108 #[.slice A n c] w fun e w' => ∃ (g at' : Nat) (h' : Int), e = .returned (.pointer (some ⟨g, 0, none⟩)) ∧ w.heap.size ≤ g ∧ g < w'.heap.size ∧ Src w' g A n c at' h' bs ∧ Below w.heap.size w w' := by
  have ST := Lib.hid (src_start w 141 (8191 + n) (c := c) hl hr hu)
  clear hl hr hu
  go_enter Try.func108, Try.ntmps108
  go_wp2
  go_loopw [4] (fun i wr => ∃ (k : Nat) (h : Int), k ≤ n ∧ i = .int .i64 k ∧ Src wr w.heap.size A n c 0 h bs ∧ Below w.heap.size w wr ∧ w.heap.size < wr.heap.size) (fun i _ => n - (intOf i).toNat)
  case atStart => exact ⟨0, _, Nat.zero_le _, rfl, ST.out, (Below.refl _ _).alloc (Nat.le_refl _) _, by simp⟩
  case round =>
    obtain ⟨k, h, hk, rfl, st, bel, hsz⟩ := hrel
    have S := Lib.hid st
    have BEL := Lib.hid bel
    have h2 := st.c2
    have f2 := st.f2
    clear st bel ST
    by_cases hlt : k < n
    · by_cases h4 : (k : Int) < 4096
      · obtain ⟨b, o, he, hcs⟩ := S.out.rd (by rw [S.out.len]; omega)
        subst he
        obtain ⟨v, hv⟩ : ∃ v, bs[k]? = some v := ⟨_, List.getElem?_eq_getElem (by rw [S.out.len]; exact hlt)⟩
        obtain ⟨x, rfl, hx⟩ := S.out.u8 v (List.mem_of_getElem? hv)
        have hcx := hcs k _ hv
        clear hcs hv
        go_wp2
        go_region
        go_wp2
        go_roundw
        case rel => exact ⟨k + 1, _, by omega, by go_num, (S.out.set2 _).drew1, below_drew1 (BEL.out.setCell (Nat.le_refl _) _), by simpa using hsz⟩
        case measure => simp [intOf]; omega
      · go_wp2
        go_ret
        first | exact ⟨w.heap.size, rfl, Nat.le_refl _, hsz, ⟨0, h, S.out⟩, BEL.out⟩ | exact ⟨w.heap.size, 0, h, rfl, Nat.le_refl _, hsz, S.out, BEL.out⟩
    · go_wp2
      go_ret
      first | exact ⟨w.heap.size, rfl, Nat.le_refl _, hsz, ⟨0, h, S.out⟩, BEL.out⟩ | exact ⟨w.heap.size, 0, h, rfl, Nat.le_refl _, hsz, S.out, BEL.out⟩
set_option maxHeartbeats 3200000 in
set_option maxRecDepth 8000 in
theorem roll_any {A : Option Addr} {n c : Nat} {bs : List Value} (w : World) (hl : bs.length = n) (hr : Rd w A bs) (hu : ∀ v ∈ bs, ∃ x : Nat, v = .int .u8 x ∧ x < 256) (hn : n ≤ 1048576) {s : Int} (hs0 : 0 ≤ s) (hs1 : s ≤ 1000000) :
    Calls Try.prog 31 #[.slice A n c, .int .u64 s] w fun e w' => ∃ (g at' : Nat) (h' : Int), e = .returned (.pointer (some ⟨g, 0, none⟩)) ∧ w.heap.size ≤ g ∧ g < w'.heap.size ∧ Src w' g A n c at' h' bs ∧ Below w.heap.size w w' := by
  have ST := Lib.hid (src_start w 90 (s * 7681 + n) (c := c) hl hr hu)
  clear hl hr hu
  go_enter Try.func31, Try.ntmps31
  go_wp2
  go_loopw [6] (fun i wr => ∃ (k : Nat) (h : Int), k ≤ n ∧ i = .int .i64 k ∧ Src wr w.heap.size A n c 0 h bs ∧ Below w.heap.size w wr ∧ w.heap.size < wr.heap.size) (fun i _ => n - (intOf i).toNat)
  case atStart => exact ⟨0, _, Nat.zero_le _, rfl, ST.out, (Below.refl _ _).alloc (Nat.le_refl _) _, by simp⟩
  case round =>
    obtain ⟨k, h, hk, rfl, st, bel, hsz⟩ := hrel
    have S := Lib.hid st
    have BEL := Lib.hid bel
    have h2 := st.c2
    have f2 := st.f2
    clear st bel ST
    by_cases hlt : k < n
    · obtain ⟨b, o, he, hcs⟩ := S.out.rd (by rw [S.out.len]; omega)
      subst he
      obtain ⟨v, hv⟩ : ∃ v, bs[k]? = some v := ⟨_, List.getElem?_eq_getElem (by rw [S.out.len]; exact hlt)⟩
      obtain ⟨x, rfl, hx⟩ := S.out.u8 v (List.mem_of_getElem? hv)
      have hcx := hcs k _ hv
      clear hcs hv
      go_wp2
      go_region
      go_wp2
      go_roundw
      case rel => exact ⟨k + 1, _, by omega, by go_num, (S.out.set2 _).drew1, below_drew1 (BEL.out.setCell (Nat.le_refl _) _), by simpa using hsz⟩
      case measure => simp [intOf]; omega
    · go_wp2
      go_ret
      first | exact ⟨w.heap.size, rfl, Nat.le_refl _, hsz, ⟨0, h, S.out⟩, BEL.out⟩ | exact ⟨w.heap.size, 0, h, rfl, Nat.le_refl _, hsz, S.out, BEL.out⟩
end Go.Proofs.Ytjkddoiacifhpaa
