/- laws.back5; the draw of the law of duals. -/
import Derived.Test.YtpmmpnhdimgkhaaGreatFcn
namespace Go.Proofs.YtpmmpnhdimgkhaaGreat
open Go.RowKit

theorem drop_rev {xs : List Int} {j : Nat} {x : Int} (h : xs[j]? = some x) : (xs.drop j).reverse = (xs.drop (j + 1)).reverse ++ [x] := by
  obtain ⟨hj, rfl⟩ := List.getElem?_eq_some_iff.1 h
  rw [List.drop_eq_getElem_cons hj, List.reverse_cons]
set_option maxHeartbeats 800000 in
theorem back5_any {A : Option Addr} {c : Nat} {xs : List Int} {n : Nat} (w : World) (hx : xs.length = n) (ha : Rd w A (ints xs)) (hn : n ≤ 1048576) :
    Calls Tryz.prog 14 #[.slice A n c] w (RetN w xs.reverse n) := by
  have HX := Lib.hid hx
  have HA := Lib.hid ha
  clear hx ha
  go_enter Tryz.func14, Tryz.ntmps14
  go_wp2
  go_loopw [3, 4] (fun v i wr => ∃ m k : Nat, k + m = n ∧ i = .int .i64 ((m : Int) - 1) ∧ ∃ A' c', v = .slice A' k c' ∧ wr.ownsRow w.heap.size 2 1 (.slice A' k c') k (ints (xs.drop m).reverse) ∧ Below w.heap.size w wr) (fun _ i _ => (intOf i + 1).toNat)
  case atStart => exact ⟨n, 0, by omega, by go_num, _, _, rfl, by rw [List.drop_eq_nil_of_le (by rw [HX.out]; exact Nat.le_refl _)]; simpa using World.ownsRow_made (base := w.heap.size) (e := 2) (size := 1) w #[] 0 (Nat.le_refl _) (Nat.zero_le _) (by simp), (Below.refl _ _).alloc (Nat.le_refl _) _⟩
  case round =>
    obtain ⟨m, k, hk, rfl, A', c', rfl, own, bel⟩ := hrel
    have OWN := Lib.hid own
    have BEL := Lib.hid bel
    clear own bel
    rcases Nat.eq_zero_or_pos m with hm | hm
    · have hneg : ¬ (0 : Int) ≤ (m : Int) - 1 := by omega
      go_wp2
      go_ret
      obtain rfl : m = 0 := hm
      obtain rfl : k = n := by omega
      exact ⟨A', c', rfl, by simpa using OWN.out, BEL.out⟩
    · obtain ⟨j, rfl⟩ : ∃ j, m = j + 1 := ⟨m - 1, by omega⟩
      have e : (((j + 1 : Nat) : Int) - 1) = (j : Int) := by omega
      rw [e]
      obtain ⟨b, o, x, rfl, hgx, hcx⟩ := (HA.out.keep BEL.out).int (k := j) (by rw [HX.out]; omega)
      have HG := Lib.hid hgx
      clear hgx
      have hsz := BEL.out.size
      go_wp2_with (at_builtin; refine wpList_push _ rfl _ _ 32 2 rfl Tryz.underlying32 (.int .i64 0) 8 Tryz.info2 rfl w.heap.size _ _ _ rfl OWN.out _ rfl rfl (by omega) (by omega) (by omega) ?_)
      intro A3 c3 w3 own3 bel3 _
      have OWN3 := Lib.hid own3
      have BEL3 := Lib.hid bel3
      clear own3 bel3
      go_wp2
      go_roundw
      case rel => exact ⟨j, k + 1, by omega, by go_num, A3, c3, rfl, by rw [drop_rev HG.out]; simpa using OWN3.out, BEL.out.trans BEL3.out⟩
      case measure => simp [intOf]

section
variable {A : Option Addr} {n c : Nat} {bs : List Value}
set_option maxHeartbeats 1600000 in
theorem drawDu (w : World) (hl : bs.length = n) (hr : Rd w A bs) (hu : ∀ v ∈ bs, ∃ x : Nat, v = .int .u8 x ∧ x < 256) (hn : n ≤ 1048576) :
    Calls Tryz.prog 5 #[.slice A n c] w (RetX w) := by
  have HR := Lib.hid (hr.keep ((Below.refl _ _).alloc (Nat.le_refl _) (.cells #[.slice none 0 0] 26)))
  have HL := Lib.hid hl
  have HU := Lib.hid hu
  have S0 := Lib.hid ((St.start w).addBlk #[.slice none 0 0] 26)
  clear hl hr hu
  go_enter Tryz.func5, Tryz.ntmps5
  go_wp2_with fail
  refine (from_any _ HL.out HR.out HU.out hn).mono ?_
  rintro e w1 ⟨g, at', h', rfl, hg, hg1, src, bel⟩
  have HS := Lib.hid (show SrcE w1 g A n c bs from ⟨at', h', src⟩)
  have BEL := Lib.hid bel
  clear src bel
  go_wp2_with fail
  refine (spoil2P (most := 60) _ HS.out hn (by decide) (by decide)).mono ?_
  rintro e w3 ⟨wb, A', N, c', xss, rfl, hl, hN, hR, hc, hc63, d, st⟩
  obtain ⟨tu, sep⟩ := d.fin st
  have S2 := Lib.hid (S0.out.go (Turns.below BEL.out tu BEL.out.size hg))
  have HX := Lib.hid hl
  have HRR := Lib.hid hR
  have SEP := Lib.hid sep
  have hlt : w.heap.size < w1.heap.size := by have := BEL.out.size; simp at this; omega
  have z0 := (S2.out.blk (i := 0) rfl).cell (i := 0) rfl
  have f0 := (S2.out.blk (i := 0) rfl).free 0
  clear hl hR d st tu sep
  go_wp2
  have st4 := S2.out.blkSet (i := 0) rfl 0 (.slice A' N c')
  have y0 := (st4.blk (i := 0) rfl).cell (i := 0) rfl
  exact bodyPost_ret (v := .agg #[.slice A' N c']) (by simp [results, Tryz.results5, go_sem, y0]) rfl ⟨A', N, c', xss, rfl, HX.out, hN, fun xs hx => by have := HRR.out xs hx; omega, hc, hc63, rds_set SEP.out hlt, st4.below⟩
end
end Go.Proofs.YtpmmpnhdimgkhaaGreat
