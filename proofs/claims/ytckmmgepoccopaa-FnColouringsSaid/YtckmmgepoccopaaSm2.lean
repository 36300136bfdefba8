/- spec.l01Same2, l02Same, l01Own2, l02Own. -/
import Derived.Test.YtckmmgepoccopaaL9
import Derived.Test.YtckmmgepoccopaaSep
namespace Go.Proofs.Ytckmmgepoccopaa
open Go.RowKit

set_option maxHeartbeats 800000 in
theorem ownr_any {A : Option Addr} {c n : Nat} {xs : List Int} (w : World) (hx : xs.length = n) (ha : Rd w A (ints xs)) (hn : n ≤ 1048576) (hpos : 0 < n) :
    Calls Try.prog 169 #[.slice A n c] w fun e w' => ∃ A' c', e = .returned (.slice A' n c') ∧ w'.ownsRow w.heap.size 2 1 (.slice A' n c') n (ints xs) ∧ Below w.heap.size w w' := by
  obtain ⟨i0, hi, hz0, hz1, hz2⟩ := info_parts Try.info2
  have hempty := World.ownsRow_made (base := w.heap.size) (e := 2) (size := 1) w #[] 0 (Nat.le_refl _) (Nat.zero_le _) (by simp)
  obtain ⟨g, o, rfl, hc⟩ := ha (by simp; omega)
  have HE := Lib.hid hempty
  have HX := Lib.hid hx
  have HC := Lib.hid hc
  clear ha hempty hx hc
  go_enter Try.func169, Try.ntmps169
  go_wp2_with (at_builtin; refine wpList_append_own _ rfl _ _ 28 rfl w.heap.size 2 i0 (.int .i64 0) 1 8 Try.underlying28 hi hz0 hz1 hz2 rfl (by decide) _ _ _ rfl HE.out ⟨g, o, none⟩ n c (ints xs) rfl ?c0 ?c1 ?c2 ?c3 ?c4 ?c5 ?_)
  case c0 => simp [HX.out]
  case c1 =>
    intro j u hu
    have h := HC.out j u hu
    have hb := (below1 w (.cells #[] 2)).cell (p := ⟨g, o + j, none⟩) (World.block_lt_of_cell? w _ h)
    have e1 : ((⟨g, o, none⟩ : Addr).add j) = ⟨g, o + j, none⟩ := by by_cases h : j = 0 <;> simp [Addr.add, h]
    rw [e1, hb]
    exact h
  case c2 => exact ints_oneCell _ _
  case c3 => unfold maxLen; omega
  case c4 => omega
  case c5 => simp
  · intro v' w1 own' gr _
    rcases own'.2 with ⟨hnil, h0⟩ | ⟨g', cap', cur', rfl, rest⟩
    · omega
    · have OWN := Lib.hid own'
      have BEL := Lib.hid (((Below.refl _ _).alloc (Nat.le_refl _) _).grown gr (by simp) (fun k hk => by simp [Value.ownBlock] at hk; omega) : Below w.heap.size w w1)
      clear own' gr rest
      go_wp2
      go_ret
      exact ⟨_, _, rfl, OWN.out, BEL.out⟩

end Go.Proofs.Ytckmmgepoccopaa
