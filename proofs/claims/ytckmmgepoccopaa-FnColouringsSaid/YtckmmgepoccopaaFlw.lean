/- What the laws over drawn maniplexes begin with. -/
import Derived.Test.YtckmmgepoccopaaSpb
import Derived.Test.YtckmmgepoccopaaL1
import Derived.Test.YtckmmgepoccopaaL5
import Derived.Test.YtckmmgepoccopaaL7
namespace Go.Proofs.Ytckmmgepoccopaa
open Go.RowKit

theorem isRow_u8 {w : World} {a : Option Addr} {len cap : Nat} {zs : List Int} (h : IsRow .u8 w a len cap zs) :
    ∃ bs : List Value, bs.length = len ∧ Rd w a bs ∧ ∀ v ∈ bs, ∃ x : Nat, v = .int .u8 x ∧ x < 256 := by
  rcases h with ⟨rfl, rfl, rfl, rfl⟩ | ⟨x, rfl, hl, hm, hz, hc, hw⟩
  · exact ⟨[], rfl, Rd.nil, by simp⟩
  · refine ⟨(zs.take len).map fun z => .int .u8 z, by simp; omega, fun hp => ?_, fun v hv => ?_⟩
    · obtain ⟨b, o, s⟩ := x
      have h0 := hc 0 (by simp at hp; omega)
      have hs : s = none := by simpa [Addr.add] using World.cell?_spot h0
      subst hs
      refine ⟨b, o, rfl, fun k u hu => ?_⟩
      have hk : k < len ∧ k < zs.length := by
        have := (List.getElem?_eq_some_iff.1 hu).1
        simp at this
        omega
      have hck := hc k hk.2
      simp [hk.1, hk.2] at hu
      rw [← hu]
      rw [Addr.add_lit] at hck
      simpa [List.getD, hk.2] using hck
    · obtain ⟨z, hz2, rfl⟩ := List.mem_map.1 hv
      have h1 := hw z (List.mem_of_mem_take hz2)
      have h2 : IntKind.u8.min ≤ z ∧ z ≤ IntKind.u8.max := by simpa [Lit.wf] using h1
      have h3 : IntKind.u8.min = 0 := by decide
      have h4 : IntKind.u8.max = 255 := by decide
      rw [h3, h4] at h2
      exact ⟨z.toNat, by rw [Int.toNat_of_nonneg h2.1], by omega⟩
/-- A drawn maniplex, or something that is none. -/
def RetX (w : World) (e : Ending) (w' : World) : Prop :=
  ∃ (A' : Option Addr) (N c' : Nat) (xss : List (List Int)), e = .returned (.agg #[.slice A' N c']) ∧ xss.length = N ∧ N ≤ 6 ∧ (∀ xs ∈ xss, (xs.length : Int) ≤ 1048576) ∧ N ≤ c' ∧ c' ≤ 9223372036854775807 ∧ RdSS w' A' xss ∧ Below w.heap.size w w'
theorem rds_set {w : World} {lo H k : Nat} {A : Option Addr} {xss : List (List Int)} {v : Value} (h : Sep w lo [.rds A xss]) (hH : H < lo) : RdSS (w.setCell ⟨H, k, none⟩ v) A xss := by
  obtain ⟨F, h1, h2⟩ := h.piece (i := 0) rfl
  have h3 := (Pc.rds A xss).kept h1 (w' := w.setCell ⟨H, k, none⟩ v) fun b hb => by
    have := (h2 b hb).1
    have hne : H ≠ b := by omega
    simp [World.setCell, Array.getElem?_modify, hne]
  exact h3.1
section
variable {A : Option Addr} {n c : Nat} {bs : List Value}
set_option maxHeartbeats 1600000 in
theorem drawCol (w : World) (hl : bs.length = n) (hr : Rd w A bs) (hu : ∀ v ∈ bs, ∃ x : Nat, v = .int .u8 x ∧ x < 256) (hn : n ≤ 1048576) :
    Calls Try.prog 31 #[.slice A n c] w (RetX w) := by
  have HR := Lib.hid (hr.keep ((Below.refl _ _).alloc (Nat.le_refl _) (.cells #[.slice none 0 0] 26)))
  have HL := Lib.hid hl
  have HU := Lib.hid hu
  have S0 := Lib.hid ((St.start w).addBlk #[.slice none 0 0] 26)
  clear hl hr hu
  go_enter Try.func31, Try.ntmps31
  go_wp2_with fail
  refine (from_any _ HL.out HR.out HU.out hn).mono ?_
  rintro e w1 ⟨g, at', h', rfl, hg, hg1, src, bel⟩
  have HS := Lib.hid (show SrcE w1 g A n c bs from ⟨at', h', src⟩)
  have BEL := Lib.hid bel
  clear src bel
  go_wp2_with fail
  refine (spoil2P (most := 40) _ HS.out hn (by omega) (by omega)).mono ?_
  rintro e w2 ⟨wb, A', N, c', xss, rfl, hl, hN, hR, hc, hc63, d, st⟩
  obtain ⟨tu, sep⟩ := d.fin st
  have S2 := Lib.hid (S0.out.go (Turns.below BEL.out tu BEL.out.size hg))
  have HX := Lib.hid hl
  have HRR := Lib.hid hR
  have SEP := Lib.hid sep
  have hlt : w.heap.size < w1.heap.size := by have := BEL.out.size; simp at this; omega
  have z0 := (S2.out.blk (i := 0) rfl).cell (i := 0) rfl
  have f0 := (S2.out.blk (i := 0) rfl).free 0
  clear hl hR d st tu sep
  go_wp2
  have st4 := S2.out.blkSet (i := 0) rfl 0 (.slice A' N c')
  have y0 := (st4.blk (i := 0) rfl).cell (i := 0) rfl
  exact bodyPost_ret (v := .agg #[.slice A' N c']) (by simp [results, Try.results31, go_sem, y0]) rfl ⟨A', N, c', xss, rfl, HX.out, hN, fun xs hx => by have := HRR.out xs hx; omega, hc, hc63, rds_set SEP.out hlt, st4.below⟩
end
theorem flags5_any {b o c N n c0 : Nat} {A0 : Option Addr} (w : World) (hN : 0 < N) (h0 : w.cell? ⟨b, o, none⟩ = some (.slice A0 n c0)) :
    Calls Try.prog 23 #[.agg #[.slice (some ⟨b, o, none⟩) N c]] w fun e w' => e = .returned (.int .i64 n) ∧ Below w.heap.size w w' := by
  have hlt := World.block_lt_of_cell? w _ h0
  have hNe : ((N : Int) == 0) = false := by rw [beq_eq_false_iff_ne]; omega
  go_enter Try.func23, Try.ntmps23
  go_wp2
  go_ret
  exact ⟨rfl, below1 _ _⟩
end Go.Proofs.Ytckmmgepoccopaa
