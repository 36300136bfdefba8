/- spec.FacePoset. -/
import Derived.Test.YtmfddenjemoedaaSpq
import Derived.Test.YtmfddenjemoedaaFo
import Derived.Test.YtmfddenjemoedaaL12
namespace Go.Proofs.Ytmfddenjemoedaa
open Go.RowKit

/-- What a call gives back that makes a poset and a code: its parts lie apart. -/
def RetSP (w : World) (R : Int) (xs : List Int) (bss : List (List Int)) (C : Int) (e : Ending) (w' : World) : Prop :=
  ∃ (A' : Option Addr) (c' : Nat) (B' : Option Addr) (d' : Nat) (vals : List Value), e = .returned (.tuple #[.agg #[.int .i64 R, .slice A' xs.length c', .slice B' bss.length d'], .int .i64 C]) ∧
    St w w' [.own 2 A' xs.length c' (ints xs), .rows 2 24 B' bss.length d' vals bss]
theorem st_mid {w w' : World} {mid n c m d e : Nat} {A B : Option Addr} {vs : List Value} {bss : List (List Int)} (h1 : w.heap.size ≤ mid) (own : w'.ownsRow w.heap.size 2 1 (.slice A n c) n vs) (pin : InB (.slice A n c) w.heap.size mid) (own2 : OwnSS w' mid w'.heap.size e B m d bss) (bel : Below w.heap.size w w') :
    ∃ vals, St w w' [.own 2 A n c vs, .rows 2 e B m d vals bss] := by
  obtain ⟨vals, g1, g2, g3, g4, g5⟩ := own2
  refine ⟨vals, ⟨fun i k => if i = 0 then (Value.slice A n c).ownBlock = some k else mid ≤ k ∧ k < w'.heap.size, fun i P hi => ?_, fun i k hi hk => ?_, fun a b k ha hb hab hk hkb => ?_⟩, bel⟩
  · match i, hi with
    | 0, hi => injection hi with hi; subst hi; exact ⟨own_base own (Nat.zero_le _), fun k hk => hk⟩
    | 1, hi =>
      injection hi with hi
      subst hi
      refine ⟨own_base g1 (Nat.zero_le _), fun k hk => g2 k hk, g3, fun j xs hj => ?_, g5⟩
      obtain ⟨A', c', a1, a2, a3⟩ := g4 j xs hj
      exact ⟨A', c', a1, own_base a2 (Nat.zero_le _), fun k hk => a3 k hk⟩
  · simp at hi
    by_cases e : i = 0
    · simp only [if_pos e] at hk
      exact own.lt k hk
    · simp only [if_neg e] at hk
      omega
  · simp at ha hb
    by_cases ea : a = 0
    · have eb : b ≠ 0 := fun h => hab (ea.trans h.symm)
      simp only [if_pos ea] at hk
      simp only [if_neg eb] at hkb
      have := pin k hk
      omega
    · have eb : b = 0 := by omega
      simp only [if_neg ea] at hk
      simp only [if_pos eb] at hkb
      have := pin k hkb
      omega
theorem pc_sp {w w' : World} {R C : Int} {xs : List Int} {bss : List (List Int)} {e : Ending} (h : RetPC w R xs bss C e w') : RetSP w R xs bss C e w' := by
  obtain ⟨A', c', B', d', mid, he, m1, m2, own, pin, own2, bel⟩ := h
  obtain ⟨vals, st⟩ := st_mid m1 own pin own2 bel
  exact ⟨A', c', B', d', vals, he, st⟩
theorem sp_nil {w0 w w' : World} {Ps : List Pc} (h : St w0 w' Ps) (hw : w0 = w) : St w w' [.own 2 none 0 0 (ints []), .rows 2 24 none 0 0 [] []] := by
  subst hw
  have h0 := ((h.take 0).addNil 2).addNilRows 2 24
  exact h0

set_option maxHeartbeats 1600000 in
theorem sFacePosetS_any {A : Option Addr} {c N : Nat} {xss : List (List Int)} (w : World) (hx : xss.length = N) (ha : RdSS w A xss) (hN : N ≤ 1048576) (hr : ∀ xs ∈ xss, (xs.length : Int) ≤ 1048576) :
    Calls Try.prog 39 #[.agg #[.slice A N c]] w (RetSP w (fpR xss) (fpX xss) (fpB xss) (fpC xss)) := by
  have HX := Lib.hid hx
  have HA := Lib.hid ha
  have HR := Lib.hid hr
  have st0 := ((St.start w).addBlk #[.slice A N c] 45).addBlk #[.int .i64 0, .slice none 0 0, .slice none 0 0] 62
  simp at st0
  have hbc := (st0.blk (i := 0) rfl).cell (i := 0) rfl
  have S0 := Lib.hid st0
  clear st0
  cases ho : okMan xss
  · have h1 : fpR xss = 0 := by simp [fpR, ho]
    have h2 : fpX xss = [] := by simp [fpX, ho]
    have h3 : fpB xss = [] := by simp [fpB, ho]
    have h4 : fpC xss = 1 := by simp [fpC, ho]
    rw [h1, h2, h3, h4]
    have HO := Lib.hid ho
    clear hx ha hr ho h1 h2 h3 h4
    go_enter Try.func39, Try.ntmps39
    go_wp2_with fail
    refine (sIs_any _ HX.out (HA.out.keep S0.out.below) hN HR.out).mono ?_
    rintro e w1 ⟨rfl, bel⟩
    rw [HO.out]
    have st1 := S0.out.go bel
    have z0 := (st1.blk (i := 1) rfl).cell (i := 0) rfl
    have z1 := (st1.blk (i := 1) rfl).cell (i := 1) rfl
    have z2 := (st1.blk (i := 1) rfl).cell (i := 2) rfl
    have f0 := (st1.blk (i := 1) rfl).free 0
    have f1 := (st1.blk (i := 1) rfl).free 1
    have f2 := (st1.blk (i := 1) rfl).free 2
    have S1 := Lib.hid st1
    clear bel hbc st1
    go_wp2
    have st4 := ((S1.out.blkSet (i := 1) rfl 0 (.int .i64 0)).blkSet (i := 1) rfl 1 (.slice none 0 0)).blkSet (i := 1) rfl 2 (.slice none 0 0)
    have y0 := (st4.blk (i := 1) rfl).cell (i := 0) rfl
    have y1 := (st4.blk (i := 1) rfl).cell (i := 1) rfl
    have y2 := (st4.blk (i := 1) rfl).cell (i := 2) rfl
    refine bodyPost_ret (v := .tuple #[.agg #[.int .i64 0, .slice none 0 0, .slice none 0 0], .int .i64 1]) (by simp [results, Try.results39, go_sem, y0, y1, y2]) rfl ⟨none, 0, none, 0, [], rfl, sp_nil st4 rfl⟩
  · have hman := okMan_iff.1 ho
    have hsys := hman.sys
    have hn4 := hman.f4
    have hn2 := hman.f2
    have hN5 := hman.r5
    have hpos := hman.pos hx
    rw [hx] at hN5
    obtain ⟨b, o, A0, c0, rfl, hc0⟩ := man_row0 hman ha
    obtain ⟨n, hn⟩ : ∃ n, flN xss = n := ⟨_, rfl⟩
    obtain ⟨S, hS⟩ : ∃ S, fstE xss n N = S := ⟨_, rfl⟩
    have hK : fpK xss = S := by rw [← hS, fpK, hn, hx]
    have hkl : (rkL xss n N).length = S := by rw [rkL_len, hS]
    rw [hn] at hc0 hsys hn4 hn2
    have HC0 := Lib.hid hc0
    have HO := Lib.hid ho
    have HSY := Lib.hid hsys
    have HKL := Lib.hid hkl
    have HFN := Lib.hid hn
    have HSS := Lib.hid hS
    have HK := Lib.hid hK
    clear hx ha hr ho hman hn hc0 hsys hS hkl hK
    go_enter Try.func39, Try.ntmps39
    go_wp2_with fail
    refine (sIs_any _ HX.out (HA.out.keep S0.out.below) hN HR.out).mono ?_
    rintro e w1 ⟨rfl, bel⟩
    rw [HO.out]
    have S1 := Lib.hid (S0.out.go bel)
    clear bel hbc
    have hbc := (S1.out.blk (i := 0) rfl).cell (i := 0) rfl
    go_wp2_with fail
    refine (spo_any _ HX.out (HA.out.keep S1.out.below) HSY.out (cell_be HC0.out S1.out.below) hpos (by omega) hN5 hn4).mono ?_
    rintro e w2 ⟨A', c', B', d', vals, rfl, st⟩
    rw [HSS.out] at st ⊢
    rw [HKL.out] at st ⊢
    have hlb : ((List.range S).map (blwL xss n N)).length = S := by simp
    rw [hlb] at st ⊢
    have st2 := (S1.out.join st).addBlk #[.int .i64 N, .slice A' S c', .slice B' S d'] 62
    have x0 := (st2.blk (i := 4) rfl).cell (i := 0) rfl
    have x1 := (st2.blk (i := 4) rfl).cell (i := 1) rfl
    have x2 := (st2.blk (i := 4) rfl).cell (i := 2) rfl
    have z0 := (st2.blk (i := 1) rfl).cell (i := 0) rfl
    have z1 := (st2.blk (i := 1) rfl).cell (i := 1) rfl
    have z2 := (st2.blk (i := 1) rfl).cell (i := 2) rfl
    have f0 := (st2.blk (i := 1) rfl).free 0
    have f1 := (st2.blk (i := 1) rfl).free 1
    have f2 := (st2.blk (i := 1) rfl).free 2
    have S2 := Lib.hid st2
    clear hbc st st2 hlb
    by_cases hS5 : S ≤ 500
    · have h1 : fpR xss = N := by simp [fpR, HO.out, HK.out, hS5, HX.out]
      have h2 : fpX xss = rkL xss n N := by simp [fpX, HO.out, HK.out, hS5, HX.out, HFN.out]
      have h3 : fpB xss = (List.range S).map (blwL xss n N) := by simp [fpB, HO.out, HK.out, hS5, HX.out, HFN.out]
      have h4 : fpC xss = 0 := by simp [fpC, HO.out, HK.out, hS5]
      have H1 := Lib.hid h1
      have H2 := Lib.hid h2
      have H3 := Lib.hid h3
      have H4 := Lib.hid h4
      clear h1 h2 h3 h4
      have hSi : ¬ ((500 : Int) < (S : Int)) := by omega
      go_wp2
      have st4 := ((S2.out.blkSet (i := 1) rfl 0 (.int .i64 N)).blkSet (i := 1) rfl 1 (.slice A' S c')).blkSet (i := 1) rfl 2 (.slice B' S d')
      have y0 := (st4.blk (i := 1) rfl).cell (i := 0) rfl
      have y1 := (st4.blk (i := 1) rfl).cell (i := 1) rfl
      have y2 := (st4.blk (i := 1) rfl).cell (i := 2) rfl
      have hlb : ((List.range S).map (blwL xss n N)).length = S := by simp
      refine bodyPost_ret (v := .tuple #[.agg #[.int .i64 N, .slice A' S c', .slice B' S d'], .int .i64 0]) (by simp [results, Try.results39, go_sem, y0, y1, y2]) rfl ?_
      rw [H1.out, H2.out, H3.out, H4.out]
      refine ⟨A', c', B', d', vals, by rw [HKL.out, hlb], ?_⟩
      rw [HKL.out, hlb]
      exact st4.pick (fun i => i + 2) (fun i hi => by simp at hi ⊢; omega) (fun i hi => by match i, hi with | 0, _ => rfl | 1, _ => rfl) (fun i j _ _ h => by omega)
    · have h1 : fpR xss = 0 := by simp [fpR, HO.out, HK.out, hS5]
      have h2 : fpX xss = [] := by simp [fpX, HO.out, HK.out, hS5]
      have h3 : fpB xss = [] := by simp [fpB, HO.out, HK.out, hS5]
      have h4 : fpC xss = 3 := by simp [fpC, HO.out, HK.out, hS5]
      have H1 := Lib.hid h1
      have H2 := Lib.hid h2
      have H3 := Lib.hid h3
      have H4 := Lib.hid h4
      clear h1 h2 h3 h4
      have hSi : (500 : Int) < (S : Int) := by omega
      go_wp2
      have st4 := ((S2.out.blkSet (i := 1) rfl 0 (.int .i64 0)).blkSet (i := 1) rfl 1 (.slice none 0 0)).blkSet (i := 1) rfl 2 (.slice none 0 0)
      have y0 := (st4.blk (i := 1) rfl).cell (i := 0) rfl
      have y1 := (st4.blk (i := 1) rfl).cell (i := 1) rfl
      have y2 := (st4.blk (i := 1) rfl).cell (i := 2) rfl
      refine bodyPost_ret (v := .tuple #[.agg #[.int .i64 0, .slice none 0 0, .slice none 0 0], .int .i64 3]) (by simp [results, Try.results39, go_sem, y0, y1, y2]) rfl ?_
      rw [H1.out, H2.out, H3.out, H4.out]
      exact ⟨none, 0, none, 0, [], rfl, sp_nil st4 rfl⟩
end Go.Proofs.Ytmfddenjemoedaa
