import Derived.Test.YtjkddoiacifhpaaL1
namespace Go.Proofs.Ytjkddoiacifhpaa
open Go.RowKit

theorem RdSS.al {w : World} {A : Option Addr} {xss : List (List Int)} (h : RdSS w A xss) (o : Obj) : RdSS (w.alloc o) A xss := h.keep ((Below.refl _ _).alloc (Nat.le_refl _) o)
theorem below1 (w : World) (o : Obj) : Below w.heap.size w (w.alloc o) := (Below.refl _ _).alloc (Nat.le_refl _) o
theorem below2 (w : World) (o1 o2 : Obj) : Below w.heap.size w ((w.alloc o1).alloc o2) := (below1 w o1).alloc (by simp) o2
theorem below3 (w : World) (o1 o2 o3 : Obj) : Below w.heap.size w (((w.alloc o1).alloc o2).alloc o3) := (below2 w o1 o2).alloc (by simp; omega) o3

theorem bcell {W w1 : World} (hb : Below W.heap.size W w1) : (∀ b o, b < W.heap.size → w1.cell? ⟨b, o, none⟩ = W.cell? ⟨b, o, none⟩) ∧ (∀ b o, b < W.heap.size → w1.frozen? ⟨b, o, none⟩ = W.frozen? ⟨b, o, none⟩) :=
  ⟨fun b o h => hb.cell (p := ⟨b, o, none⟩) h, fun b o h => hb.frozen (p := ⟨b, o, none⟩) h⟩

theorem OwnSS.turns2 {w : World} {lo hi e n c : Nat} {A : Option Addr} {xss : List (List Int)} (h : OwnSS w lo hi e A n c xss) (b g : Nat) (v : Value) (hg : g < lo ∨ hi ≤ g) : OwnSS (w.setCell ⟨g, b, none⟩ v) lo hi e A n c xss :=
  ownSS_turns (lo' := g) (hi' := g + 1) h ⟨rfl, rfl, rfl, by simp, fun k _ hr => by
    have hne : g ≠ k := by omega
    simp [World.setCell, Array.getElem?_modify, hne]⟩ (by omega)

theorem szM_any {A : Option Addr} {c n : Nat} {xss : List (List Int)} (w : World) (hx : xss.length = n) (ha : RdSS w A xss) (hn : n ≤ 9223372036854775807) :
    Calls Try.prog 79 #[.agg #[.slice A n c], .int .i64 1048576] w fun e w' => ∃ r : Int, e = .returned (.int .i64 r) ∧ -1 ≤ r ∧ r ≤ 1048576 ∧ (0 ≤ r → (xss.length : Int) ≤ 1048576 ∧ ∀ xs ∈ xss, (xs.length : Int) ≤ 1048576) ∧ Below w.heap.size w w' := by
  have HX := Lib.hid hx
  have HA := Lib.hid ha
  clear hx ha
  go_enter Try.func79, Try.ntmps79
  go_wp2_with fail
  refine (sz_any _ HX.out (HA.out.al _) hn).mono ?_
  rintro e w2 ⟨r, rfl, h0, h1, h2, rfl⟩
  have H2 := Lib.hid h2
  clear h2
  by_cases hneg : r < 0
  · go_wp2
    go_ret
    exact ⟨-1, rfl, by omega, by omega, by omega, below1 _ _⟩
  · go_wp2
    go_ret
    exact ⟨r, rfl, by omega, by omega, H2.out, below1 _ _⟩

set_option maxHeartbeats 800000 in
theorem toM_any {A : Option Addr} {c n : Nat} {xss : List (List Int)} (w : World) (hx : xss.length = n) (ha : RdSS w A xss) (hn : n ≤ 1048576) (hr : ∀ xs ∈ xss, (xs.length : Int) ≤ 1048576) :
    Calls Try.prog 81 #[.agg #[.slice A n c]] w fun e w' => ∃ A' c', e = .returned (.agg #[.slice A' n c']) ∧ OwnSS w' w.heap.size w'.heap.size 24 A' n c' xss ∧ Below w.heap.size w w' := by
  have HX := Lib.hid hx
  have HA := Lib.hid ha
  have HR := Lib.hid hr
  clear hx ha hr
  go_enter Try.func81, Try.ntmps81
  go_wp2_with fail
  refine (toSS_any _ HX.out ((HA.out.al _).keep (below2 _ _ _)) hn HR.out).mono ?_
  rintro e w2 ⟨A', c', rfl, own, bel⟩
  have hsz := bel.size
  obtain ⟨hc, hf⟩ := bcell bel
  have OWN := Lib.hid own
  have BEL := Lib.hid bel
  clear own bel
  simp at hsz
  go_wp2
  refine bodyPost_ret (v := .agg #[.slice A' n c']) (by simp [results, Try.results81, go_sem, hc]) rfl ⟨A', c', rfl, ?_, ?_⟩
  · have h := OWN.out
    simp at h
    have h1 := (h.turns2 0 (w.heap.size + 1 + 1) (.slice A' n c') (by omega))
    have h2 := (h1.turns2 0 (w.heap.size + 1) (.slice A' n c') (by omega))
    exact ownSS_wide h2 (by omega) (by simp)
  · exact (((below3 w _ _ _).trans (BEL.out.mono (by simp; omega))).setCell (by simp; omega) _).setCell (by simp) _
theorem eqM_same {A B : Option Addr} {c d n m : Nat} {xss : List (List Int)} (w : World) (hx : xss.length = n) (hy : xss.length = m) (ha : RdSS w A xss) (hb : RdSS w B xss) (hn : n ≤ 9223372036854775807) :
    Calls Try.prog 82 #[.agg #[.slice A n c], .agg #[.slice B m d]] w fun e w' => e = .returned (.bool true) ∧ Below w.heap.size w w' := by
  have HX := Lib.hid hx
  have HY := Lib.hid hy
  have HA := Lib.hid ha
  have HB := Lib.hid hb
  clear hx hy ha hb
  go_enter Try.func82, Try.ntmps82
  go_wp2_with fail
  refine (eqSS_same _ HX.out HY.out (HA.out.keep (below2 _ _ _)) (HB.out.keep (below2 _ _ _)) hn).mono ?_
  rintro e w2 ⟨rfl, bel⟩
  go_wp2
  go_ret
  exact ⟨rfl, (below2 w _ _).trans (bel.mono (by simp; omega))⟩
end Go.Proofs.Ytjkddoiacifhpaa
