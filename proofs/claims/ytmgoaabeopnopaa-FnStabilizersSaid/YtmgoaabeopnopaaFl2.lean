/- The draws that hand out a maniplex and numbers. -/
import Derived.Test.YtmgoaabeopnopaaFcn
import Derived.BigRegion
namespace Go.Proofs.Ytmgoaabeopnopaa
open Go.RowKit

section
variable {A : Option Addr} {g n c : Nat} {bs : List Value}
theorem next2E (N : Int) (w : World) (hs : SrcE w g A n c bs) (hn : n ≤ 1048576) :
    Calls Try.prog 114 #[.pointer (some ⟨g, 0, none⟩), .int .i64 N] w (RetD w g A n c bs fun _ => True) := by
  by_cases hN : 1 ≤ N
  · exact (nextE w hs hn hN).mono fun e w' ⟨r, h1, _, h3, h4⟩ => ⟨r, h1, trivial, h3, h4⟩
  · have HS := Lib.hid hs
    have h1 : N < 1 := by omega
    clear hs hN
    go_enter Try.func114, Try.ntmps114
    go_wp2
    go_ret
    exact ⟨0, rfl, trivial, HS.out, Turns.refl _ _ _⟩
theorem St.rdss {w0 w : World} {Ps : List Pc} {i : Nat} {A' : Option Addr} {xss : List (List Int)} (st : St w0 w Ps) (hi : Ps[i]? = some (.rds A' xss)) : RdSS w A' xss := by
  obtain ⟨F, h1, _⟩ := st.sep.piece hi
  exact h1.1
theorem St.addLit4 {w0 w : World} {Ps : List Pc} (h : St w0 w Ps) (u v x y : Value) (e : TypeId) : St w0 (w.alloc (.cells #[u, v, x, y] e)) (Ps ++ [.own e (some ⟨w.heap.size, 0, none⟩) 4 4 [u, v, x, y]]) :=
  h.addOwn (base := w.heap.size) ((Below.refl _ _).alloc (Nat.le_refl _) _) (by simpa using World.ownsRow_lit (base := w.heap.size) (e := e) (size := 1) w #[u, v, x, y] 4 (Nat.le_refl _) (by decide) (by simp)) (Nat.le_refl _)
theorem Dr.out {w w0 wb : World} {Ps : List Pc} (d : Dr g A n c bs w0 wb) (st : St wb w Ps) : ∀ b o, some (⟨w.heap.size, 0, none⟩ : Addr) = some ⟨b, o, none⟩ → b < g ∨ g + 1 ≤ b := fun b o e => by
  have h1 := (d.now st).lt
  simp at e
  omega
theorem countP {z : Int} (w : World) (hs : SrcE w g A n c bs) (hn : n ≤ 1048576) (hz0 : -1 ≤ z) (hz1 : z ≤ 1048576) :
    Calls Try.prog 126 #[.pointer (some ⟨g, 0, none⟩), .int .i64 z] w (RetD w g A n c bs fun _ => True) := by
  have D0 := Lib.hid (Dr.start hs)
  have S0 := Lib.hid (St.start w)
  clear hs
  obtain ⟨y, hy⟩ : ∃ y, z + 1 = y := ⟨_, rfl⟩
  have k1 : IntKind.i64.wrap (z + 1) = y := (IntWalk.i64_in _ (by omega)).trans hy
  clear hz0 hz1 hy
  go_enter Try.func126, Try.ntmps126
  go_wp2_with fail
  refine (nextE (N := 14) _ (D0.out.now S0.out) hn (by omega)).mono ?_
  rintro e w1 ⟨r, rfl, ⟨h0r, h1r⟩, hs_, tu_⟩
  obtain ⟨wb1, d_, st_⟩ := D0.out.num S0.out hs_ tu_
  have D1 := Lib.hid d_
  have S1 := Lib.hid st_
  clear d_ st_ hs_ tu_ D0 S0
  by_cases e0 : r = 0
  · subst e0
    have S2 := Lib.hid (S1.out.addLit4 (.int .i64 (-1)) (.int .i64 y) (.int .i64 1099511627776) (.int .i64 (-4611686018427387904)) 2)
    have Q := Lib.hid (D1.out.out S1.out)
    go_wp2_with fail
    refine (pickE (m := 4) (c2 := 4) (xs := [-1, y, 1099511627776, -4611686018427387904]) _ (D1.out.now S2.out) hn rfl (by decide) (by decide) (own_rd (S2.out.own (i := 0) rfl)) Q.out).mono ?_
    rintro e w2 ⟨r, rfl, _, hs_, tu_⟩
    obtain ⟨wb2, d_, st_⟩ := D1.out.num S2.out hs_ tu_
    have R := Lib.hid (And.intro (d_.now st_) (d_.fin st_).1)
    clear d_ st_ hs_ tu_
    go_wp2
    go_ret
    exact ⟨r, rfl, trivial, R.out.1, R.out.2⟩
  · have n0 : (r == 0) = false := by rw [beq_eq_false_iff_ne]; exact e0
    go_wp2_with fail
    refine (next2E y _ (D1.out.now S1.out) hn).mono ?_
    rintro e w2 ⟨r, rfl, _, hs_, tu_⟩
    obtain ⟨wb2, d_, st_⟩ := D1.out.num S1.out hs_ tu_
    have R := Lib.hid (And.intro (d_.now st_) (d_.fin st_).1)
    clear d_ st_ hs_ tu_
    go_wp2
    go_ret
    exact ⟨r, rfl, trivial, R.out.1, R.out.2⟩
end
end Go.Proofs.Ytmgoaabeopnopaa
