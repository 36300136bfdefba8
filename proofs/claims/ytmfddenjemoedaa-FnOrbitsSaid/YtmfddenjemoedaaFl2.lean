/- The draws that hand out a maniplex and numbers. -/
import Derived.Test.YtmfddenjemoedaaFcn
import Derived.BigRegion
namespace Go.Proofs.Ytmfddenjemoedaa
open Go.RowKit

section
variable {A : Option Addr} {g n c : Nat} {bs : List Value}
theorem next2E (N : Int) (w : World) (hs : SrcE w g A n c bs) (hn : n ≤ 1048576) :
    Calls Try.prog 89 #[.pointer (some ⟨g, 0, none⟩), .int .i64 N] w (RetD w g A n c bs fun _ => True) := by
  by_cases hN : 1 ≤ N
  · exact (nextE w hs hn hN).mono fun e w' ⟨r, h1, _, h3, h4⟩ => ⟨r, h1, trivial, h3, h4⟩
  · have HS := Lib.hid hs
    have h1 : N < 1 := by omega
    clear hs hN
    go_enter Try.func89, Try.ntmps89
    go_wp2
    go_ret
    exact ⟨0, rfl, trivial, HS.out, Turns.refl _ _ _⟩
theorem St.rdss {w0 w : World} {Ps : List Pc} {i : Nat} {A' : Option Addr} {xss : List (List Int)} (st : St w0 w Ps) (hi : Ps[i]? = some (.rds A' xss)) : RdSS w A' xss := by
  obtain ⟨F, h1, _⟩ := st.sep.piece hi
  exact h1.1
theorem St.addLit4 {w0 w : World} {Ps : List Pc} (h : St w0 w Ps) (u v x y : Value) (e : TypeId) : St w0 (w.alloc (.cells #[u, v, x, y] e)) (Ps ++ [.own e (some ⟨w.heap.size, 0, none⟩) 4 4 [u, v, x, y]]) :=
  h.addOwn (base := w.heap.size) ((Below.refl _ _).alloc (Nat.le_refl _) _) (by simpa using World.ownsRow_lit (base := w.heap.size) (e := e) (size := 1) w #[u, v, x, y] 4 (Nat.le_refl _) (by decide) (by simp)) (Nat.le_refl _)
theorem Dr.out {w w0 wb : World} {Ps : List Pc} (d : Dr g A n c bs w0 wb) (st : St wb w Ps) : ∀ b o, some (⟨w.heap.size, 0, none⟩ : Addr) = some ⟨b, o, none⟩ → b < g ∨ g + 1 ≤ b := fun b o e => by
  have h1 := (d.now st).lt
  simp at e
  omega
end
end Go.Proofs.Ytmfddenjemoedaa
