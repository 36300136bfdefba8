/- What holds at the two loops that find an orbit: facts outside the walks. -/
import Derived.Test.YtbjfeogkdfmjpaaOrb
import Derived.Test.YtbjfeogkdfmjpaaWkU
namespace Go.Proofs.Ytbjfeogkdfmjpaa
open Go.RowKit

theorem turns_grown {w wr w4 : World} {lo hi : Nat} {row : Option Nat} (h : Turns lo hi w wr) (gr : wr.grownBy w4 row) (hr : ∀ b, row = some b → w.heap.size ≤ b ∨ (lo ≤ b ∧ b < hi)) : Turns lo hi w w4 :=
  ⟨gr.os.trans h.os, gr.tape.trans h.tape, gr.output.trans h.output, Nat.le_trans h.size gr.size, fun k hk hn => (gr.block k (Nat.lt_of_lt_of_le hk h.size) fun e => by have := hr k e.symm; omega).trans (h.block k hk hn)⟩
theorem turns_alloc {w wr : World} {lo hi : Nat} (h : Turns lo hi w wr) (o : Obj) : Turns lo hi w (wr.alloc o) := h.trans (Turns.of_below ((Below.refl _ _).alloc (Nat.le_refl _) o) (Nat.le_refl _))

theorem set_alloc (W : World) (cs : Array Value) (t : TypeId) (b p : Nat) (v : Value) (hb : b = W.heap.size) : (W.alloc (.cells cs t)).setCell ⟨b, p, none⟩ v = W.alloc (.cells (cs.setIfInBounds p v) t) := by
  subst hb
  unfold World.setCell World.alloc
  congr 1
  apply Array.ext
  · simp
  · intro i h1 h2
    simp only [Array.getElem_modify, Array.getElem_push]
    by_cases h : i < W.heap.size
    · rw [dif_pos h, dif_pos h, if_neg (by omega)]
    · rw [dif_neg h, dif_neg h, if_pos (by simp at h1; omega)]
      rfl

structure BSt (w0 w wr : World) (g base M n : Nat) (R O : List Int) (A : Option Addr) (m c : Nat) : Prop where
  own : wr.ownsRow w.heap.size 2 1 (.slice A m c) m (ints O)
  seen : wr.ownsRow base 4 1 (.slice (some ⟨g, 0, none⟩) M M) M (seenL M (R ++ O))
  ps : Passed n (R ++ O)
  tu : Turns g (g + 1) w wr
  b0 : Below w0.heap.size w0 w
  hg : w0.heap.size ≤ g
section
variable {w0 w wr w4 : World} {g base M n m c c4 q i : Nat} {R O : List Int} {A A4 : Option Addr}
theorem BSt.bel (h : BSt w0 w wr g base M n R O A m c) : Below w0.heap.size w0 wr := h.tu.below h.b0 h.b0.size h.hg
theorem BSt.len (h : BSt w0 w wr g base M n R O A m c) : O.length = m ∧ m ≤ n := by
  have h1 := h.own.1
  have h2 := passed_len h.ps
  simp at h1 h2
  omega
theorem BSt.push {o : Obj} (h : BSt w0 w wr g base M n R O A m c) (hq : q < n) (hn : ¬ (q : Int) ∈ R ++ O)
    (own4 : w4.ownsRow w.heap.size 2 1 (.slice A4 (m + 1) c4) (m + 1) (ints O ++ [.int .i64 q])) (gr : ((wr.setCell ⟨g, q, none⟩ (.bool true)).alloc o).grownBy w4 (Value.slice A m c).ownBlock) :
    BSt w0 w w4 g base M n R (O ++ [(q : Int)]) A4 (m + 1) c4 := by
  have hst := h.seen.stored q (.bool true)
  have ho := h.own.kept hst.2 (own_ne h.own h.seen (by decide))
  have h1 := hst.1
  rw [seenL_set, List.append_assoc] at h1
  refine ⟨by simpa using own4, (h1.alloc o).kept gr (own_ne (h1.alloc o) (ho.alloc o) (by decide)), ps_push h.ps (by omega) (by omega) hn, ?_, h.b0, h.hg⟩
  refine turns_grown (turns_alloc (turns_grown h.tu hst.2 fun b hb => ?_) o) gr fun b hb => .inl (h.own.lt b hb).1
  simp at hb
  omega
theorem BSt.mark (h : BSt w0 w wr g base M n R O A m c) (q : Nat) : (wr.setCell ⟨g, q, none⟩ (.bool true)).ownsRow w.heap.size 2 1 (.slice A m c) m (ints O) :=
  h.own.kept (h.seen.stored q (.bool true)).2 (own_ne h.own h.seen (by decide))
theorem BSt.drew (h : BSt w0 w wr g base M n R O A m c) (k : Nat) : BSt w0 w (wr.drewN k) g base M n R O A m c :=
  ⟨h.own, h.seen, h.ps, ⟨h.tu.os, h.tu.tape, h.tu.output, h.tu.size, h.tu.block⟩, h.b0, h.hg⟩
/-- The first point, and its mark. -/
theorem bst_start {p : Nat} (hs : w.ownsRow base 4 1 (.slice (some ⟨g, 0, none⟩) n n) n (seenL n R)) (b0 : Below w0.heap.size w0 w) (hg : w0.heap.size ≤ g) (hR : Passed n R) (hp : p < n) (hn : ¬ (p : Int) ∈ R) :
    BSt w0 w ((w.alloc (.cells #[.int .i64 p] 2)).setCell ⟨g, p, none⟩ (.bool true)) g base n n R [(p : Int)] (some ⟨w.heap.size, 0, none⟩) 1 1 := by
  have h1 := (hs.alloc (.cells #[.int .i64 p] 2)).stored p (.bool true)
  have h2 := World.ownsRow_lit (base := w.heap.size) (e := 2) (size := 1) w #[.int .i64 p] 1 (Nat.le_refl _) (by decide) (by simp)
  have h3 := h1.1
  rw [seenL_set] at h3
  refine ⟨by simpa using h2.kept h1.2 (own_ne h2 (hs.alloc _) (by decide)), h3, passed_snoc hR hp hn, ?_, b0, hg⟩
  exact turns_grown (turns_alloc (Turns.refl _ _ _) _) h1.2 fun b hb => .inr (by simp at hb; omega)
theorem bst_start0 {p : Nat} (hM : M ≤ 9223372036854775807) (hp : p < n) :
    BSt w w (((w.alloc (.cells #[.int .i64 p] 2)).alloc (.cells (madeCells #[.bool false] M) 4)).setCell ⟨w.heap.size + 1, p, none⟩ (.bool true)) (w.heap.size + 1) w.heap.size M n [] [(p : Int)] (some ⟨w.heap.size, 0, none⟩) 1 1 := by
  have h2 := World.ownsRow_lit (base := w.heap.size) (e := 2) (size := 1) w #[.int .i64 p] 1 (Nat.le_refl _) (by decide) (by simp)
  have h0 := seen_start (w.alloc (.cells #[.int .i64 p] 2)) M hM
  have hs : (w.alloc (Obj.cells #[.int .i64 p] 2)).heap.size = w.heap.size + 1 := by simp
  rw [hs] at h0
  have h0 := own_base h0 (Nat.le_succ w.heap.size)
  have h1 := h0.stored p (.bool true)
  have h3 := h1.1
  rw [seenL_set] at h3
  refine ⟨by simpa using (h2.alloc _).kept h1.2 (own_ne (h2.alloc _) h0 (by decide)), h3, passed_snoc (passed_nil n) hp (by simp), ?_, Below.refl _ _, by omega⟩
  exact turns_grown (turns_alloc (turns_alloc (Turns.refl _ _ _) _) _) h1.2 fun b hb => .inl (by simp at hb; omega)
end
end Go.Proofs.Ytbjfeogkdfmjpaa
