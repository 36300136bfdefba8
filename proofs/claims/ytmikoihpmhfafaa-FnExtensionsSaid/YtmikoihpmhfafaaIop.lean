/- impl.operations, operated (written by giop.py). -/
import Derived.Test.YtmikoihpmhfafaaIwd
import Derived.Test.YtmikoihpmhfafaaIdb
import Derived.Deep.RegionHeld3
import Derived.Laws.EntriesVeiled
namespace Go.Proofs.Ytmikoihpmhfafaa
open Go.RowKit

abbrev opsC : Array Value := #[.int .i64 1, .int .i64 5, .func (.func 200) #[] #[], .int .i64 3, .int .i64 5, .func (.func 201) #[] #[], .int .i64 3, .int .i64 3, .func (.func 202) #[] #[], .int .i64 3, .int .i64 3, .func (.func 203) #[] #[], .int .i64 3, .int .i64 3, .func (.func 204) #[] #[]]
theorem ops_any (w : World) : Calls Try.prog 166 #[] w fun e w' => e = .returned (.slice (some ⟨w.heap.size, 0, none⟩) 5 5) ∧ w.alloc (.cells opsC 139) = w' := by
  go_enter Try.func166, Try.ntmps166
  go_wp2
  go_ret
  exact ⟨rfl, rfl⟩
theorem opd3_go {w W W' : World} {p1 q1 p2 q2 p3 q3 : Nat} {v1 v2 v3 : Value} (h : Below w.heap.size w W ∧ W.cell? ⟨p1, q1, none⟩ = some v1 ∧ W.cell? ⟨p2, q2, none⟩ = some v2 ∧ W.cell? ⟨p3, q3, none⟩ = some v3) (hb : Below W.heap.size W W') :
    Below w.heap.size w W' ∧ W'.cell? ⟨p1, q1, none⟩ = some v1 ∧ W'.cell? ⟨p2, q2, none⟩ = some v2 ∧ W'.cell? ⟨p3, q3, none⟩ = some v3 :=
  ⟨h.1.trans (hb.mono h.1.size), cell_be h.2.1 hb, cell_be h.2.2.1 hb, cell_be h.2.2.2 hb⟩
abbrev opdPs (H : Nat) (m a b f : Value) : List Pc := [.blk H #[m] 26, .blk (H + 1) #[.slice none 0 0] 26, .blk (H + 2) opsC 139, .blk (H + 3) #[a, b, f] 139]
theorem opd_start (w : World) (m a b f : Value) : St w ((((w.alloc (.cells #[m] 26)).alloc (.cells #[.slice none 0 0] 26)).alloc (.cells opsC 139)).alloc (.cells #[a, b, f] 139)) (opdPs w.heap.size m a b f) := by
  have st := ((((St.start w).addBlk #[m] 26).addBlk #[.slice none 0 0] 26).addBlk opsC 139).addBlk #[a, b, f] 139
  simpa using st

theorem op5W_ok {xss : List (List Int)} (hx : xss.length = 3) : ∀ wd ∈ op5W, wordOk xss wd = true ∧ (wd.length : Int) ≤ 1048576 := fun wd hwd => by
  unfold op5W at hwd
  simp only [List.mem_cons, List.not_mem_nil, or_false] at hwd
  rcases hwd with rfl | rfl | rfl <;> exact ⟨decide_eq_true fun x hx' => by simp at hx'; omega, by simp⟩
theorem ha5W_ok {xss : List (List Int)} (hx : xss.length = 3) : ∀ wd ∈ ha5W, wordOk xss wd = true ∧ (wd.length : Int) ≤ 1048576 := fun wd hwd => by
  unfold ha5W at hwd
  simp only [List.mem_cons, List.not_mem_nil, or_false] at hwd
  rcases hwd with rfl | rfl | rfl <;> exact ⟨decide_eq_true fun x hx' => by simp at hx'; omega, by simp⟩

end Go.Proofs.Ytmikoihpmhfafaa
