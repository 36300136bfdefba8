import Derived.Test.YtmgoaabeopnopaaL14
import Derived.Test.YtmgoaabeopnopaaL6
import Derived.Test.YtmgoaabeopnopaaL12
import Derived.Deep.AppendLies
import Derived.Deep.RegionLaw
import Derived.Deep.CutRange
import Derived.Test.YtmgoaabeopnopaaL9
import Derived.Lib.SliceRun
import Derived.Test.YtmgoaabeopnopaaMShelf
import Derived.Laws.CopyOwn
/- impl.IsPoset and what it calls. -/
namespace Go.Proofs.Ytmgoaabeopnopaa
open Go.RowKit

/-- The struct that came in lies in the first block behind w; nothing before it has turned. -/
structure Bp (w wr : World) (cs : Array Value) (T : TypeId) : Prop where
  bel : Below (w.heap.size + 1) (w.alloc (.cells cs T)) wr
section
variable {w wr w2 : World} {cs : Array Value} {T : TypeId}
theorem Bp.below (h : Bp w wr cs T) : Below w.heap.size w wr := (below1 w _).trans (h.bel.mono (by omega))
theorem Bp.size (h : Bp w wr cs T) : w.heap.size < wr.heap.size := by have := h.bel.size; simp at this; omega
theorem Bp.start (w : World) (cs : Array Value) (T : TypeId) : Bp w (w.alloc (.cells cs T)) cs T := ⟨Below.refl _ _⟩
theorem Bp.go (h : Bp w wr cs T) (hb : Below wr.heap.size wr w2) : Bp w w2 cs T := ⟨h.bel.trans (hb.mono (by have := h.size; omega))⟩
theorem Bp.al (h : Bp w wr cs T) (o : Obj) : Bp w (wr.alloc o) cs T := h.go (below1 _ _)
theorem Bp.drewN (h : Bp w wr cs T) (k : Nat) : Bp w (wr.drewN k) cs T := h.go (below_drewN (Below.refl _ _) k)
theorem Bp.drew (h : Bp w wr cs T) : Bp w wr.drew cs T := h.drewN 1
theorem Bp.tu {lo hi : Nat} (h : Bp w wr cs T) (tu : Turns lo hi wr w2) (hlo : w.heap.size + 1 ≤ lo) : Bp w w2 cs T :=
  ⟨tu.below h.bel (by have := h.size; omega) hlo⟩
end
section
variable {w wr : World} {u0 u1 u2 : Value} {T : TypeId}
theorem Bp.cell0 (h : Bp w wr #[u0, u1, u2] T) : wr.cell? ⟨w.heap.size, 0, none⟩ = some u0 :=
  (h.bel.cell (p := ⟨w.heap.size, 0, none⟩) (by simp)).trans (by simp)
theorem Bp.cell1 (h : Bp w wr #[u0, u1, u2] T) : wr.cell? ⟨w.heap.size, 1, none⟩ = some u1 :=
  (h.bel.cell (p := ⟨w.heap.size, 1, none⟩) (by simp)).trans (by simp)
theorem Bp.cell2 (h : Bp w wr #[u0, u1, u2] T) : wr.cell? ⟨w.heap.size, 2, none⟩ = some u2 :=
  (h.bel.cell (p := ⟨w.heap.size, 2, none⟩) (by simp)).trans (by simp)
end

end Go.Proofs.Ytmgoaabeopnopaa
/- impl.Poset.marks, hasLists, isTransitive, IsPoset. -/
namespace Go.Proofs.Ytmgoaabeopnopaa
open Go.RowKit

end Go.Proofs.Ytmgoaabeopnopaa
/- spec.l01Index, l01Has, l03Is, IsPoset. -/
namespace Go.Proofs.Ytmgoaabeopnopaa
open Go.RowKit

/-- The elements before e are in order. -/
structure PosTo (R : Int) (xs : List Int) (bss : List (List Int)) (e : Nat) (l : Int) : Prop where
  rk : RkTo R xs e l
  row : ∀ (i : Nat) (b : List Int), i < e → bss[i]? = some b → RowOk xs i b
  tr : ∀ (i : Nat) (b : List Int), i < e → bss[i]? = some b → ∀ d ∈ b, TrEl bss b d

end Go.Proofs.Ytmgoaabeopnopaa
/- The opposite of a poset; plain facts. -/
namespace Go.Proofs.Ytmgoaabeopnopaa

section
variable {R : Int} {xs : List Int} {bss : List (List Int)} {i k g : Nat}
theorem getD_some {b : List Int} (h : bss[k]? = some b) : bss.getD k [] = b := by simp [List.getD, h]
end
end Go.Proofs.Ytmgoaabeopnopaa
/- Posets as arguments of the laws: their sizes, copies, comparisons, marks. -/
namespace Go.Proofs.Ytmgoaabeopnopaa
open Go.RowKit

end Go.Proofs.Ytmgoaabeopnopaa
/- impl.Poset.opposite. -/
namespace Go.Proofs.Ytmgoaabeopnopaa
open Go.RowKit

section
variable {w w2 w3 wr w4 : World} {cs : Array Value} {hi N : Nat} {rs : List Int} {rows : List (List Int)}
end

end Go.Proofs.Ytmgoaabeopnopaa
/- spec.OppositePoset: what holds while it is made; facts outside the walk. -/
namespace Go.Proofs.Ytmgoaabeopnopaa
open Go.RowKit

section
variable {w w1 wr w4 : World} {cs : Array Value} {R : Int} {hi g c4 gb d4 : Nat} {A4 B4 : Option Addr} {rs : List Int} {rows : List (List Int)}
end
end Go.Proofs.Ytmgoaabeopnopaa
/- spec.OppositePoset, impl.OppositePoset. -/
namespace Go.Proofs.Ytmgoaabeopnopaa
open Go.RowKit

end Go.Proofs.Ytmgoaabeopnopaa
/- Lattices; plain facts. -/
namespace Go.Proofs.Ytmgoaabeopnopaa

section
variable {R : Int} {xs : List Int} {bss : List (List Int)} {e f : Nat}
end
end Go.Proofs.Ytmgoaabeopnopaa
/- slices.Clone at []int64; impl.Poset.hasMeets. -/
namespace Go.Proofs.Ytmgoaabeopnopaa
open Go.RowKit

end Go.Proofs.Ytmgoaabeopnopaa
/- slices.Repeat of one number. -/
namespace Go.Proofs.Ytmgoaabeopnopaa
open Go.RowKit Go.Shelf

theorem mul_one_any (m : Nat) (w : World) (hm : m ≤ 1048576) : Calls Try.prog 179 #[.int .u64 1, .int .u64 m] w fun e w' => e = .returned (.tuple #[.int .u64 0, .int .u64 m]) ∧ w = w' := by
  refine (Any.bits_Mul Try.l212 1 m (by decide) (by omega) w).mono ?_
  rintro e w' ⟨rfl, hw⟩
  have h1 : 1 * m / 18446744073709551616 = 0 := by omega
  have h2 : 1 * m % 18446744073709551616 = m := by omega
  rw [h1, h2]
  exact ⟨rfl, hw.symm⟩

theorem made_list (z : Value) (n : Nat) : madeCells #[z] n = (List.replicate n z).toArray := by
  apply Array.ext'
  rw [toList_madeCells_one]
/-- The first n places hold x. -/
def repS (m n : Nat) (x : Int) : List Value := ints (List.replicate n x ++ List.replicate (m - n) 0)
theorem repS_len {m n : Nat} {x : Int} (h : n ≤ m) : (repS m n x).length = m := by simp [repS]; omega
theorem repS_splice {m n k : Nat} {x : Int} (h : n + k ≤ m) : splice (repS m n x) n (ints (List.replicate k x)) = repS m (n + k) x := by
  apply List.ext_getElem?
  intro i
  unfold splice repS ints
  by_cases h1 : i < n
  · rw [List.getElem?_append_left (by simp; omega)]
    simp [h1, show i < n + k by omega, List.getElem?_append]
  · by_cases h2 : i < n + k
    · rw [List.getElem?_append_right (by simp; omega)]
      simp [List.getElem?_append, h2, List.getElem?_replicate]
      rw [if_pos (by omega)]
      simp
      omega
    · rw [List.getElem?_append_right (by simp; omega)]
      simp [List.getElem?_append, h2, List.getElem?_replicate, List.getElem?_drop]
      rw [if_neg (show ¬ i - n < k by omega), if_neg (show ¬ n + k + (i - n - k) < n by omega)]
      by_cases h3 : i < m
      · rw [if_pos (by omega), if_pos (by omega)]
      · rw [if_neg (by omega), if_neg (by omega)]

set_option maxHeartbeats 800000 in
set_option maxRecDepth 100000 in
theorem repeat_any {b o m : Nat} {x : Int} (w : World) (hc : w.cell? ⟨b, o, none⟩ = some (.int .i64 x)) (h1 : 1 ≤ m) (hm : m ≤ 1048576) :
    Calls Try.prog 164 #[.slice (some ⟨b, o, none⟩) 1 1, .int .i64 m] w (Ret1 w (List.replicate m x)) := by
  have HC := Lib.hid hc
  have hmk := run_make_row' (P := Try.prog) 36 2 (.int .i64 0) 8 Try.underlying36 Try.info2 rfl .i64 .i64 m (by omega) (by omega)
  clear hc
  go_enter Try.func164, Try.ntmps164
  go_wp2_with fail
  refine (mul_one_any m w hm).mono ?_
  rintro e w' ⟨rfl, rfl⟩
  have hsz : (Try.prog.info? 2).map (·.size) = some 1 := by kernel_rfl
  have HG := Lib.hid (show (w.alloc (.cells (madeCells #[.int .i64 0] m) 2)).heap[w.heap.size]? = some (.cells (List.replicate m (.int .i64 0)).toArray 2 (0, 0)) from by
    rw [made_list]; exact Blk.new w _ _)
  have HSRC := Lib.hid (show ∀ (j : Nat) (v : Value), ([.int .i64 x] : List Value)[j]? = some v → (w.alloc (.cells (madeCells #[.int .i64 0] m) 2)).cell? ((⟨b, o, none⟩ : Addr).add j) = some v from fun j v hj => by
    match j, hj with
    | 0, hj =>
      simp at hj
      subst hj
      rw [Addr.add_zero_spot, Nat.add_zero]
      exact cell_al HC.out _)
  have HONE := Lib.hid (show ∀ v ∈ ([.int .i64 x] : List Value), v.oneCell' = true from fun v hv => by
    simp at hv
    subst hv
    rfl)
  have HMIN := Lib.hid (show ([.int .i64 x] : List Value).length = Nat.min 1 m from by
    show 1 = min 1 m
    omega)
  go_wp2_with (with_reducible refine wpList_copy_splice rfl (.tmp 31) (.tmp 32) 36 36 rfl 2 Try.underlying36 hsz (some ⟨w.heap.size, 0, none⟩) (some ⟨b, o, none⟩) m m 1 1 rfl rfl w.heap.size 0 (List.replicate m (.int .i64 0)) 2 HG.out [.int .i64 x] HMIN.out (fun _ => ⟨rfl, _, rfl, HSRC.out⟩) (by simp; omega) HONE.out w.heap.size w (below1 _ _) (Nat.le_refl _) ?_)
  intro w1 hb1 bel1
  have BK1 := Lib.hid (show Blk w1 w.heap.size (repS m 1 x).toArray 2 from by
    have h := hb1.out
    have e1 : (List.replicate m (.int .i64 0) : List Value) = repS m 0 x := by simp [repS]
    have e2 := repS_splice (m := m) (n := 0) (k := 1) (x := x) (by omega)
    rw [e1] at h
    rw [show ([.int .i64 x] : List Value) = ints (List.replicate 1 x) from rfl, e2] at h
    exact h)
  have BE1 := Lib.hid bel1
  clear hb1 bel1 HG HSRC HONE HMIN hmk
  go_wp2
  go_loopw [8] (fun v wr => ∃ n : Nat, 1 ≤ n ∧ n ≤ m ∧ v = .int .i64 n ∧ Blk wr w.heap.size (repS m n x).toArray 2 ∧ Below w.heap.size w wr) (fun v _ => m - (intOf v).toNat)
  case atStart => exact ⟨1, Nat.le_refl _, h1, rfl, BK1.out, BE1.out⟩
  case round =>
    obtain ⟨n, hn1, hnm, rfl, bk, bel⟩ := hrel
    have BK := Lib.hid bk
    have BE := Lib.hid bel
    clear bk bel BK1 BE1
    by_cases hlt : n < m
    · obtain ⟨k, hk⟩ : ∃ k, Nat.min n (m - n) = k := ⟨_, rfl⟩
      have hk1 : k ≤ n := by rw [← hk]; exact Nat.min_le_left _ _
      have hk2 : n + k ≤ m := by have : Nat.min n (m - n) ≤ m - n := Nat.min_le_right _ _; omega
      have hk0 : 1 ≤ k := by rw [← hk]; exact Nat.le_min.2 ⟨hn1, by omega⟩
      obtain ⟨cs, hcs⟩ : ∃ cs, cs = ints (List.replicate k x) := ⟨_, rfl⟩
      have hl : cs.length = k := by rw [hcs]; simp
      have HLK := Lib.hid (show cs.length = Nat.min n (m - n) by rw [hl, hk])
      have HL := Lib.hid hl
      have HSRC := Lib.hid (show ∀ (j : Nat) (v : Value), cs[j]? = some v → wr.cell? ((⟨w.heap.size, 0, none⟩ : Addr).add j) = some v from fun j v hj => by
        have hjk : j < k := by have := (List.getElem?_eq_some_iff.1 hj).1; omega
        rw [Addr.add_zero_spot, Nat.zero_add]
        refine BK.out.cell ?_
        rw [hcs] at hj
        simp [hjk] at hj
        subst hj
        simp [repS, List.getElem?_append, show j < n by omega])
      have HONE := Lib.hid (show ∀ v ∈ cs, v.oneCell' = true from fun v hv => by
        rw [hcs] at hv
        obtain ⟨z, _, rfl⟩ := List.mem_map.1 hv
        rfl)
      have HSP := Lib.hid (show splice (repS m n x) n cs = repS m (n + k) x from by rw [hcs]; exact repS_splice hk2)
      have HRL := Lib.hid (repS_len (x := x) hnm)
      have hfit : n + cs.length ≤ (repS m n x).length := by rw [HRL.out, hl]; exact hk2
      have BKd := Lib.hid (show (wr.drewN 1).heap[w.heap.size]? = some (.cells (repS m n x).toArray 2 (0, 0)) from BK.out)
      have BEd := Lib.hid (show Below w.heap.size w (wr.drewN 1) from below_drewN BE.out 1)
      have nI : (n : Int) < (m : Int) := by omega
      have nz : (0 : Int) ≤ (n : Int) := by omega
      have nn : ¬ m = n := by omega
      have i5 : IntKind.i64.wrap ((n : Int) + (cs.length : Int)) = ((n + k : Nat) : Int) := (IntWalk.i64_in _ (by omega)).trans (by omega)
      clear hk hcs hl
      go_wp2
      go_region_law ((refine step_copy_splice rfl (.tmp 41) (.tmp 44) 36 36 rfl 2 Try.underlying36 hsz (some ⟨w.heap.size, n, none⟩) (some ⟨w.heap.size, 0, none⟩) (m - n) (m - n) n m (by simp [Act.eval, Act.put]) (by simp [Act.eval, Act.put]) w.heap.size n (repS m n x) 2 BKd.out cs HLK.out (fun _ => ⟨rfl, _, rfl, HSRC.out⟩) hfit HONE.out w.heap.size w BEd.out (Nat.le_refl _) ?_; intro w5 hb5 bel5))
      all_goals
        have BK5 := Lib.hid (show Blk w5 w.heap.size (repS m (n + k) x).toArray 2 from by rw [← HSP.out]; exact hb5.out)
        have BE5 := Lib.hid bel5
        clear hb5 bel5
        go_simp
        go_wp2
        go_roundw
        case rel => exact ⟨n + k, by omega, hk2, by go_num, BK5.out, BE5.out⟩
        case measure => simp [intOf]; omega
    · obtain rfl : n = m := by omega
      have h2 := BK.out
      go_wp2
      go_ret
      refine ⟨some ⟨w.heap.size, 0, none⟩, n, by simp, ?_, BE.out⟩
      have hb : BK.out = BK.out := rfl
      refine ⟨by simp, .inr ⟨w.heap.size, n, _, by simp, Nat.le_refl _, h2, by simp, by unfold maxLen; omega, by simp [repS], by simp [repS]⟩⟩
end Go.Proofs.Ytmgoaabeopnopaa
