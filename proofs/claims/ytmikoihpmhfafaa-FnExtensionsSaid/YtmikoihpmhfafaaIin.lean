/- slices.Insert at rows, impl.extensionCode, ExtendManiplex, ExtendInside. -/
import Derived.Test.YtmikoihpmhfafaaIex
import Derived.Laws.CopyOwn
import Derived.Deep.RegionLaw
import Derived.Lib.AppendZerosOnto
import Derived.Lib.SliceRun
namespace Go.Proofs.Ytmikoihpmhfafaa
open Go.RowKit Go.Lib

theorem zc_eq (v : Value) (k : Nat) : (Builtin.zeroCells #[v] k).toList = List.replicate k v := by
  unfold Builtin.zeroCells
  simp only [Array.toList_map, Array.toList_range, List.size_toArray, List.length_cons, List.length_nil]
  apply List.ext_getElem
  · simp
  · intro j h1 h2
    simp [Nat.mod_one]
theorem Sep.consSS {w : World} {lo i j k e n m c c1 c4 : Nat} {A A1 A4 : Option Addr} {Ps : List Pc} {vals : List Value} {xss : List (List Int)} {xs : List Int} (h : Sep w lo Ps) (hi : Ps[i]? = some (.rows 2 e A n c vals xss)) (hj : Ps[j]? = some (.own 2 A1 m c1 (ints xs))) (hm : xs.length = m) (hk : Ps[k]? = some (.own e A4 (n + 1) c4 (.slice A1 m c1 :: vals))) (hij : i ≠ j) :
    OwnSS w lo w.heap.size e A4 (n + 1) c4 (xs :: xss) := by
  subst hm
  obtain ⟨Fs, h1, h2, h3⟩ := h
  have hil := (List.getElem?_eq_some_iff.1 hi).1
  have hjl := (List.getElem?_eq_some_iff.1 hj).1
  have hkl := (List.getElem?_eq_some_iff.1 hk).1
  obtain ⟨g1, g2, g3, g4, g5⟩ := h1 i _ hi
  obtain ⟨d1, d2⟩ := h1 j _ hj
  obtain ⟨q1, q2⟩ := h1 k _ hk
  have hold : ∀ (a : Nat) (u : Value), vals[a]? = some u → ∀ x, u.ownBlock = some x → Fs i x := fun a u hu x hx => by
    have hvl : vals.length = n := by have := g1.1; omega
    have hal : a < xss.length := by have := (List.getElem?_eq_some_iff.1 hu).1; omega
    obtain ⟨A2, c2, b1, b2, b3⟩ := g4 a _ (List.getElem?_eq_getElem hal)
    rw [hu] at b1
    injection b1 with b1
    subst b1
    exact b3 x hx
  refine ⟨.slice A1 xs.length c1 :: vals, own_base_up q1 (fun b hb => (h2 k b hkl (q2 b hb)).1), fun b hb => h2 k b hkl (q2 b hb), by simp [g3], fun a zs ha => ?_, fun a b u v hab hu hv x hx hvx => ?_⟩
  · cases a with
    | zero =>
      simp at ha
      subst ha
      exact ⟨A1, c1, rfl, own_base_up d1 (fun b hb => (h2 j b hjl (d2 b hb)).1), fun b hb => h2 j b hjl (d2 b hb)⟩
    | succ a =>
      simp at ha
      obtain ⟨A', c', b1, b2, b3⟩ := g4 a zs ha
      exact ⟨A', c', by simpa using b1, own_base_up b2 (fun b hb => (h2 i b hil (b3 b hb)).1), fun b hb => h2 i b hil (b3 b hb)⟩
  · cases a with
    | zero =>
      cases b with
      | zero => exact hab rfl
      | succ b =>
        simp at hu hv
        subst hu
        exact h3 i j x hil hjl hij (hold b v hv x hvx) (d2 x hx)
    | succ a =>
      cases b with
      | zero =>
        simp at hu hv
        subst hv
        exact h3 i j x hil hjl hij (hold a u hu x hx) (d2 x hvx)
      | succ b =>
        simp at hu hv
        exact g5 a b u v (by omega) hu hv x hx hvx

set_option maxHeartbeats 3200000 in
set_option maxRecDepth 100000 in
theorem iins_any {g N h base : Nat} {vals : List Value} {u : Value} (w : World) (hN1 : 1 ≤ N) (hN : N ≤ 16) (ho : w.ownsRow base 31 1 (.slice (some ⟨g, 0, none⟩) N N) N vals) (hu : w.cell? ⟨h, 0, none⟩ = some u) (hu1 : u.oneCell' = true) (hv1 : ∀ v ∈ vals, v.oneCell' = true) :
    Calls Try.prog 99 #[.slice (some ⟨g, 0, none⟩) N N, .int .i64 0, .slice (some ⟨h, 0, none⟩) 1 1] w fun e w' => ∃ A' c', e = .returned (.slice A' (N + 1) c') ∧ w'.ownsRow w.heap.size 31 1 (.slice A' (N + 1) c') (N + 1) (u :: vals) ∧ Below w.heap.size w w' := by
  have hvl : vals.length = N := by have := ho.1; omega
  obtain ⟨i, hi, hzz⟩ := Option.map_eq_some_iff.1 Try.infoS
  simp only [Prod.mk.injEq] at hzz
  obtain ⟨hz, hs1, hb1⟩ := hzz
  have hge := grownCap_ge w (N + 1) N 31
  have hle := grownCap_le_maxLen w (N + 1) N 31 (by unfold maxLen; omega)
  obtain ⟨G, hG⟩ : ∃ G, G = grownCap w (N + 1) N 31 := ⟨_, rfl⟩
  obtain ⟨wB, hwB⟩ : ∃ wB, wB = (w.drew.alloc (.cells (([] : List Value).toArray ++ Builtin.zeroCells (Value.slice none 0 0).cells (N + 1) ++ Builtin.zeroCells (Value.slice none 0 0).cells (G - (N + 1))) 31)) := ⟨_, rfl⟩
  have hrz : ∀ ty, (Builtin.append_ #[24, 3] ty #[.slice (some ⟨g, 0, none⟩) 0 N, .int .i64 ((N + 1 : Nat) : Int)]).run Try.prog w = .ok (.slice (some ⟨w.heap.size, 0, none⟩) (N + 1) G) wB := fun ty => by
    have h := Lib.run_append_grow_zeros (P := Try.prog) w 24 3 ty 31 i (.slice none 0 0) .i64 .i64 Try.underlying24 Try.underlying3 hi hz (some ⟨g, 0, none⟩) 0 N [] (by have := run_firstCells_some (P := Try.prog) (w := w.drew) i.size 0 ⟨g, 0, none⟩ 0 N [] (by simp) (by simp); simpa using this) (N + 1) (by omega) (by omega) (by omega) (by omega) (by rw [hb1]; omega) (by rw [Nat.zero_add]; exact growslice_fits (by omega) (by rw [hb1]; omega))
    rw [hwB, hG]
    simpa using h
  rw [← hG] at hge hle
  unfold maxLen at hle
  have hG1 : N + 1 ≤ G := by omega
  have hBl : wB.heap[w.heap.size]? = some (.cells (List.replicate G (.slice none 0 0)).toArray 31 (0, 0)) := by
    have h := Blk.new w.drew (([] : List Value).toArray ++ Builtin.zeroCells (Value.slice none 0 0).cells (N + 1) ++ Builtin.zeroCells (Value.slice none 0 0).cells (G - (N + 1))) 31
    have e : (([] : List Value).toArray ++ Builtin.zeroCells (Value.slice none 0 0).cells (N + 1) ++ Builtin.zeroCells (Value.slice none 0 0).cells (G - (N + 1))) = (List.replicate G (.slice none 0 0)).toArray := by
      apply Array.ext'
      rw [show (Value.slice none 0 0).cells = #[.slice none 0 0] from rfl]
      simp only [Array.toList_append, zc_eq, List.nil_append]
      rw [List.replicate_append_replicate]
      congr 1
      omega
    rw [e] at h
    rw [hwB, e]
    exact h
  have hbB : Below w.heap.size w wB := by rw [hwB]; exact (below_drewN (Below.refl _ _) 1).alloc (by simp) _
  have HG := Lib.hid hBl
  have HBB := Lib.hid hbB
  have HUB := Lib.hid (show ∀ (j : Nat) (v : Value), [u][j]? = some v → wB.cell? ((⟨h, 0, none⟩ : Addr).add j) = some v from fun j v hj => by
    match j, hj with
    | 0, hj =>
      injection hj with hj
      subst hj
      rw [Addr.add_zero_spot, Nat.add_zero]
      exact cell_be hu hbB)
  have HO := Lib.hid ho
  have HV1 := Lib.hid hv1
  have HU1 := Lib.hid (one_lit1 hu1)
  have HVL := Lib.hid hvl
  have hsz : (Try.prog.info? 31).map (·.size) = some 1 := by kernel_rfl
  have j1 : IntKind.i64.wrap ((N : Int) + 1) = ((N + 1 : Nat) : Int) := (IntWalk.i64_in _ (by omega)).trans (by omega)
  have j2 : ((N : Int) == 0) = false := by rw [beq_eq_false_iff_ne]; omega
  have j2' : ((0 : Int) == (N : Int)) = false := by rw [beq_eq_false_iff_ne]; omega
  have j3 : (N : Int) < ((N + 1 : Nat) : Int) := by omega
  have HMIN := Lib.hid (show ([u] : List Value).length = Nat.min 1 (N + 1) from by
    show 1 = min 1 (N + 1)
    omega)
  clear hG hwB hz hs1 hb1 hi hBl hbB ho hu hu1 hv1 hvl hge
  go_enter Try.func99, Try.ntmps99
  have HSP := Lib.hid (show splice (List.replicate G (Value.slice none 0 0)) 0 [u] = u :: List.replicate (G - 1) (Value.slice none 0 0) from by
    simp [splice, List.drop_replicate])
  have HSP2 := Lib.hid (show splice (u :: List.replicate (G - 1) (Value.slice none 0 0)) 1 vals = u :: vals ++ List.replicate (G - 1 - N) (Value.slice none 0 0) from by
    simp [splice, HVL.out, Nat.add_comm 1 N])
  have HLK := Lib.hid (show vals.length = Nat.min N N from by rw [HVL.out]; show N = min N N; omega)
  have hfit : 1 + vals.length ≤ (u :: List.replicate (G - 1) (Value.slice none 0 0)).length := by rw [HVL.out]; simp; omega
  have g1 : 1 ≤ G := by omega
  have g4 : IntKind.i64.wrap 1 = 1 := by decide
  have g5 : (1 : Int) ≤ (N : Int) + 1 := by omega
  have g2 : ¬ G = 1 := by omega
  have g3 : ¬ N = 0 := by omega
  go_wp2_with (first
    | (at_builtin; refine Lib.wpList_append_run _ rfl _ _ _ _ rfl _ _ rfl rfl _ _ (hrz _) ?_)
    | (with_reducible refine wpList_copy_splice rfl (.tmp 43) (.tmp 44) 24 24 rfl 31 Try.underlying24 hsz (some ⟨w.heap.size, 0, none⟩) (some ⟨h, 0, none⟩) (N + 1) G 1 1 rfl rfl w.heap.size 0 (List.replicate G (.slice none 0 0)) 31 HG.out [u] HMIN.out (fun _ => ⟨rfl, _, rfl, HUB.out⟩) (by simp; omega) HU1.out w.heap.size w HBB.out (Nat.le_refl _) ?_
       intro w1 hb1 bel1
       have BKd := Lib.hid (show (w1.drewN 1).heap[w.heap.size]? = some (.cells (u :: List.replicate (G - 1) (Value.slice none 0 0)).toArray 31 (0, 0)) from by rw [← HSP.out]; exact hb1.out)
       have BEd := Lib.hid (show Below w.heap.size w (w1.drewN 1) from below_drewN bel1 1)
       have HSRC := Lib.hid (show ∀ (j : Nat) (v : Value), vals[j]? = some v → w1.cell? ((⟨g, 0, none⟩ : Addr).add j) = some v from fun j v hj => by
         rw [Addr.add_zero_spot, Nat.zero_add]
         exact own_cell (own_below HO.out bel1 (Nat.le_refl _)) hj)
       clear hb1 bel1))
  go_region_law ((refine step_copy_splice rfl (.tmp 50) (.tmp 53) 24 24 rfl 31 Try.underlying24 hsz (some ⟨w.heap.size, 1, none⟩) (some ⟨g, 0, none⟩) N (G - 1) N N (by simp [Act.eval, Act.put]) (by simp [Act.eval, Act.put]) w.heap.size 1 (u :: List.replicate (G - 1) (Value.slice none 0 0)) 31 BKd.out vals HLK.out (fun _ => ⟨rfl, _, rfl, HSRC.out⟩) hfit HV1.out w.heap.size w BEd.out (Nat.le_refl _) ?_; intro w5 hb5 bel5))
  all_goals
    have HB5 := Lib.hid (show w5.heap[w.heap.size]? = some (.cells (u :: vals ++ List.replicate (G - 1 - N) (Value.slice none 0 0)).toArray 31 (0, 0)) from by rw [← HSP2.out]; exact hb5.out)
    have BE5 := Lib.hid bel5
    clear hb5 bel5
    go_wp2
    go_ret
    refine ⟨_, G, rfl, ⟨by simp [HVL.out], .inr ⟨w.heap.size, G, _, rfl, Nat.le_refl _, HB5.out, hG1, by unfold maxLen; omega, ?_, ?_⟩⟩, BE5.out⟩
    · simp [HVL.out]
      omega
    · simp [HVL.out]
end Go.Proofs.Ytmikoihpmhfafaa
