/- spec.l02Spoil. -/
import Derived.Test.YtckmmgepoccopaaSpa
import Derived.Deep.AppendLies
namespace Go.Proofs.Ytckmmgepoccopaa
open Go.RowKit

/-- A drawn maniplex, or something that is none: it can be read. -/
def RetSp (w : World) (g : Nat) (A : Option Addr) (n c : Nat) (bs : List Value) (e : Ending) (w' : World) : Prop :=
  ∃ (wb : World) (A' : Option Addr) (N c' : Nat) (xss : List (List Int)), e = .returned (.agg #[.slice A' N c']) ∧ xss.length = N ∧ N ≤ 6 ∧ (∀ xs ∈ xss, xs.length ≤ 401) ∧ N ≤ c' ∧ c' ≤ 9223372036854775807 ∧ Dr g A n c bs w wb ∧ St wb w' [.rds A' xss]
theorem St.addLit3 {w0 w : World} {Ps : List Pc} (h : St w0 w Ps) (u v x : Value) (e : TypeId) : St w0 (w.alloc (.cells #[u, v, x] e)) (Ps ++ [.own e (some ⟨w.heap.size, 0, none⟩) 3 3 [u, v, x]]) :=
  h.addOwn (base := w.heap.size) ((Below.refl _ _).alloc (Nat.le_refl _) _) (by simpa using World.ownsRow_lit (base := w.heap.size) (e := e) (size := 1) w #[u, v, x] 3 (Nat.le_refl _) (by decide) (by simp)) (Nat.le_refl _)
theorem len_set {xss : List (List Int)} {k m B : Nat} {ys : List Int} (h : ∀ xs ∈ xss, xs.length ≤ B) (hy : ys.length ≤ B) (_hm : m = k) : ∀ xs ∈ xss.set k ys, xs.length ≤ B := fun xs hx => by
  rcases List.mem_or_eq_of_mem_set hx with h1 | h1
  · exact h xs h1
  · rw [h1]; exact hy
section
variable {A : Option Addr} {g n c : Nat} {bs : List Value}
set_option maxRecDepth 100000 in
set_option maxHeartbeats 6400000 in
theorem spoil2P {most : Nat} (w : World) (hs : SrcE w g A n c bs) (hn : n ≤ 1048576) (h8 : 8 ≤ most) (h4 : most ≤ 400) :
    Calls Try.prog 75 #[.pointer (some ⟨g, 0, none⟩), .int .i64 most] w (RetSp w g A n c bs) := by
  have S0 := Lib.hid ((St.start w).addBlk #[.slice none 0 0] 26)
  have D0 := Lib.hid (Dr.start hs)
  clear hs
  go_enter Try.func75, Try.ntmps75
  go_wp2_with fail
  refine (draw2P _ (D0.out.now S0.out) hn h8 h4).mono ?_
  rintro e w1 ⟨wb0, A1, N, c1, m, vals, xss, rfl, hl, ok, hm, d1, st1⟩
  obtain ⟨wb1, d2, st2⟩ := D0.out.join S0.out d1 st1
  have hN1 := ok.r1
  have hN5 := ok.r5
  have hm1 := ok.n2
  have hm4 := ok.n4
  rw [hl] at hN1 hN5
  obtain ⟨gM, rfl⟩ := own_shape (st2.rows (i := 1) rfl) (show 0 < N by omega)
  have D1 := Lib.hid d2
  have S1 := Lib.hid (show St wb1 (w1.alloc (.cells #[.slice (some ⟨gM, 0, none⟩) N c1] 26)) [.blk w.heap.size #[.slice none 0 0] 26, .rows 2 28 (some ⟨gM, 0, none⟩) N c1 vals xss, .blk w1.heap.size #[.slice (some ⟨gM, 0, none⟩) N c1] 26] from st2.addBlk #[.slice (some ⟨gM, 0, none⟩) N c1] 26)
  have HL := Lib.hid hl
  have HO := Lib.hid ok
  have HR := Lib.hid (show ∀ xs ∈ xss, xs.length ≤ 401 from fun xs hx => by have := (ok.inv xs hx).1; omega)
  have hcp := ownSS_cap (st2.sep.ownSS (i := 1) rfl)
  obtain ⟨x0, hx0⟩ : ∃ x0, xss[0]? = some x0 := ⟨_, List.getElem?_eq_getElem (by omega)⟩
  have hlen := (ok.inv x0 (List.mem_of_getElem? hx0)).1
  obtain ⟨A0, c0, hv0, ow0⟩ := S1.out.rowAt (i := 1) rfl hx0
  rw [hlen] at hv0
  have hc0 := own_cell (S1.out.rows (i := 1) rfl) hv0
  have hbx := (S1.out.blk (i := 2) rfl).cell (i := 0) rfl
  have HX0 := Lib.hid hx0
  have HLEN := Lib.hid hlen
  have HV0 := Lib.hid hv0
  clear d1 st1 d2 st2 hl ok S0 D0 hx0 hlen hv0 ow0
  go_wp2_with fail
  refine (sFlags_bel (n := m) (c0 := c0) (A0 := A0) _ (by omega) hc0).mono ?_
  rintro e w2 ⟨rfl, bel⟩
  have S2 := Lib.hid (S1.out.go bel)
  clear bel hbx hc0 S1
  go_wp2_with fail
  refine (nextE (N := 40) _ (D1.out.now S2.out) hn (by omega)).mono ?_
  rintro e w3 ⟨r, rfl, ⟨h0r, h1r⟩, hs_, tu_⟩
  obtain ⟨wb3, d_, st_⟩ := D1.out.num S2.out hs_ tu_
  obtain ⟨r, rfl⟩ := Int.eq_ofNat_of_zero_le h0r
  have D3 := Lib.hid d_
  have S3 := Lib.hid st_
  clear d_ st_ hs_ tu_ D1 S2
  have hNp : 0 < N := hN1
  by_cases e0 : r = 0
  · subst e0
    have Sd := Lib.hid (S3.out.go (below_drewN (Below.refl _ _) 1))
    have Sl := Lib.hid (Sd.out.addLit3 (.int .i64 (-1)) (.int .i64 m) (.int .i64 0) 2)
    have xb := (S3.out.blk (i := 2) rfl).cell (i := 0) rfl
    have xl := cell_al xb (.cells #[.int .i64 (-1), .int .i64 (m : Int), .int .i64 0] 2)
    have hb0 := own_cell (S3.out.rows (i := 1) rfl) HV0.out
    have hl0 := cell_al hb0 (.cells #[.int .i64 (-1), .int .i64 (m : Int), .int .i64 0] 2)
    have mI : (1 : Int) ≤ (m : Int) := by omega
    go_wp2
    go_region_law ((first
      | (refine step_call rfl 86 #[.tmp 20, .tmp 21] #[77, 2] (by rfl) Try.func86 (by rfl) (by rfl) #[.pointer (some ⟨g, 0, none⟩), .int .i64 m] (by first | (simp [Act.eval]; done) | simp [Act.eval, Act.put]) _ (nextE (N := m) _ (D3.out.now Sd.out) hn mI) ?_
         rintro e w4 ⟨k, rfl, ⟨h0k, h1k⟩, hs_, tu_⟩
         refine ⟨_, rfl, ?_⟩
         obtain ⟨wb4, d_, st_⟩ := D3.out.num Sd.out hs_ tu_
         obtain ⟨k, rfl⟩ := Int.eq_ofNat_of_zero_le h0k
         have D4 := Lib.hid d_
         have S4 := Lib.hid (st_.addLit3 (.int .i64 (-1)) (.int .i64 m) (.int .i64 0) 2)
         have x4 := (st_.blk (i := 2) rfl).cell (i := 0) rfl
         have h4' := own_cell (st_.rows (i := 1) rfl) HV0.out
         have x4l := cell_al x4 (.cells #[.int .i64 (-1), .int .i64 (m : Int), .int .i64 0] 2)
         have h4l := cell_al h4' (.cells #[.int .i64 (-1), .int .i64 (m : Int), .int .i64 0] 2)
         have Q4 := Lib.hid (show ∀ b o, some (⟨w4.heap.size, 0, none⟩ : Addr) = some ⟨b, o, none⟩ → b < g ∨ g + 1 ≤ b from fun b o e => by
           have h1 := (D4.out.now st_).lt
           simp at e
           omega)
         clear d_ st_ hs_ tu_)
      | (refine step_call rfl 86 #[.tmp 20, .tmp 21] #[77, 2] (by rfl) Try.func86 (by rfl) (by rfl) #[.pointer (some ⟨g, 0, none⟩), .int .i64 m] (by first | (simp [Act.eval]; done) | simp [Act.eval, Act.put]) _ (nextE (N := m) _ (D3.out.now Sl.out) hn mI) ?_
         rintro e w4 ⟨k, rfl, ⟨h0k, h1k⟩, hs_, tu_⟩
         refine ⟨_, rfl, ?_⟩
         obtain ⟨wb4, d_, st_⟩ := D3.out.num Sl.out hs_ tu_
         obtain ⟨k, rfl⟩ := Int.eq_ofNat_of_zero_le h0k
         have D4 := Lib.hid d_
         have S4 := Lib.hid st_
         have x4 := (st_.blk (i := 2) rfl).cell (i := 0) rfl
         have h4' := own_cell (st_.rows (i := 1) rfl) HV0.out
         have Q4 := Lib.hid (show ∀ b o, some (⟨w3.heap.size, 0, none⟩ : Addr) = some ⟨b, o, none⟩ → b < g ∨ g + 1 ≤ b from fun b o e => by
           have h1 := (D3.out.now S3.out).lt
           simp at e
           omega)
         clear d_ st_ hs_ tu_)
      | (refine step_call rfl 76 #[.tmp 23, .tmp 25] #[77, 28] (by rfl) Try.func76 (by rfl) (by rfl) #[.pointer (some ⟨g, 0, none⟩), .slice (some ⟨w4.heap.size, 0, none⟩) 3 3] (by first | (simp [Act.eval]; done) | simp [Act.eval, Act.put]) _ (pickE (m := 3) (c2 := 3) (xs := [-1, (m : Int), 0]) _ (D4.out.now S4.out) hn rfl (by decide) (by decide) (own_rd (S4.out.own (i := 3) rfl)) Q4.out) ?_
         rintro e w5 ⟨z, rfl, _, hs_, tu_⟩
         refine ⟨_, rfl, ?_⟩
         obtain ⟨wb5, d_, st_⟩ := D4.out.num S4.out hs_ tu_
         have D5 := Lib.hid d_
         have S5 := Lib.hid st_
         have x5 := (st_.blk (i := 2) rfl).cell (i := 0) rfl
         have h5' := own_cell (st_.rows (i := 1) rfl) HV0.out
         clear d_ st_ hs_ tu_
         obtain ⟨A0', c0', hv5, ow5⟩ := S5.out.rowAt (i := 1) rfl HX0.out
         rw [HLEN.out, HV0.out] at hv5
         simp only [Option.some.injEq, Value.slice.injEq, true_and] at hv5
         obtain ⟨rfl, rfl⟩ := hv5
         rw [HLEN.out] at ow5
         obtain ⟨g0, rfl⟩ := own_shape ow5 hm1
         obtain ⟨u, hu⟩ := ints_at HLEN.out (Int.ofNat_lt.1 h1k)
         have c5 := own_cell ow5 hu
         have f5 := ow5.frozenAt k
         have HOW := Lib.hid (ow5.stored k (.int .i64 z))
         rw [ints_set] at HOW
         clear hu ow5)
      | (refine step_call rfl 76 #[.tmp 23, .tmp 25] #[77, 28] (by rfl) Try.func76 (by rfl) (by rfl) #[.pointer (some ⟨g, 0, none⟩), .slice (some ⟨w3.heap.size, 0, none⟩) 3 3] (by first | (simp [Act.eval]; done) | simp [Act.eval, Act.put]) _ (pickE (m := 3) (c2 := 3) (xs := [-1, (m : Int), 0]) _ (D4.out.now S4.out) hn rfl (by decide) (by decide) (own_rd (S4.out.own (i := 3) rfl)) Q4.out) ?_
         rintro e w5 ⟨z, rfl, _, hs_, tu_⟩
         refine ⟨_, rfl, ?_⟩
         obtain ⟨wb5, d_, st_⟩ := D4.out.num S4.out hs_ tu_
         have D5 := Lib.hid d_
         have S5 := Lib.hid st_
         have x5 := (st_.blk (i := 2) rfl).cell (i := 0) rfl
         have h5' := own_cell (st_.rows (i := 1) rfl) HV0.out
         clear d_ st_ hs_ tu_
         obtain ⟨A0', c0', hv5, ow5⟩ := S5.out.rowAt (i := 1) rfl HX0.out
         rw [HLEN.out, HV0.out] at hv5
         simp only [Option.some.injEq, Value.slice.injEq, true_and] at hv5
         obtain ⟨rfl, rfl⟩ := hv5
         rw [HLEN.out] at ow5
         obtain ⟨g0, rfl⟩ := own_shape ow5 hm1
         obtain ⟨u, hu⟩ := ints_at HLEN.out (Int.ofNat_lt.1 h1k)
         have c5 := own_cell ow5 hu
         have f5 := ow5.frozenAt k
         have HOW := Lib.hid (ow5.stored k (.int .i64 z))
         rw [ints_set] at HOW
         clear hu ow5)))
    all_goals
      have S6 := Lib.hid (S5.out.rowWrite (i := 1) rfl (by decide) HX0.out (by rw [HLEN.out]; exact HV0.out) (Below.refl _ _) (ys := x0.set k z) (by simp) (by rw [HLEN.out]; exact HOW.out.1) (by rw [HLEN.out]; exact HOW.out.2))
      have HR6 := Lib.hid (len_set (k := 0) (ys := x0.set k z) HR.out (by simp [HLEN.out]; omega) rfl)
      have z0 := (S6.out.blk (i := 0) rfl).cell (i := 0) rfl
      have f0 := (S6.out.blk (i := 0) rfl).free 0
      have m0 := (S6.out.blk (i := 2) rfl).cell (i := 0) rfl
      go_wp2
      have st4 := S6.out.blkSet (i := 0) rfl 0 (.slice (some ⟨gM, 0, none⟩) (N) (c1))
      have y0 := (st4.blk (i := 0) rfl).cell (i := 0) rfl
      refine bodyPost_ret (v := .agg #[.slice (some ⟨gM, 0, none⟩) (N) (c1)]) (by simp [results, Try.results75, go_sem, y0]) rfl ⟨_, some ⟨gM, 0, none⟩, N, c1, xss.set 0 (x0.set k z), rfl, by rw [List.length_set, HL.out], by omega, HR6.out, hcp.1, hcp.2, D5.out, ?_⟩
      exact (st4.less (i := 1) rfl (fun F h => rows_rds h)).pick (fun i => i + 1) (fun i hi => by simp at hi ⊢; omega) (fun i hi => by match i, hi with | 0, _ => rfl) (fun i j _ _ h => by omega)
  have n0 : ((r : Int) == 0) = false := by rw [beq_eq_false_iff_ne]; omega
  by_cases e1 : r = 1
  · subst e1
    have Sd := Lib.hid (S3.out.go (below_drewN (Below.refl _ _) 1))
    have xb := (S3.out.blk (i := 2) rfl).cell (i := 0) rfl
    go_wp2
    go_region_law ((first
      | (refine step_call rfl 123 #[.tmp 32, .tmp 33] #[77, 2] (by rfl) Try.func123 (by rfl) (by rfl) #[.pointer (some ⟨g, 0, none⟩), .int .i64 m] (by first | (simp [Act.eval]; done) | simp [Act.eval, Act.put]) _ (matchP _ (D3.out.now Sd.out) hn hm4) ?_
         rintro e w4 ⟨wb4, A4, c4, p, rfl, hpl, _, d4, st4⟩
         refine ⟨_, rfl, ?_⟩
         obtain ⟨wb5, d5, st5⟩ := D3.out.join Sd.out d4 st4
         have D5 := Lib.hid d5
         have S5 := Lib.hid st5
         have HPL := Lib.hid hpl
         have z1 := (S5.out.blk (i := 2) rfl).cell (i := 0) rfl
         have z1l := cell_al z1 (.cells #[.slice A4 m c4] 28)
         have hlo := S5.out.lo
         clear d4 st4 d5 st5 hpl)
      | (refine step_push_h rfl (.tmp 31) (.tmp 35) 24 28 (by rfl) Try.underlying24 (.slice none 0 0) 24 Try.infoS rfl w4.heap.size (by rfl) wb5.heap.size (.slice (some ⟨gM, 0, none⟩) N c1) N _ (by rfl) (S5.out.rows (i := 1) rfl) (.slice A4 m c4) (by rfl) (by rfl) (Nat.le_trans (Nat.mul_le_mul_right 24 (Nat.succ_le_succ hN5)) (by decide)) (Nat.le_trans (Nat.succ_le_succ hN5) (by decide)) hlo ?_
         intro A7 c7 w7 own7 gr7 hat7
         have S7 := Lib.hid (S5.out.rowPush (i := 1) (j := 3) rfl rfl HPL.out (by decide) (by decide) own7 gr7 hat7)
         have z7 := (S7.out.blk (i := 2) rfl).cell (i := 0) rfl
         have f7 := (S7.out.blk (i := 2) rfl).free 0
         clear own7 gr7 hat7)))
    all_goals
      have S8 := Lib.hid (S7.out.blkSet (i := 2) rfl 0 (.slice A7 (N + 1) c7))
      have hcp8 := ownSS_cap (S8.out.sep.ownSS (i := 1) rfl)
      have HR8 := Lib.hid (show ∀ xs ∈ xss ++ [p], xs.length ≤ 401 from fun xs hx => by
        rcases List.mem_append.1 hx with h1 | h1
        · exact HR.out xs h1
        · simp at h1
          subst h1
          have := HPL.out
          omega)
      have z0 := (S8.out.blk (i := 0) rfl).cell (i := 0) rfl
      have f0 := (S8.out.blk (i := 0) rfl).free 0
      have m0 := (S8.out.blk (i := 2) rfl).cell (i := 0) rfl
      go_wp2
      have st4 := S8.out.blkSet (i := 0) rfl 0 (.slice (A7) (N + 1) (c7))
      have y0 := (st4.blk (i := 0) rfl).cell (i := 0) rfl
      refine bodyPost_ret (v := .agg #[.slice (A7) (N + 1) (c7)]) (by simp [results, Try.results75, go_sem, y0]) rfl ⟨_, A7, N + 1, c7, xss ++ [p], rfl, by simp [HL.out], by omega, HR8.out, hcp8.1, hcp8.2, D5.out, ?_⟩
      exact (st4.less (i := 1) rfl (fun F h => rows_rds h)).pick (fun i => i + 1) (fun i hi => by simp at hi ⊢; omega) (fun i hi => by match i, hi with | 0, _ => rfl) (fun i j _ _ h => by omega)
  have n1 : ((r : Int) == 1) = false := by rw [beq_eq_false_iff_ne]; omega
  by_cases e2 : r = 2
  · subst e2
    have S4 := Lib.hid (S3.out.al (.cells #[] 28))
    have z4 := (S4.out.blk (i := 2) rfl).cell (i := 0) rfl
    have f4 := (S4.out.blk (i := 2) rfl).free 0
    have S5 := Lib.hid (S4.out.blkSet (i := 2) rfl 0 (.slice (some ⟨w3.heap.size, 0, none⟩) 0 0))
    have z0 := (S5.out.blk (i := 0) rfl).cell (i := 0) rfl
    have f0 := (S5.out.blk (i := 0) rfl).free 0
    have m0 := (S5.out.blk (i := 2) rfl).cell (i := 0) rfl
    go_wp2
    have st4 := S5.out.blkSet (i := 0) rfl 0 (.slice (some ⟨w3.heap.size, 0, none⟩) (0) (0))
    have y0 := (st4.blk (i := 0) rfl).cell (i := 0) rfl
    refine bodyPost_ret (v := .agg #[.slice (some ⟨w3.heap.size, 0, none⟩) (0) (0)]) (by simp [results, Try.results75, go_sem, y0]) rfl ⟨_, some ⟨w3.heap.size, 0, none⟩, 0, 0, [], rfl, rfl, by decide, fun xs hx => by simp at hx, Nat.le_refl _, by decide, D3.out, ?_⟩
    exact (st4.less (i := 1) rfl (fun F _ => nil_rds _)).pick (fun i => i + 1) (fun i hi => by simp at hi ⊢; omega) (fun i hi => by match i, hi with | 0, _ => rfl) (fun i j _ _ h => by omega)
  have n2 : ((r : Int) == 2) = false := by rw [beq_eq_false_iff_ne]; omega
  by_cases e3 : r = 3
  · subst e3
    obtain ⟨A0', c0', hv5, ow5⟩ := S3.out.rowAt (i := 1) rfl HX0.out
    rw [HLEN.out, HV0.out] at hv5
    simp only [Option.some.injEq, Value.slice.injEq, true_and] at hv5
    obtain ⟨rfl, rfl⟩ := hv5
    rw [HLEN.out] at ow5
    have hc1 := own_cell (S3.out.rows (i := 1) rfl) HV0.out
    have xb := (S3.out.blk (i := 2) rfl).cell (i := 0) rfl
    have hlo := S3.out.lo
    have Sd := Lib.hid (S3.out.go (below_drewN (Below.refl _ _) 1))
    have OWd := Lib.hid (own_below ow5 (below_drewN (Below.refl _ _) 1) (Nat.le_refl _))
    have HV := Lib.hid (show vals[0]? = some (Value.slice A0 x0.length c0) by rw [HLEN.out]; exact HV0.out)
    have HCAT := Lib.hid (show ints (x0 ++ [(m : Int)]) = ints x0 ++ [.int .i64 (m : Int)] by simp)
    have HLN := Lib.hid (show (x0 ++ [(m : Int)]).length = m + 1 by simp [HLEN.out])
    obtain ⟨i0, hi0, hz0', hz1, hz2⟩ := info_parts Try.info2
    have hnews : ∀ (j : Nat) (u : Value), ([.int .i64 (m : Int)] : List Value)[j]? = some u → ((w3.drewN 1).alloc (.cells #[.int .i64 (m : Int)] 2)).cell? ((⟨w3.heap.size, 0, none⟩ : Addr).add j) = some u := by
      intro j y hj
      match j, hj with
      | 0, hj =>
        simp at hj
        subst hj
        have := (Blk.new (w3.drewN 1) #[.int .i64 (m : Int)] 2).cell (i := 0) rfl
        simpa [Addr.add] using this
    have hone : ∀ u ∈ ([.int .i64 (m : Int)] : List Value), u.oneCell' = true := by
      intro y hy
      simp at hy
      subst hy
      rfl
    have HNEWS := Lib.hid hnews
    have HONE := Lib.hid hone
    have h63 : m + 1 ≤ maxLen := by unfold maxLen; omega
    have hc3 := cell_al hc1 (.cells #[.int .i64 (m : Int)] 2)
    have xb3 := cell_al xb (.cells #[.int .i64 (m : Int)] 2)
    clear ow5 hnews hone
    go_wp2
    go_region_law ((refine step_append_lies _ (by rfl) _ _ 28 (by rfl) wb3.heap.size 2 i0 (.int .i64 0) 1 8 Try.underlying28 hi0 hz0' hz1 hz2 (by rfl) (by decide) (.slice A0 m c0) m _ (by rfl) (OWd.out.alloc _) ⟨w3.heap.size, 0, none⟩ 1 1 [.int .i64 (m : Int)] (by rfl) (by rfl) HNEWS.out HONE.out (by omega) h63 (by omega) (by simp; omega) (w3.heap.size + 1) (by simp) ?_; intro gg cap w4 own4 gr4 hat4 hlt4; have F4 := Sd.out.rowBlk (i := 1) (j := 2) rfl HX0.out HV.out rfl (by decide) (below1 _ _) (by rw [HLEN.out]; exact gr4); have p4 := F4.cell (i := 0) rfl; obtain ⟨NS, fz, cl⟩ := Sd.out.rowTurn (i := 1) rfl (by decide) HX0.out HV.out (below1 _ _) HLN.out (by rw [HCAT.out]; exact own4) (by rw [HLEN.out]; exact gr4) (by rw [HLEN.out]; rcases hat4 with h | h; exact .inl h.symm; exact .inr (fun b hb => by simp [Value.ownBlock] at hb; show w3.heap.size ≤ b; omega)); rw [HLEN.out] at cl))
    all_goals
      have S6 := Lib.hid NS
      have HR6 := Lib.hid (len_set (k := 0) (ys := x0 ++ [(m : Int)]) HR.out (by rw [HLN.out]; omega) rfl)
      clear NS own4 gr4 hat4
      have z0 := (S6.out.blk (i := 0) rfl).cell (i := 0) rfl
      have f0 := (S6.out.blk (i := 0) rfl).free 0
      have m0 := (S6.out.blk (i := 2) rfl).cell (i := 0) rfl
      go_wp2
      have st4 := S6.out.blkSet (i := 0) rfl 0 (.slice (some ⟨gM, 0, none⟩) (N) (c1))
      have y0 := (st4.blk (i := 0) rfl).cell (i := 0) rfl
      refine bodyPost_ret (v := .agg #[.slice (some ⟨gM, 0, none⟩) (N) (c1)]) (by simp [results, Try.results75, go_sem, y0]) rfl ⟨_, some ⟨gM, 0, none⟩, N, c1, xss.set 0 (x0 ++ [(m : Int)]), rfl, by rw [List.length_set, HL.out], by omega, HR6.out, hcp.1, hcp.2, D3.out, ?_⟩
      exact (st4.less (i := 1) rfl (fun F h => rows_rds h)).pick (fun i => i + 1) (fun i hi => by simp at hi ⊢; omega) (fun i hi => by match i, hi with | 0, _ => rfl) (fun i j _ _ h => by omega)
  have n3 : ((r : Int) == 3) = false := by rw [beq_eq_false_iff_ne]; omega
  by_cases e4 : r = 4
  · subst e4
    have z4 := (S3.out.blk (i := 2) rfl).cell (i := 0) rfl
    have f4 := (S3.out.blk (i := 2) rfl).free 0
    by_cases hc : c1 = 1
    · subst hc
      obtain rfl : N = 1 := by omega
      have S5 := Lib.hid (S3.out.blkSet (i := 2) rfl 0 (.slice (some ⟨gM, 0, none⟩) 0 0))
      have z0 := (S5.out.blk (i := 0) rfl).cell (i := 0) rfl
      have f0 := (S5.out.blk (i := 0) rfl).free 0
      have m0 := (S5.out.blk (i := 2) rfl).cell (i := 0) rfl
      go_wp2
      have st4 := S5.out.blkSet (i := 0) rfl 0 (.slice (some ⟨gM, 0, none⟩) (0) (0))
      have y0 := (st4.blk (i := 0) rfl).cell (i := 0) rfl
      refine bodyPost_ret (v := .agg #[.slice (some ⟨gM, 0, none⟩) (0) (0)]) (by simp [results, Try.results75, go_sem, y0]) rfl ⟨_, some ⟨gM, 0, none⟩, 0, 0, [], rfl, rfl, by decide, fun xs hx => by simp at hx, Nat.le_refl _, by decide, D3.out, ?_⟩
      exact (st4.less (i := 1) rfl (fun F _ => nil_rds _)).pick (fun i => i + 1) (fun i hi => by simp at hi ⊢; omega) (fun i hi => by match i, hi with | 0, _ => rfl) (fun i j _ _ h => by omega)
    · have hc2 : 1 < c1 := by omega
      have S5 := Lib.hid (S3.out.blkSet (i := 2) rfl 0 (.slice (some ⟨gM, 1, none⟩) (N - 1) (c1 - 1)))
      have z0 := (S5.out.blk (i := 0) rfl).cell (i := 0) rfl
      have f0 := (S5.out.blk (i := 0) rfl).free 0
      have m0 := (S5.out.blk (i := 2) rfl).cell (i := 0) rfl
      go_wp2
      have st4 := S5.out.blkSet (i := 0) rfl 0 (.slice (some ⟨gM, 1, none⟩) (N - 1) (c1 - 1))
      have y0 := (st4.blk (i := 0) rfl).cell (i := 0) rfl
      refine bodyPost_ret (v := .agg #[.slice (some ⟨gM, 1, none⟩) (N - 1) (c1 - 1)]) (by simp [results, Try.results75, go_sem, y0]) rfl ⟨_, some ⟨gM, 1, none⟩, N - 1, c1 - 1, xss.drop 1, rfl, by rw [List.length_drop, HL.out], by omega, fun xs hx => HR.out xs (List.mem_of_mem_drop hx), by omega, by omega, D3.out, ?_⟩
      exact (st4.less (i := 1) rfl (fun F h => rows_rds1 h)).pick (fun i => i + 1) (fun i hi => by simp at hi ⊢; omega) (fun i hi => by match i, hi with | 0, _ => rfl) (fun i j _ _ h => by omega)
  have n4 : ((r : Int) == 4) = false := by rw [beq_eq_false_iff_ne]; omega
  have z0 := (S3.out.blk (i := 0) rfl).cell (i := 0) rfl
  have f0 := (S3.out.blk (i := 0) rfl).free 0
  have m0 := (S3.out.blk (i := 2) rfl).cell (i := 0) rfl
  go_wp2
  have st4 := S3.out.blkSet (i := 0) rfl 0 (.slice (some ⟨gM, 0, none⟩) (N) (c1))
  have y0 := (st4.blk (i := 0) rfl).cell (i := 0) rfl
  refine bodyPost_ret (v := .agg #[.slice (some ⟨gM, 0, none⟩) (N) (c1)]) (by simp [results, Try.results75, go_sem, y0]) rfl ⟨_, some ⟨gM, 0, none⟩, N, c1, xss, rfl, HL.out, by omega, HR.out, hcp.1, hcp.2, D3.out, ?_⟩
  exact (st4.less (i := 1) rfl (fun F h => rows_rds h)).pick (fun i => i + 1) (fun i hi => by simp at hi ⊢; omega) (fun i hi => by match i, hi with | 0, _ => rfl) (fun i j _ _ h => by omega)
end
end Go.Proofs.Ytckmmgepoccopaa
