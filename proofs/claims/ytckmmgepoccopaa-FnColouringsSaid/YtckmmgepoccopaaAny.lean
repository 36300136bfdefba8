/- spec.l02Any. -/
import Derived.Test.YtckmmgepoccopaaMap
import Derived.Test.YtckmmgepoccopaaBes
import Derived.Test.YtckmmgepoccopaaSeq
import Derived.Deep.CutRange
import Derived.Deep.RegionLaw
import Derived.Test.YtckmmgepoccopaaStc
namespace Go.Proofs.Ytckmmgepoccopaa
open Go.RowKit

abbrev anyPs (H : Nat) (A1 : Option Addr) (N c1 : Nat) : List Pc :=
  [.blk H #[.slice none 0 0] 26, .rows 2 28 (some ⟨H + 1 + 1, 0, none⟩) 1 1 [.slice (some ⟨H + 1, 0, none⟩) 2 2] edgeL, .blk (H + 1 + 1 + 1) #[.slice (some ⟨H + 1 + 1, 0, none⟩) 1 1] 26, .blk (H + 1 + 1 + 1 + 1) #[.slice A1 N c1] 26]
theorem wr400 {x : Nat} (h : x ≤ 400) : IntKind.i64.wrap (x : Int) = (x : Int) := IntWalk.i64_in _ (by omega)
theorem St.swap45 {w0 w : World} {a b c d e f : Pc} (h : St w0 w [a, b, c, d, e, f]) : St w0 w [a, b, c, d, f, e] :=
  h.pick (fun i => if i = 4 then 5 else if i = 5 then 4 else i) (fun i hi => by simp at hi ⊢; split <;> (try split) <;> omega) (fun i hi => by
    match i, hi with
    | 0, _ => rfl
    | 1, _ => rfl
    | 2, _ => rfl
    | 3, _ => rfl
    | 4, _ => rfl
    | 5, _ => rfl) (fun i j hi hj h => by
    simp at hi hj ⊢
    split <;> split <;> (try split) <;> (try split) <;> omega)
/-- How many moves may still be added to the maniplex in the box b. -/
def roomW (b : Nat) (w : World) : Nat := match w.cell? ⟨b, 0, none⟩ with | some (.slice _ n _) => 5 - n | _ => 0
section
variable {A : Option Addr} {g n c : Nat} {bs : List Value}
set_option maxRecDepth 100000 in
set_option maxHeartbeats 6400000 in
theorem anyP {most : Nat} (w : World) (hs : SrcE w g A n c bs) (hn : n ≤ 1048576) (h8 : 8 ≤ most) (h4 : most ≤ 400) :
    Calls Try.prog 157 #[.pointer (some ⟨g, 0, none⟩), .int .i64 most] w (RetDM w g A n c bs most) := by
  have st0 : St w ((((w.alloc (.cells #[.slice none 0 0] 26)).alloc (.cells #[.int .i64 1, .int .i64 0] 2)).alloc (.cells #[.slice (some ⟨w.heap.size + 1, 0, none⟩) 2 2] 28)).alloc (.cells #[.slice (some ⟨w.heap.size + 1 + 1, 0, none⟩) 1 1] 26)) [.blk w.heap.size #[.slice none 0 0] 26, .rows 2 28 (some ⟨w.heap.size + 1 + 1, 0, none⟩) 1 1 [.slice (some ⟨w.heap.size + 1, 0, none⟩) 2 2] edgeL, .blk (w.heap.size + 1 + 1 + 1) #[.slice (some ⟨w.heap.size + 1 + 1, 0, none⟩) 1 1] 26] := by
    have h1 := (((St.start w).addBlk #[.slice none 0 0] 26).addLit2 (.int .i64 1) (.int .i64 0) 2)
    have h2 := h1.rowLit (j := 1) (xs := [1, 0]) rfl rfl 28
    have h3 := (h2.addBlk #[.slice (some ⟨w.heap.size + 1 + 1, 0, none⟩) 1 1] 26).drop 1
    simpa [edgeL] using h3
  have S0 := Lib.hid (show St w (((((w.alloc (.cells #[.slice none 0 0] 26)).alloc (.cells #[.int .i64 1, .int .i64 0] 2)).alloc (.cells #[.slice (some ⟨w.heap.size + 1, 0, none⟩) 2 2] 28)).alloc (.cells #[.slice (some ⟨w.heap.size + 1 + 1, 0, none⟩) 1 1] 26)).alloc (.cells #[.slice (some ⟨w.heap.size + 1 + 1, 0, none⟩) 1 1] 26)) (anyPs w.heap.size (some ⟨w.heap.size + 1 + 1, 0, none⟩) 1 1) from by simpa [anyPs] using st0.addBlk #[.slice (some ⟨w.heap.size + 1 + 1, 0, none⟩) 1 1] 26)
  have D0 := Lib.hid (Dr.start hs)
  clear hs st0
  go_enter Try.func157, Try.ntmps157
  go_wp2_with fail
  refine (nextE _ (D0.out.now S0.out) hn (by omega)).mono ?_
  rintro e w1 ⟨r, rfl, ⟨hr0, hr1⟩, hs1, tu1⟩
  obtain ⟨wb1, d1, st1⟩ := D0.out.num S0.out hs1 tu1
  obtain ⟨r, rfl⟩ := Int.eq_ofNat_of_zero_le hr0
  have D1 := Lib.hid d1
  have S1 := Lib.hid st1
  clear d1 st1 hs1 tu1 S0 D0
  rename_i K0 a0
  have AK := Lib.hid a0
  clear a0
  go_wp2
  refine AK.out _ _ ?_
  rename_i K1 a1
  have AK1 := Lib.hid a1
  clear a1 AK
  go_wp2
  refine AK1.out _ _ ?_
  clear AK1
  go_cut [] from 7 (fun wc => ∃ (wb : World) (A' : Option Addr) (N c' m : Nat) (vals : List Value) (xss : List (List Int)), xss.length = N ∧ OkI m xss ∧ m ≤ most ∧ Dr g A n c bs w wb ∧ St wb wc (anyPs w.heap.size A' N c' ++ [.rows 2 28 A' N c' vals xss]))
  case first =>
    by_cases e1 : r = 1
    · subst e1
      have z0 := (S1.out.blk (i := 0) rfl).cell (i := 0) rfl
      have f0 := (S1.out.blk (i := 0) rfl).free 0
      have o0 := (S1.out.blk (i := 2) rfl).cell (i := 0) rfl
      go_wp2
      have st4 := S1.out.blkSet (i := 0) rfl 0 (.slice (some ⟨w.heap.size + 1 + 1, 0, none⟩) 1 1)
      have y0 := (st4.blk (i := 0) rfl).cell (i := 0) rfl
      refine bodyPost_ret (v := .agg #[.slice (some ⟨w.heap.size + 1 + 1, 0, none⟩) 1 1]) (by simp [results, Try.results157, go_sem, y0]) rfl ⟨wb1, some ⟨w.heap.size + 1 + 1, 0, none⟩, 1, 1, 2, [.slice (some ⟨w.heap.size + 1, 0, none⟩) 2 2], edgeL, rfl, rfl, edge_ok, by omega, D1.out, ?_⟩
      exact st4.pick (fun i => i + 1) (fun i hi => by simp at hi ⊢; omega) (fun i hi => by match i, hi with | 0, _ => rfl) (fun i j _ _ h => by omega)
    have n1 : ((r : Int) == 1) = false := by rw [beq_eq_false_iff_ne]; omega
    by_cases e0 : r = 0
    · subst e0
      obtain ⟨q, hq⟩ : ∃ q, most / 2 = q := ⟨_, rfl⟩
      have t1 : (most : Int).tdiv 2 = (q : Int) := by rw [← hq]; rfl
      have t2 : (most : Int) / 2 = (q : Int) := by rw [← hq]; rfl
      have hqm : 2 * q ≤ most ∧ 1 ≤ q := by omega
      clear hq
      go_wp2_with fail
      refine (nextE (N := q) _ (D1.out.now S1.out) hn (by omega)).mono ?_
      rintro e w2 ⟨r2, rfl, ⟨h0r2, h1r2⟩, hs_, tu_⟩
      obtain ⟨wbw2, d_, st_⟩ := D1.out.num S1.out hs_ tu_
      obtain ⟨r2, rfl⟩ := Int.eq_ofNat_of_zero_le h0r2
      have D2 := Lib.hid d_
      have S2 := Lib.hid st_
      clear d_ st_ hs_ tu_
      obtain ⟨p, hp⟩ : ∃ p, 1 + r2 = p := ⟨_, rfl⟩
      have hpI : 1 + (r2 : Int) = (p : Int) := by omega
      have hpq : p ≤ q ∧ 1 ≤ p := by omega
      clear hp
      go_wp2_with fail
      refine (polyg_any (p := p) (n := 2 * p) _ (by omega) rfl (by omega)).mono ?_
      rintro e w3 ⟨AP, cP, vP, rfl, st_⟩
      have S3a := Lib.hid (S2.out.join st_)
      clear st_
      have z_S3 := (S3a.out.blk (i := 3) rfl).cell (i := 0) rfl
      have f_S3 := (S3a.out.blk (i := 3) rfl).free 0
      have S3 := Lib.hid (S3a.out.blkSet (i := 3) rfl 0 (.slice AP 2 cP))
      go_wp2_with fail
      go_meet
      exact ⟨wbw2, AP, 2, cP, 2 * p, vP, pgL (2 * p), rfl, pg_ok (by omega) (by omega), by omega, D2.out, S3.out⟩
    have n0 : ((r : Int) == 0) = false := by rw [beq_eq_false_iff_ne]; omega
    obtain ⟨q, hq⟩ : ∃ q, most / 4 = q := ⟨_, rfl⟩
    have t1 : (most : Int).tdiv 4 = (q : Int) := by rw [← hq]; rfl
    have t2 : (most : Int) / 4 = (q : Int) := by rw [← hq]; rfl
    have hqm : 4 * q ≤ most ∧ 1 ≤ q := by omega
    clear hq
    by_cases e2 : r = 2
    · subst e2
      go_wp2_with fail
      refine (nextE (N := q) _ (D1.out.now S1.out) hn (by omega)).mono ?_
      rintro e w2 ⟨r2, rfl, ⟨h0r2, h1r2⟩, hs_, tu_⟩
      obtain ⟨wbw2, d_, st_⟩ := D1.out.num S1.out hs_ tu_
      obtain ⟨r2, rfl⟩ := Int.eq_ofNat_of_zero_le h0r2
      have D2 := Lib.hid d_
      have S2 := Lib.hid st_
      clear d_ st_ hs_ tu_
      obtain ⟨p, hp⟩ : ∃ p, 1 + r2 = p := ⟨_, rfl⟩
      have hpI : 1 + (r2 : Int) = (p : Int) := by omega
      have hpq : p ≤ q ∧ 1 ≤ p := by omega
      clear hp
      go_wp2_with fail
      refine (polyg_any (p := p) (n := 2 * p) _ (by omega) rfl (by omega)).mono ?_
      rintro e w3 ⟨AP, cP, vP, rfl, st_⟩
      have S3a := Lib.hid (S2.out.join st_)
      clear st_
      obtain ⟨gP, rfl⟩ := own_shape (S3a.out.rows (i := 4) rfl) (show 0 < 2 by omega)
      have z_S3 := (S3a.out.blk (i := 3) rfl).cell (i := 0) rfl
      have f_S3 := (S3a.out.blk (i := 3) rfl).free 0
      have S3 := Lib.hid (S3a.out.blkSet (i := 3) rfl 0 (.slice (some ⟨gP, 0, none⟩) 2 cP))
      have RM := Lib.hid (ownSS_rd (S3.out.sep.ownSS (i := 4) rfl))
      have RE := Lib.hid (ownSS_rd (S3.out.sep.ownSS (i := 1) rfl))
      have x3 := (S3.out.blk (i := 3) rfl).cell (i := 0) rfl
      have x2 := (S3.out.blk (i := 2) rfl).cell (i := 0) rfl
      go_wp2_with fail
      refine (beside_any (a := 2 * p) (b := 2) _ rfl rfl RM.out RE.out (pg_ok (by omega) (by omega)) edge_ok (by omega) (by simp [pgL, edgeL])).mono ?_
      rintro e w4 ⟨AB, cB, vB, rfl, st_⟩
      have S4a := Lib.hid (S3.out.join st_)
      clear st_
      have z_S4 := (S4a.out.blk (i := 3) rfl).cell (i := 0) rfl
      have f_S4 := (S4a.out.blk (i := 3) rfl).free 0
      have S4 := Lib.hid (S4a.out.blkSet (i := 3) rfl 0 (.slice AB 3 cB))
      go_wp2_with fail
      go_meet
      exact ⟨wbw2, AB, 3, cB, 2 * p * 2, vB, besL (2 * p) 2 (pgL (2 * p)) edgeL, rfl, besL_ok (pg_ok (by omega) (by omega)) edge_ok (by omega) (by simp [pgL, edgeL]), by omega, D2.out, S4.out.drop 4⟩
    have n2 : ((r : Int) == 2) = false := by rw [beq_eq_false_iff_ne]; omega
    by_cases e3 : r = 3
    · subst e3
      go_wp2_with fail
      refine (nextE (N := 4) _ (D1.out.now S1.out) hn (by omega)).mono ?_
      rintro e w2 ⟨r2, rfl, ⟨h0r2, h1r2⟩, hs_, tu_⟩
      obtain ⟨wbw2, d_, st_⟩ := D1.out.num S1.out hs_ tu_
      obtain ⟨r2, rfl⟩ := Int.eq_ofNat_of_zero_le h0r2
      have D2 := Lib.hid d_
      have S2 := Lib.hid st_
      clear d_ st_ hs_ tu_
      obtain ⟨p0, hp0⟩ : ∃ p0, 1 + r2 = p0 := ⟨_, rfl⟩
      have hpI : 1 + (r2 : Int) = (p0 : Int) := by omega
      have hpq : 1 ≤ p0 ∧ p0 ≤ 4 := by omega
      clear hp0
      by_cases hbig : most < 4 * p0
      · have hbI : (most : Int) < 4 * (p0 : Int) := by omega
        obtain ⟨q3, hq3⟩ : ∃ q3, most / 8 = q3 := ⟨_, rfl⟩
        have u1 : (most : Int).tdiv 8 = (q3 : Int) := by rw [← hq3]; rfl
        have u2 : (most : Int) / 8 = (q3 : Int) := by rw [← hq3]; rfl
        have hq31 : 1 ≤ q3 ∧ q3 ≤ 400 := by omega
        have HQ := Lib.hid (show 4 * 2 * q3 ≤ most by omega)
        have hq3h : 2 * q3 ≤ 400 := by omega
        have hq3I : (1 : Int) ≤ (q3 : Int) := by omega
        have w8 : IntKind.i64.wrap 8 = 8 := rfl
        have u7 : IntKind.i64.wrap (q3 : Int) = (q3 : Int) := wr400 hq31.2
        have hPP1 : 1 ≤ 2 := by decide
        have hPP2 : 2 * 2 ≤ 400 := by decide
        clear hq3 t1 t2
        have z3 := (S2.out.blk (i := 3) rfl).cell (i := 0) rfl
        have Sd := Lib.hid (S2.out.go (below_drewN (Below.refl _ _) 1))
        go_wp2
        go_region_law ((first
          | (refine step_call rfl 87 #[.tmp 52] #[2] (by rfl) Try.func87 (by rfl) (by rfl) #[.int .i64 2] (by first | (simp [Act.eval]; done) | simp [Act.eval, Act.put]) _ (polyg_any (p := 2) (n := 2 * 2) _ hPP1 rfl hPP2) ?_
             rintro e wA ⟨AA, cA, vA, rfl, st_⟩
             refine ⟨_, rfl, ?_⟩
             have SA := Lib.hid (Sd.out.join st_)
             clear st_)
          | (refine step_call rfl 86 #[.tmp 54, .tmp 58] #[77, 2] (by rfl) Try.func86 (by rfl) (by rfl) #[.pointer (some ⟨g, 0, none⟩), .int .i64 q3] (by first | (simp [Act.eval]; done) | simp [Act.eval, Act.put]) _ (nextE (N := q3) _ (D2.out.now Sd.out) hn hq3I) ?_
             rintro e wB ⟨r3, rfl, ⟨h0r3, h1r3⟩, hs_, tu_⟩
             refine ⟨_, rfl, ?_⟩
             obtain ⟨wbB, d_, st_⟩ := D2.out.num Sd.out hs_ tu_
             obtain ⟨r3, rfl⟩ := Int.eq_ofNat_of_zero_le h0r3
             obtain ⟨p3, hp3⟩ : ∃ p3, 1 + r3 = p3 := ⟨_, rfl⟩
             have hp3I : 1 + (r3 : Int) = (p3 : Int) := by rw [← hp3, Int.natCast_add]; rfl
             have hp3q : 1 ≤ p3 ∧ p3 ≤ q3 := ⟨by rw [← hp3]; exact Nat.le_add_right 1 r3, by rw [← hp3, Nat.add_comm]; exact Int.ofNat_lt.1 h1r3⟩
             have k3 : IntKind.i64.wrap (p3 : Int) = (p3 : Int) := wr400 (Nat.le_trans hp3q.2 hq31.2)
             have DB := Lib.hid d_
             have SB := Lib.hid st_
             clear st_ d_ hs_ tu_ hp3)
          | (refine step_call rfl 86 #[.tmp 54, .tmp 58] #[77, 2] (by rfl) Try.func86 (by rfl) (by rfl) #[.pointer (some ⟨g, 0, none⟩), .int .i64 q3] (by first | (simp [Act.eval]; done) | simp [Act.eval, Act.put]) _ (nextE (N := q3) _ (D2.out.now SA.out) hn hq3I) ?_
             rintro e wB ⟨r3, rfl, ⟨h0r3, h1r3⟩, hs_, tu_⟩
             refine ⟨_, rfl, ?_⟩
             obtain ⟨wbB, d_, st_⟩ := D2.out.num SA.out hs_ tu_
             obtain ⟨r3, rfl⟩ := Int.eq_ofNat_of_zero_le h0r3
             obtain ⟨p3, hp3⟩ : ∃ p3, 1 + r3 = p3 := ⟨_, rfl⟩
             have hp3I : 1 + (r3 : Int) = (p3 : Int) := by rw [← hp3, Int.natCast_add]; rfl
             have hp3q : 1 ≤ p3 ∧ p3 ≤ q3 := ⟨by rw [← hp3]; exact Nat.le_add_right 1 r3, by rw [← hp3, Nat.add_comm]; exact Int.ofNat_lt.1 h1r3⟩
             have k3 : IntKind.i64.wrap (p3 : Int) = (p3 : Int) := wr400 (Nat.le_trans hp3q.2 hq31.2)
             have DB := Lib.hid d_
             have SAB := Lib.hid st_
             clear st_ d_ hs_ tu_ hp3)
          | (refine step_call rfl 87 #[.tmp 52] #[2] (by rfl) Try.func87 (by rfl) (by rfl) #[.int .i64 2] (by first | (simp [Act.eval]; done) | simp [Act.eval, Act.put]) _ (polyg_any (p := 2) (n := 2 * 2) _ hPP1 rfl hPP2) ?_
             rintro e wA ⟨AA, cA, vA, rfl, st_⟩
             refine ⟨_, rfl, ?_⟩
             have SAB := Lib.hid (SB.out.join st_)
             clear st_)
          | (refine step_call rfl 87 #[.tmp 60] #[2] (by rfl) Try.func87 (by rfl) (by rfl) #[.int .i64 p3] (by first | (simp [Act.eval]; done) | simp [Act.eval, Act.put]) _ (polyg_any (p := p3) (n := 2 * p3) _ hp3q.1 rfl (Nat.le_trans (Nat.mul_le_mul_left 2 hp3q.2) hq3h)) ?_
             rintro e wC ⟨AC, cC, vC, rfl, st_⟩
             refine ⟨_, rfl, ?_⟩
             have SABC := Lib.hid (show St _ wC (anyPs w.heap.size (some ⟨w.heap.size + 1 + 1, 0, none⟩) 1 1 ++ [.rows 2 28 AA 2 cA vA (pgL (2 * 2)), .rows 2 28 AC 2 cC vC (pgL (2 * p3))]) from SAB.out.join st_)
             clear st_)
          | (refine step_call rfl 87 #[.tmp 60] #[2] (by rfl) Try.func87 (by rfl) (by rfl) #[.int .i64 p3] (by first | (simp [Act.eval]; done) | simp [Act.eval, Act.put]) _ (polyg_any (p := p3) (n := 2 * p3) _ hp3q.1 rfl (Nat.le_trans (Nat.mul_le_mul_left 2 hp3q.2) hq3h)) ?_
             rintro e wC ⟨AC, cC, vC, rfl, st_⟩
             refine ⟨_, rfl, ?_⟩
             have SBC := Lib.hid (SB.out.join st_)
             clear st_)
          | (refine step_call rfl 87 #[.tmp 52] #[2] (by rfl) Try.func87 (by rfl) (by rfl) #[.int .i64 2] (by first | (simp [Act.eval]; done) | simp [Act.eval, Act.put]) _ (polyg_any (p := 2) (n := 2 * 2) _ hPP1 rfl hPP2) ?_
             rintro e wA ⟨AA, cA, vA, rfl, st_⟩
             refine ⟨_, rfl, ?_⟩
             have SABC := Lib.hid (show St _ wA (anyPs w.heap.size (some ⟨w.heap.size + 1 + 1, 0, none⟩) 1 1 ++ [.rows 2 28 AA 2 cA vA (pgL (2 * 2)), .rows 2 28 AC 2 cC vC (pgL (2 * p3))]) from St.swap45 (SBC.out.join st_))
             clear st_)
          | (skip
             obtain ⟨gA, rfl⟩ := own_shape (SABC.out.rows (i := 4) rfl) (show 0 < 2 by omega)
             obtain ⟨gC, rfl⟩ := own_shape (SABC.out.rows (i := 5) rfl) (show 0 < 2 by omega)
             have hmu : 2 * 2 * (2 * p3) ≤ most := by
               have h1 := Nat.mul_le_mul_left (4 * 2) hp3q.2
               have h2 : 2 * 2 * (2 * p3) = 4 * 2 * p3 := (Nat.mul_mul_mul_comm 2 2 2 p3).trans (Nat.mul_assoc 4 2 p3).symm
               rw [h2]
               exact Nat.le_trans h1 HQ.out
             have HMU := Lib.hid hmu
             have LA : (pgL (2 * 2)).length = 2 := rfl
             have LC : (pgL (2 * p3)).length = 2 := rfl
             have okA : OkI (2 * 2) (pgL (2 * 2)) := pg_ok hPP1 hPP2
             have okC : OkI (2 * p3) (pgL (2 * p3)) := pg_ok hp3q.1 (Nat.le_trans (Nat.mul_le_mul_left 2 hp3q.2) hq3h)
             refine step_call rfl 177 #[.tmp 53, .tmp 61] #[26, 26] (by rfl) Try.func177 (by rfl) (by rfl) #[.agg #[.slice (some ⟨gA, 0, none⟩) 2 cA], .agg #[.slice (some ⟨gC, 0, none⟩) 2 cC]] (by first | (simp [Act.eval]; done) | simp [Act.eval, Act.put]) _ (beside_any (a := 2 * 2) (b := 2 * p3) _ LA LC (ownSS_rd (SABC.out.sep.ownSS (i := 4) rfl)) (ownSS_rd (SABC.out.sep.ownSS (i := 5) rfl)) okA okC (Nat.le_trans hmu h4) (by decide)) ?_
             rintro e wD ⟨AD, cD, vD, rfl, st_⟩
             refine ⟨_, rfl, ?_⟩
             have SDa := Lib.hid (SABC.out.join st_)
             have zD := (SDa.out.blk (i := 3) rfl).cell (i := 0) rfl
             have fD := (SDa.out.blk (i := 3) rfl).free 0
             have HOD := Lib.hid (besL_ok okA okC (Nat.le_trans hmu h4) (by rw [LA, LC]; decide))
             clear st_ hmu okA okC)))
        all_goals
          have SD := Lib.hid (SDa.out.blkSet (i := 3) rfl 0 (.slice AD 4 cD))
          go_wp2_with fail
          go_meet
          exact ⟨_, AD, 4, cD, _, vD, _, rfl, HOD.out, HMU.out, DB.out, (SD.out.drop 4).drop 4⟩
      · have hbI : ¬ (most : Int) < 4 * (p0 : Int) := by omega
        obtain ⟨q3, hq3⟩ : ∃ q3, most / (4 * p0) = q3 := ⟨_, rfl⟩
        have hq3l : 4 * p0 * q3 ≤ most := by rw [← hq3]; exact Nat.mul_div_le _ _
        have hq30 : 1 ≤ q3 := by rw [← hq3]; exact (Nat.le_div_iff_mul_le (by omega)).2 (by omega)
        have hq34 : q3 ≤ most := by rw [← hq3]; exact Nat.div_le_self _ _
        have hq31 : 1 ≤ q3 ∧ q3 ≤ 400 := by omega
        have u1 : (most : Int).tdiv ((4 * p0 : Nat) : Int) = (q3 : Int) := by rw [← hq3]; rfl
        have u2 : (most : Int) / ((4 * p0 : Nat) : Int) = (q3 : Int) := by rw [← hq3]; rfl
        have HQ := Lib.hid hq3l
        have hq3h : 2 * q3 ≤ 400 := by
          have h1 := Nat.mul_le_mul_right q3 (show 2 ≤ 4 * p0 by omega)
          omega
        have hq3I : (1 : Int) ≤ (q3 : Int) := by omega
        have hPP1 : 1 ≤ p0 := hpq.1
        have hPP2 : 2 * p0 ≤ 400 := by omega
        obtain ⟨p4, hp44⟩ : ∃ p4, 4 * p0 = p4 := ⟨_, rfl⟩
        rw [hp44] at u1 u2
        have u3 : 4 * (p0 : Int) = (p4 : Int) := by omega
        have u5 : IntKind.i64.wrap (p4 : Int) = (p4 : Int) := IntWalk.i64_in _ (by omega)
        have u6 : ¬ p4 = 0 := by omega
        have u8 : ¬ (most : Int) < (p4 : Int) := by omega
        have u7 : IntKind.i64.wrap (q3 : Int) = (q3 : Int) := IntWalk.i64_in _ (by omega)
        clear hq3 hp44 t1 t2 hq3l
        have z3 := (S2.out.blk (i := 3) rfl).cell (i := 0) rfl
        have Sd := Lib.hid (S2.out.go (below_drewN (Below.refl _ _) 1))
        go_wp2
        go_region_law ((first
          | (refine step_call rfl 87 #[.tmp 52] #[2] (by rfl) Try.func87 (by rfl) (by rfl) #[.int .i64 p0] (by first | (simp [Act.eval]; done) | simp [Act.eval, Act.put]) _ (polyg_any (p := p0) (n := 2 * p0) _ hPP1 rfl hPP2) ?_
             rintro e wA ⟨AA, cA, vA, rfl, st_⟩
             refine ⟨_, rfl, ?_⟩
             have SA := Lib.hid (Sd.out.join st_)
             clear st_)
          | (refine step_call rfl 86 #[.tmp 54, .tmp 58] #[77, 2] (by rfl) Try.func86 (by rfl) (by rfl) #[.pointer (some ⟨g, 0, none⟩), .int .i64 q3] (by first | (simp [Act.eval]; done) | simp [Act.eval, Act.put]) _ (nextE (N := q3) _ (D2.out.now Sd.out) hn hq3I) ?_
             rintro e wB ⟨r3, rfl, ⟨h0r3, h1r3⟩, hs_, tu_⟩
             refine ⟨_, rfl, ?_⟩
             obtain ⟨wbB, d_, st_⟩ := D2.out.num Sd.out hs_ tu_
             obtain ⟨r3, rfl⟩ := Int.eq_ofNat_of_zero_le h0r3
             obtain ⟨p3, hp3⟩ : ∃ p3, 1 + r3 = p3 := ⟨_, rfl⟩
             have hp3I : 1 + (r3 : Int) = (p3 : Int) := by rw [← hp3, Int.natCast_add]; rfl
             have hp3q : 1 ≤ p3 ∧ p3 ≤ q3 := ⟨by rw [← hp3]; exact Nat.le_add_right 1 r3, by rw [← hp3, Nat.add_comm]; exact Int.ofNat_lt.1 h1r3⟩
             have k3 : IntKind.i64.wrap (p3 : Int) = (p3 : Int) := wr400 (Nat.le_trans hp3q.2 hq31.2)
             have DB := Lib.hid d_
             have SB := Lib.hid st_
             clear st_ d_ hs_ tu_ hp3)
          | (refine step_call rfl 86 #[.tmp 54, .tmp 58] #[77, 2] (by rfl) Try.func86 (by rfl) (by rfl) #[.pointer (some ⟨g, 0, none⟩), .int .i64 q3] (by first | (simp [Act.eval]; done) | simp [Act.eval, Act.put]) _ (nextE (N := q3) _ (D2.out.now SA.out) hn hq3I) ?_
             rintro e wB ⟨r3, rfl, ⟨h0r3, h1r3⟩, hs_, tu_⟩
             refine ⟨_, rfl, ?_⟩
             obtain ⟨wbB, d_, st_⟩ := D2.out.num SA.out hs_ tu_
             obtain ⟨r3, rfl⟩ := Int.eq_ofNat_of_zero_le h0r3
             obtain ⟨p3, hp3⟩ : ∃ p3, 1 + r3 = p3 := ⟨_, rfl⟩
             have hp3I : 1 + (r3 : Int) = (p3 : Int) := by rw [← hp3, Int.natCast_add]; rfl
             have hp3q : 1 ≤ p3 ∧ p3 ≤ q3 := ⟨by rw [← hp3]; exact Nat.le_add_right 1 r3, by rw [← hp3, Nat.add_comm]; exact Int.ofNat_lt.1 h1r3⟩
             have k3 : IntKind.i64.wrap (p3 : Int) = (p3 : Int) := wr400 (Nat.le_trans hp3q.2 hq31.2)
             have DB := Lib.hid d_
             have SAB := Lib.hid st_
             clear st_ d_ hs_ tu_ hp3)
          | (refine step_call rfl 87 #[.tmp 52] #[2] (by rfl) Try.func87 (by rfl) (by rfl) #[.int .i64 p0] (by first | (simp [Act.eval]; done) | simp [Act.eval, Act.put]) _ (polyg_any (p := p0) (n := 2 * p0) _ hPP1 rfl hPP2) ?_
             rintro e wA ⟨AA, cA, vA, rfl, st_⟩
             refine ⟨_, rfl, ?_⟩
             have SAB := Lib.hid (SB.out.join st_)
             clear st_)
          | (refine step_call rfl 87 #[.tmp 60] #[2] (by rfl) Try.func87 (by rfl) (by rfl) #[.int .i64 p3] (by first | (simp [Act.eval]; done) | simp [Act.eval, Act.put]) _ (polyg_any (p := p3) (n := 2 * p3) _ hp3q.1 rfl (Nat.le_trans (Nat.mul_le_mul_left 2 hp3q.2) hq3h)) ?_
             rintro e wC ⟨AC, cC, vC, rfl, st_⟩
             refine ⟨_, rfl, ?_⟩
             have SABC := Lib.hid (show St _ wC (anyPs w.heap.size (some ⟨w.heap.size + 1 + 1, 0, none⟩) 1 1 ++ [.rows 2 28 AA 2 cA vA (pgL (2 * p0)), .rows 2 28 AC 2 cC vC (pgL (2 * p3))]) from SAB.out.join st_)
             clear st_)
          | (refine step_call rfl 87 #[.tmp 60] #[2] (by rfl) Try.func87 (by rfl) (by rfl) #[.int .i64 p3] (by first | (simp [Act.eval]; done) | simp [Act.eval, Act.put]) _ (polyg_any (p := p3) (n := 2 * p3) _ hp3q.1 rfl (Nat.le_trans (Nat.mul_le_mul_left 2 hp3q.2) hq3h)) ?_
             rintro e wC ⟨AC, cC, vC, rfl, st_⟩
             refine ⟨_, rfl, ?_⟩
             have SBC := Lib.hid (SB.out.join st_)
             clear st_)
          | (refine step_call rfl 87 #[.tmp 52] #[2] (by rfl) Try.func87 (by rfl) (by rfl) #[.int .i64 p0] (by first | (simp [Act.eval]; done) | simp [Act.eval, Act.put]) _ (polyg_any (p := p0) (n := 2 * p0) _ hPP1 rfl hPP2) ?_
             rintro e wA ⟨AA, cA, vA, rfl, st_⟩
             refine ⟨_, rfl, ?_⟩
             have SABC := Lib.hid (show St _ wA (anyPs w.heap.size (some ⟨w.heap.size + 1 + 1, 0, none⟩) 1 1 ++ [.rows 2 28 AA 2 cA vA (pgL (2 * p0)), .rows 2 28 AC 2 cC vC (pgL (2 * p3))]) from St.swap45 (SBC.out.join st_))
             clear st_)
          | (skip
             obtain ⟨gA, rfl⟩ := own_shape (SABC.out.rows (i := 4) rfl) (show 0 < 2 by omega)
             obtain ⟨gC, rfl⟩ := own_shape (SABC.out.rows (i := 5) rfl) (show 0 < 2 by omega)
             have hmu : 2 * p0 * (2 * p3) ≤ most := by
               have h1 := Nat.mul_le_mul_left (4 * p0) hp3q.2
               have h2 : 2 * p0 * (2 * p3) = 4 * p0 * p3 := (Nat.mul_mul_mul_comm 2 p0 2 p3).trans (Nat.mul_assoc 4 p0 p3).symm
               rw [h2]
               exact Nat.le_trans h1 HQ.out
             have HMU := Lib.hid hmu
             have LA : (pgL (2 * p0)).length = 2 := rfl
             have LC : (pgL (2 * p3)).length = 2 := rfl
             have okA : OkI (2 * p0) (pgL (2 * p0)) := pg_ok hPP1 hPP2
             have okC : OkI (2 * p3) (pgL (2 * p3)) := pg_ok hp3q.1 (Nat.le_trans (Nat.mul_le_mul_left 2 hp3q.2) hq3h)
             refine step_call rfl 177 #[.tmp 53, .tmp 61] #[26, 26] (by rfl) Try.func177 (by rfl) (by rfl) #[.agg #[.slice (some ⟨gA, 0, none⟩) 2 cA], .agg #[.slice (some ⟨gC, 0, none⟩) 2 cC]] (by first | (simp [Act.eval]; done) | simp [Act.eval, Act.put]) _ (beside_any (a := 2 * p0) (b := 2 * p3) _ LA LC (ownSS_rd (SABC.out.sep.ownSS (i := 4) rfl)) (ownSS_rd (SABC.out.sep.ownSS (i := 5) rfl)) okA okC (Nat.le_trans hmu h4) (by decide)) ?_
             rintro e wD ⟨AD, cD, vD, rfl, st_⟩
             refine ⟨_, rfl, ?_⟩
             have SDa := Lib.hid (SABC.out.join st_)
             have zD := (SDa.out.blk (i := 3) rfl).cell (i := 0) rfl
             have fD := (SDa.out.blk (i := 3) rfl).free 0
             have HOD := Lib.hid (besL_ok okA okC (Nat.le_trans hmu h4) (by rw [LA, LC]; decide))
             clear st_ hmu okA okC)))
        all_goals
          have SD := Lib.hid (SDa.out.blkSet (i := 3) rfl 0 (.slice AD 4 cD))
          go_wp2_with fail
          go_meet
          exact ⟨_, AD, 4, cD, _, vD, _, rfl, HOD.out, HMU.out, DB.out, (SD.out.drop 4).drop 4⟩
    · have n3 : ((r : Int) == 3) = false := by rw [beq_eq_false_iff_ne]; omega
      go_wp2_with fail
      refine (nextE (N := q) _ (D1.out.now S1.out) hn (by omega)).mono ?_
      rintro e w2 ⟨r2, rfl, ⟨h0r2, h1r2⟩, hs_, tu_⟩
      obtain ⟨wbw2, d_, st_⟩ := D1.out.num S1.out hs_ tu_
      obtain ⟨r2, rfl⟩ := Int.eq_ofNat_of_zero_le h0r2
      have D2 := Lib.hid d_
      have S2 := Lib.hid st_
      clear d_ st_ hs_ tu_
      obtain ⟨p, hp⟩ : ∃ p, 1 + r2 = p := ⟨_, rfl⟩
      have hpI : 1 + (r2 : Int) = (p : Int) := by omega
      have hpq : p ≤ q ∧ 1 ≤ p := by omega
      clear hp
      go_wp2_with fail
      refine (mapP (E := p) _ (D2.out.now S2.out) hn (by omega) (by omega)).mono ?_
      rintro e w3 ⟨wb3, AP, NP, cP, mP, vP, xP, rfl, hlP, okP, hmP, d3, st3⟩
      obtain ⟨wb4, d4, st4⟩ := D2.out.join S2.out d3 st3
      have D3 := Lib.hid d4
      have S3a := Lib.hid st4
      have HLP := Lib.hid hlP
      have HOP := Lib.hid okP
      clear d3 st3 d4 st4 hlP okP
      have z_S3 := (S3a.out.blk (i := 3) rfl).cell (i := 0) rfl
      have f_S3 := (S3a.out.blk (i := 3) rfl).free 0
      have S3 := Lib.hid (S3a.out.blkSet (i := 3) rfl 0 (.slice AP NP cP))
      go_wp2_with fail
      go_meet
      exact ⟨wb4, AP, NP, cP, mP, vP, xP, HLP.out, HOP.out, by omega, D3.out, S3.out⟩
  case rest =>
    obtain ⟨wb, A1, N1, c1, m1, v1, x1, hl1, ok1, hm1, d1, st1⟩ := hcut
    have DL := Lib.hid d1
    have SL := Lib.hid st1
    have HL1 := Lib.hid hl1
    have HO1 := Lib.hid ok1
    clear hl1 ok1 d1 st1 S1 D1
    go_wp2
    go_loopw [] (fun wr => ∃ (wb : World) (A' : Option Addr) (N c' m : Nat) (vals : List Value) (xss : List (List Int)), xss.length = N ∧ OkI m xss ∧ m ≤ most ∧ Dr g A n c bs w wb ∧ St wb wr (anyPs w.heap.size A' N c' ++ [.rows 2 28 A' N c' vals xss])) (fun wr => roomW (w.heap.size + 1 + 1 + 1 + 1) wr)
    case atStart => exact ⟨wb, A1, N1, c1, m1, v1, x1, HL1.out, HO1.out, hm1, DL.out, SL.out⟩
    case round =>
      obtain ⟨wb, A', N, c', m, vals, xss, hl, ok, hm, d, st⟩ := hrel
      have hN1 := ok.r1
      have hN5 := ok.r5
      have hm1' := ok.n2
      rw [hl] at hN1 hN5
      obtain ⟨gM, rfl⟩ := own_shape (st.rows (i := 4) rfl) (show 0 < N by omega)
      obtain ⟨x0, hx0⟩ : ∃ x0, xss[0]? = some x0 := ⟨_, List.getElem?_eq_getElem (by omega)⟩
      have hlen := (ok.inv x0 (List.mem_of_getElem? hx0)).1
      obtain ⟨A0, c0, hv0, ow0⟩ := st.rowAt (i := 4) rfl hx0
      rw [hlen] at hv0
      have hc0 := own_cell (st.rows (i := 4) rfl) hv0
      have x3 := (st.blk (i := 3) rfl).cell (i := 0) rfl
      have MX := Lib.hid (show wr.cell? ⟨w.heap.size + 1 + 1 + 1 + 1, 0, none⟩ = some (.slice (some ⟨gM, 0, none⟩) N c') from x3)
      have D2 := Lib.hid d
      have S2 := Lib.hid st
      have HL := Lib.hid hl
      have HO := Lib.hid ok
      clear hl ok d st hx0 hv0 ow0 DL SL HL1 HO1
      by_cases h5 : N < 5
      · have I5 : (N : Int) < 5 := by omega
        go_wp2_with fail
        refine (sFlags_bel (n := m) (c0 := c0) (A0 := A0) _ (by omega) hc0).mono ?_
        rintro e wf ⟨rfl, bel⟩
        have S3 := Lib.hid (S2.out.go bel)
        clear bel x3 hc0 S2
        by_cases h2 : m * 2 ≤ most
        · have I2 : (m : Int) * 2 ≤ (most : Int) := by omega
          go_wp2_with fail
          refine (nextE (N := 3) _ (D2.out.now S3.out) hn (by omega)).mono ?_
          rintro e wg ⟨rg, rfl, ⟨h0rg, h1rg⟩, hs_, tu_⟩
          obtain ⟨wbwg, d_, st_⟩ := D2.out.num S3.out hs_ tu_
          obtain ⟨rg, rfl⟩ := Int.eq_ofNat_of_zero_le h0rg
          have D3 := Lib.hid d_
          have S4_ := Lib.hid st_
          clear d_ st_ hs_ tu_
          by_cases hr0 : rg = 0
          · subst hr0
            go_wp2_with fail
            refine (nextE (N := 2) _ (D3.out.now S4_.out) hn (by omega)).mono ?_
            rintro e wh ⟨rh, rfl, ⟨h0rh, h1rh⟩, hs_, tu_⟩
            obtain ⟨wbwh, d_, st_⟩ := D3.out.num S4_.out hs_ tu_
            obtain ⟨rh, rfl⟩ := Int.eq_ofNat_of_zero_le h0rh
            have D4 := Lib.hid d_
            have S4 := Lib.hid st_
            clear d_ st_ hs_ tu_
            by_cases hr1 : rh = 0
            · subst hr1
              have x3 := (S4.out.blk (i := 3) rfl).cell (i := 0) rfl
              have x2 := (S4.out.blk (i := 2) rfl).cell (i := 0) rfl
              have RM := Lib.hid (ownSS_rd (S4.out.sep.ownSS (i := 4) rfl))
              have RE := Lib.hid (ownSS_rd (S4.out.sep.ownSS (i := 1) rfl))
              go_wp2_with fail
              refine (beside_any (a := m) (b := 2) (N := N) (M := 1) _ HL.out rfl RM.out RE.out HO.out edge_ok (by omega) (by omega)).mono ?_
              rintro e w5 ⟨AB, cB, vB, rfl, st_⟩
              have S5a := Lib.hid (S4.out.join st_)
              clear st_ x3 x2
              have z3 := (S5a.out.blk (i := 3) rfl).cell (i := 0) rfl
              have f3 := (S5a.out.blk (i := 3) rfl).free 0
              have S5 := Lib.hid (S5a.out.blkSet (i := 3) rfl 0 (.slice AB (N + 1) cB))
              have HO5 := Lib.hid (besL_ok HO.out edge_ok (by omega) (by rw [HL.out]; show N + 1 ≤ 5; omega))
              go_wp2
              go_roundw
              case rel => exact ⟨_, AB, N + 1, cB, _, vB, _, by rw [besL_len, HL.out]; rfl, HO5.out, by omega, D4.out, S5.out.drop 4⟩
              case measure =>
                have y3 := (S5.out.blk (i := 3) rfl).cell (i := 0) rfl
                unfold roomW
                rw [y3, MX.out]
                simp
                omega
            · have nr : ((rh : Int) == 0) = false := by rw [beq_eq_false_iff_ne]; omega
              have x3 := (S4.out.blk (i := 3) rfl).cell (i := 0) rfl
              have x2 := (S4.out.blk (i := 2) rfl).cell (i := 0) rfl
              have RM := Lib.hid (ownSS_rd (S4.out.sep.ownSS (i := 4) rfl))
              have RE := Lib.hid (ownSS_rd (S4.out.sep.ownSS (i := 1) rfl))
              go_wp2_with fail
              refine (beside_any (a := 2) (b := m) (N := 1) (M := N) _ rfl HL.out RE.out RM.out edge_ok HO.out (by omega) (by omega)).mono ?_
              rintro e w5 ⟨AB, cB, vB, rfl, st_⟩
              have S5a := Lib.hid (S4.out.join st_)
              clear st_ x3 x2
              have z3 := (S5a.out.blk (i := 3) rfl).cell (i := 0) rfl
              have f3 := (S5a.out.blk (i := 3) rfl).free 0
              have S5 := Lib.hid (S5a.out.blkSet (i := 3) rfl 0 (.slice AB (1 + N) cB))
              have HO5 := Lib.hid (besL_ok edge_ok HO.out (by omega) (by rw [HL.out]; show 1 + N ≤ 5; omega))
              go_wp2
              go_roundw
              case rel => exact ⟨_, AB, 1 + N, cB, _, vB, _, by rw [besL_len, HL.out]; rfl, HO5.out, by omega, D4.out, S5.out.drop 4⟩
              case measure =>
                have y3 := (S5.out.blk (i := 3) rfl).cell (i := 0) rfl
                unfold roomW
                rw [y3, MX.out]
                simp
                omega
          · have nr : ((rg : Int) == 0) = false := by rw [beq_eq_false_iff_ne]; omega
            have z0 := (S4_.out.blk (i := 0) rfl).cell (i := 0) rfl
            have f0 := (S4_.out.blk (i := 0) rfl).free 0
            have o3 := (S4_.out.blk (i := 3) rfl).cell (i := 0) rfl
            go_wp2
            have st4 := S4_.out.blkSet (i := 0) rfl 0 (.slice (some ⟨gM, 0, none⟩) N c')
            have y0 := (st4.blk (i := 0) rfl).cell (i := 0) rfl
            refine bodyPost_ret (v := .agg #[.slice (some ⟨gM, 0, none⟩) N c']) (by simp [results, Try.results157, go_sem, y0]) rfl ⟨_, some ⟨gM, 0, none⟩, N, c', m, vals, xss, rfl, HL.out, HO.out, hm, D3.out, ?_⟩
            exact st4.pick (fun i => i + 4) (fun i hi => by simp at hi ⊢; omega) (fun i hi => by match i, hi with | 0, _ => rfl) (fun i j _ _ h => by omega)
        · have I2 : ¬ (m : Int) * 2 ≤ (most : Int) := by omega
          have z0 := (S3.out.blk (i := 0) rfl).cell (i := 0) rfl
          have f0 := (S3.out.blk (i := 0) rfl).free 0
          have o3 := (S3.out.blk (i := 3) rfl).cell (i := 0) rfl
          go_wp2
          have st4 := S3.out.blkSet (i := 0) rfl 0 (.slice (some ⟨gM, 0, none⟩) N c')
          have y0 := (st4.blk (i := 0) rfl).cell (i := 0) rfl
          refine bodyPost_ret (v := .agg #[.slice (some ⟨gM, 0, none⟩) N c']) (by simp [results, Try.results157, go_sem, y0]) rfl ⟨_, some ⟨gM, 0, none⟩, N, c', m, vals, xss, rfl, HL.out, HO.out, hm, D2.out, ?_⟩
          exact st4.pick (fun i => i + 4) (fun i hi => by simp at hi ⊢; omega) (fun i hi => by match i, hi with | 0, _ => rfl) (fun i j _ _ h => by omega)
      · have I5 : ¬ (N : Int) < 5 := by omega
        have z0 := (S2.out.blk (i := 0) rfl).cell (i := 0) rfl
        have f0 := (S2.out.blk (i := 0) rfl).free 0
        have o3 := (S2.out.blk (i := 3) rfl).cell (i := 0) rfl
        go_wp2
        have st4 := S2.out.blkSet (i := 0) rfl 0 (.slice (some ⟨gM, 0, none⟩) N c')
        have y0 := (st4.blk (i := 0) rfl).cell (i := 0) rfl
        refine bodyPost_ret (v := .agg #[.slice (some ⟨gM, 0, none⟩) N c']) (by simp [results, Try.results157, go_sem, y0]) rfl ⟨_, some ⟨gM, 0, none⟩, N, c', m, vals, xss, rfl, HL.out, HO.out, hm, D2.out, ?_⟩
        exact st4.pick (fun i => i + 4) (fun i hi => by simp at hi ⊢; omega) (fun i hi => by match i, hi with | 0, _ => rfl) (fun i j _ _ h => by omega)
end
end Go.Proofs.Ytckmmgepoccopaa
