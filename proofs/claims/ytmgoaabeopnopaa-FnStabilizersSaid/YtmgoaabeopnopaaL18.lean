import Derived.Test.YtmgoaabeopnopaaL17
import Derived.Test.YtmgoaabeopnopaaBes
import Derived.Test.YtmgoaabeopnopaaL12
import Derived.Deep.CutRange
import Derived.Deep.RegionLaw
import Derived.Test.YtmgoaabeopnopaaL9
import Derived.Deep.AppendLies
import Derived.Test.YtmgoaabeopnopaaL1
import Derived.Test.YtmgoaabeopnopaaL5
import Derived.Test.YtmgoaabeopnopaaL7
/- spec.l02Any. -/
namespace Go.Proofs.Ytmgoaabeopnopaa
open Go.RowKit

abbrev anyPs (H : Nat) (A1 : Option Addr) (N c1 : Nat) : List Pc :=
  [.blk H #[.slice none 0 0] 27, .rows 2 36 (some ⟨H + 1 + 1, 0, none⟩) 1 1 [.slice (some ⟨H + 1, 0, none⟩) 2 2] edgeL, .blk (H + 1 + 1 + 1) #[.slice (some ⟨H + 1 + 1, 0, none⟩) 1 1] 27, .blk (H + 1 + 1 + 1 + 1) #[.slice A1 N c1] 27]
theorem wr400 {x : Nat} (h : x ≤ 400) : IntKind.i64.wrap (x : Int) = (x : Int) := IntWalk.i64_in _ (by omega)
theorem St.swap45 {w0 w : World} {a b c d e f : Pc} (h : St w0 w [a, b, c, d, e, f]) : St w0 w [a, b, c, d, f, e] :=
  h.pick (fun i => if i = 4 then 5 else if i = 5 then 4 else i) (fun i hi => by simp at hi ⊢; split <;> (try split) <;> omega) (fun i hi => by
    match i, hi with
    | 0, _ => rfl
    | 1, _ => rfl
    | 2, _ => rfl
    | 3, _ => rfl
    | 4, _ => rfl
    | 5, _ => rfl) (fun i j hi hj h => by
    simp at hi hj ⊢
    split <;> split <;> (try split) <;> (try split) <;> omega)
/-- How many moves may still be added to the maniplex in the box b. -/
def roomW (b : Nat) (w : World) : Nat := match w.cell? ⟨b, 0, none⟩ with | some (.slice _ n _) => 5 - n | _ => 0
section
variable {A : Option Addr} {g n c : Nat} {bs : List Value}
set_option maxRecDepth 100000 in
set_option maxHeartbeats 6400000 in
theorem anyP {most : Nat} (w : World) (hs : SrcE w g A n c bs) (hn : n ≤ 1048576) (h8 : 8 ≤ most) (h4 : most ≤ 400) :
    Calls Try.prog 175 #[.pointer (some ⟨g, 0, none⟩), .int .i64 most] w (RetDM w g A n c bs most) := by
  have st0 : St w ((((w.alloc (.cells #[.slice none 0 0] 27)).alloc (.cells #[.int .i64 1, .int .i64 0] 2)).alloc (.cells #[.slice (some ⟨w.heap.size + 1, 0, none⟩) 2 2] 36)).alloc (.cells #[.slice (some ⟨w.heap.size + 1 + 1, 0, none⟩) 1 1] 27)) [.blk w.heap.size #[.slice none 0 0] 27, .rows 2 36 (some ⟨w.heap.size + 1 + 1, 0, none⟩) 1 1 [.slice (some ⟨w.heap.size + 1, 0, none⟩) 2 2] edgeL, .blk (w.heap.size + 1 + 1 + 1) #[.slice (some ⟨w.heap.size + 1 + 1, 0, none⟩) 1 1] 27] := by
    have h1 := (((St.start w).addBlk #[.slice none 0 0] 27).addLit2 (.int .i64 1) (.int .i64 0) 2)
    have h2 := h1.rowLit (j := 1) (xs := [1, 0]) rfl rfl 36
    have h3 := (h2.addBlk #[.slice (some ⟨w.heap.size + 1 + 1, 0, none⟩) 1 1] 27).drop 1
    simpa [edgeL] using h3
  have S0 := Lib.hid (show St w (((((w.alloc (.cells #[.slice none 0 0] 27)).alloc (.cells #[.int .i64 1, .int .i64 0] 2)).alloc (.cells #[.slice (some ⟨w.heap.size + 1, 0, none⟩) 2 2] 36)).alloc (.cells #[.slice (some ⟨w.heap.size + 1 + 1, 0, none⟩) 1 1] 27)).alloc (.cells #[.slice (some ⟨w.heap.size + 1 + 1, 0, none⟩) 1 1] 27)) (anyPs w.heap.size (some ⟨w.heap.size + 1 + 1, 0, none⟩) 1 1) from by simpa [anyPs] using st0.addBlk #[.slice (some ⟨w.heap.size + 1 + 1, 0, none⟩) 1 1] 27)
  have D0 := Lib.hid (Dr.start hs)
  clear hs st0
  go_enter Try.func175, Try.ntmps175
  go_wp2_with fail
  refine (nextE _ (D0.out.now S0.out) hn (by omega)).mono ?_
  rintro e w1 ⟨r, rfl, ⟨hr0, hr1⟩, hs1, tu1⟩
  obtain ⟨wb1, d1, st1⟩ := D0.out.num S0.out hs1 tu1
  obtain ⟨r, rfl⟩ := Int.eq_ofNat_of_zero_le hr0
  have D1 := Lib.hid d1
  have S1 := Lib.hid st1
  clear d1 st1 hs1 tu1 S0 D0
  rename_i K0 a0
  have AK := Lib.hid a0
  clear a0
  go_wp2
  refine AK.out _ _ ?_
  rename_i K1 a1
  have AK1 := Lib.hid a1
  clear a1 AK
  go_wp2
  refine AK1.out _ _ ?_
  clear AK1
  go_cut [] from 7 (fun wc => ∃ (wb : World) (A' : Option Addr) (N c' m : Nat) (vals : List Value) (xss : List (List Int)), xss.length = N ∧ OkI m xss ∧ m ≤ most ∧ Dr g A n c bs w wb ∧ St wb wc (anyPs w.heap.size A' N c' ++ [.rows 2 36 A' N c' vals xss]))
  case first =>
    by_cases e1 : r = 1
    · subst e1
      have z0 := (S1.out.blk (i := 0) rfl).cell (i := 0) rfl
      have f0 := (S1.out.blk (i := 0) rfl).free 0
      have o0 := (S1.out.blk (i := 2) rfl).cell (i := 0) rfl
      go_wp2
      have st4 := S1.out.blkSet (i := 0) rfl 0 (.slice (some ⟨w.heap.size + 1 + 1, 0, none⟩) 1 1)
      have y0 := (st4.blk (i := 0) rfl).cell (i := 0) rfl
      refine bodyPost_ret (v := .agg #[.slice (some ⟨w.heap.size + 1 + 1, 0, none⟩) 1 1]) (by simp [results, Try.results175, go_sem, y0]) rfl ⟨wb1, some ⟨w.heap.size + 1 + 1, 0, none⟩, 1, 1, 2, [.slice (some ⟨w.heap.size + 1, 0, none⟩) 2 2], edgeL, rfl, rfl, edge_ok, by omega, D1.out, ?_⟩
      exact st4.pick (fun i => i + 1) (fun i hi => by simp at hi ⊢; omega) (fun i hi => by match i, hi with | 0, _ => rfl) (fun i j _ _ h => by omega)
    have n1 : ((r : Int) == 1) = false := by rw [beq_eq_false_iff_ne]; omega
    by_cases e0 : r = 0
    · subst e0
      obtain ⟨q, hq⟩ : ∃ q, most / 2 = q := ⟨_, rfl⟩
      have t1 : (most : Int).tdiv 2 = (q : Int) := by rw [← hq]; rfl
      have t2 : (most : Int) / 2 = (q : Int) := by rw [← hq]; rfl
      have hqm : 2 * q ≤ most ∧ 1 ≤ q := by omega
      clear hq
      go_wp2_with fail
      refine (nextE (N := q) _ (D1.out.now S1.out) hn (by omega)).mono ?_
      rintro e w2 ⟨r2, rfl, ⟨h0r2, h1r2⟩, hs_, tu_⟩
      obtain ⟨wbw2, d_, st_⟩ := D1.out.num S1.out hs_ tu_
      obtain ⟨r2, rfl⟩ := Int.eq_ofNat_of_zero_le h0r2
      have D2 := Lib.hid d_
      have S2 := Lib.hid st_
      clear d_ st_ hs_ tu_
      obtain ⟨p, hp⟩ : ∃ p, 1 + r2 = p := ⟨_, rfl⟩
      have hpI : 1 + (r2 : Int) = (p : Int) := by omega
      have hpq : p ≤ q ∧ 1 ≤ p := by omega
      clear hp
      go_wp2_with fail
      refine (polyg_any (p := p) (n := 2 * p) _ (by omega) rfl (by omega)).mono ?_
      rintro e w3 ⟨AP, cP, vP, rfl, st_⟩
      have S3a := Lib.hid (S2.out.join st_)
      clear st_
      have z_S3 := (S3a.out.blk (i := 3) rfl).cell (i := 0) rfl
      have f_S3 := (S3a.out.blk (i := 3) rfl).free 0
      have S3 := Lib.hid (S3a.out.blkSet (i := 3) rfl 0 (.slice AP 2 cP))
      go_wp2_with fail
      go_meet
      exact ⟨wbw2, AP, 2, cP, 2 * p, vP, pgL (2 * p), rfl, pg_ok (by omega) (by omega), by omega, D2.out, S3.out⟩
    have n0 : ((r : Int) == 0) = false := by rw [beq_eq_false_iff_ne]; omega
    obtain ⟨q, hq⟩ : ∃ q, most / 4 = q := ⟨_, rfl⟩
    have t1 : (most : Int).tdiv 4 = (q : Int) := by rw [← hq]; rfl
    have t2 : (most : Int) / 4 = (q : Int) := by rw [← hq]; rfl
    have hqm : 4 * q ≤ most ∧ 1 ≤ q := by omega
    clear hq
    by_cases e2 : r = 2
    · subst e2
      go_wp2_with fail
      refine (nextE (N := q) _ (D1.out.now S1.out) hn (by omega)).mono ?_
      rintro e w2 ⟨r2, rfl, ⟨h0r2, h1r2⟩, hs_, tu_⟩
      obtain ⟨wbw2, d_, st_⟩ := D1.out.num S1.out hs_ tu_
      obtain ⟨r2, rfl⟩ := Int.eq_ofNat_of_zero_le h0r2
      have D2 := Lib.hid d_
      have S2 := Lib.hid st_
      clear d_ st_ hs_ tu_
      obtain ⟨p, hp⟩ : ∃ p, 1 + r2 = p := ⟨_, rfl⟩
      have hpI : 1 + (r2 : Int) = (p : Int) := by omega
      have hpq : p ≤ q ∧ 1 ≤ p := by omega
      clear hp
      go_wp2_with fail
      refine (polyg_any (p := p) (n := 2 * p) _ (by omega) rfl (by omega)).mono ?_
      rintro e w3 ⟨AP, cP, vP, rfl, st_⟩
      have S3a := Lib.hid (S2.out.join st_)
      clear st_
      obtain ⟨gP, rfl⟩ := own_shape (S3a.out.rows (i := 4) rfl) (show 0 < 2 by omega)
      have z_S3 := (S3a.out.blk (i := 3) rfl).cell (i := 0) rfl
      have f_S3 := (S3a.out.blk (i := 3) rfl).free 0
      have S3 := Lib.hid (S3a.out.blkSet (i := 3) rfl 0 (.slice (some ⟨gP, 0, none⟩) 2 cP))
      have RM := Lib.hid (ownSS_rd (S3.out.sep.ownSS (i := 4) rfl))
      have RE := Lib.hid (ownSS_rd (S3.out.sep.ownSS (i := 1) rfl))
      have x3 := (S3.out.blk (i := 3) rfl).cell (i := 0) rfl
      have x2 := (S3.out.blk (i := 2) rfl).cell (i := 0) rfl
      go_wp2_with fail
      refine (beside_any (a := 2 * p) (b := 2) _ rfl rfl RM.out RE.out (pg_ok (by omega) (by omega)) edge_ok (by omega) (by simp [pgL, edgeL])).mono ?_
      rintro e w4 ⟨AB, cB, vB, rfl, st_⟩
      have S4a := Lib.hid (S3.out.join st_)
      clear st_
      have z_S4 := (S4a.out.blk (i := 3) rfl).cell (i := 0) rfl
      have f_S4 := (S4a.out.blk (i := 3) rfl).free 0
      have S4 := Lib.hid (S4a.out.blkSet (i := 3) rfl 0 (.slice AB 3 cB))
      go_wp2_with fail
      go_meet
      exact ⟨wbw2, AB, 3, cB, 2 * p * 2, vB, besL (2 * p) 2 (pgL (2 * p)) edgeL, rfl, besL_ok (pg_ok (by omega) (by omega)) edge_ok (by omega) (by simp [pgL, edgeL]), by omega, D2.out, S4.out.drop 4⟩
    have n2 : ((r : Int) == 2) = false := by rw [beq_eq_false_iff_ne]; omega
    by_cases e3 : r = 3
    · subst e3
      go_wp2_with fail
      refine (nextE (N := 4) _ (D1.out.now S1.out) hn (by omega)).mono ?_
      rintro e w2 ⟨r2, rfl, ⟨h0r2, h1r2⟩, hs_, tu_⟩
      obtain ⟨wbw2, d_, st_⟩ := D1.out.num S1.out hs_ tu_
      obtain ⟨r2, rfl⟩ := Int.eq_ofNat_of_zero_le h0r2
      have D2 := Lib.hid d_
      have S2 := Lib.hid st_
      clear d_ st_ hs_ tu_
      obtain ⟨p0, hp0⟩ : ∃ p0, 1 + r2 = p0 := ⟨_, rfl⟩
      have hpI : 1 + (r2 : Int) = (p0 : Int) := by omega
      have hpq : 1 ≤ p0 ∧ p0 ≤ 4 := by omega
      clear hp0
      by_cases hbig : most < 4 * p0
      · have hbI : (most : Int) < 4 * (p0 : Int) := by omega
        obtain ⟨q3, hq3⟩ : ∃ q3, most / 8 = q3 := ⟨_, rfl⟩
        have u1 : (most : Int).tdiv 8 = (q3 : Int) := by rw [← hq3]; rfl
        have u2 : (most : Int) / 8 = (q3 : Int) := by rw [← hq3]; rfl
        have hq31 : 1 ≤ q3 ∧ q3 ≤ 400 := by omega
        have HQ := Lib.hid (show 4 * 2 * q3 ≤ most by omega)
        have hq3h : 2 * q3 ≤ 400 := by omega
        have hq3I : (1 : Int) ≤ (q3 : Int) := by omega
        have w8 : IntKind.i64.wrap 8 = 8 := rfl
        have u7 : IntKind.i64.wrap (q3 : Int) = (q3 : Int) := wr400 hq31.2
        have hPP1 : 1 ≤ 2 := by decide
        have hPP2 : 2 * 2 ≤ 400 := by decide
        clear hq3 t1 t2
        have z3 := (S2.out.blk (i := 3) rfl).cell (i := 0) rfl
        have Sd := Lib.hid (S2.out.go (below_drewN (Below.refl _ _) 1))
        go_wp2
        go_region_law ((first
          | (refine step_call rfl 158 #[.tmp 52] #[2] (by rfl) Try.func158 (by rfl) (by rfl) #[.int .i64 2] (by first | (simp [Act.eval]; done) | simp [Act.eval, Act.put]) _ (polyg_any (p := 2) (n := 2 * 2) _ hPP1 rfl hPP2) ?_
             rintro e wA ⟨AA, cA, vA, rfl, st_⟩
             refine ⟨_, rfl, ?_⟩
             have SA := Lib.hid (Sd.out.join st_)
             clear st_)
          | (refine step_call rfl 114 #[.tmp 54, .tmp 58] #[107, 2] (by rfl) Try.func114 (by rfl) (by rfl) #[.pointer (some ⟨g, 0, none⟩), .int .i64 q3] (by first | (simp [Act.eval]; done) | simp [Act.eval, Act.put]) _ (nextE (N := q3) _ (D2.out.now Sd.out) hn hq3I) ?_
             rintro e wB ⟨r3, rfl, ⟨h0r3, h1r3⟩, hs_, tu_⟩
             refine ⟨_, rfl, ?_⟩
             obtain ⟨wbB, d_, st_⟩ := D2.out.num Sd.out hs_ tu_
             obtain ⟨r3, rfl⟩ := Int.eq_ofNat_of_zero_le h0r3
             obtain ⟨p3, hp3⟩ : ∃ p3, 1 + r3 = p3 := ⟨_, rfl⟩
             have hp3I : 1 + (r3 : Int) = (p3 : Int) := by rw [← hp3, Int.natCast_add]; rfl
             have hp3q : 1 ≤ p3 ∧ p3 ≤ q3 := ⟨by rw [← hp3]; exact Nat.le_add_right 1 r3, by rw [← hp3, Nat.add_comm]; exact Int.ofNat_lt.1 h1r3⟩
             have k3 : IntKind.i64.wrap (p3 : Int) = (p3 : Int) := wr400 (Nat.le_trans hp3q.2 hq31.2)
             have DB := Lib.hid d_
             have SB := Lib.hid st_
             clear st_ d_ hs_ tu_ hp3)
          | (refine step_call rfl 114 #[.tmp 54, .tmp 58] #[107, 2] (by rfl) Try.func114 (by rfl) (by rfl) #[.pointer (some ⟨g, 0, none⟩), .int .i64 q3] (by first | (simp [Act.eval]; done) | simp [Act.eval, Act.put]) _ (nextE (N := q3) _ (D2.out.now SA.out) hn hq3I) ?_
             rintro e wB ⟨r3, rfl, ⟨h0r3, h1r3⟩, hs_, tu_⟩
             refine ⟨_, rfl, ?_⟩
             obtain ⟨wbB, d_, st_⟩ := D2.out.num SA.out hs_ tu_
             obtain ⟨r3, rfl⟩ := Int.eq_ofNat_of_zero_le h0r3
             obtain ⟨p3, hp3⟩ : ∃ p3, 1 + r3 = p3 := ⟨_, rfl⟩
             have hp3I : 1 + (r3 : Int) = (p3 : Int) := by rw [← hp3, Int.natCast_add]; rfl
             have hp3q : 1 ≤ p3 ∧ p3 ≤ q3 := ⟨by rw [← hp3]; exact Nat.le_add_right 1 r3, by rw [← hp3, Nat.add_comm]; exact Int.ofNat_lt.1 h1r3⟩
             have k3 : IntKind.i64.wrap (p3 : Int) = (p3 : Int) := wr400 (Nat.le_trans hp3q.2 hq31.2)
             have DB := Lib.hid d_
             have SAB := Lib.hid st_
             clear st_ d_ hs_ tu_ hp3)
          | (refine step_call rfl 158 #[.tmp 52] #[2] (by rfl) Try.func158 (by rfl) (by rfl) #[.int .i64 2] (by first | (simp [Act.eval]; done) | simp [Act.eval, Act.put]) _ (polyg_any (p := 2) (n := 2 * 2) _ hPP1 rfl hPP2) ?_
             rintro e wA ⟨AA, cA, vA, rfl, st_⟩
             refine ⟨_, rfl, ?_⟩
             have SAB := Lib.hid (SB.out.join st_)
             clear st_)
          | (refine step_call rfl 158 #[.tmp 60] #[2] (by rfl) Try.func158 (by rfl) (by rfl) #[.int .i64 p3] (by first | (simp [Act.eval]; done) | simp [Act.eval, Act.put]) _ (polyg_any (p := p3) (n := 2 * p3) _ hp3q.1 rfl (Nat.le_trans (Nat.mul_le_mul_left 2 hp3q.2) hq3h)) ?_
             rintro e wC ⟨AC, cC, vC, rfl, st_⟩
             refine ⟨_, rfl, ?_⟩
             have SABC := Lib.hid (show St _ wC (anyPs w.heap.size (some ⟨w.heap.size + 1 + 1, 0, none⟩) 1 1 ++ [.rows 2 36 AA 2 cA vA (pgL (2 * 2)), .rows 2 36 AC 2 cC vC (pgL (2 * p3))]) from SAB.out.join st_)
             clear st_)
          | (refine step_call rfl 158 #[.tmp 60] #[2] (by rfl) Try.func158 (by rfl) (by rfl) #[.int .i64 p3] (by first | (simp [Act.eval]; done) | simp [Act.eval, Act.put]) _ (polyg_any (p := p3) (n := 2 * p3) _ hp3q.1 rfl (Nat.le_trans (Nat.mul_le_mul_left 2 hp3q.2) hq3h)) ?_
             rintro e wC ⟨AC, cC, vC, rfl, st_⟩
             refine ⟨_, rfl, ?_⟩
             have SBC := Lib.hid (SB.out.join st_)
             clear st_)
          | (refine step_call rfl 158 #[.tmp 52] #[2] (by rfl) Try.func158 (by rfl) (by rfl) #[.int .i64 2] (by first | (simp [Act.eval]; done) | simp [Act.eval, Act.put]) _ (polyg_any (p := 2) (n := 2 * 2) _ hPP1 rfl hPP2) ?_
             rintro e wA ⟨AA, cA, vA, rfl, st_⟩
             refine ⟨_, rfl, ?_⟩
             have SABC := Lib.hid (show St _ wA (anyPs w.heap.size (some ⟨w.heap.size + 1 + 1, 0, none⟩) 1 1 ++ [.rows 2 36 AA 2 cA vA (pgL (2 * 2)), .rows 2 36 AC 2 cC vC (pgL (2 * p3))]) from St.swap45 (SBC.out.join st_))
             clear st_)
          | (skip
             obtain ⟨gA, rfl⟩ := own_shape (SABC.out.rows (i := 4) rfl) (show 0 < 2 by omega)
             obtain ⟨gC, rfl⟩ := own_shape (SABC.out.rows (i := 5) rfl) (show 0 < 2 by omega)
             have hmu : 2 * 2 * (2 * p3) ≤ most := by
               have h1 := Nat.mul_le_mul_left (4 * 2) hp3q.2
               have h2 : 2 * 2 * (2 * p3) = 4 * 2 * p3 := (Nat.mul_mul_mul_comm 2 2 2 p3).trans (Nat.mul_assoc 4 2 p3).symm
               rw [h2]
               exact Nat.le_trans h1 HQ.out
             have HMU := Lib.hid hmu
             have LA : (pgL (2 * 2)).length = 2 := rfl
             have LC : (pgL (2 * p3)).length = 2 := rfl
             have okA : OkI (2 * 2) (pgL (2 * 2)) := pg_ok hPP1 hPP2
             have okC : OkI (2 * p3) (pgL (2 * p3)) := pg_ok hp3q.1 (Nat.le_trans (Nat.mul_le_mul_left 2 hp3q.2) hq3h)
             refine step_call rfl 157 #[.tmp 53, .tmp 61] #[27, 27] (by rfl) Try.func157 (by rfl) (by rfl) #[.agg #[.slice (some ⟨gA, 0, none⟩) 2 cA], .agg #[.slice (some ⟨gC, 0, none⟩) 2 cC]] (by first | (simp [Act.eval]; done) | simp [Act.eval, Act.put]) _ (beside_any (a := 2 * 2) (b := 2 * p3) _ LA LC (ownSS_rd (SABC.out.sep.ownSS (i := 4) rfl)) (ownSS_rd (SABC.out.sep.ownSS (i := 5) rfl)) okA okC (Nat.le_trans hmu h4) (by decide)) ?_
             rintro e wD ⟨AD, cD, vD, rfl, st_⟩
             refine ⟨_, rfl, ?_⟩
             have SDa := Lib.hid (SABC.out.join st_)
             have zD := (SDa.out.blk (i := 3) rfl).cell (i := 0) rfl
             have fD := (SDa.out.blk (i := 3) rfl).free 0
             have HOD := Lib.hid (besL_ok okA okC (Nat.le_trans hmu h4) (by rw [LA, LC]; decide))
             clear st_ hmu okA okC)))
        all_goals
          have SD := Lib.hid (SDa.out.blkSet (i := 3) rfl 0 (.slice AD 4 cD))
          go_wp2_with fail
          go_meet
          exact ⟨_, AD, 4, cD, _, vD, _, rfl, HOD.out, HMU.out, DB.out, (SD.out.drop 4).drop 4⟩
      · have hbI : ¬ (most : Int) < 4 * (p0 : Int) := by omega
        obtain ⟨q3, hq3⟩ : ∃ q3, most / (4 * p0) = q3 := ⟨_, rfl⟩
        have hq3l : 4 * p0 * q3 ≤ most := by rw [← hq3]; exact Nat.mul_div_le _ _
        have hq30 : 1 ≤ q3 := by rw [← hq3]; exact (Nat.le_div_iff_mul_le (by omega)).2 (by omega)
        have hq34 : q3 ≤ most := by rw [← hq3]; exact Nat.div_le_self _ _
        have hq31 : 1 ≤ q3 ∧ q3 ≤ 400 := by omega
        have u1 : (most : Int).tdiv ((4 * p0 : Nat) : Int) = (q3 : Int) := by rw [← hq3]; rfl
        have u2 : (most : Int) / ((4 * p0 : Nat) : Int) = (q3 : Int) := by rw [← hq3]; rfl
        have HQ := Lib.hid hq3l
        have hq3h : 2 * q3 ≤ 400 := by
          have h1 := Nat.mul_le_mul_right q3 (show 2 ≤ 4 * p0 by omega)
          omega
        have hq3I : (1 : Int) ≤ (q3 : Int) := by omega
        have hPP1 : 1 ≤ p0 := hpq.1
        have hPP2 : 2 * p0 ≤ 400 := by omega
        obtain ⟨p4, hp44⟩ : ∃ p4, 4 * p0 = p4 := ⟨_, rfl⟩
        rw [hp44] at u1 u2
        have u3 : 4 * (p0 : Int) = (p4 : Int) := by omega
        have u5 : IntKind.i64.wrap (p4 : Int) = (p4 : Int) := IntWalk.i64_in _ (by omega)
        have u6 : ¬ p4 = 0 := by omega
        have u8 : ¬ (most : Int) < (p4 : Int) := by omega
        have u7 : IntKind.i64.wrap (q3 : Int) = (q3 : Int) := IntWalk.i64_in _ (by omega)
        clear hq3 hp44 t1 t2 hq3l
        have z3 := (S2.out.blk (i := 3) rfl).cell (i := 0) rfl
        have Sd := Lib.hid (S2.out.go (below_drewN (Below.refl _ _) 1))
        go_wp2
        go_region_law ((first
          | (refine step_call rfl 158 #[.tmp 52] #[2] (by rfl) Try.func158 (by rfl) (by rfl) #[.int .i64 p0] (by first | (simp [Act.eval]; done) | simp [Act.eval, Act.put]) _ (polyg_any (p := p0) (n := 2 * p0) _ hPP1 rfl hPP2) ?_
             rintro e wA ⟨AA, cA, vA, rfl, st_⟩
             refine ⟨_, rfl, ?_⟩
             have SA := Lib.hid (Sd.out.join st_)
             clear st_)
          | (refine step_call rfl 114 #[.tmp 54, .tmp 58] #[107, 2] (by rfl) Try.func114 (by rfl) (by rfl) #[.pointer (some ⟨g, 0, none⟩), .int .i64 q3] (by first | (simp [Act.eval]; done) | simp [Act.eval, Act.put]) _ (nextE (N := q3) _ (D2.out.now Sd.out) hn hq3I) ?_
             rintro e wB ⟨r3, rfl, ⟨h0r3, h1r3⟩, hs_, tu_⟩
             refine ⟨_, rfl, ?_⟩
             obtain ⟨wbB, d_, st_⟩ := D2.out.num Sd.out hs_ tu_
             obtain ⟨r3, rfl⟩ := Int.eq_ofNat_of_zero_le h0r3
             obtain ⟨p3, hp3⟩ : ∃ p3, 1 + r3 = p3 := ⟨_, rfl⟩
             have hp3I : 1 + (r3 : Int) = (p3 : Int) := by rw [← hp3, Int.natCast_add]; rfl
             have hp3q : 1 ≤ p3 ∧ p3 ≤ q3 := ⟨by rw [← hp3]; exact Nat.le_add_right 1 r3, by rw [← hp3, Nat.add_comm]; exact Int.ofNat_lt.1 h1r3⟩
             have k3 : IntKind.i64.wrap (p3 : Int) = (p3 : Int) := wr400 (Nat.le_trans hp3q.2 hq31.2)
             have DB := Lib.hid d_
             have SB := Lib.hid st_
             clear st_ d_ hs_ tu_ hp3)
          | (refine step_call rfl 114 #[.tmp 54, .tmp 58] #[107, 2] (by rfl) Try.func114 (by rfl) (by rfl) #[.pointer (some ⟨g, 0, none⟩), .int .i64 q3] (by first | (simp [Act.eval]; done) | simp [Act.eval, Act.put]) _ (nextE (N := q3) _ (D2.out.now SA.out) hn hq3I) ?_
             rintro e wB ⟨r3, rfl, ⟨h0r3, h1r3⟩, hs_, tu_⟩
             refine ⟨_, rfl, ?_⟩
             obtain ⟨wbB, d_, st_⟩ := D2.out.num SA.out hs_ tu_
             obtain ⟨r3, rfl⟩ := Int.eq_ofNat_of_zero_le h0r3
             obtain ⟨p3, hp3⟩ : ∃ p3, 1 + r3 = p3 := ⟨_, rfl⟩
             have hp3I : 1 + (r3 : Int) = (p3 : Int) := by rw [← hp3, Int.natCast_add]; rfl
             have hp3q : 1 ≤ p3 ∧ p3 ≤ q3 := ⟨by rw [← hp3]; exact Nat.le_add_right 1 r3, by rw [← hp3, Nat.add_comm]; exact Int.ofNat_lt.1 h1r3⟩
             have k3 : IntKind.i64.wrap (p3 : Int) = (p3 : Int) := wr400 (Nat.le_trans hp3q.2 hq31.2)
             have DB := Lib.hid d_
             have SAB := Lib.hid st_
             clear st_ d_ hs_ tu_ hp3)
          | (refine step_call rfl 158 #[.tmp 52] #[2] (by rfl) Try.func158 (by rfl) (by rfl) #[.int .i64 p0] (by first | (simp [Act.eval]; done) | simp [Act.eval, Act.put]) _ (polyg_any (p := p0) (n := 2 * p0) _ hPP1 rfl hPP2) ?_
             rintro e wA ⟨AA, cA, vA, rfl, st_⟩
             refine ⟨_, rfl, ?_⟩
             have SAB := Lib.hid (SB.out.join st_)
             clear st_)
          | (refine step_call rfl 158 #[.tmp 60] #[2] (by rfl) Try.func158 (by rfl) (by rfl) #[.int .i64 p3] (by first | (simp [Act.eval]; done) | simp [Act.eval, Act.put]) _ (polyg_any (p := p3) (n := 2 * p3) _ hp3q.1 rfl (Nat.le_trans (Nat.mul_le_mul_left 2 hp3q.2) hq3h)) ?_
             rintro e wC ⟨AC, cC, vC, rfl, st_⟩
             refine ⟨_, rfl, ?_⟩
             have SABC := Lib.hid (show St _ wC (anyPs w.heap.size (some ⟨w.heap.size + 1 + 1, 0, none⟩) 1 1 ++ [.rows 2 36 AA 2 cA vA (pgL (2 * p0)), .rows 2 36 AC 2 cC vC (pgL (2 * p3))]) from SAB.out.join st_)
             clear st_)
          | (refine step_call rfl 158 #[.tmp 60] #[2] (by rfl) Try.func158 (by rfl) (by rfl) #[.int .i64 p3] (by first | (simp [Act.eval]; done) | simp [Act.eval, Act.put]) _ (polyg_any (p := p3) (n := 2 * p3) _ hp3q.1 rfl (Nat.le_trans (Nat.mul_le_mul_left 2 hp3q.2) hq3h)) ?_
             rintro e wC ⟨AC, cC, vC, rfl, st_⟩
             refine ⟨_, rfl, ?_⟩
             have SBC := Lib.hid (SB.out.join st_)
             clear st_)
          | (refine step_call rfl 158 #[.tmp 52] #[2] (by rfl) Try.func158 (by rfl) (by rfl) #[.int .i64 p0] (by first | (simp [Act.eval]; done) | simp [Act.eval, Act.put]) _ (polyg_any (p := p0) (n := 2 * p0) _ hPP1 rfl hPP2) ?_
             rintro e wA ⟨AA, cA, vA, rfl, st_⟩
             refine ⟨_, rfl, ?_⟩
             have SABC := Lib.hid (show St _ wA (anyPs w.heap.size (some ⟨w.heap.size + 1 + 1, 0, none⟩) 1 1 ++ [.rows 2 36 AA 2 cA vA (pgL (2 * p0)), .rows 2 36 AC 2 cC vC (pgL (2 * p3))]) from St.swap45 (SBC.out.join st_))
             clear st_)
          | (skip
             obtain ⟨gA, rfl⟩ := own_shape (SABC.out.rows (i := 4) rfl) (show 0 < 2 by omega)
             obtain ⟨gC, rfl⟩ := own_shape (SABC.out.rows (i := 5) rfl) (show 0 < 2 by omega)
             have hmu : 2 * p0 * (2 * p3) ≤ most := by
               have h1 := Nat.mul_le_mul_left (4 * p0) hp3q.2
               have h2 : 2 * p0 * (2 * p3) = 4 * p0 * p3 := (Nat.mul_mul_mul_comm 2 p0 2 p3).trans (Nat.mul_assoc 4 p0 p3).symm
               rw [h2]
               exact Nat.le_trans h1 HQ.out
             have HMU := Lib.hid hmu
             have LA : (pgL (2 * p0)).length = 2 := rfl
             have LC : (pgL (2 * p3)).length = 2 := rfl
             have okA : OkI (2 * p0) (pgL (2 * p0)) := pg_ok hPP1 hPP2
             have okC : OkI (2 * p3) (pgL (2 * p3)) := pg_ok hp3q.1 (Nat.le_trans (Nat.mul_le_mul_left 2 hp3q.2) hq3h)
             refine step_call rfl 157 #[.tmp 53, .tmp 61] #[27, 27] (by rfl) Try.func157 (by rfl) (by rfl) #[.agg #[.slice (some ⟨gA, 0, none⟩) 2 cA], .agg #[.slice (some ⟨gC, 0, none⟩) 2 cC]] (by first | (simp [Act.eval]; done) | simp [Act.eval, Act.put]) _ (beside_any (a := 2 * p0) (b := 2 * p3) _ LA LC (ownSS_rd (SABC.out.sep.ownSS (i := 4) rfl)) (ownSS_rd (SABC.out.sep.ownSS (i := 5) rfl)) okA okC (Nat.le_trans hmu h4) (by decide)) ?_
             rintro e wD ⟨AD, cD, vD, rfl, st_⟩
             refine ⟨_, rfl, ?_⟩
             have SDa := Lib.hid (SABC.out.join st_)
             have zD := (SDa.out.blk (i := 3) rfl).cell (i := 0) rfl
             have fD := (SDa.out.blk (i := 3) rfl).free 0
             have HOD := Lib.hid (besL_ok okA okC (Nat.le_trans hmu h4) (by rw [LA, LC]; decide))
             clear st_ hmu okA okC)))
        all_goals
          have SD := Lib.hid (SDa.out.blkSet (i := 3) rfl 0 (.slice AD 4 cD))
          go_wp2_with fail
          go_meet
          exact ⟨_, AD, 4, cD, _, vD, _, rfl, HOD.out, HMU.out, DB.out, (SD.out.drop 4).drop 4⟩
    · have n3 : ((r : Int) == 3) = false := by rw [beq_eq_false_iff_ne]; omega
      go_wp2_with fail
      refine (nextE (N := q) _ (D1.out.now S1.out) hn (by omega)).mono ?_
      rintro e w2 ⟨r2, rfl, ⟨h0r2, h1r2⟩, hs_, tu_⟩
      obtain ⟨wbw2, d_, st_⟩ := D1.out.num S1.out hs_ tu_
      obtain ⟨r2, rfl⟩ := Int.eq_ofNat_of_zero_le h0r2
      have D2 := Lib.hid d_
      have S2 := Lib.hid st_
      clear d_ st_ hs_ tu_
      obtain ⟨p, hp⟩ : ∃ p, 1 + r2 = p := ⟨_, rfl⟩
      have hpI : 1 + (r2 : Int) = (p : Int) := by omega
      have hpq : p ≤ q ∧ 1 ≤ p := by omega
      clear hp
      go_wp2_with fail
      refine (mapP (E := p) _ (D2.out.now S2.out) hn (by omega) (by omega)).mono ?_
      rintro e w3 ⟨wb3, AP, NP, cP, mP, vP, xP, rfl, hlP, okP, hmP, d3, st3⟩
      obtain ⟨wb4, d4, st4⟩ := D2.out.join S2.out d3 st3
      have D3 := Lib.hid d4
      have S3a := Lib.hid st4
      have HLP := Lib.hid hlP
      have HOP := Lib.hid okP
      clear d3 st3 d4 st4 hlP okP
      have z_S3 := (S3a.out.blk (i := 3) rfl).cell (i := 0) rfl
      have f_S3 := (S3a.out.blk (i := 3) rfl).free 0
      have S3 := Lib.hid (S3a.out.blkSet (i := 3) rfl 0 (.slice AP NP cP))
      go_wp2_with fail
      go_meet
      exact ⟨wb4, AP, NP, cP, mP, vP, xP, HLP.out, HOP.out, by omega, D3.out, S3.out⟩
  case rest =>
    obtain ⟨wb, A1, N1, c1, m1, v1, x1, hl1, ok1, hm1, d1, st1⟩ := hcut
    have DL := Lib.hid d1
    have SL := Lib.hid st1
    have HL1 := Lib.hid hl1
    have HO1 := Lib.hid ok1
    clear hl1 ok1 d1 st1 S1 D1
    go_wp2
    go_loopw [] (fun wr => ∃ (wb : World) (A' : Option Addr) (N c' m : Nat) (vals : List Value) (xss : List (List Int)), xss.length = N ∧ OkI m xss ∧ m ≤ most ∧ Dr g A n c bs w wb ∧ St wb wr (anyPs w.heap.size A' N c' ++ [.rows 2 36 A' N c' vals xss])) (fun wr => roomW (w.heap.size + 1 + 1 + 1 + 1) wr)
    case atStart => exact ⟨wb, A1, N1, c1, m1, v1, x1, HL1.out, HO1.out, hm1, DL.out, SL.out⟩
    case round =>
      obtain ⟨wb, A', N, c', m, vals, xss, hl, ok, hm, d, st⟩ := hrel
      have hN1 := ok.r1
      have hN5 := ok.r5
      have hm1' := ok.n2
      rw [hl] at hN1 hN5
      obtain ⟨gM, rfl⟩ := own_shape (st.rows (i := 4) rfl) (show 0 < N by omega)
      obtain ⟨x0, hx0⟩ : ∃ x0, xss[0]? = some x0 := ⟨_, List.getElem?_eq_getElem (by omega)⟩
      have hlen := (ok.inv x0 (List.mem_of_getElem? hx0)).1
      obtain ⟨A0, c0, hv0, ow0⟩ := st.rowAt (i := 4) rfl hx0
      rw [hlen] at hv0
      have hc0 := own_cell (st.rows (i := 4) rfl) hv0
      have x3 := (st.blk (i := 3) rfl).cell (i := 0) rfl
      have MX := Lib.hid (show wr.cell? ⟨w.heap.size + 1 + 1 + 1 + 1, 0, none⟩ = some (.slice (some ⟨gM, 0, none⟩) N c') from x3)
      have D2 := Lib.hid d
      have S2 := Lib.hid st
      have HL := Lib.hid hl
      have HO := Lib.hid ok
      clear hl ok d st hx0 hv0 ow0 DL SL HL1 HO1
      by_cases h5 : N < 5
      · have I5 : (N : Int) < 5 := by omega
        go_wp2_with fail
        refine (sFlags_bel (n := m) (c0 := c0) (A0 := A0) _ (by omega) hc0).mono ?_
        rintro e wf ⟨rfl, bel⟩
        have S3 := Lib.hid (S2.out.go bel)
        clear bel x3 hc0 S2
        by_cases h2 : m * 2 ≤ most
        · have I2 : (m : Int) * 2 ≤ (most : Int) := by omega
          go_wp2_with fail
          refine (nextE (N := 3) _ (D2.out.now S3.out) hn (by omega)).mono ?_
          rintro e wg ⟨rg, rfl, ⟨h0rg, h1rg⟩, hs_, tu_⟩
          obtain ⟨wbwg, d_, st_⟩ := D2.out.num S3.out hs_ tu_
          obtain ⟨rg, rfl⟩ := Int.eq_ofNat_of_zero_le h0rg
          have D3 := Lib.hid d_
          have S4_ := Lib.hid st_
          clear d_ st_ hs_ tu_
          by_cases hr0 : rg = 0
          · subst hr0
            go_wp2_with fail
            refine (nextE (N := 2) _ (D3.out.now S4_.out) hn (by omega)).mono ?_
            rintro e wh ⟨rh, rfl, ⟨h0rh, h1rh⟩, hs_, tu_⟩
            obtain ⟨wbwh, d_, st_⟩ := D3.out.num S4_.out hs_ tu_
            obtain ⟨rh, rfl⟩ := Int.eq_ofNat_of_zero_le h0rh
            have D4 := Lib.hid d_
            have S4 := Lib.hid st_
            clear d_ st_ hs_ tu_
            by_cases hr1 : rh = 0
            · subst hr1
              have x3 := (S4.out.blk (i := 3) rfl).cell (i := 0) rfl
              have x2 := (S4.out.blk (i := 2) rfl).cell (i := 0) rfl
              have RM := Lib.hid (ownSS_rd (S4.out.sep.ownSS (i := 4) rfl))
              have RE := Lib.hid (ownSS_rd (S4.out.sep.ownSS (i := 1) rfl))
              go_wp2_with fail
              refine (beside_any (a := m) (b := 2) (N := N) (M := 1) _ HL.out rfl RM.out RE.out HO.out edge_ok (by omega) (by omega)).mono ?_
              rintro e w5 ⟨AB, cB, vB, rfl, st_⟩
              have S5a := Lib.hid (S4.out.join st_)
              clear st_ x3 x2
              have z3 := (S5a.out.blk (i := 3) rfl).cell (i := 0) rfl
              have f3 := (S5a.out.blk (i := 3) rfl).free 0
              have S5 := Lib.hid (S5a.out.blkSet (i := 3) rfl 0 (.slice AB (N + 1) cB))
              have HO5 := Lib.hid (besL_ok HO.out edge_ok (by omega) (by rw [HL.out]; show N + 1 ≤ 5; omega))
              go_wp2
              go_roundw
              case rel => exact ⟨_, AB, N + 1, cB, _, vB, _, by rw [besL_len, HL.out]; rfl, HO5.out, by omega, D4.out, S5.out.drop 4⟩
              case measure =>
                have y3 := (S5.out.blk (i := 3) rfl).cell (i := 0) rfl
                unfold roomW
                rw [y3, MX.out]
                simp
                omega
            · have nr : ((rh : Int) == 0) = false := by rw [beq_eq_false_iff_ne]; omega
              have x3 := (S4.out.blk (i := 3) rfl).cell (i := 0) rfl
              have x2 := (S4.out.blk (i := 2) rfl).cell (i := 0) rfl
              have RM := Lib.hid (ownSS_rd (S4.out.sep.ownSS (i := 4) rfl))
              have RE := Lib.hid (ownSS_rd (S4.out.sep.ownSS (i := 1) rfl))
              go_wp2_with fail
              refine (beside_any (a := 2) (b := m) (N := 1) (M := N) _ rfl HL.out RE.out RM.out edge_ok HO.out (by omega) (by omega)).mono ?_
              rintro e w5 ⟨AB, cB, vB, rfl, st_⟩
              have S5a := Lib.hid (S4.out.join st_)
              clear st_ x3 x2
              have z3 := (S5a.out.blk (i := 3) rfl).cell (i := 0) rfl
              have f3 := (S5a.out.blk (i := 3) rfl).free 0
              have S5 := Lib.hid (S5a.out.blkSet (i := 3) rfl 0 (.slice AB (1 + N) cB))
              have HO5 := Lib.hid (besL_ok edge_ok HO.out (by omega) (by rw [HL.out]; show 1 + N ≤ 5; omega))
              go_wp2
              go_roundw
              case rel => exact ⟨_, AB, 1 + N, cB, _, vB, _, by rw [besL_len, HL.out]; rfl, HO5.out, by omega, D4.out, S5.out.drop 4⟩
              case measure =>
                have y3 := (S5.out.blk (i := 3) rfl).cell (i := 0) rfl
                unfold roomW
                rw [y3, MX.out]
                simp
                omega
          · have nr : ((rg : Int) == 0) = false := by rw [beq_eq_false_iff_ne]; omega
            have z0 := (S4_.out.blk (i := 0) rfl).cell (i := 0) rfl
            have f0 := (S4_.out.blk (i := 0) rfl).free 0
            have o3 := (S4_.out.blk (i := 3) rfl).cell (i := 0) rfl
            go_wp2
            have st4 := S4_.out.blkSet (i := 0) rfl 0 (.slice (some ⟨gM, 0, none⟩) N c')
            have y0 := (st4.blk (i := 0) rfl).cell (i := 0) rfl
            refine bodyPost_ret (v := .agg #[.slice (some ⟨gM, 0, none⟩) N c']) (by simp [results, Try.results175, go_sem, y0]) rfl ⟨_, some ⟨gM, 0, none⟩, N, c', m, vals, xss, rfl, HL.out, HO.out, hm, D3.out, ?_⟩
            exact st4.pick (fun i => i + 4) (fun i hi => by simp at hi ⊢; omega) (fun i hi => by match i, hi with | 0, _ => rfl) (fun i j _ _ h => by omega)
        · have I2 : ¬ (m : Int) * 2 ≤ (most : Int) := by omega
          have z0 := (S3.out.blk (i := 0) rfl).cell (i := 0) rfl
          have f0 := (S3.out.blk (i := 0) rfl).free 0
          have o3 := (S3.out.blk (i := 3) rfl).cell (i := 0) rfl
          go_wp2
          have st4 := S3.out.blkSet (i := 0) rfl 0 (.slice (some ⟨gM, 0, none⟩) N c')
          have y0 := (st4.blk (i := 0) rfl).cell (i := 0) rfl
          refine bodyPost_ret (v := .agg #[.slice (some ⟨gM, 0, none⟩) N c']) (by simp [results, Try.results175, go_sem, y0]) rfl ⟨_, some ⟨gM, 0, none⟩, N, c', m, vals, xss, rfl, HL.out, HO.out, hm, D2.out, ?_⟩
          exact st4.pick (fun i => i + 4) (fun i hi => by simp at hi ⊢; omega) (fun i hi => by match i, hi with | 0, _ => rfl) (fun i j _ _ h => by omega)
      · have I5 : ¬ (N : Int) < 5 := by omega
        have z0 := (S2.out.blk (i := 0) rfl).cell (i := 0) rfl
        have f0 := (S2.out.blk (i := 0) rfl).free 0
        have o3 := (S2.out.blk (i := 3) rfl).cell (i := 0) rfl
        go_wp2
        have st4 := S2.out.blkSet (i := 0) rfl 0 (.slice (some ⟨gM, 0, none⟩) N c')
        have y0 := (st4.blk (i := 0) rfl).cell (i := 0) rfl
        refine bodyPost_ret (v := .agg #[.slice (some ⟨gM, 0, none⟩) N c']) (by simp [results, Try.results175, go_sem, y0]) rfl ⟨_, some ⟨gM, 0, none⟩, N, c', m, vals, xss, rfl, HL.out, HO.out, hm, D2.out, ?_⟩
        exact st4.pick (fun i => i + 4) (fun i hi => by simp at hi ⊢; omega) (fun i hi => by match i, hi with | 0, _ => rfl) (fun i j _ _ h => by omega)
end
end Go.Proofs.Ytmgoaabeopnopaa
/- spec.l02Draw; what spec.l02Spoil hands back. -/
namespace Go.Proofs.Ytmgoaabeopnopaa
open Go.RowKit

theorem get_fz {l : List Int} {n x : Nat} (hl : l.length = n) (hx : x < n) : l[x]? = some (fz l x) := by
  have h := List.getElem?_eq_getElem (show x < l.length by omega)
  rw [h, fz_at h]
theorem conj_invL {m p : List Int} {n : Nat} (h : InvL n m) (hn : n ≤ 400) (hpn : p.length = n) (hp : okP p = true) : InvL n (conjL m p) := by
  have hm := h.okP hn
  have hcl : (conjL m p).length = n := conj_len hpn
  refine ⟨hcl, fun x hx => ?_⟩
  have i0 := fz_in (xs := invL p) (by rw [invL_len, hpn]) (okP_inv hp) (x := (x : Int)) (by omega) (by omega)
  have e := fz_inv2 hpn hp (show (0 : Int) ≤ (x : Int) by omega) (by omega)
  obtain ⟨j, hj⟩ := Int.eq_ofNat_of_zero_le i0.1
  rw [hj] at e i0
  obtain ⟨k, hk, e1, e2⟩ := h.2 j (by omega)
  have hy := fz_in hpn hp (x := (k : Int)) (by omega) (by omega)
  obtain ⟨y, hyy⟩ := Int.eq_ofNat_of_zero_le hy.1
  have c1 := fz_conj h.1 hpn hm hp (x := (j : Int)) (by omega) (by omega)
  have c2 := fz_conj h.1 hpn hm hp (x := (k : Int)) (by omega) (by omega)
  rw [e, fz_at e1, hyy] at c1
  rw [hyy, fz_at e2, e] at c2
  refine ⟨y, by omega, ?_, ?_⟩
  · rw [get_fz hcl hx, c1]
  · rw [get_fz hcl (by omega), c2]
theorem ren_ok {xss : List (List Int)} {p : List Int} {n : Nat} (h : OkI n xss) (hpn : p.length = n) (hp : okP p = true) : OkI n (renM xss p) := by
  refine ⟨fun xs hx => ?_, h.n2, h.n4, by rw [renM_length]; exact h.r1, by rw [renM_length]; exact h.r5⟩
  obtain ⟨m, hm, rfl⟩ := List.mem_map.1 hx
  exact conj_invL (h.inv m hm) h.n4 hpn hp
theorem rows_holds {w : World} {F : Nat → Prop} {e n c : Nat} {A : Option Addr} {vals : List Value} {xss : List (List Int)} (h : (Pc.rows 2 e A n c vals xss).holds w F) : OwnSS w 0 w.heap.size e A n c xss := by
  obtain ⟨g1, g2, g3, g4, g5⟩ := h
  refine ⟨vals, g1, fun k hk => ⟨Nat.zero_le _, (g1.lt k hk).2⟩, g3, fun j xs hj => ?_, g5⟩
  obtain ⟨A', c', a1, a2, a3⟩ := g4 j xs hj
  exact ⟨A', c', a1, a2, fun k hk => ⟨Nat.zero_le _, (a2.lt k hk).2⟩⟩
theorem rows_rds {w : World} {F : Nat → Prop} {e n c : Nat} {A : Option Addr} {vals : List Value} {xss : List (List Int)} (h : (Pc.rows 2 e A n c vals xss).holds w F) : (Pc.rds A xss).holds w F := by
  have ho := rows_holds h
  obtain ⟨g1, g2, g3, g4, g5⟩ := h
  refine ⟨ownSS_rd ho, fun b o e hl => ?_, fun b o j A' m c' e hj hc b' o' e' hm => ?_⟩
  · obtain ⟨g, hg⟩ := own_shape g1 (by omega)
    rw [hg] at e
    simp only [Option.some.injEq, Addr.mk.injEq] at e
    obtain ⟨rfl, _, _⟩ := e
    exact g2 g (by rw [hg]; rfl)
  · obtain ⟨g, hg⟩ := own_shape g1 (by omega)
    subst hg
    simp only [Option.some.injEq, Addr.mk.injEq] at e
    obtain ⟨rfl, rfl, _⟩ := e
    rw [Nat.zero_add] at hc
    obtain ⟨A2, c2, a1, a2, a3⟩ := g4 j _ (List.getElem?_eq_getElem hj)
    rw [own_cell g1 a1] at hc
    simp only [Option.some.injEq, Value.slice.injEq] at hc
    obtain ⟨rfl, h2, _⟩ := hc
    obtain ⟨g', hg'⟩ := own_shape a2 (by omega)
    rw [hg'] at e'
    simp only [Option.some.injEq, Addr.mk.injEq] at e'
    obtain ⟨rfl, _, _⟩ := e'
    exact a3 g' (by rw [hg']; rfl)
theorem rows_rds1 {w : World} {F : Nat → Prop} {e n c g : Nat} {vals : List Value} {xss : List (List Int)} (h : (Pc.rows 2 e (some ⟨g, 0, none⟩) n c vals xss).holds w F) : (Pc.rds (some ⟨g, 1, none⟩) (xss.drop 1)).holds w F := by
  obtain ⟨h1, h2, h3⟩ := rows_rds h
  refine ⟨rdSS_drop (i := 1) h1, fun b o e hl => ?_, fun b o j A' m c' e hj hc b' o' e' hm => ?_⟩
  · simp only [Option.some.injEq, Addr.mk.injEq] at e
    obtain ⟨rfl, _, _⟩ := e
    exact h2 g 0 rfl (by simp at hl; omega)
  · simp only [Option.some.injEq, Addr.mk.injEq] at e
    obtain ⟨rfl, rfl, _⟩ := e
    simp at hj
    exact h3 g 0 (1 + j) A' m c' rfl (by omega) (by rw [Nat.zero_add]; exact hc) b' o' e' hm
theorem nil_rds {w : World} {F : Nat → Prop} (A : Option Addr) : (Pc.rds A []).holds w F :=
  ⟨⟨[], fun h => absurd h (by simp), rfl, fun j xs h => by simp at h⟩, fun b o _ h => absurd h (by simp), fun b o j A' m c _ h => absurd h (by simp)⟩

section
variable {A : Option Addr} {g n c : Nat} {bs : List Value}
set_option maxRecDepth 100000 in
set_option maxHeartbeats 3200000 in
theorem draw2P {most : Nat} (w : World) (hs : SrcE w g A n c bs) (hn : n ≤ 1048576) (h8 : 8 ≤ most) (h4 : most ≤ 400) :
    Calls Try.prog 155 #[.pointer (some ⟨g, 0, none⟩), .int .i64 most] w (RetDM w g A n c bs most) := by
  have S0 := Lib.hid ((St.start w).addBlk #[.slice none 0 0] 27)
  have D0 := Lib.hid (Dr.start hs)
  clear hs
  go_enter Try.func155, Try.ntmps155
  go_wp2_with fail
  refine (anyP _ (D0.out.now S0.out) hn h8 h4).mono ?_
  rintro e w1 ⟨wb0, A1, N, c1, m, vals, xss, rfl, hl, ok, hm, d1, st1⟩
  obtain ⟨wb1, d2, st2⟩ := D0.out.join S0.out d1 st1
  have hN1 := ok.r1
  have hN5 := ok.r5
  have hm1 := ok.n2
  have hm4 := ok.n4
  rw [hl] at hN1 hN5
  obtain ⟨gM, rfl⟩ := own_shape (st2.rows (i := 1) rfl) (show 0 < N by omega)
  have D1 := Lib.hid d2
  have S1 := Lib.hid (show St wb1 (w1.alloc (.cells #[.slice (some ⟨gM, 0, none⟩) N c1] 27)) [.blk w.heap.size #[.slice none 0 0] 27, .rows 2 36 (some ⟨gM, 0, none⟩) N c1 vals xss, .blk w1.heap.size #[.slice (some ⟨gM, 0, none⟩) N c1] 27] from st2.addBlk #[.slice (some ⟨gM, 0, none⟩) N c1] 27)
  have HL := Lib.hid hl
  have HO := Lib.hid ok
  clear d1 st1 d2 st2 hl ok S0 D0
  go_wp2_with fail
  refine (nextE (N := 4) _ (D1.out.now S1.out) hn (by omega)).mono ?_
  rintro e w2 ⟨r, rfl, ⟨h0r, h1r⟩, hs_, tu_⟩
  obtain ⟨wb2, d_, st_⟩ := D1.out.num S1.out hs_ tu_
  have D2 := Lib.hid d_
  have S2 := Lib.hid st_
  clear d_ st_ hs_ tu_
  by_cases hr : 0 < r
  · obtain ⟨x0, hx0⟩ : ∃ x0, xss[0]? = some x0 := ⟨_, List.getElem?_eq_getElem (by rw [HL.out]; omega)⟩
    have hlen := (HO.out.inv x0 (List.mem_of_getElem? hx0)).1
    have Sd := Lib.hid (S2.out.go (below_drewN (Below.refl _ _) 1))
    obtain ⟨A0, c0, hv0, ow0⟩ := Sd.out.rowAt (i := 1) rfl hx0
    rw [hlen] at hv0
    have HC0 := Lib.hid (own_cell (Sd.out.rows (i := 1) rfl) hv0)
    have x1 := (S2.out.blk (i := 2) rfl).cell (i := 0) rfl
    clear hx0 hv0 ow0
    go_wp2
    go_region_law ((first
      | (refine step_call rfl 87 #[.tmp 14] #[27] (by rfl) Try.func87 (by rfl) (by rfl) #[.agg #[.slice (some ⟨gM, 0, none⟩) N c1]] (by first | (simp [Act.eval]; done) | simp [Act.eval, Act.put]) _ (sFlags_bel (n := m) (c0 := c0) (A0 := A0) _ (by omega) HC0.out) ?_
         rintro e w3 ⟨rfl, bel⟩
         refine ⟨_, rfl, ?_⟩
         have S3 := Lib.hid (Sd.out.go bel)
         have y1 := (S3.out.blk (i := 2) rfl).cell (i := 0) rfl
         clear bel)
      | (refine step_call rfl 161 #[.tmp 13, .tmp 15] #[107, 2] (by rfl) Try.func161 (by rfl) (by rfl) #[.pointer (some ⟨g, 0, none⟩), .int .i64 m] (by first | (simp [Act.eval]; done) | simp [Act.eval, Act.put]) _ (drawP _ (D2.out.now S3.out) hn hm4) ?_
         rintro e w4 ⟨wb4, A4, c4, p, rfl, hpl, hpo, d4, st4⟩
         refine ⟨_, rfl, ?_⟩
         obtain ⟨wb5, d5, st5⟩ := D2.out.join S3.out d4 st4
         have D5 := Lib.hid d5
         have S5 := Lib.hid st5
         have HPL := Lib.hid hpl
         have HPO := Lib.hid hpo
         have z1 := (S5.out.blk (i := 2) rfl).cell (i := 0) rfl
         clear d4 st4 d5 st5 hpl hpo)
      | (refine step_call rfl 160 #[.tmp 12, .tmp 16] #[27, 36] (by rfl) Try.func160 (by rfl) (by rfl) #[.agg #[.slice (some ⟨gM, 0, none⟩) N c1], .slice A4 m c4] (by first | (simp [Act.eval]; done) | simp [Act.eval, Act.put]) _ (sren_any _ HL.out (ownSS_rd (S5.out.sep.ownSS (i := 1) rfl)) HO.out.sys HPL.out (own_rd (S5.out.own (i := 3) rfl)) HPO.out) ?_
         rintro e w6 ⟨A6, c6, rfl, own6, bel6⟩
         refine ⟨_, rfl, ?_⟩
         obtain ⟨vals6, st6⟩ := S5.out.addRows bel6 own6 (Nat.le_refl _) (Nat.le_refl _)
         have S6 := Lib.hid st6
         have z0 := (S6.out.blk (i := 0) rfl).cell (i := 0) rfl
         have f0 := (S6.out.blk (i := 0) rfl).free 0
         have HO6 := Lib.hid (ren_ok HO.out HPL.out HPO.out)
         clear own6 bel6 st6)))
    all_goals
      have hl6 : (renM xss p).length = N := by rw [renM_length, HL.out]
      rw [hl6] at S6 ⊢
      have HL6 := Lib.hid hl6
      have st4 := S6.out.blkSet (i := 0) rfl 0 (.slice A6 N c6)
      have y0 := (st4.blk (i := 0) rfl).cell (i := 0) rfl
      clear hl6
      go_wp2
      refine bodyPost_ret (v := .agg #[.slice A6 N c6]) (by simp [results, Try.results155, go_sem, y0]) rfl ⟨wb5, A6, N, c6, m, vals6, renM xss p, rfl, HL6.out, HO6.out, hm, D5.out, ?_⟩
      exact st4.pick (fun i => i + 4) (fun i hi => by simp at hi ⊢; omega) (fun i hi => by match i, hi with | 0, _ => rfl) (fun i j _ _ h => by omega)
  · have x1 := (S2.out.blk (i := 2) rfl).cell (i := 0) rfl
    have z0 := (S2.out.blk (i := 0) rfl).cell (i := 0) rfl
    have f0 := (S2.out.blk (i := 0) rfl).free 0
    go_wp2
    have st4 := S2.out.blkSet (i := 0) rfl 0 (.slice (some ⟨gM, 0, none⟩) N c1)
    have y0 := (st4.blk (i := 0) rfl).cell (i := 0) rfl
    refine bodyPost_ret (v := .agg #[.slice (some ⟨gM, 0, none⟩) N c1]) (by simp [results, Try.results155, go_sem, y0]) rfl ⟨wb2, some ⟨gM, 0, none⟩, N, c1, m, vals, xss, rfl, HL.out, HO.out, hm, D2.out, ?_⟩
    exact st4.pick (fun i => i + 1) (fun i hi => by simp at hi ⊢; omega) (fun i hi => by match i, hi with | 0, _ => rfl) (fun i j _ _ h => by omega)
end
end Go.Proofs.Ytmgoaabeopnopaa
/- spec.l02Spoil. -/
namespace Go.Proofs.Ytmgoaabeopnopaa
open Go.RowKit

/-- A drawn maniplex, or something that is none: it can be read. -/
def RetSp (w : World) (g : Nat) (A : Option Addr) (n c : Nat) (bs : List Value) (e : Ending) (w' : World) : Prop :=
  ∃ (wb : World) (A' : Option Addr) (N c' : Nat) (xss : List (List Int)), e = .returned (.agg #[.slice A' N c']) ∧ xss.length = N ∧ N ≤ 6 ∧ (∀ xs ∈ xss, xs.length ≤ 401) ∧ N ≤ c' ∧ c' ≤ 9223372036854775807 ∧ Dr g A n c bs w wb ∧ St wb w' [.rds A' xss]
theorem St.addLit3 {w0 w : World} {Ps : List Pc} (h : St w0 w Ps) (u v x : Value) (e : TypeId) : St w0 (w.alloc (.cells #[u, v, x] e)) (Ps ++ [.own e (some ⟨w.heap.size, 0, none⟩) 3 3 [u, v, x]]) :=
  h.addOwn (base := w.heap.size) ((Below.refl _ _).alloc (Nat.le_refl _) _) (by simpa using World.ownsRow_lit (base := w.heap.size) (e := e) (size := 1) w #[u, v, x] 3 (Nat.le_refl _) (by decide) (by simp)) (Nat.le_refl _)
theorem len_set {xss : List (List Int)} {k m B : Nat} {ys : List Int} (h : ∀ xs ∈ xss, xs.length ≤ B) (hy : ys.length ≤ B) (_hm : m = k) : ∀ xs ∈ xss.set k ys, xs.length ≤ B := fun xs hx => by
  rcases List.mem_or_eq_of_mem_set hx with h1 | h1
  · exact h xs h1
  · rw [h1]; exact hy
section
variable {A : Option Addr} {g n c : Nat} {bs : List Value}
set_option maxRecDepth 100000 in
set_option maxHeartbeats 6400000 in
theorem spoil2P {most : Nat} (w : World) (hs : SrcE w g A n c bs) (hn : n ≤ 1048576) (h8 : 8 ≤ most) (h4 : most ≤ 400) :
    Calls Try.prog 116 #[.pointer (some ⟨g, 0, none⟩), .int .i64 most] w (RetSp w g A n c bs) := by
  have S0 := Lib.hid ((St.start w).addBlk #[.slice none 0 0] 27)
  have D0 := Lib.hid (Dr.start hs)
  clear hs
  go_enter Try.func116, Try.ntmps116
  go_wp2_with fail
  refine (draw2P _ (D0.out.now S0.out) hn h8 h4).mono ?_
  rintro e w1 ⟨wb0, A1, N, c1, m, vals, xss, rfl, hl, ok, hm, d1, st1⟩
  obtain ⟨wb1, d2, st2⟩ := D0.out.join S0.out d1 st1
  have hN1 := ok.r1
  have hN5 := ok.r5
  have hm1 := ok.n2
  have hm4 := ok.n4
  rw [hl] at hN1 hN5
  obtain ⟨gM, rfl⟩ := own_shape (st2.rows (i := 1) rfl) (show 0 < N by omega)
  have D1 := Lib.hid d2
  have S1 := Lib.hid (show St wb1 (w1.alloc (.cells #[.slice (some ⟨gM, 0, none⟩) N c1] 27)) [.blk w.heap.size #[.slice none 0 0] 27, .rows 2 36 (some ⟨gM, 0, none⟩) N c1 vals xss, .blk w1.heap.size #[.slice (some ⟨gM, 0, none⟩) N c1] 27] from st2.addBlk #[.slice (some ⟨gM, 0, none⟩) N c1] 27)
  have HL := Lib.hid hl
  have HO := Lib.hid ok
  have HR := Lib.hid (show ∀ xs ∈ xss, xs.length ≤ 401 from fun xs hx => by have := (ok.inv xs hx).1; omega)
  have hcp := ownSS_cap (st2.sep.ownSS (i := 1) rfl)
  obtain ⟨x0, hx0⟩ : ∃ x0, xss[0]? = some x0 := ⟨_, List.getElem?_eq_getElem (by omega)⟩
  have hlen := (ok.inv x0 (List.mem_of_getElem? hx0)).1
  obtain ⟨A0, c0, hv0, ow0⟩ := S1.out.rowAt (i := 1) rfl hx0
  rw [hlen] at hv0
  have hc0 := own_cell (S1.out.rows (i := 1) rfl) hv0
  have hbx := (S1.out.blk (i := 2) rfl).cell (i := 0) rfl
  have HX0 := Lib.hid hx0
  have HLEN := Lib.hid hlen
  have HV0 := Lib.hid hv0
  clear d1 st1 d2 st2 hl ok S0 D0 hx0 hlen hv0 ow0
  go_wp2_with fail
  refine (sFlags_bel (n := m) (c0 := c0) (A0 := A0) _ (by omega) hc0).mono ?_
  rintro e w2 ⟨rfl, bel⟩
  have S2 := Lib.hid (S1.out.go bel)
  clear bel hbx hc0 S1
  go_wp2_with fail
  refine (nextE (N := 40) _ (D1.out.now S2.out) hn (by omega)).mono ?_
  rintro e w3 ⟨r, rfl, ⟨h0r, h1r⟩, hs_, tu_⟩
  obtain ⟨wb3, d_, st_⟩ := D1.out.num S2.out hs_ tu_
  obtain ⟨r, rfl⟩ := Int.eq_ofNat_of_zero_le h0r
  have D3 := Lib.hid d_
  have S3 := Lib.hid st_
  clear d_ st_ hs_ tu_ D1 S2
  have hNp : 0 < N := hN1
  by_cases e0 : r = 0
  · subst e0
    have Sd := Lib.hid (S3.out.go (below_drewN (Below.refl _ _) 1))
    have Sl := Lib.hid (Sd.out.addLit3 (.int .i64 (-1)) (.int .i64 m) (.int .i64 0) 2)
    have xb := (S3.out.blk (i := 2) rfl).cell (i := 0) rfl
    have xl := cell_al xb (.cells #[.int .i64 (-1), .int .i64 (m : Int), .int .i64 0] 2)
    have hb0 := own_cell (S3.out.rows (i := 1) rfl) HV0.out
    have hl0 := cell_al hb0 (.cells #[.int .i64 (-1), .int .i64 (m : Int), .int .i64 0] 2)
    have mI : (1 : Int) ≤ (m : Int) := by omega
    go_wp2
    go_region_law ((first
      | (refine step_call rfl 114 #[.tmp 20, .tmp 21] #[107, 2] (by rfl) Try.func114 (by rfl) (by rfl) #[.pointer (some ⟨g, 0, none⟩), .int .i64 m] (by first | (simp [Act.eval]; done) | simp [Act.eval, Act.put]) _ (nextE (N := m) _ (D3.out.now Sd.out) hn mI) ?_
         rintro e w4 ⟨k, rfl, ⟨h0k, h1k⟩, hs_, tu_⟩
         refine ⟨_, rfl, ?_⟩
         obtain ⟨wb4, d_, st_⟩ := D3.out.num Sd.out hs_ tu_
         obtain ⟨k, rfl⟩ := Int.eq_ofNat_of_zero_le h0k
         have D4 := Lib.hid d_
         have S4 := Lib.hid (st_.addLit3 (.int .i64 (-1)) (.int .i64 m) (.int .i64 0) 2)
         have x4 := (st_.blk (i := 2) rfl).cell (i := 0) rfl
         have h4' := own_cell (st_.rows (i := 1) rfl) HV0.out
         have x4l := cell_al x4 (.cells #[.int .i64 (-1), .int .i64 (m : Int), .int .i64 0] 2)
         have h4l := cell_al h4' (.cells #[.int .i64 (-1), .int .i64 (m : Int), .int .i64 0] 2)
         have Q4 := Lib.hid (show ∀ b o, some (⟨w4.heap.size, 0, none⟩ : Addr) = some ⟨b, o, none⟩ → b < g ∨ g + 1 ≤ b from fun b o e => by
           have h1 := (D4.out.now st_).lt
           simp at e
           omega)
         clear d_ st_ hs_ tu_)
      | (refine step_call rfl 114 #[.tmp 20, .tmp 21] #[107, 2] (by rfl) Try.func114 (by rfl) (by rfl) #[.pointer (some ⟨g, 0, none⟩), .int .i64 m] (by first | (simp [Act.eval]; done) | simp [Act.eval, Act.put]) _ (nextE (N := m) _ (D3.out.now Sl.out) hn mI) ?_
         rintro e w4 ⟨k, rfl, ⟨h0k, h1k⟩, hs_, tu_⟩
         refine ⟨_, rfl, ?_⟩
         obtain ⟨wb4, d_, st_⟩ := D3.out.num Sl.out hs_ tu_
         obtain ⟨k, rfl⟩ := Int.eq_ofNat_of_zero_le h0k
         have D4 := Lib.hid d_
         have S4 := Lib.hid st_
         have x4 := (st_.blk (i := 2) rfl).cell (i := 0) rfl
         have h4' := own_cell (st_.rows (i := 1) rfl) HV0.out
         have Q4 := Lib.hid (show ∀ b o, some (⟨w3.heap.size, 0, none⟩ : Addr) = some ⟨b, o, none⟩ → b < g ∨ g + 1 ≤ b from fun b o e => by
           have h1 := (D3.out.now S3.out).lt
           simp at e
           omega)
         clear d_ st_ hs_ tu_)
      | (refine step_call rfl 117 #[.tmp 23, .tmp 25] #[107, 36] (by rfl) Try.func117 (by rfl) (by rfl) #[.pointer (some ⟨g, 0, none⟩), .slice (some ⟨w4.heap.size, 0, none⟩) 3 3] (by first | (simp [Act.eval]; done) | simp [Act.eval, Act.put]) _ (pickE (m := 3) (c2 := 3) (xs := [-1, (m : Int), 0]) _ (D4.out.now S4.out) hn rfl (by decide) (by decide) (own_rd (S4.out.own (i := 3) rfl)) Q4.out) ?_
         rintro e w5 ⟨z, rfl, _, hs_, tu_⟩
         refine ⟨_, rfl, ?_⟩
         obtain ⟨wb5, d_, st_⟩ := D4.out.num S4.out hs_ tu_
         have D5 := Lib.hid d_
         have S5 := Lib.hid st_
         have x5 := (st_.blk (i := 2) rfl).cell (i := 0) rfl
         have h5' := own_cell (st_.rows (i := 1) rfl) HV0.out
         clear d_ st_ hs_ tu_
         obtain ⟨A0', c0', hv5, ow5⟩ := S5.out.rowAt (i := 1) rfl HX0.out
         rw [HLEN.out, HV0.out] at hv5
         simp only [Option.some.injEq, Value.slice.injEq, true_and] at hv5
         obtain ⟨rfl, rfl⟩ := hv5
         rw [HLEN.out] at ow5
         obtain ⟨g0, rfl⟩ := own_shape ow5 hm1
         obtain ⟨u, hu⟩ := ints_at HLEN.out (Int.ofNat_lt.1 h1k)
         have c5 := own_cell ow5 hu
         have f5 := ow5.frozenAt k
         have HOW := Lib.hid (ow5.stored k (.int .i64 z))
         rw [ints_set] at HOW
         clear hu ow5)
      | (refine step_call rfl 117 #[.tmp 23, .tmp 25] #[107, 36] (by rfl) Try.func117 (by rfl) (by rfl) #[.pointer (some ⟨g, 0, none⟩), .slice (some ⟨w3.heap.size, 0, none⟩) 3 3] (by first | (simp [Act.eval]; done) | simp [Act.eval, Act.put]) _ (pickE (m := 3) (c2 := 3) (xs := [-1, (m : Int), 0]) _ (D4.out.now S4.out) hn rfl (by decide) (by decide) (own_rd (S4.out.own (i := 3) rfl)) Q4.out) ?_
         rintro e w5 ⟨z, rfl, _, hs_, tu_⟩
         refine ⟨_, rfl, ?_⟩
         obtain ⟨wb5, d_, st_⟩ := D4.out.num S4.out hs_ tu_
         have D5 := Lib.hid d_
         have S5 := Lib.hid st_
         have x5 := (st_.blk (i := 2) rfl).cell (i := 0) rfl
         have h5' := own_cell (st_.rows (i := 1) rfl) HV0.out
         clear d_ st_ hs_ tu_
         obtain ⟨A0', c0', hv5, ow5⟩ := S5.out.rowAt (i := 1) rfl HX0.out
         rw [HLEN.out, HV0.out] at hv5
         simp only [Option.some.injEq, Value.slice.injEq, true_and] at hv5
         obtain ⟨rfl, rfl⟩ := hv5
         rw [HLEN.out] at ow5
         obtain ⟨g0, rfl⟩ := own_shape ow5 hm1
         obtain ⟨u, hu⟩ := ints_at HLEN.out (Int.ofNat_lt.1 h1k)
         have c5 := own_cell ow5 hu
         have f5 := ow5.frozenAt k
         have HOW := Lib.hid (ow5.stored k (.int .i64 z))
         rw [ints_set] at HOW
         clear hu ow5)))
    all_goals
      have S6 := Lib.hid (S5.out.rowWrite (i := 1) rfl (by decide) HX0.out (by rw [HLEN.out]; exact HV0.out) (Below.refl _ _) (ys := x0.set k z) (by simp) (by rw [HLEN.out]; exact HOW.out.1) (by rw [HLEN.out]; exact HOW.out.2))
      have HR6 := Lib.hid (len_set (k := 0) (ys := x0.set k z) HR.out (by simp [HLEN.out]; omega) rfl)
      have z0 := (S6.out.blk (i := 0) rfl).cell (i := 0) rfl
      have f0 := (S6.out.blk (i := 0) rfl).free 0
      have m0 := (S6.out.blk (i := 2) rfl).cell (i := 0) rfl
      go_wp2
      have st4 := S6.out.blkSet (i := 0) rfl 0 (.slice (some ⟨gM, 0, none⟩) (N) (c1))
      have y0 := (st4.blk (i := 0) rfl).cell (i := 0) rfl
      refine bodyPost_ret (v := .agg #[.slice (some ⟨gM, 0, none⟩) (N) (c1)]) (by simp [results, Try.results116, go_sem, y0]) rfl ⟨_, some ⟨gM, 0, none⟩, N, c1, xss.set 0 (x0.set k z), rfl, by rw [List.length_set, HL.out], by omega, HR6.out, hcp.1, hcp.2, D5.out, ?_⟩
      exact (st4.less (i := 1) rfl (fun F h => rows_rds h)).pick (fun i => i + 1) (fun i hi => by simp at hi ⊢; omega) (fun i hi => by match i, hi with | 0, _ => rfl) (fun i j _ _ h => by omega)
  have n0 : ((r : Int) == 0) = false := by rw [beq_eq_false_iff_ne]; omega
  by_cases e1 : r = 1
  · subst e1
    have Sd := Lib.hid (S3.out.go (below_drewN (Below.refl _ _) 1))
    have xb := (S3.out.blk (i := 2) rfl).cell (i := 0) rfl
    go_wp2
    go_region_law ((first
      | (refine step_call rfl 154 #[.tmp 32, .tmp 33] #[107, 2] (by rfl) Try.func154 (by rfl) (by rfl) #[.pointer (some ⟨g, 0, none⟩), .int .i64 m] (by first | (simp [Act.eval]; done) | simp [Act.eval, Act.put]) _ (matchP _ (D3.out.now Sd.out) hn hm4) ?_
         rintro e w4 ⟨wb4, A4, c4, p, rfl, hpl, _, d4, st4⟩
         refine ⟨_, rfl, ?_⟩
         obtain ⟨wb5, d5, st5⟩ := D3.out.join Sd.out d4 st4
         have D5 := Lib.hid d5
         have S5 := Lib.hid st5
         have HPL := Lib.hid hpl
         have z1 := (S5.out.blk (i := 2) rfl).cell (i := 0) rfl
         have z1l := cell_al z1 (.cells #[.slice A4 m c4] 36)
         have hlo := S5.out.lo
         clear d4 st4 d5 st5 hpl)
      | (refine step_push_h rfl (.tmp 31) (.tmp 35) 22 36 (by rfl) Try.underlying22 (.slice none 0 0) 24 Try.infoS rfl w4.heap.size (by rfl) wb5.heap.size (.slice (some ⟨gM, 0, none⟩) N c1) N _ (by rfl) (S5.out.rows (i := 1) rfl) (.slice A4 m c4) (by rfl) (by rfl) (Nat.le_trans (Nat.mul_le_mul_right 24 (Nat.succ_le_succ hN5)) (by decide)) (Nat.le_trans (Nat.succ_le_succ hN5) (by decide)) hlo ?_
         intro A7 c7 w7 own7 gr7 hat7
         have S7 := Lib.hid (S5.out.rowPush (i := 1) (j := 3) rfl rfl HPL.out (by decide) (by decide) own7 gr7 hat7)
         have z7 := (S7.out.blk (i := 2) rfl).cell (i := 0) rfl
         have f7 := (S7.out.blk (i := 2) rfl).free 0
         clear own7 gr7 hat7)))
    all_goals
      have S8 := Lib.hid (S7.out.blkSet (i := 2) rfl 0 (.slice A7 (N + 1) c7))
      have hcp8 := ownSS_cap (S8.out.sep.ownSS (i := 1) rfl)
      have HR8 := Lib.hid (show ∀ xs ∈ xss ++ [p], xs.length ≤ 401 from fun xs hx => by
        rcases List.mem_append.1 hx with h1 | h1
        · exact HR.out xs h1
        · simp at h1
          subst h1
          have := HPL.out
          omega)
      have z0 := (S8.out.blk (i := 0) rfl).cell (i := 0) rfl
      have f0 := (S8.out.blk (i := 0) rfl).free 0
      have m0 := (S8.out.blk (i := 2) rfl).cell (i := 0) rfl
      go_wp2
      have st4 := S8.out.blkSet (i := 0) rfl 0 (.slice (A7) (N + 1) (c7))
      have y0 := (st4.blk (i := 0) rfl).cell (i := 0) rfl
      refine bodyPost_ret (v := .agg #[.slice (A7) (N + 1) (c7)]) (by simp [results, Try.results116, go_sem, y0]) rfl ⟨_, A7, N + 1, c7, xss ++ [p], rfl, by simp [HL.out], by omega, HR8.out, hcp8.1, hcp8.2, D5.out, ?_⟩
      exact (st4.less (i := 1) rfl (fun F h => rows_rds h)).pick (fun i => i + 1) (fun i hi => by simp at hi ⊢; omega) (fun i hi => by match i, hi with | 0, _ => rfl) (fun i j _ _ h => by omega)
  have n1 : ((r : Int) == 1) = false := by rw [beq_eq_false_iff_ne]; omega
  by_cases e2 : r = 2
  · subst e2
    have S4 := Lib.hid (S3.out.al (.cells #[] 36))
    have z4 := (S4.out.blk (i := 2) rfl).cell (i := 0) rfl
    have f4 := (S4.out.blk (i := 2) rfl).free 0
    have S5 := Lib.hid (S4.out.blkSet (i := 2) rfl 0 (.slice (some ⟨w3.heap.size, 0, none⟩) 0 0))
    have z0 := (S5.out.blk (i := 0) rfl).cell (i := 0) rfl
    have f0 := (S5.out.blk (i := 0) rfl).free 0
    have m0 := (S5.out.blk (i := 2) rfl).cell (i := 0) rfl
    go_wp2
    have st4 := S5.out.blkSet (i := 0) rfl 0 (.slice (some ⟨w3.heap.size, 0, none⟩) (0) (0))
    have y0 := (st4.blk (i := 0) rfl).cell (i := 0) rfl
    refine bodyPost_ret (v := .agg #[.slice (some ⟨w3.heap.size, 0, none⟩) (0) (0)]) (by simp [results, Try.results116, go_sem, y0]) rfl ⟨_, some ⟨w3.heap.size, 0, none⟩, 0, 0, [], rfl, rfl, by decide, fun xs hx => by simp at hx, Nat.le_refl _, by decide, D3.out, ?_⟩
    exact (st4.less (i := 1) rfl (fun F _ => nil_rds _)).pick (fun i => i + 1) (fun i hi => by simp at hi ⊢; omega) (fun i hi => by match i, hi with | 0, _ => rfl) (fun i j _ _ h => by omega)
  have n2 : ((r : Int) == 2) = false := by rw [beq_eq_false_iff_ne]; omega
  by_cases e3 : r = 3
  · subst e3
    obtain ⟨A0', c0', hv5, ow5⟩ := S3.out.rowAt (i := 1) rfl HX0.out
    rw [HLEN.out, HV0.out] at hv5
    simp only [Option.some.injEq, Value.slice.injEq, true_and] at hv5
    obtain ⟨rfl, rfl⟩ := hv5
    rw [HLEN.out] at ow5
    have hc1 := own_cell (S3.out.rows (i := 1) rfl) HV0.out
    have xb := (S3.out.blk (i := 2) rfl).cell (i := 0) rfl
    have hlo := S3.out.lo
    have Sd := Lib.hid (S3.out.go (below_drewN (Below.refl _ _) 1))
    have OWd := Lib.hid (own_below ow5 (below_drewN (Below.refl _ _) 1) (Nat.le_refl _))
    have HV := Lib.hid (show vals[0]? = some (Value.slice A0 x0.length c0) by rw [HLEN.out]; exact HV0.out)
    have HCAT := Lib.hid (show ints (x0 ++ [(m : Int)]) = ints x0 ++ [.int .i64 (m : Int)] by simp)
    have HLN := Lib.hid (show (x0 ++ [(m : Int)]).length = m + 1 by simp [HLEN.out])
    obtain ⟨i0, hi0, hz0', hz1, hz2⟩ := info_parts Try.info2
    have hnews : ∀ (j : Nat) (u : Value), ([.int .i64 (m : Int)] : List Value)[j]? = some u → ((w3.drewN 1).alloc (.cells #[.int .i64 (m : Int)] 2)).cell? ((⟨w3.heap.size, 0, none⟩ : Addr).add j) = some u := by
      intro j y hj
      match j, hj with
      | 0, hj =>
        simp at hj
        subst hj
        have := (Blk.new (w3.drewN 1) #[.int .i64 (m : Int)] 2).cell (i := 0) rfl
        simpa [Addr.add] using this
    have hone : ∀ u ∈ ([.int .i64 (m : Int)] : List Value), u.oneCell' = true := by
      intro y hy
      simp at hy
      subst hy
      rfl
    have HNEWS := Lib.hid hnews
    have HONE := Lib.hid hone
    have h63 : m + 1 ≤ maxLen := by unfold maxLen; omega
    have hc3 := cell_al hc1 (.cells #[.int .i64 (m : Int)] 2)
    have xb3 := cell_al xb (.cells #[.int .i64 (m : Int)] 2)
    clear ow5 hnews hone
    go_wp2
    go_region_law ((refine step_append_lies _ (by rfl) _ _ 36 (by rfl) wb3.heap.size 2 i0 (.int .i64 0) 1 8 Try.underlying36 hi0 hz0' hz1 hz2 (by rfl) (by decide) (.slice A0 m c0) m _ (by rfl) (OWd.out.alloc _) ⟨w3.heap.size, 0, none⟩ 1 1 [.int .i64 (m : Int)] (by rfl) (by rfl) HNEWS.out HONE.out (by omega) h63 (by omega) (by simp; omega) (w3.heap.size + 1) (by simp) ?_; intro gg cap w4 own4 gr4 hat4 hlt4; have F4 := Sd.out.rowBlk (i := 1) (j := 2) rfl HX0.out HV.out rfl (by decide) (below1 _ _) (by rw [HLEN.out]; exact gr4); have p4 := F4.cell (i := 0) rfl; obtain ⟨NS, fz, cl⟩ := Sd.out.rowTurn (i := 1) rfl (by decide) HX0.out HV.out (below1 _ _) HLN.out (by rw [HCAT.out]; exact own4) (by rw [HLEN.out]; exact gr4) (by rw [HLEN.out]; rcases hat4 with h | h; exact .inl h.symm; exact .inr (fun b hb => by simp [Value.ownBlock] at hb; show w3.heap.size ≤ b; omega)); rw [HLEN.out] at cl))
    all_goals
      have S6 := Lib.hid NS
      have HR6 := Lib.hid (len_set (k := 0) (ys := x0 ++ [(m : Int)]) HR.out (by rw [HLN.out]; omega) rfl)
      clear NS own4 gr4 hat4
      have z0 := (S6.out.blk (i := 0) rfl).cell (i := 0) rfl
      have f0 := (S6.out.blk (i := 0) rfl).free 0
      have m0 := (S6.out.blk (i := 2) rfl).cell (i := 0) rfl
      go_wp2
      have st4 := S6.out.blkSet (i := 0) rfl 0 (.slice (some ⟨gM, 0, none⟩) (N) (c1))
      have y0 := (st4.blk (i := 0) rfl).cell (i := 0) rfl
      refine bodyPost_ret (v := .agg #[.slice (some ⟨gM, 0, none⟩) (N) (c1)]) (by simp [results, Try.results116, go_sem, y0]) rfl ⟨_, some ⟨gM, 0, none⟩, N, c1, xss.set 0 (x0 ++ [(m : Int)]), rfl, by rw [List.length_set, HL.out], by omega, HR6.out, hcp.1, hcp.2, D3.out, ?_⟩
      exact (st4.less (i := 1) rfl (fun F h => rows_rds h)).pick (fun i => i + 1) (fun i hi => by simp at hi ⊢; omega) (fun i hi => by match i, hi with | 0, _ => rfl) (fun i j _ _ h => by omega)
  have n3 : ((r : Int) == 3) = false := by rw [beq_eq_false_iff_ne]; omega
  by_cases e4 : r = 4
  · subst e4
    have z4 := (S3.out.blk (i := 2) rfl).cell (i := 0) rfl
    have f4 := (S3.out.blk (i := 2) rfl).free 0
    by_cases hc : c1 = 1
    · subst hc
      obtain rfl : N = 1 := by omega
      have S5 := Lib.hid (S3.out.blkSet (i := 2) rfl 0 (.slice (some ⟨gM, 0, none⟩) 0 0))
      have z0 := (S5.out.blk (i := 0) rfl).cell (i := 0) rfl
      have f0 := (S5.out.blk (i := 0) rfl).free 0
      have m0 := (S5.out.blk (i := 2) rfl).cell (i := 0) rfl
      go_wp2
      have st4 := S5.out.blkSet (i := 0) rfl 0 (.slice (some ⟨gM, 0, none⟩) (0) (0))
      have y0 := (st4.blk (i := 0) rfl).cell (i := 0) rfl
      refine bodyPost_ret (v := .agg #[.slice (some ⟨gM, 0, none⟩) (0) (0)]) (by simp [results, Try.results116, go_sem, y0]) rfl ⟨_, some ⟨gM, 0, none⟩, 0, 0, [], rfl, rfl, by decide, fun xs hx => by simp at hx, Nat.le_refl _, by decide, D3.out, ?_⟩
      exact (st4.less (i := 1) rfl (fun F _ => nil_rds _)).pick (fun i => i + 1) (fun i hi => by simp at hi ⊢; omega) (fun i hi => by match i, hi with | 0, _ => rfl) (fun i j _ _ h => by omega)
    · have hc2 : 1 < c1 := by omega
      have S5 := Lib.hid (S3.out.blkSet (i := 2) rfl 0 (.slice (some ⟨gM, 1, none⟩) (N - 1) (c1 - 1)))
      have z0 := (S5.out.blk (i := 0) rfl).cell (i := 0) rfl
      have f0 := (S5.out.blk (i := 0) rfl).free 0
      have m0 := (S5.out.blk (i := 2) rfl).cell (i := 0) rfl
      go_wp2
      have st4 := S5.out.blkSet (i := 0) rfl 0 (.slice (some ⟨gM, 1, none⟩) (N - 1) (c1 - 1))
      have y0 := (st4.blk (i := 0) rfl).cell (i := 0) rfl
      refine bodyPost_ret (v := .agg #[.slice (some ⟨gM, 1, none⟩) (N - 1) (c1 - 1)]) (by simp [results, Try.results116, go_sem, y0]) rfl ⟨_, some ⟨gM, 1, none⟩, N - 1, c1 - 1, xss.drop 1, rfl, by rw [List.length_drop, HL.out], by omega, fun xs hx => HR.out xs (List.mem_of_mem_drop hx), by omega, by omega, D3.out, ?_⟩
      exact (st4.less (i := 1) rfl (fun F h => rows_rds1 h)).pick (fun i => i + 1) (fun i hi => by simp at hi ⊢; omega) (fun i hi => by match i, hi with | 0, _ => rfl) (fun i j _ _ h => by omega)
  have n4 : ((r : Int) == 4) = false := by rw [beq_eq_false_iff_ne]; omega
  have z0 := (S3.out.blk (i := 0) rfl).cell (i := 0) rfl
  have f0 := (S3.out.blk (i := 0) rfl).free 0
  have m0 := (S3.out.blk (i := 2) rfl).cell (i := 0) rfl
  go_wp2
  have st4 := S3.out.blkSet (i := 0) rfl 0 (.slice (some ⟨gM, 0, none⟩) (N) (c1))
  have y0 := (st4.blk (i := 0) rfl).cell (i := 0) rfl
  refine bodyPost_ret (v := .agg #[.slice (some ⟨gM, 0, none⟩) (N) (c1)]) (by simp [results, Try.results116, go_sem, y0]) rfl ⟨_, some ⟨gM, 0, none⟩, N, c1, xss, rfl, HL.out, by omega, HR.out, hcp.1, hcp.2, D3.out, ?_⟩
  exact (st4.less (i := 1) rfl (fun F h => rows_rds h)).pick (fun i => i + 1) (fun i hi => by simp at hi ⊢; omega) (fun i hi => by match i, hi with | 0, _ => rfl) (fun i j _ _ h => by omega)
end
end Go.Proofs.Ytmgoaabeopnopaa
/- What the laws over drawn maniplexes begin with. -/
namespace Go.Proofs.Ytmgoaabeopnopaa
open Go.RowKit

theorem isRow_u8 {w : World} {a : Option Addr} {len cap : Nat} {zs : List Int} (h : IsRow .u8 w a len cap zs) :
    ∃ bs : List Value, bs.length = len ∧ Rd w a bs ∧ ∀ v ∈ bs, ∃ x : Nat, v = .int .u8 x ∧ x < 256 := by
  rcases h with ⟨rfl, rfl, rfl, rfl⟩ | ⟨x, rfl, hl, hm, hz, hc, hw⟩
  · exact ⟨[], rfl, Rd.nil, by simp⟩
  · refine ⟨(zs.take len).map fun z => .int .u8 z, by simp; omega, fun hp => ?_, fun v hv => ?_⟩
    · obtain ⟨b, o, s⟩ := x
      have h0 := hc 0 (by simp at hp; omega)
      have hs : s = none := by simpa [Addr.add] using World.cell?_spot h0
      subst hs
      refine ⟨b, o, rfl, fun k u hu => ?_⟩
      have hk : k < len ∧ k < zs.length := by
        have := (List.getElem?_eq_some_iff.1 hu).1
        simp at this
        omega
      have hck := hc k hk.2
      simp [hk.1, hk.2] at hu
      rw [← hu]
      rw [Addr.add_lit] at hck
      simpa [List.getD, hk.2] using hck
    · obtain ⟨z, hz2, rfl⟩ := List.mem_map.1 hv
      have h1 := hw z (List.mem_of_mem_take hz2)
      have h2 : IntKind.u8.min ≤ z ∧ z ≤ IntKind.u8.max := by simpa [Lit.wf] using h1
      have h3 : IntKind.u8.min = 0 := by decide
      have h4 : IntKind.u8.max = 255 := by decide
      rw [h3, h4] at h2
      exact ⟨z.toNat, by rw [Int.toNat_of_nonneg h2.1], by omega⟩
/-- A drawn maniplex, or something that is none. -/
def RetX (w : World) (e : Ending) (w' : World) : Prop :=
  ∃ (A' : Option Addr) (N c' : Nat) (xss : List (List Int)), e = .returned (.agg #[.slice A' N c']) ∧ xss.length = N ∧ N ≤ 6 ∧ (∀ xs ∈ xss, (xs.length : Int) ≤ 1048576) ∧ N ≤ c' ∧ c' ≤ 9223372036854775807 ∧ RdSS w' A' xss ∧ Below w.heap.size w w'
theorem rds_set {w : World} {lo H k : Nat} {A : Option Addr} {xss : List (List Int)} {v : Value} (h : Sep w lo [.rds A xss]) (hH : H < lo) : RdSS (w.setCell ⟨H, k, none⟩ v) A xss := by
  obtain ⟨F, h1, h2⟩ := h.piece (i := 0) rfl
  have h3 := (Pc.rds A xss).kept h1 (w' := w.setCell ⟨H, k, none⟩ v) fun b hb => by
    have := (h2 b hb).1
    have hne : H ≠ b := by omega
    simp [World.setCell, Array.getElem?_modify, hne]
  exact h3.1
section
variable {A : Option Addr} {n c : Nat} {bs : List Value}
end
theorem flags5_any {b o c N n c0 : Nat} {A0 : Option Addr} (w : World) (hN : 0 < N) (h0 : w.cell? ⟨b, o, none⟩ = some (.slice A0 n c0)) :
    Calls Try.prog 51 #[.agg #[.slice (some ⟨b, o, none⟩) N c]] w fun e w' => e = .returned (.int .i64 n) ∧ Below w.heap.size w w' := by
  have hlt := World.block_lt_of_cell? w _ h0
  have hNe : ((N : Int) == 0) = false := by rw [beq_eq_false_iff_ne]; omega
  go_enter Try.func51, Try.ntmps51
  go_wp2
  go_ret
  exact ⟨rfl, below1 _ _⟩
end Go.Proofs.Ytmgoaabeopnopaa
