import Derived.Test.YtjkddoiacifhpaaDraw
namespace Go.Proofs.Ytjkddoiacifhpaa
open Go.RowKit
section
variable {A : Option Addr} {g n c : Nat} {bs : List Value}
theorem DSt.alloc {w wr : World} {A' : Option Addr} {N c' : Nat} {L : List Int} (h : DSt w wr g A n c bs A' N c' L) (o : Obj) : DSt w (wr.alloc o) g A n c bs A' N c' L :=
  ⟨h.len, h.own.alloc o, h.src.turns (lo := wr.heap.size) (hi := wr.heap.size) (Turns.of_below ((Below.refl _ _).alloc (Nat.le_refl _) o) (Nat.le_refl _)) h.src.lt, turns_alloc h.tu o, h.lt⟩
theorem SrcE.alloc {w : World} (h : SrcE w g A n c bs) (o : Obj) : SrcE (w.alloc o) g A n c bs :=
  h.turns (lo := w.heap.size) (hi := w.heap.size) (Turns.of_below ((Below.refl _ _).alloc (Nat.le_refl _) o) (Nat.le_refl _)) h.lt
/-- A literal list, just made. -/
theorem lit_rd (w : World) (xs : List Int) (t : TypeId) : Rd (w.alloc (.cells (ints xs).toArray t)) (some ⟨w.heap.size, 0, none⟩) (ints xs) := fun _ =>
  ⟨w.heap.size, 0, rfl, fun k u hu => by simp at hu; simp [hu]⟩

set_option maxHeartbeats 1600000 in
theorem spoilE {N : Nat} (w : World) (hs : SrcE w g A n c bs) (hn : n ≤ 1048576) (hN : N ≤ 1048576) :
    Calls Try.prog 159 #[.pointer (some ⟨g, 0, none⟩), .int .i64 N] w (RetL w g A n c bs N) := by
  have HS := Lib.hid hs
  have hlt := hs.lt
  clear hs
  by_cases h0 : N = 0
  · subst h0
    go_enter Try.func159, Try.ntmps159
    go_wp2_with fail
    refine (drawE (N := 0) w HS.out hn hN).mono ?_
    rintro e w1 ⟨A1, c1, L, rfl, hL, own, hs1, tu⟩
    have HL := Lib.hid hL
    have OWN := Lib.hid own
    have HS1 := Lib.hid hs1
    have TU := Lib.hid tu
    clear hL own hs1 tu
    go_wp2
    go_ret
    exact ⟨A1, c1, L, rfl, HL.out, OWN.out, HS1.out, TU.out⟩
  have hpos : 0 < (N : Int) := by omega
  go_enter Try.func159, Try.ntmps159
  go_wp2_with fail
  refine (drawE w HS.out hn hN).mono ?_
  rintro e w1 ⟨A1, c1, L, rfl, hL, own, hs1, tu⟩
  obtain ⟨b, rfl⟩ := own_shape own (by omega)
  have S := Lib.hid (show DSt w w1 g A n c bs _ N c1 L from ⟨hL, own, hs1, tu, hlt⟩)
  clear hL own hs1 tu
  go_wp2_with fail
  refine (nextE w1 S.out.src hn (by omega)).mono ?_
  rintro e w2 ⟨r, rfl, _, hs2, tu2⟩
  have S2 := Lib.hid (S.out.next hs2 tu2)
  clear hs2 tu2
  by_cases hr : r = 0
  · subst hr
    go_wp2_with fail
    refine (nextE w2 S2.out.src hn (by omega)).mono ?_
    rintro e w3 ⟨r, rfl, ⟨hr0, hr1⟩, hs3, tu3⟩
    obtain ⟨k, rfl⟩ := Int.eq_ofNat_of_zero_le hr0
    have S3 := Lib.hid ((S2.out.next hs3 tu3).alloc (.cells #[.int .i64 (-1), .int .i64 N, .int .i64 0, .int .i64 1099511627776] 2))
    have hg3 := hs3.lt
    clear hs3 tu3
    go_wp2_with fail
    refine (pickE (m := 4) (xs := [-1, (N : Int), 0, 1099511627776]) _ S3.out.src hn rfl (by omega) (by omega) (lit_rd w3 _ _) (fun b o e => by simp at e; omega)).mono ?_
    rintro e w4 ⟨x, rfl, _, hs4, tu4⟩
    have S4 := Lib.hid (S3.out.next hs4 tu4)
    clear hs4 tu4
    obtain ⟨z, hz⟩ := ints_at S4.out.len (show k < N by omega)
    have hcz := own_cell S4.out.own hz
    have hfz := S4.out.own.frozenAt k
    have S5 := Lib.hid (S4.out.set (k := k) (x := x))
    clear hz
    go_wp2
    go_ret
    exact ⟨_, c1, _, rfl, S5.out.len, S5.out.own, S5.out.src, S5.out.tu⟩
  · have hne : (r == 0) = false := by rw [beq_eq_false_iff_ne]; exact hr
    go_wp2
    go_ret
    exact ⟨_, c1, L, rfl, S2.out.len, S2.out.own, S2.out.src, S2.out.tu⟩

set_option maxHeartbeats 1600000 in
theorem sizeE (w : World) (hs : SrcE w g A n c bs) (hn : n ≤ 1048576) :
    Calls Try.prog 158 #[.pointer (some ⟨g, 0, none⟩)] w (RetD w g A n c bs fun r => 0 ≤ r ∧ r ≤ 401) := by
  have S0 := Lib.hid hs
  have T0 := Lib.hid (Turns.refl g (g + 1) w)
  have hlt := hs.lt
  clear hs
  go_enter Try.func158, Try.ntmps158
  go_wp2_with fail
  refine (nextE w S0.out hn (by omega)).mono ?_
  rintro e w1 ⟨r1, rfl, hr1, s, t⟩
  have S1 := Lib.hid s
  have T1 := Lib.hid (T0.out.trans t)
  clear s t
  go_wp2_with fail
  refine (nextE w1 S1.out hn (by omega)).mono ?_
  rintro e w2 ⟨r2, rfl, hr2, s, t⟩
  have S2 := Lib.hid s
  have T2 := Lib.hid (T1.out.trans t)
  clear s t
  go_wp2_with fail
  refine (nextE w2 S2.out hn (by omega)).mono ?_
  rintro e w3 ⟨r3, rfl, hr3, s, t⟩
  have S3 := Lib.hid s
  have T3 := Lib.hid (T2.out.trans t)
  clear s t
  go_wp2_with fail
  refine (nextE w3 S3.out hn (by omega)).mono ?_
  rintro e w4 ⟨r4, rfl, hr4, s, t⟩
  have S4 := Lib.hid s
  have T4 := Lib.hid (T3.out.trans t)
  clear s t
  go_wp2_with fail
  refine (nextE w4 S4.out hn (by omega)).mono ?_
  rintro e w5 ⟨r5, rfl, hr5, s, t⟩
  have S5 := Lib.hid s
  have T5 := Lib.hid (T4.out.trans t)
  clear s t
  go_wp2_with fail
  refine (nextE w5 S5.out hn (by omega)).mono ?_
  rintro e w6 ⟨r6, rfl, hr6, s, t⟩
  have S6 := Lib.hid s
  have T6 := Lib.hid (T5.out.trans t)
  clear s t
  have SA7 := Lib.hid (S6.out.alloc (.cells #[.int .i64 400, .int .i64 401, .int .i64 100, .int .i64 r6] 2))
  have TA7 := Lib.hid (turns_alloc T6.out (.cells #[.int .i64 400, .int .i64 401, .int .i64 100, .int .i64 r6] 2))
  have hg7 := S6.out.lt
  go_wp2_with fail
  refine (pickE (m := 4) (xs := [400, 401, 100, r6]) _ SA7.out hn rfl (by omega) (by omega) (lit_rd w6 _ _) (fun b o e => by simp at e; omega)).mono ?_
  rintro e w7 ⟨r7, rfl, hm, s, t⟩
  have hr7 : 0 ≤ r7 ∧ r7 ≤ 401 := by simp at hm; omega
  have S7 := Lib.hid s
  have T7 := Lib.hid (TA7.out.trans t)
  clear s t hm
  have SA8 := Lib.hid (S7.out.alloc (.cells #[.int .i64 r1, .int .i64 r2, .int .i64 r3, .int .i64 r4, .int .i64 r5, .int .i64 r7] 2))
  have TA8 := Lib.hid (turns_alloc T7.out (.cells #[.int .i64 r1, .int .i64 r2, .int .i64 r3, .int .i64 r4, .int .i64 r5, .int .i64 r7] 2))
  have hg8 := S7.out.lt
  go_wp2_with fail
  refine (pickE (m := 6) (xs := [r1, r2, r3, r4, r5, r7]) _ SA8.out hn rfl (by omega) (by omega) (lit_rd w7 _ _) (fun b o e => by simp at e; omega)).mono ?_
  rintro e w8 ⟨r8, rfl, hm, s, t⟩
  have hr8 : 0 ≤ r8 ∧ r8 ≤ 401 := by simp at hm; omega
  have S8 := Lib.hid s
  have T8 := Lib.hid (TA8.out.trans t)
  clear s t hm
  go_wp2
  go_ret
  exact ⟨r8, rfl, hr8, S8.out, T8.out⟩
end
end Go.Proofs.Ytjkddoiacifhpaa
