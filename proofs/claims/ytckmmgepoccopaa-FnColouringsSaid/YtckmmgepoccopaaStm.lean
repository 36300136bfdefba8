/- What the laws write into memory, piece by piece. -/
import Derived.Test.YtckmmgepoccopaaSep
import Derived.Test.YtckmmgepoccopaaL6
namespace Go.Proofs.Ytckmmgepoccopaa
open Go.RowKit

section
variable {w0 w w4 : World} {Ps Qs : List Pc} {P : Pc} {i j : Nat}
theorem St.init (h : St w0 w (Qs ++ [P])) : St w0 w Qs :=
  h.pick id (fun i hi => by simp; omega) (fun i hi => by rw [id, List.getElem?_append_left hi]) (fun i j _ _ h => h)
theorem St.drop (h : St w0 w Ps) (i : Nat) : St w0 w (Ps.eraseIdx i) := by
  refine h.pick (fun j => if j < i then j else j + 1) (fun j hj => ?_) (fun j hj => ?_) (fun a b _ _ h => ?_)
  · show (if j < i then j else j + 1) < Ps.length
    rw [List.length_eraseIdx] at hj
    split at hj <;> split <;> omega
  · show (Ps.eraseIdx i)[j]? = Ps[if j < i then j else j + 1]?
    rw [List.getElem?_eraseIdx]
    split <;> rfl
  · show (if a < i then a else a + 1) ≠ (if b < i then b else b + 1)
    split <;> split <;> omega
end
/-- A slice literal with one element. -/
theorem St.addLit1 {w0 w : World} {Ps : List Pc} (h : St w0 w Ps) (u : Value) (e : TypeId) : St w0 (w.alloc (.cells #[u] e)) (Ps ++ [.own e (some ⟨w.heap.size, 0, none⟩) 1 1 [u]]) :=
  h.addOwn (base := w.heap.size) ((Below.refl _ _).alloc (Nat.le_refl _) _) (by simpa using World.ownsRow_lit (base := w.heap.size) (e := e) (size := 1) w #[u] 1 (Nat.le_refl _) (by decide) (by simp)) (Nat.le_refl _)
theorem St.addLit2 {w0 w : World} {Ps : List Pc} (h : St w0 w Ps) (u v : Value) (e : TypeId) : St w0 (w.alloc (.cells #[u, v] e)) (Ps ++ [.own e (some ⟨w.heap.size, 0, none⟩) 2 2 [u, v]]) :=
  h.addOwn (base := w.heap.size) ((Below.refl _ _).alloc (Nat.le_refl _) _) (by simpa using World.ownsRow_lit (base := w.heap.size) (e := e) (size := 1) w #[u, v] 2 (Nat.le_refl _) (by decide) (by simp)) (Nat.le_refl _)
theorem set_self {Ps : List Pc} {P : Pc} {i : Nat} (h : Ps[i]? = some P) : Ps.set i P = Ps := by
  apply List.ext_getElem?
  intro k
  by_cases hk : i = k
  · subst hk
    rw [List.getElem?_set_self (List.getElem?_eq_some_iff.1 h).1, h]
  · rw [List.getElem?_set_ne hk]
theorem last_at (Ps : List Pc) (P : Pc) : (Ps ++ [P])[Ps.length]? = some P := by simp
theorem last_at2 {Ps : List Pc} (P Q : Pc) (i : Nat) : (Ps.set i Q ++ [P])[Ps.length]? = some P := by
  have := last_at (Ps.set i Q) P
  rwa [List.length_set] at this
section
variable {w0 : World} {Ps : List Pc} {i j e n c : Nat} {A : Option Addr} {vals : List Value} {xs : List Int} {xss : List (List Int)}
theorem mark_st (k0 : Int) (w : World) (st : St w0 w Ps) (hi : Ps[i]? = some (.own 2 A n c (ints xs))) (hn : n ≤ 1048576) (h0 : 0 ≤ k0) (h1 : k0 ≤ 1000000000000000000) :
    Calls Try.prog 72 #[.slice A n c, .int .i64 k0] w fun e' w' => e' = .returned (.int .i64 (k0 + n)) ∧ St w0 w' (Ps.set i (.own 2 A n c (ints (marks k0 n)))) := by
  refine (mark_any k0 w (st.own hi) hn h0 h1).mono ?_
  rintro e' w' ⟨rfl, own, gr⟩
  exact ⟨rfl, st.turn hi (Below.refl _ _) own gr (.inl rfl)⟩

set_option maxHeartbeats 800000 in
theorem markSS_st (k0 : Int) (w : World) (st : St w0 w Ps) (hi : Ps[i]? = some (.rows 2 e A n c vals xss)) (he : e ≠ 2) (hn : n ≤ 1048576) (hr : ∀ xs ∈ xss, (xs.length : Int) ≤ 1048576) (h0 : 0 ≤ k0) (h1 : k0 ≤ 100000000000000000) :
    Calls Try.prog 56 #[.slice A n c, .int .i64 k0] w fun e' w' => e' = .returned (.int .i64 (k0 + totalL xss)) ∧ St w0 w' (Ps.set i (.rows 2 e A n c vals (marksSS k0 xss))) := by
  have hx : xss.length = n := st.sep.rows_len hi
  have hil : i < Ps.length := (List.getElem?_eq_some_iff.1 hi).1
  have HX := Lib.hid hx
  have HS := Lib.hid st
  have HI := Lib.hid hi
  have HR := Lib.hid hr
  have HE := Lib.hid he
  have HL := Lib.hid (fun (P : Pc) => List.getElem?_set_self (a := P) hil)
  clear hx st hi hr he
  go_enter Try.func56, Try.ntmps56
  go_wp2
  go_loopw [1, 5] (fun q i' wr => ∃ k t : Nat, k ≤ n ∧ i' = .int .i64 k ∧ q = .int .i64 (k0 + t) ∧ t = totalL (xss.take k) ∧ St w0 wr (Ps.set i (.rows 2 e A n c vals (markTo k0 xss k)))) (fun _ i _ => n - (intOf i).toNat)
  case atStart => exact ⟨0, 0, Nat.zero_le _, rfl, by simp, by simp [totalL], by
    have h : markTo k0 xss 0 = xss := by simp [markTo]
    rw [h, set_self HI.out]
    exact HS.out⟩
  case round =>
    obtain ⟨k, t, hk, rfl, rfl, ht, st⟩ := hrel
    have hb := totalL_le HR.out k
    have htb : t ≤ k * 1048576 := by omega
    have ST := Lib.hid st
    have HT := Lib.hid ht
    clear st ht hb HS
    by_cases hlt : k < n
    · obtain ⟨xs, hxs⟩ := get_some (xss := xss) (k := k) (by rw [HX.out]; exact hlt)
      have hlen := HR.out xs (List.mem_of_getElem? hxs)
      obtain ⟨A', c', e1, o1⟩ := ST.out.rowAt (HL.out _) (markTo_at hxs)
      obtain ⟨g, rfl⟩ := own_shape (ST.out.rows (HL.out _)) (by omega)
      have hcell := own_cell (ST.out.rows (HL.out _)) e1
      have O1 := Lib.hid o1
      have E1 := Lib.hid e1
      have HXS := Lib.hid hxs
      clear e1 o1 hxs
      go_wp2_with fail
      refine (mark_any (k0 + t) wr O1.out (by omega) (by omega) (by omega)).mono ?_
      rintro e' w1 ⟨rfl, own1, gr⟩
      have hnew := ST.out.rowWrite (HL.out _) HE.out (markTo_at HXS.out) E1.out (Below.refl _ _) (marks_length _ _) own1 gr
      rw [HT.out, markTo_set HXS.out, List.set_set] at hnew
      have NEW := Lib.hid hnew
      clear hnew own1 gr
      go_wp2
      go_roundw
      case rel => exact ⟨k + 1, t + xs.length, by omega, by go_num, by go_num, by rw [totalL_succ HXS.out, HT.out], NEW.out⟩
      case measure => simp [intOf]; omega
    · go_wp2
      go_ret
      obtain rfl : k = n := by omega
      have e2 : xss.take k = xss := List.take_of_length_le (by rw [HX.out]; exact Nat.le_refl _)
      refine ⟨ret_i64 (by rw [HT.out, e2]), ?_⟩
      have h := ST.out
      unfold markTo at h
      rwa [List.take_of_length_le (by rw [marksSS_length, HX.out]; exact Nat.le_refl _), List.drop_of_length_le (by rw [HX.out]; exact Nat.le_refl _), List.append_nil] at h

theorem markM_st (k0 : Int) (w : World) (st : St w0 w Ps) (hi : Ps[i]? = some (.rows 2 e A n c vals xss)) (he : e ≠ 2) (hn : n ≤ 1048576) (hr : ∀ xs ∈ xss, (xs.length : Int) ≤ 1048576) (h0 : 0 ≤ k0) (h1 : k0 ≤ 100000000000000000) :
    Calls Try.prog 61 #[.agg #[.slice A n c], .int .i64 k0] w fun e' w' => e' = .returned (.int .i64 (k0 + totalL xss)) ∧ St w0 w' (Ps.set i (.rows 2 e A n c vals (marksSS k0 xss))) := by
  have ST := Lib.hid (st.al (.cells #[.slice A n c] 26))
  have HI := Lib.hid hi
  have HR := Lib.hid hr
  clear st hr hi
  go_enter Try.func61, Try.ntmps61
  go_wp2_with fail
  refine (markSS_st k0 _ ST.out HI.out he hn HR.out h0 h1).mono ?_
  rintro e' w' ⟨rfl, st⟩
  have ST2 := Lib.hid st
  clear st
  go_wp2
  go_ret
  exact ⟨rfl, ST2.out⟩

set_option maxHeartbeats 800000 in
theorem markP_st {R : Int} {B : Option Addr} {M d : Nat} {bss : List (List Int)} (k0 : Int) (w : World) (st : St w0 w Ps) (hi : Ps[i]? = some (.own 2 A n c (ints xs))) (hj : Ps[j]? = some (.rows 2 e B M d vals bss)) (hij : i ≠ j) (he : e ≠ 2)
    (hn : n ≤ 1048576) (hM : M ≤ 1048576) (hr : ∀ xs ∈ bss, (xs.length : Int) ≤ 1048576) (h0 : 0 ≤ k0) (h1 : k0 ≤ 1000000000) :
    Calls Try.prog 55 #[.agg #[.int .i64 R, .slice A n c, .slice B M d], .int .i64 k0] w fun e' w' => e' = .returned (.int .i64 (k0 + n + totalL bss)) ∧ St w0 w' ((Ps.set i (.own 2 A n c (ints (marks k0 n)))).set j (.rows 2 e B M d vals (marksSS (k0 + n) bss))) := by
  have hil : i < Ps.length := (List.getElem?_eq_some_iff.1 hi).1
  have hjl : j < Ps.length := (List.getElem?_eq_some_iff.1 hj).1
  have st0 := st.addBlk #[.int .i64 R, .slice A n c, .slice B M d] 61
  have S0 := Lib.hid st0
  have HI := Lib.hid hi
  have HJ := Lib.hid hj
  have HR := Lib.hid hr
  have HIL := Lib.hid hil
  have HJL := Lib.hid hjl
  have k1 := (st0.blk (last_at _ _)).cell (i := 1) rfl
  clear st st0 hi hj hr hil hjl
  go_enter Try.func55, Try.ntmps55
  go_wp2_with fail
  refine (mark_st k0 _ S0.out (i := i) (by rw [List.getElem?_append_left HIL.out]; exact HI.out) hn h0 (by omega)).mono ?_
  rintro e w1 ⟨rfl, st1⟩
  rw [List.set_append_left _ _ HIL.out] at st1
  have k2 := (st1.blk (last_at2 _ _ _)).cell (i := 2) rfl
  have S1 := Lib.hid st1
  clear st1 k1 S0
  go_wp2_with fail
  refine (markSS_st (k0 + n) _ S1.out (i := j) (by rw [List.getElem?_append_left (by simpa using HJL.out), List.getElem?_set_ne hij]; exact HJ.out) he hM HR.out (by omega) (by omega)).mono ?_
  rintro e w2 ⟨rfl, st2⟩
  rw [List.set_append_left _ _ (by simpa using HJL.out)] at st2
  have S2 := Lib.hid st2.init
  clear st2 k2 S1
  go_wp2
  go_ret
  exact ⟨rfl, S2.out⟩
end
end Go.Proofs.Ytckmmgepoccopaa
