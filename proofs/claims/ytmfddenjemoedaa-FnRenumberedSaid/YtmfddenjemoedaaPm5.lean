/- laws.perm5. -/
import Derived.Test.YtmfddenjemoedaaIns
import Derived.Test.YtmfddenjemoedaaL16
import Derived.Test.YtmfddenjemoedaaFl2
import Derived.Deep.CutRange
namespace Go.Proofs.Ytmfddenjemoedaa
open Go.RowKit

/-- A permutation that a call makes out of the source. -/
def RetPm (w : World) (g : Nat) (A : Option Addr) (n c : Nat) (bs : List Value) (N : Nat) (e : Ending) (w' : World) : Prop :=
  ∃ (wb : World) (A' : Option Addr) (c' : Nat) (L : List Int), e = .returned (.slice A' N c') ∧ L.length = N ∧ Passed N L ∧ Dr g A n c bs w wb ∧ St wb w' [.own 2 A' N c' (ints L)]
section
variable {A : Option Addr} {g n c : Nat} {bs : List Value}
theorem take_len {L : List Int} {i k : Nat} (hl : L.length = i) (hk : k ≤ i) : (ints (L.take k)).length = k := by simp; omega
theorem drop_len {L : List Int} {i k : Nat} (hl : L.length = i) : (ints (L.drop k)).length = i - k := by simp [hl]
theorem one_ints (l : List Int) : ∀ u ∈ ints l, u.oneCell' = true := by
  intro u hu
  obtain ⟨x, _, rfl⟩ := List.mem_map.1 hu
  rfl
theorem us_take {w : World} {base gP i cP k : Nat} {L : List Int} (own : w.ownsRow base 2 1 (.slice (some ⟨gP, 0, none⟩) i cP) i (ints L)) : ∀ (j : Nat) (u : Value), (ints (L.take k))[j]? = some u → w.cell? ((⟨gP, 0, none⟩ : Addr).add j) = some u := by
  intro j u hu
  have h1 : (ints L)[j]? = some u := by
    simp only [List.getElem?_map, List.getElem?_take] at hu ⊢
    split at hu
    · exact hu
    · simp at hu
  have := own_cell own h1
  by_cases hj : j = 0
  · subst hj
    simpa [Addr.add] using this
  · simpa [Addr.add, hj] using this
theorem us_drop {w : World} {base gP i cP k : Nat} {L : List Int} (own : w.ownsRow base 2 1 (.slice (some ⟨gP, 0, none⟩) i cP) i (ints L)) : ∀ (j : Nat) (u : Value), (ints (L.drop k))[j]? = some u → w.cell? ((⟨gP, k, none⟩ : Addr).add j) = some u := by
  intro j u hu
  have h1 : (ints L)[k + j]? = some u := by
    simp only [List.getElem?_map, List.getElem?_drop] at hu ⊢
    exact hu
  have := own_cell own h1
  by_cases hj : j = 0
  · subst hj
    simpa [Addr.add] using this
  · simpa [Addr.add, hj] using this
theorem us_one {w : World} {base q : Nat} {u : Value} (own : w.ownsRow base 2 1 (.slice (some ⟨q, 0, none⟩) 1 1) 1 [u]) : ∀ (j : Nat) (x : Value), ([u] : List Value)[j]? = some x → w.cell? ((⟨q, 0, none⟩ : Addr).add j) = some x := by
  intro j x hx
  match j, hx with
  | 0, hx =>
    have := own_cell own hx
    simpa [Addr.add] using this
set_option maxRecDepth 100000 in
set_option maxHeartbeats 3200000 in
theorem perm5P {N : Nat} (w : World) (hs : SrcE w g A n c bs) (hn : n ≤ 1048576) (hN : N ≤ 400) :
    Calls Try.prog 12 #[.pointer (some ⟨g, 0, none⟩), .int .i64 (N : Int)] w (RetPm w g A n c bs N) := by
  have D0 := Lib.hid (Dr.start hs)
  have S0 := Lib.hid ((St.start w).addMade 2)
  clear hs
  go_enter Try.func12, Try.ntmps12
  go_wp2
  go_loopw [5, 6] (fun u v wr => ∃ (i gP cP : Nat) (L : List Int) (wb : World), i ≤ N ∧ u = .slice (some ⟨gP, 0, none⟩) i cP ∧ v = .int .i64 i ∧ L.length = i ∧ Passed i L ∧ Dr g A n c bs w wb ∧ St wb wr [.own 2 (some ⟨gP, 0, none⟩) i cP (ints L)]) (fun _ v _ => N - (intOf v).toNat)
  case atStart => exact ⟨0, w.heap.size, 0, [], w, Nat.zero_le _, rfl, rfl, rfl, ⟨by simp, by simp⟩, D0.out, S0.out⟩
  case round =>
    obtain ⟨i, gP, cP, L, wb, hi, rfl, rfl, hl, hps, d_, st_⟩ := hrel
    clear D0 S0
    by_cases hiN : i < N
    · have iI : (i : Int) < (N : Int) := by omega
      have q1 : IntKind.i64.wrap ((i : Int) + 1) = (i : Int) + 1 := IntWalk.i64_in _ (by omega)
      have D1 := Lib.hid d_
      have S1 := Lib.hid st_
      have HL := Lib.hid hl
      have HP := Lib.hid hps
      clear d_ st_ hl hps
      go_wp2_with fail
      refine (belowE (N := (i : Int) + 1) _ (D1.out.now S1.out) hn (by omega)).mono ?_
      rintro e w2 ⟨r, rfl, ⟨h0r, h1r⟩, hs_, tu_⟩
      obtain ⟨wb2, d_, st_⟩ := D1.out.num S1.out hs_ tu_
      obtain ⟨k, rfl⟩ := Int.eq_ofNat_of_zero_le h0r
      have hki : k ≤ i := by omega
      have D2 := Lib.hid d_
      have S2 := Lib.hid st_
      clear d_ st_ hs_ tu_ D1 S1
      have hcap := own_cap (S2.out.own (i := 0) rfl)
      have kI : (k : Int) ≤ (i : Int) := by omega
      have kC : (k : Int) ≤ (cP : Int) := by omega
      have Sd := Lib.hid (S2.out.go (below_drewN (Below.refl _ _) 1))
      have Sa := Lib.hid (Sd.out.addMade 2)
      have Sb := Lib.hid (Sa.out.addLit1 (.int .i64 (i : Int)) 2)
      have Sl := Lib.hid (Sd.out.addLit1 (.int .i64 (i : Int)) 2)
      have Sc := Lib.hid (show St wb2 (((w2.drewN 1).alloc (.cells #[.int .i64 (i : Int)] 2)).alloc (.cells #[] 2)) [.own 2 (some ⟨gP, 0, none⟩) i cP (ints L), .own 2 (some ⟨w2.heap.size + 1, 0, none⟩) 0 0 [], .own 2 (some ⟨w2.heap.size, 0, none⟩) 1 1 [.int .i64 (i : Int)]] from by
        have h := Sl.out.addMade 2
        rw [show ((w2.drewN 1).alloc (.cells #[.int .i64 (i : Int)] 2)).heap.size = w2.heap.size + 1 from by simp] at h
        exact St.swap12 h)
      have HTL := Lib.hid (take_len (L := L) HL.out hki)
      have HDL := Lib.hid (drop_len (L := L) (k := k) HL.out)
      have UA := Lib.hid (us_take (k := k) (Sa.out.own (i := 0) rfl))
      have UB := Lib.hid (us_take (k := k) (Sb.out.own (i := 0) rfl))
      have UC := Lib.hid (us_take (k := k) (Sc.out.own (i := 0) rfl))
      have O1 := Lib.hid (one_ints (L.take k))
      have O2 := Lib.hid (one_ints (L.drop k))
      have O3 := Lib.hid (show ∀ u ∈ ([.int .i64 (i : Int)] : List Value), u.oneCell' = true from fun u hu => by simp at hu; subst hu; rfl)
      have la := Sa.out.lo
      have lb := Sb.out.lo
      have lc := Sc.out.lo
      by_cases hkc : k = cP
      · have hik : i = k := by omega
        subst hkc
        subst hik
        go_wp2
        go_region_law ((first
          | (refine step_cat_at rfl (.tmp 18) (.tmp 21) 24 2 (by rfl) Try.underlying24 (.int .i64 0) 8 Try.info2 rfl wb2.heap.size (.slice (some ⟨w2.heap.size, 0, none⟩) 0 0) 0 [] (by first | (simp [Act.eval]; done) | simp [Act.eval, Act.put]) (Sa.out.own (i := 1) rfl) ⟨gP, 0, none⟩ i i (ints (L.take i)) (by first | (simp [Act.eval]; done) | simp [Act.eval, Act.put]) HTL.out UA.out O1.out (by omega) (by omega) la ?_
             intro A22 c22 w22 own22 gr22 hat22
             have S22 := Lib.hid (Sa.out.turn (i := 1) rfl (Below.refl _ _) own22 gr22 (hat_of0 hat22))
             have hlo := S22.out.lo
             clear own22 gr22 hat22)
          | (refine step_cat_at rfl (.tmp 18) (.tmp 21) 24 2 (by rfl) Try.underlying24 (.int .i64 0) 8 Try.info2 rfl wb2.heap.size (.slice (some ⟨w2.heap.size, 0, none⟩) 0 0) 0 [] (by first | (simp [Act.eval]; done) | simp [Act.eval, Act.put]) (Sb.out.own (i := 1) rfl) ⟨gP, 0, none⟩ i i (ints (L.take i)) (by first | (simp [Act.eval]; done) | simp [Act.eval, Act.put]) HTL.out UB.out O1.out (by omega) (by omega) lb ?_
             intro A22 c22 w22 own22 gr22 hat22
             have S22 := Lib.hid (Sb.out.turn (i := 1) rfl (Below.refl _ _) own22 gr22 (hat_of0 hat22))
             have hlo := S22.out.lo
             have UL := Lib.hid (show ∀ (j : Nat) (x : Value), ([.int .i64 (i : Int)] : List Value)[j]? = some x → w22.cell? ((⟨w2.heap.size + 1, 0, none⟩ : Addr).add j) = some x from by
               have h := us_one (S22.out.own (i := 2) rfl)
               rwa [show ((w2.drewN 1).alloc (.cells #[] 2)).heap.size = w2.heap.size + 1 from by simp] at h)
             clear own22 gr22 hat22)
          | (refine step_cat_at rfl (.tmp 22) (.tmp 24) 24 2 (by rfl) Try.underlying24 (.int .i64 0) 8 Try.info2 rfl wb2.heap.size (.slice A22 (0 + i) c22) (0 + i) _ (by simp [Act.eval]) (S22.out.own (i := 1) rfl) ⟨w2.heap.size + 1, 0, none⟩ 1 1 [.int .i64 (i : Int)] (by simp [Act.eval]) rfl UL.out O3.out (by omega) (by omega) hlo ?_
             intro A25 c25 w25 own25 gr25 hat25
             have S25 := Lib.hid ((S22.out.turn (i := 1) rfl (Below.refl _ _) own25 gr25 (hat_of0 hat25)).take 2)
             have hlo5 := S25.out.lo
             have UD := Lib.hid (us_drop (k := i) (S25.out.own (i := 0) rfl))
             clear own25 gr25 hat25)
          | (refine step_cat_at rfl (.tmp 18) (.tmp 21) 24 2 (by rfl) Try.underlying24 (.int .i64 0) 8 Try.info2 rfl wb2.heap.size (.slice (some ⟨w2.heap.size + 1, 0, none⟩) 0 0) 0 [] (by first | (simp [Act.eval]; done) | simp [Act.eval, Act.put]) (Sc.out.own (i := 1) rfl) ⟨gP, 0, none⟩ i i (ints (L.take i)) (by first | (simp [Act.eval]; done) | simp [Act.eval, Act.put]) HTL.out UC.out O1.out (by omega) (by omega) lc ?_
             intro A22 c22 w22 own22 gr22 hat22
             have S22 := Lib.hid (Sc.out.turn (i := 1) rfl (Below.refl _ _) own22 gr22 (hat_of0 hat22))
             have hlo := S22.out.lo
             have UL := Lib.hid (us_one (S22.out.own (i := 2) rfl))
             clear own22 gr22 hat22)
          | (refine step_cat_at rfl (.tmp 22) (.tmp 24) 24 2 (by rfl) Try.underlying24 (.int .i64 0) 8 Try.info2 rfl wb2.heap.size (.slice A22 (0 + i) c22) (0 + i) _ (by simp [Act.eval]) (S22.out.own (i := 1) rfl) ⟨w2.heap.size, 0, none⟩ 1 1 [.int .i64 (i : Int)] (by simp [Act.eval]) rfl UL.out O3.out (by omega) (by omega) hlo ?_
             intro A25 c25 w25 own25 gr25 hat25
             have S25 := Lib.hid ((S22.out.turn (i := 1) rfl (Below.refl _ _) own25 gr25 (hat_of0 hat25)).take 2)
             have hlo5 := S25.out.lo
             have UD := Lib.hid (us_drop (k := i) (S25.out.own (i := 0) rfl))
             clear own25 gr25 hat25)
          | (refine step_push_h rfl (.tmp 22) (.tmp 24) 24 2 (by rfl) Try.underlying24 (.int .i64 0) 8 Try.info2 rfl w22.heap.size (by rfl) wb2.heap.size (.slice A22 (0 + i) c22) (0 + i) _ (by first | (simp [Act.eval]; done) | simp [Act.eval, Act.put]) (S22.out.own (i := 1) rfl) (.int .i64 (i : Int)) (by rfl) (by simp [Act.eval]) (by omega) (by omega) hlo ?_
             intro A25 c25 w25 own25 gr25 hat25
             have S25 := Lib.hid (S22.out.push (i := 1) rfl own25 gr25 hat25)
             have hlo5 := S25.out.lo
             have UD := Lib.hid (us_drop (k := i) (S25.out.own (i := 0) rfl))
             clear own25 gr25 hat25)
          | (refine step_cat_at rfl (.tmp 25) (.tmp 28) 24 2 (by rfl) Try.underlying24 (.int .i64 0) 8 Try.info2 rfl wb2.heap.size (.slice A25 (0 + i + 1) c25) (0 + i + 1) _ (by simp [Act.eval]) (S25.out.own (i := 1) rfl) ⟨gP, 0, none⟩ 0 0 [] (by first | (simp [Act.eval]; done) | simp [Act.eval, Act.put]) rfl (fun j u hj => by simp at hj) (fun u hu => by simp at hu) (by omega) (by omega) hlo5 ?_
             intro A29 c29 w29 own29 gr29 hat29
             have S29 := Lib.hid (S25.out.turn (i := 1) rfl (Below.refl _ _) own29 gr29 (hat_of0 hat29))
             clear own29 gr29 hat29)))
        all_goals
          have S30 := Lib.hid (show St wb2 w29 [.own 2 A29 (i + 1) c29 (ints (insA L i i))] from by
            have h := S29.out.pick (Qs := [.own 2 A29 (0 + i + 1 + 0) c29 ([] ++ ints (L.take i) ++ [.int .i64 (i : Int)] ++ [])]) (fun j => j + 1) (fun j hj => by simp at hj ⊢; omega) (fun j hj => by match j, hj with | 0, _ => rfl) (fun a b _ _ h => by omega)
            rw [show 0 + i + 1 + 0 = i + 1 by omega] at h
            have e : ints (insA L i i) = ([] ++ ints (L.take i) ++ [.int .i64 (i : Int)] ++ []) := by simp [insA, List.drop_of_length_le (show L.length ≤ i by rw [HL.out]; exact Nat.le_refl _)]
            rw [e]
            exact h)
          obtain ⟨g29, rfl⟩ := own_shape (S30.out.own (i := 0) rfl) (by omega)
          have LN := Lib.hid (insA_len i HL.out)
          have PN := Lib.hid (insA_passed i HP.out)
          clear S29
          go_wp2
          go_roundw
          case rel => exact ⟨i + 1, g29, c29, insA L i i, wb2, by omega, by first | rfl | (congr 1; omega), by go_num, LN.out, PN.out, D2.out, S30.out⟩
          case measure => simp [intOf]; omega
      · have hkc2 : (k : Int) < (cP : Int) := by omega
        have hkc3 : ¬ cP = k := fun e => hkc e.symm
        go_wp2
        go_region_law ((first
          | (refine step_cat_at rfl (.tmp 18) (.tmp 21) 24 2 (by rfl) Try.underlying24 (.int .i64 0) 8 Try.info2 rfl wb2.heap.size (.slice (some ⟨w2.heap.size, 0, none⟩) 0 0) 0 [] (by first | (simp [Act.eval]; done) | simp [Act.eval, Act.put]) (Sa.out.own (i := 1) rfl) ⟨gP, 0, none⟩ k cP (ints (L.take k)) (by first | (simp [Act.eval]; done) | simp [Act.eval, Act.put]) HTL.out UA.out O1.out (by omega) (by omega) la ?_
             intro A22 c22 w22 own22 gr22 hat22
             have S22 := Lib.hid (Sa.out.turn (i := 1) rfl (Below.refl _ _) own22 gr22 (hat_of0 hat22))
             have hlo := S22.out.lo
             clear own22 gr22 hat22)
          | (refine step_cat_at rfl (.tmp 18) (.tmp 21) 24 2 (by rfl) Try.underlying24 (.int .i64 0) 8 Try.info2 rfl wb2.heap.size (.slice (some ⟨w2.heap.size, 0, none⟩) 0 0) 0 [] (by first | (simp [Act.eval]; done) | simp [Act.eval, Act.put]) (Sb.out.own (i := 1) rfl) ⟨gP, 0, none⟩ k cP (ints (L.take k)) (by first | (simp [Act.eval]; done) | simp [Act.eval, Act.put]) HTL.out UB.out O1.out (by omega) (by omega) lb ?_
             intro A22 c22 w22 own22 gr22 hat22
             have S22 := Lib.hid (Sb.out.turn (i := 1) rfl (Below.refl _ _) own22 gr22 (hat_of0 hat22))
             have hlo := S22.out.lo
             have UL := Lib.hid (show ∀ (j : Nat) (x : Value), ([.int .i64 (i : Int)] : List Value)[j]? = some x → w22.cell? ((⟨w2.heap.size + 1, 0, none⟩ : Addr).add j) = some x from by
               have h := us_one (S22.out.own (i := 2) rfl)
               rwa [show ((w2.drewN 1).alloc (.cells #[] 2)).heap.size = w2.heap.size + 1 from by simp] at h)
             clear own22 gr22 hat22)
          | (refine step_cat_at rfl (.tmp 22) (.tmp 24) 24 2 (by rfl) Try.underlying24 (.int .i64 0) 8 Try.info2 rfl wb2.heap.size (.slice A22 (0 + k) c22) (0 + k) _ (by simp [Act.eval]) (S22.out.own (i := 1) rfl) ⟨w2.heap.size + 1, 0, none⟩ 1 1 [.int .i64 (i : Int)] (by simp [Act.eval]) rfl UL.out O3.out (by omega) (by omega) hlo ?_
             intro A25 c25 w25 own25 gr25 hat25
             have S25 := Lib.hid ((S22.out.turn (i := 1) rfl (Below.refl _ _) own25 gr25 (hat_of0 hat25)).take 2)
             have hlo5 := S25.out.lo
             have UD := Lib.hid (us_drop (k := k) (S25.out.own (i := 0) rfl))
             clear own25 gr25 hat25)
          | (refine step_cat_at rfl (.tmp 18) (.tmp 21) 24 2 (by rfl) Try.underlying24 (.int .i64 0) 8 Try.info2 rfl wb2.heap.size (.slice (some ⟨w2.heap.size + 1, 0, none⟩) 0 0) 0 [] (by first | (simp [Act.eval]; done) | simp [Act.eval, Act.put]) (Sc.out.own (i := 1) rfl) ⟨gP, 0, none⟩ k cP (ints (L.take k)) (by first | (simp [Act.eval]; done) | simp [Act.eval, Act.put]) HTL.out UC.out O1.out (by omega) (by omega) lc ?_
             intro A22 c22 w22 own22 gr22 hat22
             have S22 := Lib.hid (Sc.out.turn (i := 1) rfl (Below.refl _ _) own22 gr22 (hat_of0 hat22))
             have hlo := S22.out.lo
             have UL := Lib.hid (us_one (S22.out.own (i := 2) rfl))
             clear own22 gr22 hat22)
          | (refine step_cat_at rfl (.tmp 22) (.tmp 24) 24 2 (by rfl) Try.underlying24 (.int .i64 0) 8 Try.info2 rfl wb2.heap.size (.slice A22 (0 + k) c22) (0 + k) _ (by simp [Act.eval]) (S22.out.own (i := 1) rfl) ⟨w2.heap.size, 0, none⟩ 1 1 [.int .i64 (i : Int)] (by simp [Act.eval]) rfl UL.out O3.out (by omega) (by omega) hlo ?_
             intro A25 c25 w25 own25 gr25 hat25
             have S25 := Lib.hid ((S22.out.turn (i := 1) rfl (Below.refl _ _) own25 gr25 (hat_of0 hat25)).take 2)
             have hlo5 := S25.out.lo
             have UD := Lib.hid (us_drop (k := k) (S25.out.own (i := 0) rfl))
             clear own25 gr25 hat25)
          | (refine step_push_h rfl (.tmp 22) (.tmp 24) 24 2 (by rfl) Try.underlying24 (.int .i64 0) 8 Try.info2 rfl w22.heap.size (by rfl) wb2.heap.size (.slice A22 (0 + k) c22) (0 + k) _ (by first | (simp [Act.eval]; done) | simp [Act.eval, Act.put]) (S22.out.own (i := 1) rfl) (.int .i64 (i : Int)) (by rfl) (by simp [Act.eval]) (by omega) (by omega) hlo ?_
             intro A25 c25 w25 own25 gr25 hat25
             have S25 := Lib.hid (S22.out.push (i := 1) rfl own25 gr25 hat25)
             have hlo5 := S25.out.lo
             have UD := Lib.hid (us_drop (k := k) (S25.out.own (i := 0) rfl))
             clear own25 gr25 hat25)
          | (refine step_cat_at rfl (.tmp 25) (.tmp 28) 24 2 (by rfl) Try.underlying24 (.int .i64 0) 8 Try.info2 rfl wb2.heap.size (.slice A25 (0 + k + 1) c25) (0 + k + 1) _ (by simp [Act.eval]) (S25.out.own (i := 1) rfl) ⟨gP, k, none⟩ (i - k) (cP - k) (ints (L.drop k)) (by simp [Act.eval]) HDL.out UD.out O2.out (by omega) (by omega) hlo5 ?_
             intro A29 c29 w29 own29 gr29 hat29
             have S29 := Lib.hid (S25.out.turn (i := 1) rfl (Below.refl _ _) own29 gr29 (hat_of0 hat29))
             clear own29 gr29 hat29)))
        all_goals
          have S30 := Lib.hid (show St wb2 w29 [.own 2 A29 (i + 1) c29 (ints (insA L i k))] from by
            have h := S29.out.pick (Qs := [.own 2 A29 (0 + k + 1 + (i - k)) c29 ([] ++ ints (L.take k) ++ [.int .i64 (i : Int)] ++ ints (L.drop k))]) (fun j => j + 1) (fun j hj => by simp at hj ⊢; omega) (fun j hj => by match j, hj with | 0, _ => rfl) (fun a b _ _ h => by omega)
            rw [show 0 + k + 1 + (i - k) = i + 1 by omega] at h
            have e : ints (insA L i k) = ([] ++ ints (L.take k) ++ [.int .i64 (i : Int)] ++ ints (L.drop k)) := by simp [insA]
            rw [e]
            exact h)
          obtain ⟨g29, rfl⟩ := own_shape (S30.out.own (i := 0) rfl) (by omega)
          have LN := Lib.hid (insA_len k HL.out)
          have PN := Lib.hid (insA_passed k HP.out)
          clear S29
          go_wp2
          go_roundw
          case rel => exact ⟨i + 1, g29, c29, insA L i k, wb2, by omega, by first | rfl | (congr 1; omega), by go_num, LN.out, PN.out, D2.out, S30.out⟩
          case measure => simp [intOf]; omega
    · obtain rfl : i = N := by omega
      go_wp2
      go_ret
      exact ⟨wb, some ⟨gP, 0, none⟩, cP, L, rfl, hl, hps, d_, st_⟩
end
end Go.Proofs.Ytmfddenjemoedaa
