/- spec.l01Small. -/
import Derived.Test.YtmfddenjemoedaaFl2
namespace Go.Proofs.Ytmfddenjemoedaa
open Go.RowKit

/-- A drawn number and a drawn list of lists. -/
def RetSml (w : World) (g : Nat) (A : Option Addr) (n c : Nat) (bs : List Value) (e : Ending) (w' : World) : Prop :=
  ∃ (wb : World) (z : Int) (A' : Option Addr) (m c' : Nat) (vals : List Value) (xss : List (List Int)), e = .returned (.tuple #[.int .i64 z, .slice A' m c']) ∧ xss.length = m ∧ m ≤ 17 ∧ (∀ xs ∈ xss, xs.length ≤ 401) ∧ Dr g A n c bs w wb ∧ St wb w' [.rows 2 24 A' m c' vals xss]
section
variable {A : Option Addr} {g n c : Nat} {bs : List Value}
theorem rows_snoc {xss : List (List Int)} {xs : List Int} {B : Nat} (h : ∀ ys ∈ xss, ys.length ≤ B) (hx : xs.length ≤ B) : ∀ ys ∈ xss ++ [xs], ys.length ≤ B := fun ys hy => by
  rcases List.mem_append.1 hy with h1 | h1
  · exact h ys h1
  · simp at h1
    rw [h1]
    exact hx
def lenOf : Value → Nat
  | .slice _ n _ => n
  | _ => 0
theorem st_emp {w0 w : World} {p : Pc} (h : St w0 w [p, .emp]) : St w0 w [p] := h.take 1
theorem St.rowPush1 {w0 w w4 : World} {A1 A4 A5 : Option Addr} {m c1 c4 n' c' base : Nat} {xs : List Int} {vals : List Value} {xss : List (List Int)} {o : Obj} (h : St w0 w [.rows 2 24 A5 n' c' vals xss, .own 2 A1 m c1 (ints xs)]) (hm : xs.length = m)
    (own4 : w4.ownsRow base 24 1 (.slice A4 (n' + 1) c4) (n' + 1) (vals ++ [.slice A1 m c1])) (gr : (w.alloc o).grownBy w4 (Value.slice A5 n' c').ownBlock)
    (hat : (Value.slice A4 (n' + 1) c4).ownBlock = (Value.slice A5 n' c').ownBlock ∨ (Value.slice A4 (n' + 1) c4).ownBlock = some (w.heap.size + 1)) :
    St w0 w4 [.rows 2 24 A4 (n' + 1) c4 (vals ++ [.slice A1 m c1]) (xss ++ [xs])] :=
  (h.rowPush (i := 0) (j := 1) rfl rfl hm (by decide) (by decide) own4 gr hat).take 1
theorem st_pickR {w0 w : World} {p q r : Pc} (h : St w0 w ([p, q] ++ [r])) : St w0 w [p, r] := h.pick (fun i => if i = 0 then 0 else 2) (fun i hi => by simp at hi ⊢; split <;> omega) (fun i hi => by match i, hi with | 0, _ => rfl | 1, _ => rfl) (fun i j hi hj hne => by match i, j, hi, hj, hne with | 0, 0, _, _, h => exact absurd rfl h | 1, 1, _, _, h => exact absurd rfl h | 0, 1, _, _, _ => decide | 1, 0, _, _, _ => decide)
set_option maxRecDepth 100000 in
set_option maxHeartbeats 6400000 in
theorem smallP {most : Nat} (w : World) (hs : SrcE w g A n c bs) (hn : n ≤ 1048576) (h4 : most ≤ 400) :
    Calls Try.prog 53 #[.pointer (some ⟨g, 0, none⟩), .int .i64 (most : Int)] w (RetSml w g A n c bs) := by
  have D0 := Lib.hid (Dr.start hs)
  have S0 := Lib.hid (St.start w)
  clear hs
  have q1 : IntKind.i64.wrap ((most : Int) + 1) = (most : Int) + 1 := IntWalk.i64_in _ (by omega)
  go_enter Try.func53, Try.ntmps53
  go_wp2_with fail
  refine (nextE (N := (most : Int) + 1) _ (D0.out.now S0.out) hn (by omega)).mono ?_
  rintro e w1 ⟨r, rfl, ⟨h0r, h1r⟩, hs_, tu_⟩
  obtain ⟨wb1, d_, st_⟩ := D0.out.num S0.out hs_ tu_
  obtain ⟨N, rfl⟩ := Int.eq_ofNat_of_zero_le h0r
  have hN : N ≤ 400 := by omega
  have D1 := Lib.hid d_
  have S1 := Lib.hid (st_.addMadeRows 2 24)
  clear d_ st_ hs_ tu_ D0 S0 q1
  go_wp2_with fail
  refine (nextE (N := 4) _ (D1.out.now S1.out) hn (by omega)).mono ?_
  rintro e w2 ⟨r, rfl, ⟨h0k, h1k⟩, hs_, tu_⟩
  obtain ⟨wb2, d_, st_⟩ := D1.out.num S1.out hs_ tu_
  obtain ⟨k0, rfl⟩ := Int.eq_ofNat_of_zero_le h0k
  have D2 := Lib.hid d_
  have S2 := Lib.hid st_
  clear d_ st_ hs_ tu_ D1 S1
  go_wp2
  go_loopw [7, 8] (fun u v wr => ∃ (k m c' : Nat) (A' : Option Addr) (vals : List Value) (xss : List (List Int)) (wb : World), k ≤ 3 ∧ m + k ≤ 3 ∧ u = .slice A' m c' ∧ v = .int .i64 k ∧ xss.length = m ∧ (∀ xs ∈ xss, xs.length ≤ 401) ∧ Dr g A n c bs w wb ∧ St wb wr [.rows 2 24 A' m c' vals xss]) (fun _ v _ => (intOf v).toNat)
  case atStart => exact ⟨k0, 0, 0, _, [], [], wb2, by omega, by omega, rfl, rfl, rfl, by simp, D2.out, S2.out⟩
  case round =>
    obtain ⟨k, m, c', A', vals, xss, wb3, hk, hmk, rfl, rfl, hxl, hxr, d_, st_⟩ := hrel
    have D3 := Lib.hid d_
    have S3 := Lib.hid st_
    have HXL := Lib.hid hxl
    have HXR := Lib.hid hxr
    clear d_ st_ hxl hxr D2 S2
    by_cases hk0 : 0 < k
    · have kI : (0 : Int) < (k : Int) := by omega
      have q2 : IntKind.i64.wrap ((k : Int) - 1) = ((k - 1 : Nat) : Int) := (IntWalk.i64_in _ (by omega)).trans (by omega)
      go_wp2_with fail
      refine (drawP _ (D3.out.now S3.out) hn hN).mono ?_
      rintro e w4 ⟨wb4_, A4, c4, L, rfl, hLl, _, d_, st_⟩
      obtain ⟨wb4, d2_, st2_⟩ := D3.out.join S3.out d_ st_
      have D4 := Lib.hid d2_
      have S4 := Lib.hid st2_
      have HL4 := Lib.hid hLl
      clear d_ st_ d2_ st2_ hLl D3 S3
      go_wp2_with fail
      refine (nextE (N := 3) _ (D4.out.now S4.out) hn (by omega)).mono ?_
      rintro e w5 ⟨r, rfl, ⟨h0u, h1u⟩, hs_, tu_⟩
      obtain ⟨wb5, d_, st_⟩ := D4.out.num S4.out hs_ tu_
      have D5 := Lib.hid d_
      have S5 := Lib.hid st_
      clear d_ st_ hs_ tu_ D4 S4
      by_cases e0 : r = 0
      · subst e0
        have nI : (N : Int) = ((N : Nat) : Int) := rfl
        go_wp2_with fail
        refine (unit_any N _ (by omega)).mono ?_
        rintro e w6 ⟨A6, c6, rfl, own, bel⟩
        have S6 := Lib.hid (st_pickR (S5.out.addOwn bel own (Nat.le_refl _)))
        have HLU := Lib.hid (show (unitL N).length = N by simp [unitL])
        clear own bel S5
        go_wp2_with fail
        refine (nextE (N := 3) _ (D5.out.now S6.out) hn (by omega)).mono ?_
        rintro e w8 ⟨r, rfl, ⟨h0j, h1j⟩, hs_, tu_⟩
        obtain ⟨wb8, d_, st_⟩ := D5.out.num S6.out hs_ tu_
        obtain ⟨j0, rfl⟩ := Int.eq_ofNat_of_zero_le h0j
        have D8 := Lib.hid d_
        have S8 := Lib.hid st_
        clear d_ st_ hs_ tu_ D5 S6
        go_wp2
        go_loopw [10] (fun v wr => ∃ (j : Nat) (L : List Int) (wb : World), j ≤ 3 ∧ v = .int .i64 j ∧ L.length = N ∧ Dr g A n c bs w wb ∧ St wb wr [.rows 2 24 A' m c' vals xss, .own 2 A6 N c6 (ints L)]) (fun v _ => (intOf v).toNat)
        case atStart => exact ⟨j0, unitL N, wb8, by omega, rfl, HLU.out, D8.out, S8.out⟩
        case round =>
          obtain ⟨j, L2, wb9, hj, rfl, hL2, d_, st_⟩ := hrel
          have D9 := Lib.hid d_
          have S9 := Lib.hid st_
          have HL2 := Lib.hid hL2
          clear d_ st_ hL2 D8 S8
          by_cases hj0 : 0 < j ∧ 1 < N
          · obtain ⟨hj1, hN1⟩ := hj0
            have jI : (0 : Int) < (j : Int) := by omega
            have NI : (1 : Int) < (N : Int) := by omega
            have q3 : IntKind.i64.wrap ((j : Int) - 1) = ((j - 1 : Nat) : Int) := (IntWalk.i64_in _ (by omega)).trans (by omega)
            obtain ⟨g6, rfl⟩ := own_shape (S9.out.own (i := 1) rfl) (show 0 < N by omega)
            go_wp2_with fail
            refine (nextE (N := (N : Int)) _ (D9.out.now S9.out) hn (by omega)).mono ?_
            rintro e w10 ⟨r, rfl, ⟨h0a, h1a⟩, hs_, tu_⟩
            obtain ⟨wb10, d_, st_⟩ := D9.out.num S9.out hs_ tu_
            obtain ⟨a, rfl⟩ := Int.eq_ofNat_of_zero_le h0a
            have D10 := Lib.hid d_
            have S10 := Lib.hid st_
            clear d_ st_ hs_ tu_ D9 S9
            go_wp2_with fail
            refine (nextE (N := (N : Int)) _ (D10.out.now S10.out) hn (by omega)).mono ?_
            rintro e w11 ⟨r, rfl, ⟨h0b, h1b⟩, hs_, tu_⟩
            obtain ⟨wb11, d_, st_⟩ := D10.out.num S10.out hs_ tu_
            obtain ⟨b, rfl⟩ := Int.eq_ofNat_of_zero_le h0b
            have D11 := Lib.hid d_
            have S11 := Lib.hid st_
            clear d_ st_ hs_ tu_ D10 S10
            have haN : a < N := by omega
            have hbN : b < N := by omega
            obtain ⟨x, hx⟩ : ∃ x, L2[a]? = some x := ⟨_, List.getElem?_eq_getElem (by rw [HL2.out]; exact haN)⟩
            obtain ⟨y, hy⟩ : ∃ y, L2[b]? = some y := ⟨_, List.getElem?_eq_getElem (by rw [HL2.out]; exact hbN)⟩
            have ca := own_cell (S11.out.own (i := 1) rfl) (show (ints L2)[a]? = some (.int .i64 x) by simp [hx])
            have cb := own_cell (S11.out.own (i := 1) rfl) (show (ints L2)[b]? = some (.int .i64 y) by simp [hy])
            have fa := (S11.out.own (i := 1) rfl).frozenAt a
            have fb := (S11.out.own (i := 1) rfl).frozenAt b
            have S12a := S11.out.store (i := 1) rfl a (.int .i64 y)
            obtain ⟨z, hz⟩ : ∃ z, (L2.set a y)[b]? = some z := ⟨_, List.getElem?_eq_getElem (by rw [List.length_set, HL2.out]; exact hbN)⟩
            have cb2 := own_cell (S12a.own (i := 1) rfl) (show ((ints L2).set a (.int .i64 y))[b]? = some (.int .i64 z) by rw [ints_set, List.getElem?_map, hz]; rfl)
            have fb2 := (S12a.own (i := 1) rfl).frozenAt b
            have S12 := Lib.hid ((S11.out.store (i := 1) rfl a (.int .i64 y)).store (i := 1) rfl b (.int .i64 x))
            have LN := Lib.hid (show ((L2.set a y).set b x).length = N by simp [HL2.out])
            have EN := Lib.hid (show ((ints L2).set a (.int .i64 y)).set b (.int .i64 x) = ints ((L2.set a y).set b x) by rw [ints_set, ints_set])
            clear hx hy hz S12a S11
            go_wp2
            go_roundw
            case rel => exact ⟨j - 1, (L2.set a y).set b x, wb11, by omega, by first | rfl | (rw [q3]) | go_num, LN.out, D11.out, by rw [← EN.out]; exact S12.out⟩
            case measure => simp [intOf]; omega
          · have hcase : ¬ ((0 : Int) < (j : Int)) ∨ ((0 : Int) < (j : Int) ∧ ¬ ((1 : Int) < (N : Int))) := by omega
            rcases hcase with hj1 | ⟨hj1, hN1⟩
            · skip
              have hlo := S9.out.lo
              go_wp2_with (at_builtin; refine wpList_push_h _ rfl (.tmp 64) (.tmp 66) 35 24 rfl Try.underlying35 (.slice none 0 0) 24 Try.infoS rfl wr.heap.size rfl wb9.heap.size (.slice A' m c') m _ rfl (S9.out.rows (i := 0) rfl) (.slice A6 N c6) rfl rfl (by omega) (by omega) hlo ?_)
              intro A7 c7 w7 own7 gr7 hat7
              have S7 := Lib.hid (S9.out.rowPush1 HL2.out own7 gr7 hat7)
              have X7 := Lib.hid (show (xss ++ [L2]).length = m + 1 by simp [HXL.out])
              have R7 := Lib.hid (rows_snoc (xs := L2) HXR.out (by rw [HL2.out]; omega))
              clear own7 gr7 hat7
              go_wp2
              go_roundw
              case rel => exact ⟨k - 1, m + 1, c7, A7, _, _, wb9, by omega, by omega, rfl, by first | rfl | (rw [q2]) | go_num, X7.out, R7.out, D9.out, S7.out⟩
              case measure => simp [intOf]; omega
            · skip
              have hlo := S9.out.lo
              go_wp2_with (at_builtin; refine wpList_push_h _ rfl (.tmp 64) (.tmp 66) 35 24 rfl Try.underlying35 (.slice none 0 0) 24 Try.infoS rfl wr.heap.size rfl wb9.heap.size (.slice A' m c') m _ rfl (S9.out.rows (i := 0) rfl) (.slice A6 N c6) rfl rfl (by omega) (by omega) hlo ?_)
              intro A7 c7 w7 own7 gr7 hat7
              have S7 := Lib.hid (S9.out.rowPush1 HL2.out own7 gr7 hat7)
              have X7 := Lib.hid (show (xss ++ [L2]).length = m + 1 by simp [HXL.out])
              have R7 := Lib.hid (rows_snoc (xs := L2) HXR.out (by rw [HL2.out]; omega))
              clear own7 gr7 hat7
              go_wp2
              go_roundw
              case rel => exact ⟨k - 1, m + 1, c7, A7, _, _, wb9, by omega, by omega, rfl, by first | rfl | (rw [q2]) | go_num, X7.out, R7.out, D9.out, S7.out⟩
              case measure => simp [intOf]; omega
      · have n0 : (r == 0) = false := by rw [beq_eq_false_iff_ne]; exact e0
        have hlo := S5.out.lo
        go_wp2_with (at_builtin; refine wpList_push_h _ rfl (.tmp 64) (.tmp 66) 35 24 rfl Try.underlying35 (.slice none 0 0) 24 Try.infoS rfl w5.heap.size rfl wb5.heap.size (.slice A' m c') m _ rfl (S5.out.rows (i := 0) rfl) (.slice A4 N c4) rfl rfl (by omega) (by omega) hlo ?_)
        intro A7 c7 w7 own7 gr7 hat7
        have S7 := Lib.hid (S5.out.rowPush1 HL4.out own7 gr7 hat7)
        have X7 := Lib.hid (show (xss ++ [L]).length = m + 1 by simp [HXL.out])
        have R7 := Lib.hid (rows_snoc (xs := L) HXR.out (by rw [HL4.out]; omega))
        clear own7 gr7 hat7
        go_wp2
        go_roundw
        case rel => exact ⟨k - 1, m + 1, c7, A7, _, _, wb5, by omega, by omega, rfl, by first | rfl | (rw [q2]) | go_num, X7.out, R7.out, D5.out, S7.out⟩
        case measure => simp [intOf]; omega
    · have kI : ¬ (0 : Int) < (k : Int) := by omega
      have hm3 : m ≤ 3 := by omega
      go_wp2_with fail
      refine (nextE (N := 30) _ (D3.out.now S3.out) hn (by omega)).mono ?_
      rintro e w4 ⟨r, rfl, ⟨h0r, h1r⟩, hs_, tu_⟩
      obtain ⟨wb4, d_, st_⟩ := D3.out.num S3.out hs_ tu_
      have D4 := Lib.hid d_
      have S4 := Lib.hid st_
      clear d_ st_ hs_ tu_ D3 S3
      have N1 : IntKind.i64.wrap ((N : Int) + 1) = ((N + 1 : Nat) : Int) := (IntWalk.i64_in _ (by omega)).trans (by omega)
      have S5 := S4
      by_cases e0 : r = 0
      · subst e0
        go_wp2_with fail
        refine (unit_any (N + 1) _ (by omega)).mono ?_
        rintro e w6 ⟨A6, c6, rfl, own, bel⟩
        have S6 := Lib.hid (S5.out.addOwn bel own (Nat.le_refl _))
        have HLU := Lib.hid (show (unitL (N + 1)).length = N + 1 by simp [unitL])
        clear own bel S5
        have hlo := S6.out.lo
        go_wp2_with (at_builtin; refine wpList_push_h _ rfl (.tmp 72) (.tmp 76) 35 24 rfl Try.underlying35 (.slice none 0 0) 24 Try.infoS rfl w6.heap.size rfl wb4.heap.size (.slice A' m c') m _ rfl (S6.out.rows (i := 0) rfl) (.slice A6 (N + 1) c6) rfl rfl (by omega) (by omega) hlo ?_)
        intro A7 c7 w7 own7 gr7 hat7
        have S7 := Lib.hid (S6.out.rowPush1 HLU.out own7 gr7 hat7)
        have X7 := Lib.hid (show (xss ++ [unitL (N + 1)]).length = m + 1 by simp [HXL.out])
        have R7 := Lib.hid (rows_snoc (xs := unitL (N + 1)) HXR.out (by rw [HLU.out]; omega))
        clear own7 gr7 hat7
        go_wp2
        exact bodyPost_ret (v := .tuple #[.int .i64 (N : Int), .slice A7 (m + 1) c7]) (by simp [results, Try.results53, go_sem]) rfl ⟨wb4, _, A7, m + 1, c7, _, _, rfl, X7.out, by omega, R7.out, D4.out, S7.out⟩
      have n0 : (r == 0) = false := by rw [beq_eq_false_iff_ne]; exact e0
      by_cases e1 : r = 1
      · subst e1
        have S6 := Lib.hid (S5.out.addLit3 (.int .i64 (-1)) (.int .i64 401) (.int .i64 ((N + 1 : Nat) : Int)) 2)
        have Q := Lib.hid (D4.out.out S5.out)
        go_wp2_with fail
        refine (pickE (m := 3) (c2 := 3) (xs := [-1, 401, ((N + 1 : Nat) : Int)]) _ (D4.out.now S6.out) hn rfl (by decide) (by decide) (own_rd (S6.out.own (i := 1) rfl)) Q.out).mono ?_
        rintro e w7 ⟨z, rfl, _, hs_, tu_⟩
        obtain ⟨wb7, d_, st_⟩ := D4.out.num S6.out hs_ tu_
        have D7 := Lib.hid d_
        have S7 := Lib.hid (st_.take 1)
        clear d_ st_ hs_ tu_ D4 S6
        go_wp2
        exact bodyPost_ret (v := .tuple #[.int .i64 z, .slice A' m c']) (by simp [results, Try.results53, go_sem]) rfl ⟨wb7, _, A', m, c', _, _, rfl, HXL.out, by omega, HXR.out, D7.out, S7.out⟩
      have n1 : (r == 1) = false := by rw [beq_eq_false_iff_ne]; exact e1
      by_cases e2 : r = 2
      · subst e2
        go_wp2
        go_loopw [7] (fun u wr => ∃ (m c' : Nat) (A' : Option Addr) (vals : List Value) (xss : List (List Int)), m ≤ 17 ∧ u = .slice A' m c' ∧ xss.length = m ∧ (∀ xs ∈ xss, xs.length ≤ 401) ∧ St wb4 wr [.rows 2 24 A' m c' vals xss]) (fun u _ => 17 - lenOf u)
        case atStart => exact ⟨m, c', A', vals, xss, by omega, rfl, HXL.out, HXR.out, S5.out⟩
        case round =>
          obtain ⟨m, c', A', vals, xss, hm17, rfl, hxl, hxr, st_⟩ := hrel
          have S6 := Lib.hid st_
          have HXL := Lib.hid hxl
          have HXR := Lib.hid hxr
          clear st_ hxl hxr S5
          by_cases hm : m < 17
          · have mI : (m : Int) < 17 := by omega
            go_wp2_with fail
            refine (unit_any N _ (by omega)).mono ?_
            rintro e w6 ⟨A6, c6, rfl, own, bel⟩
            have S8 := Lib.hid (S6.out.addOwn bel own (Nat.le_refl _))
            have HLU := Lib.hid (show (unitL N).length = N by simp [unitL])
            clear own bel S6
            have hlo := S8.out.lo
            go_wp2_with (at_builtin; refine wpList_push_h _ rfl (.tmp 90) (.tmp 93) 35 24 rfl Try.underlying35 (.slice none 0 0) 24 Try.infoS rfl w6.heap.size rfl wb4.heap.size (.slice A' m c') m _ rfl (S8.out.rows (i := 0) rfl) (.slice A6 N c6) rfl rfl (by omega) (by omega) hlo ?_)
            intro A7 c7 w7 own7 gr7 hat7
            have S7 := Lib.hid (S8.out.rowPush1 HLU.out own7 gr7 hat7)
            have X7 := Lib.hid (show (xss ++ [unitL N]).length = m + 1 by simp [HXL.out])
            have R7 := Lib.hid (rows_snoc (xs := unitL N) HXR.out (by rw [HLU.out]; omega))
            clear own7 gr7 hat7
            go_wp2
            go_roundw
            case rel => exact ⟨m + 1, c7, A7, _, _, by omega, rfl, X7.out, R7.out, S7.out⟩
            case measure => simp [lenOf]; omega
          · obtain rfl : m = 17 := by omega
            go_wp2
            exact bodyPost_ret (v := .tuple #[.int .i64 (N : Int), .slice A' 17 c']) (by simp [results, Try.results53, go_sem]) rfl ⟨wb4, _, A', 17, c', _, _, rfl, HXL.out, by omega, HXR.out, D4.out, S6.out⟩
      have n2 : (r == 2) = false := by rw [beq_eq_false_iff_ne]; exact e2
      go_wp2
      exact bodyPost_ret (v := .tuple #[.int .i64 (N : Int), .slice A' m c']) (by simp [results, Try.results53, go_sem]) rfl ⟨wb4, _, A', m, c', _, _, rfl, HXL.out, by omega, HXR.out, D4.out, S5.out⟩
end
end Go.Proofs.Ytmfddenjemoedaa
