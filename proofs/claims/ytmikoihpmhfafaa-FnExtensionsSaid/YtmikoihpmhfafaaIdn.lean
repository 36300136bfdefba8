/- impl.identityOf, singleWords; slices.Reverse; growing by append. -/
import Derived.Test.YtmikoihpmhfafaaL15
import Derived.Test.YtmikoihpmhfafaaRShelf
import Derived.Shelf.SlicesG.Reverse
import Derived.ArgAppend
namespace Go.Proofs.Ytmikoihpmhfafaa
open Go.RowKit

/-- The cells vals are slices that read the rows xss. -/
def RowsAt (w : World) (vals : List Value) (xss : List (List Int)) : Prop :=
  vals.length = xss.length ∧ ∀ (j : Nat) (xs : List Int), xss[j]? = some xs → ∃ (A' : Option Addr) (c' : Nat), vals[j]? = some (Value.slice A' xs.length c') ∧ Rd w A' (ints xs) ∧ xs.length ≤ 9223372036854775807
section
variable {w w' : World} {A : Option Addr} {vals : List Value} {xss : List (List Int)} {ys : List Int} {p m c : Nat}
theorem rdSS_of (h : Rd w A vals) (hr : RowsAt w vals xss) : RdSS w A xss := ⟨vals, h, hr.1, hr.2⟩
theorem RowsAt.keep (h : RowsAt w vals xss) (hb : Below w.heap.size w w') : RowsAt w' vals xss :=
  ⟨h.1, fun j xs hj => by obtain ⟨A', c', h1, h2, h3⟩ := h.2 j xs hj; exact ⟨A', c', h1, h2.keep hb, h3⟩⟩
theorem RowsAt.set (h : RowsAt w vals xss) (hd : Rd w A (ints ys)) (hl : ys.length = m) (hm : m ≤ 1048576) : RowsAt w (vals.set p (.slice A m c)) (xss.set p ys) := by
  subst hl
  refine ⟨by simp [h.1], fun j xs hj => ?_⟩
  by_cases e : p = j
  · subst e
    have hp : p < xss.length := by have := (List.getElem?_eq_some_iff.1 hj).1; simpa using this
    rw [List.getElem?_set_self hp] at hj
    injection hj with hj
    subst hj
    exact ⟨A, c, by rw [List.getElem?_set_self (by rw [h.1]; exact hp)], hd, by omega⟩
  · rw [List.getElem?_set_ne e] at hj ⊢
    exact h.2 j xs hj
/-- The slices of one element each out of the block g. -/
def sgV (g N : Nat) : List Value := (List.range N).map fun i => Value.slice (some ⟨g, i, none⟩) 1 1
theorem sgV_len (g N : Nat) : (sgV g N).length = N := by simp [sgV]
theorem sgV_at {g N : Nat} (h : p < N) : (sgV g N)[p]? = some (.slice (some ⟨g, p, none⟩) 1 1) := by simp [sgV, h]
theorem rows_sg {g : Nat} {L : List Int} {N : Nat} (hl : L.length = N) (hg : Rd w (some ⟨g, 0, none⟩) (ints L)) : RowsAt w (sgV g N) (L.map fun x => [x]) := by
  subst hl
  refine ⟨by simp [sgV], fun j xs hj => ?_⟩
  simp only [List.getElem?_map, Option.map_eq_some_iff] at hj
  obtain ⟨x, hx, rfl⟩ := hj
  have hjl := (List.getElem?_eq_some_iff.1 hx).1
  refine ⟨some ⟨g, j, none⟩, 1, sgV_at hjl, fun _ => ⟨g, j, rfl, fun k u hu => ?_⟩, by simp⟩
  obtain ⟨b, o, e, hc⟩ := hg (by simp; omega)
  injection e with e
  injection e with e1 e2
  subst e1
  subst e2
  match k, hu with
  | 0, hu =>
    simp at hu
    subst hu
    have := hc j (.int .i64 x) (by simp [hx])
    simpa using this
end
theorem vfill_step {vs : List Value} {n k : Nat} {x z : Value} (hn : vs.length = n) (hx : vs[k]? = some x) :
    (vs.take k ++ List.replicate (n - k) z).set k x = vs.take (k + 1) ++ List.replicate (n - (k + 1)) z := by
  have hk : k < vs.length := (List.getElem?_eq_some_iff.1 hx).1
  rw [List.set_append_right _ _ (by simp; omega), List.take_add_one, hx]
  have e : k - (vs.take k).length = 0 := by simp; omega
  have e2 : n - k = (n - (k + 1)) + 1 := by omega
  rw [e, e2, List.replicate_succ]
  simp
theorem vfill_at {vs : List Value} {n k : Nat} {z : Value} (hk : k < n) (hn : vs.length = n) : (vs.take k ++ List.replicate (n - k) z)[k]? = some z := by
  rw [List.getElem?_append_right (by simp; omega)]
  simp [List.getElem?_replicate]
  omega
/-- What a call gives back that makes words. -/
def WdsP (w : World) (L : List (List Int)) (M : Nat) (e : Ending) (w' : World) : Prop := ∃ A c, e = .returned (.slice A M c) ∧ RdSS w' A L ∧ Below w.heap.size w w'

/-- 'append' onto a slice without room. -/
theorem wpList_grow {P : Program} (w : World) {ops : Array Oper} {rest : List Oper} {o : Oper} {a : Act} {Q : Exit → Act → World → Prop} (hgd : o.guard = none) (s x : Operand) (t e : TypeId)
    (ho : o.op = .call { callee := .builtin .append, args := #[s, x], argTypes := #[t, t] }) (ht : P.underlying t = some (.slice e))
    (z : Value) (bytes : Nat) (hinfo : (P.info? e).map (fun i => (i.zero, i.size, i.bytes)) = some (some z, 1, bytes)) (hz : z.cells.size = 1)
    (A : Addr) (n cap : Nat) (olds : List Value) (hs : a.eval s = .slice (some A) n cap) (hlo : olds.length = n) (hold : ∀ j u, olds[j]? = some u → w.cell? (A.add j) = some u)
    (ad : Addr) (m c : Nat) (news : List Value) (hx : a.eval x = .slice (some ad) m c) (hl : news.length = m) (hus : ∀ j u, news[j]? = some u → w.cell? (ad.add j) = some u) (h1 : ∀ u ∈ news, u.oneCell' = true)
    (hfull : cap < n + m) (hn : (n + m) * bytes ≤ 140737488355328) (hm : n + m ≤ 9223372036854775807)
    (h : ∀ A' c' w', w'.ownsRow w.heap.size e 1 (.slice A' (n + m) c') (n + m) (olds ++ news) → Below w.heap.size w w' → wpList P ops Q rest (a.put o.dst (.slice A' (n + m) c')) w') :
    wpList P ops Q (o :: rest) a w := by
  obtain ⟨i, hi, hzz⟩ := Option.map_eq_some_iff.1 hinfo
  simp only [Prod.mk.injEq] at hzz
  obtain ⟨e1, e2, e3⟩ := hzz
  refine wpList_append_grows w hgd s x t ho e i z 1 bytes ht hi e1 e2 e3 hz (by decide) (some A) n cap olds hs (fun h => by simp at h) (by omega) (fun b hb => by injection hb with hb; subst hb; exact hold) ad m c news hx (by omega) hus h1 hfull (by unfold maxLen; omega) hn ?_
  intro v' w' hown hg
  have hb : Below w.heap.size w w' := (Below.refl _ _).grown hg (Nat.le_refl _) fun k hk => by simp at hk
  have hown2 := hown
  rcases hown.2 with ⟨rfl, h0⟩ | ⟨g, cap, cur, rfl, rest⟩
  · have hn0 : n = 0 := by omega
    have hm0 : m = 0 := by omega
    subst hn0
    subst hm0
    exact h none 0 _ hown2 hb
  · exact h _ _ _ hown2 hb

/-- slices.Reverse on a slice of int64 that the call owns. -/
theorem reverse_any {A : Option Addr} {c n base : Nat} {xs : List Int} (w : World) (hown : w.ownsRow base 2 1 (.slice A n c) n (ints xs)) (hn : n ≤ 1048576) (h0 : 0 < n) :
    Calls Try.prog 212 #[.slice A n c] w fun e w' => e = .returned (.tuple #[]) ∧ w'.ownsRow base 2 1 (.slice A n c) n (ints xs.reverse) ∧ w.grownBy w' (Value.slice A n c).ownBlock := by
  have hx : xs.length = n := by simpa using hown.1
  rcases hown.2 with ⟨_, h1⟩ | ⟨g, cap, cur, hv, hbase, hb, h1, h2, h3, h4⟩
  · omega
  simp only [Value.slice.injEq, true_and] at hv
  obtain ⟨rfl, rfl⟩ := hv
  subst hx
  have hH := holds_of_blockI hb (by simpa using h4)
  refine (Go.Proofs.AnyG.slices_Reverse_int Go.Proofs.Try.l198 g 0 c xs w hH (by omega)).mono ?_
  rintro e w' ⟨rfl, m, rfl⟩
  have hg0 : ∀ W : World, Go.Sort.grow W #[] = W := fun W => by simp [Go.Sort.grow]
  rw [← hg0 (Sort.putRow _ _ _ _ _)]
  exact ⟨rfl, ownsRow_sortedI (by simp) hbase hb h1 h2 h3, grownBy_sortedI _⟩

set_option maxHeartbeats 800000 in
theorem ident_any (n : Nat) (w : World) (hn : n ≤ 1048576) :
    Calls Try.prog 206 #[.int .i64 n] w fun e w' => e = .returned (.slice (some ⟨w.heap.size, 0, none⟩) n n) ∧ St w w' [.own 2 (some ⟨w.heap.size, 0, none⟩) n n (ints (unitL n))] := by
  have hmk := run_make_row' (P := Try.prog) 91 2 (.int .i64 0) 8 Try.underlying91 Try.info2 rfl .i64 .i64 n (by omega) (by omega)
  have HL := Lib.hid (show (unitL n).length = n by simp [unitL])
  have S0 := Lib.hid ((St.start w).addMake (.int .i64 0) n 2 (by unfold maxLen; omega))
  go_enter Try.func206, Try.ntmps206
  go_wp2
  clear hmk
  go_loopw [8] (fun i wr => ∃ k : Nat, k ≤ n ∧ i = .int .i64 k ∧ St w wr [.own 2 (some ⟨w.heap.size, 0, none⟩) n n (ints ((unitL n).take k ++ List.replicate (n - k) 0))]) (fun i _ => n - (intOf i).toNat)
  case atStart => exact ⟨0, Nat.zero_le _, rfl, by simpa [ints] using S0.out⟩
  case round =>
    obtain ⟨k, hk, rfl, st⟩ := hrel
    clear S0
    by_cases hlt : k < n
    · have hcell := own_cell (st.own (i := 0) rfl) (fill_at hlt HL.out)
      have hfrz := (st.own (i := 0) rfl).frozenAt k
      have st2 := st.store (i := 0) rfl k (.int .i64 (k : Int))
      rw [ints_set, fill_step HL.out (show (unitL n)[k]? = some (k : Int) by simp [unitL, hlt])] at st2
      have S2 := Lib.hid st2
      clear st st2
      go_wp2
      go_roundw
      case rel => exact ⟨k + 1, by omega, by go_num, S2.out⟩
      case measure => simp [intOf]; omega
    · obtain rfl : k = n := by omega
      rw [Nat.sub_self, List.replicate_zero, List.append_nil, List.take_of_length_le (by rw [HL.out]; exact Nat.le_refl _)] at st
      have S2 := Lib.hid st
      clear st
      go_wp2
      go_ret
      exact ⟨rfl, S2.out⟩

set_option maxHeartbeats 800000 in
theorem singles_any {g N c : Nat} (w : World) (hN : N ≤ 16) (hc : N ≤ c) :
    Calls Try.prog 213 #[.slice (some ⟨g, 0, none⟩) N c] w fun e w' => e = .returned (.slice (some ⟨w.heap.size, 0, none⟩) N N) ∧ St w w' [.own 31 (some ⟨w.heap.size, 0, none⟩) N N (sgV g N)] := by
  have hmk := run_make_row' (P := Try.prog) 24 31 (.slice none 0 0) 24 Try.underlying24 Try.infoS rfl .i64 .i64 N (by omega) (by omega)
  have S0 := Lib.hid ((St.start w).addMake (.slice none 0 0) N 31 (by unfold maxLen; omega))
  go_enter Try.func213, Try.ntmps213
  go_wp2
  clear hmk
  go_loopw [10] (fun i wr => ∃ k : Nat, k ≤ N ∧ i = .int .i64 k ∧ St w wr [.own 31 (some ⟨w.heap.size, 0, none⟩) N N ((sgV g N).take k ++ List.replicate (N - k) (.slice none 0 0))]) (fun i _ => N - (intOf i).toNat)
  case atStart => exact ⟨0, Nat.zero_le _, rfl, by simpa using S0.out⟩
  case round =>
    obtain ⟨k, hk, rfl, st⟩ := hrel
    clear S0
    by_cases hlt : k < N
    · have hcell := own_cell (st.own (i := 0) rfl) (vfill_at hlt (sgV_len g N))
      have hfrz := (st.own (i := 0) rfl).frozenAt k
      have st2 := st.store (i := 0) rfl k (.slice (some ⟨g, k, none⟩) 1 1)
      rw [vfill_step (sgV_len g N) (sgV_at hlt)] at st2
      have S2 := Lib.hid st2
      have j1 : IntKind.i64.wrap ((k : Int) + 1) = ((k + 1 : Nat) : Int) := (IntWalk.i64_in _ (by omega)).trans (by omega)
      have h1c : k + 1 ≤ c := by omega
      clear st st2
      go_wp2
      go_roundw
      case rel => exact ⟨k + 1, by omega, by go_num, by simpa using S2.out⟩
      case measure => simp [intOf]; omega
    · obtain rfl : k = N := by omega
      rw [Nat.sub_self, List.replicate_zero, List.append_nil, List.take_of_length_le (by rw [sgV_len]; exact Nat.le_refl _)] at st
      have S2 := Lib.hid st
      clear st
      go_wp2
      go_ret
      exact ⟨rfl, S2.out⟩
end Go.Proofs.Ytmikoihpmhfafaa
