/- impl.identityOf, singleWords; slices.Reverse; growing by append. -/
import Derived.Test.YtmgoaabeopnopaaL15
import Derived.Shelf.SlicesG.Reverse
import Derived.ArgAppend
namespace Go.Proofs.Ytmgoaabeopnopaa
open Go.RowKit

/-- The cells vals are slices that read the rows xss. -/
def RowsAt (w : World) (vals : List Value) (xss : List (List Int)) : Prop :=
  vals.length = xss.length ∧ ∀ (j : Nat) (xs : List Int), xss[j]? = some xs → ∃ (A' : Option Addr) (c' : Nat), vals[j]? = some (Value.slice A' xs.length c') ∧ Rd w A' (ints xs) ∧ xs.length ≤ 9223372036854775807
section
variable {w w' : World} {A : Option Addr} {vals : List Value} {xss : List (List Int)} {ys : List Int} {p m c : Nat}
theorem rdSS_of (h : Rd w A vals) (hr : RowsAt w vals xss) : RdSS w A xss := ⟨vals, h, hr.1, hr.2⟩
theorem RowsAt.keep (h : RowsAt w vals xss) (hb : Below w.heap.size w w') : RowsAt w' vals xss :=
  ⟨h.1, fun j xs hj => by obtain ⟨A', c', h1, h2, h3⟩ := h.2 j xs hj; exact ⟨A', c', h1, h2.keep hb, h3⟩⟩
theorem RowsAt.set (h : RowsAt w vals xss) (hd : Rd w A (ints ys)) (hl : ys.length = m) (hm : m ≤ 1048576) : RowsAt w (vals.set p (.slice A m c)) (xss.set p ys) := by
  subst hl
  refine ⟨by simp [h.1], fun j xs hj => ?_⟩
  by_cases e : p = j
  · subst e
    have hp : p < xss.length := by have := (List.getElem?_eq_some_iff.1 hj).1; simpa using this
    rw [List.getElem?_set_self hp] at hj
    injection hj with hj
    subst hj
    exact ⟨A, c, by rw [List.getElem?_set_self (by rw [h.1]; exact hp)], hd, by omega⟩
  · rw [List.getElem?_set_ne e] at hj ⊢
    exact h.2 j xs hj
/-- The slices of one element each out of the block g. -/
def sgV (g N : Nat) : List Value := (List.range N).map fun i => Value.slice (some ⟨g, i, none⟩) 1 1
theorem sgV_len (g N : Nat) : (sgV g N).length = N := by simp [sgV]
theorem sgV_at {g N : Nat} (h : p < N) : (sgV g N)[p]? = some (.slice (some ⟨g, p, none⟩) 1 1) := by simp [sgV, h]
theorem rows_sg {g : Nat} {L : List Int} {N : Nat} (hl : L.length = N) (hg : Rd w (some ⟨g, 0, none⟩) (ints L)) : RowsAt w (sgV g N) (L.map fun x => [x]) := by
  subst hl
  refine ⟨by simp [sgV], fun j xs hj => ?_⟩
  simp only [List.getElem?_map, Option.map_eq_some_iff] at hj
  obtain ⟨x, hx, rfl⟩ := hj
  have hjl := (List.getElem?_eq_some_iff.1 hx).1
  refine ⟨some ⟨g, j, none⟩, 1, sgV_at hjl, fun _ => ⟨g, j, rfl, fun k u hu => ?_⟩, by simp⟩
  obtain ⟨b, o, e, hc⟩ := hg (by simp; omega)
  injection e with e
  injection e with e1 e2
  subst e1
  subst e2
  match k, hu with
  | 0, hu =>
    simp at hu
    subst hu
    have := hc j (.int .i64 x) (by simp [hx])
    simpa using this
end
theorem vfill_step {vs : List Value} {n k : Nat} {x z : Value} (hn : vs.length = n) (hx : vs[k]? = some x) :
    (vs.take k ++ List.replicate (n - k) z).set k x = vs.take (k + 1) ++ List.replicate (n - (k + 1)) z := by
  have hk : k < vs.length := (List.getElem?_eq_some_iff.1 hx).1
  rw [List.set_append_right _ _ (by simp; omega), List.take_add_one, hx]
  have e : k - (vs.take k).length = 0 := by simp; omega
  have e2 : n - k = (n - (k + 1)) + 1 := by omega
  rw [e, e2, List.replicate_succ]
  simp
theorem vfill_at {vs : List Value} {n k : Nat} {z : Value} (hk : k < n) (hn : vs.length = n) : (vs.take k ++ List.replicate (n - k) z)[k]? = some z := by
  rw [List.getElem?_append_right (by simp; omega)]
  simp [List.getElem?_replicate]
  omega
/-- What a call gives back that makes words. -/
def WdsP (w : World) (L : List (List Int)) (M : Nat) (e : Ending) (w' : World) : Prop := ∃ A c, e = .returned (.slice A M c) ∧ RdSS w' A L ∧ Below w.heap.size w w'

/-- 'append' onto a slice without room. -/
theorem wpList_grow {P : Program} (w : World) {ops : Array Oper} {rest : List Oper} {o : Oper} {a : Act} {Q : Exit → Act → World → Prop} (hgd : o.guard = none) (s x : Operand) (t e : TypeId)
    (ho : o.op = .call { callee := .builtin .append, args := #[s, x], argTypes := #[t, t] }) (ht : P.underlying t = some (.slice e))
    (z : Value) (bytes : Nat) (hinfo : (P.info? e).map (fun i => (i.zero, i.size, i.bytes)) = some (some z, 1, bytes)) (hz : z.cells.size = 1)
    (A : Addr) (n cap : Nat) (olds : List Value) (hs : a.eval s = .slice (some A) n cap) (hlo : olds.length = n) (hold : ∀ j u, olds[j]? = some u → w.cell? (A.add j) = some u)
    (ad : Addr) (m c : Nat) (news : List Value) (hx : a.eval x = .slice (some ad) m c) (hl : news.length = m) (hus : ∀ j u, news[j]? = some u → w.cell? (ad.add j) = some u) (h1 : ∀ u ∈ news, u.oneCell' = true)
    (hfull : cap < n + m) (hn : (n + m) * bytes ≤ 140737488355328) (hm : n + m ≤ 9223372036854775807)
    (h : ∀ A' c' w', w'.ownsRow w.heap.size e 1 (.slice A' (n + m) c') (n + m) (olds ++ news) → Below w.heap.size w w' → wpList P ops Q rest (a.put o.dst (.slice A' (n + m) c')) w') :
    wpList P ops Q (o :: rest) a w := by
  obtain ⟨i, hi, hzz⟩ := Option.map_eq_some_iff.1 hinfo
  simp only [Prod.mk.injEq] at hzz
  obtain ⟨e1, e2, e3⟩ := hzz
  refine wpList_append_grows w hgd s x t ho e i z 1 bytes ht hi e1 e2 e3 hz (by decide) (some A) n cap olds hs (fun h => by simp at h) (by omega) (fun b hb => by injection hb with hb; subst hb; exact hold) ad m c news hx (by omega) hus h1 hfull (by unfold maxLen; omega) hn ?_
  intro v' w' hown hg
  have hb : Below w.heap.size w w' := (Below.refl _ _).grown hg (Nat.le_refl _) fun k hk => by simp at hk
  have hown2 := hown
  rcases hown.2 with ⟨rfl, h0⟩ | ⟨g, cap, cur, rfl, rest⟩
  · have hn0 : n = 0 := by omega
    have hm0 : m = 0 := by omega
    subst hn0
    subst hm0
    exact h none 0 _ hown2 hb
  · exact h _ _ _ hown2 hb

end Go.Proofs.Ytmgoaabeopnopaa
