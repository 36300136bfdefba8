/- A pool of forms behind a fixed list of pieces, and the lists of spec.l04Forms. -/
import Derived.Test.YtckmmgepoccopaaSw
import Derived.Test.YtckmmgepoccopaaBef
namespace Go.Proofs.Ytckmmgepoccopaa
open Go.RowKit

/-- One of the pool: where its moves lie, and which they are. -/
structure Pf where
  a : Option Addr
  c : Nat
  vals : List Value
  xss : List (List Int)
def poolP (N : Nat) (ps : List Pf) : List Pc := ps.map fun p => .rows 2 28 p.a N p.c p.vals p.xss
def Pf.val (N : Nat) (p : Pf) : Value := .slice p.a N p.c
section
variable {N j k : Nat} {ps : List Pf} {p : Pf} {Fx Qs : List Pc} {w w0 : World} {q : Pc}
theorem poolP_at (h : ps[j]? = some p) : (Fx ++ poolP N ps)[Fx.length + j]? = some (.rows 2 28 p.a N p.c p.vals p.xss) := by
  rw [List.getElem?_append_right (by omega), Nat.add_sub_cancel_left]
  simp [poolP, h]
theorem poolP_snoc : poolP N (ps ++ [p]) = poolP N ps ++ [.rows 2 28 p.a N p.c p.vals p.xss] := by simp [poolP]
theorem poolP_push (a : Option Addr) (c : Nat) (vals : List Value) (xss : List (List Int)) : Fx ++ poolP N ps ++ [.rows 2 28 a N c vals xss] = Fx ++ poolP N (ps ++ [⟨a, c, vals, xss⟩]) := by
  rw [poolP_snoc, List.append_assoc]
theorem St.pool_rd (h : St w0 w (Fx ++ poolP N ps)) (hj : ps[j]? = some p) : RdSS w p.a p.xss := ownSS_rd (h.sep.ownSS (poolP_at hj))
/-- The last piece comes to the front. -/
theorem St.front (h : St w0 w (Qs ++ [q])) : St w0 w (q :: Qs) := by
  refine h.pick (fun i => if i = 0 then Qs.length else i - 1) (fun i hi => ?_) (fun i hi => ?_) (fun i l hi hl hne => ?_)
  · show (if i = 0 then Qs.length else i - 1) < (Qs ++ [q]).length
    simp at hi ⊢
    split <;> omega
  · show (q :: Qs)[i]? = (Qs ++ [q])[if i = 0 then Qs.length else i - 1]?
    cases i with
    | zero => simp
    | succ i =>
      simp at hi
      simp [List.getElem?_append_left hi]
  · show (if i = 0 then Qs.length else i - 1) ≠ (if l = 0 then Qs.length else l - 1)
    simp at hi hl
    split <;> split <;> omega
/-- A piece in the list's midst is lifted over the pool: what was added behind the pool stands ahead of it. -/
theorem St.ahead (h : St w0 w (Fx ++ Qs ++ [q])) : St w0 w (Fx ++ [q] ++ Qs) := by
  refine h.pick (fun i => if i < Fx.length then i else if i = Fx.length then Fx.length + Qs.length else i - 1) (fun i hi => ?_) (fun i hi => ?_) (fun i l hi hl hne => ?_)
  · show (if i < Fx.length then i else if i = Fx.length then Fx.length + Qs.length else i - 1) < (Fx ++ Qs ++ [q]).length
    simp at hi ⊢
    split
    · omega
    · split <;> omega
  · show (Fx ++ [q] ++ Qs)[i]? = (Fx ++ Qs ++ [q])[if i < Fx.length then i else if i = Fx.length then Fx.length + Qs.length else i - 1]?
    simp at hi
    split
    · rename_i h1
      rw [List.append_assoc, List.append_assoc, List.getElem?_append_left h1, List.getElem?_append_left h1]
    · split
      · rename_i h1 h2
        have e1 : (Fx ++ [q] ++ Qs)[Fx.length]? = some q := by
          rw [List.append_assoc, List.getElem?_append_right (Nat.le_refl _), Nat.sub_self]
          rfl
        have e2 : (Fx ++ Qs ++ [q])[Fx.length + Qs.length]? = some q := by
          rw [← List.length_append, List.getElem?_append_right (Nat.le_refl _), Nat.sub_self]
          rfl
        rw [h2, e1, e2]
      · rename_i h1 h2
        rw [List.getElem?_append_right (by simp; omega), List.append_assoc, List.getElem?_append_right (by omega), List.getElem?_append_left (by omega)]
        congr 1
        simp
        omega
  · show (if i < Fx.length then i else if i = Fx.length then Fx.length + Qs.length else i - 1) ≠ (if l < Fx.length then l else if l = Fx.length then Fx.length + Qs.length else l - 1)
    simp at hi hl
    split <;> split <;> (try split) <;> (try split) <;> omega
end

/-- The place that a form gets in a list of indices of forms: behind those that are before it. -/
def plcF (Fs : List (List (List Int))) (js : List Nat) (x : List (List Int)) : Nat := (js.takeWhile fun j => befB (Fs.getD j []) x).length
/-- A form is put into the list, unless it is there. -/
def insJ (Fs : List (List (List Int))) (js : List Nat) (o : Nat) : List Nat :=
  if (js.drop (plcF Fs js (Fs.getD o []))).head?.map (fun j => Fs.getD j []) = some (Fs.getD o []) then js else js.take (plcF Fs js (Fs.getD o [])) ++ o :: js.drop (plcF Fs js (Fs.getD o []))
def jsTo (Fs : List (List (List Int))) : Nat → List Nat
  | 0 => []
  | o + 1 => insJ Fs (jsTo Fs o) o
section
variable {Fs : List (List (List Int))} {js : List Nat} {x : List (List Int)} {o t : Nat}
theorem plcF_le : plcF Fs js x ≤ js.length := (List.takeWhile_prefix _).length_le
/-- Those ahead of the place are before the form, and the one at the place is not. -/
theorem plcF_iff (ht : t ≤ js.length) (hlt : ∀ s j, s < t → js[s]? = some j → befB (Fs.getD j []) x = true) (hge : ∀ j, js[t]? = some j → befB (Fs.getD j []) x = false) : plcF Fs js x = t := by
  unfold plcF
  have h1 : js = js.take t ++ js.drop t := (List.take_append_drop t js).symm
  have h2 : (js.take t).all (fun j => befB (Fs.getD j []) x) = true := List.all_eq_true.2 fun j hj => by
    obtain ⟨s, hs, he⟩ := List.mem_iff_getElem.1 hj
    have hs2 : s < min t js.length := by simpa using hs
    have hs3 : s < js.length := by omega
    refine hlt s j (by omega) ?_
    rw [← he]
    simp [hs3]
  rw [h1, List.takeWhile_append_of_pos (fun j hj => List.all_eq_true.1 h2 j hj)]
  cases hd : js.drop t with
  | nil => simp; omega
  | cons j r =>
    have hj : js[t]? = some j := by
      have := congrArg (fun l : List Nat => l[0]?) hd
      simpa using this
    rw [List.takeWhile_cons_of_neg (by rw [hge j hj]; decide)]
    simp
    omega
theorem insJ_lt (h : ∀ j ∈ js, j < o) : ∀ j ∈ insJ Fs js o, j < o + 1 := by
  intro j hj
  unfold insJ at hj
  split at hj
  · have := h j hj; omega
  · rcases List.mem_append.1 hj with h1 | h1
    · have := h j (List.mem_of_mem_take h1); omega
    · rcases List.mem_cons.1 h1 with rfl | h1
      · omega
      · have := h j (List.mem_of_mem_drop h1); omega
theorem jsTo_lt : ∀ o, ∀ j ∈ jsTo Fs o, j < o
  | 0, j, h => by simp [jsTo] at h
  | o + 1, j, h => insJ_lt (jsTo_lt o) j h
theorem insJ_len : (insJ Fs js o).length ≤ js.length + 1 := by
  unfold insJ
  split
  · omega
  · have := plcF_le (Fs := Fs) (js := js) (x := Fs.getD o [])
    simp
    omega
theorem jsTo_len : ∀ o, (jsTo Fs o).length ≤ o
  | 0 => by simp [jsTo]
  | o + 1 => by
    have h1 := insJ_len (Fs := Fs) (js := jsTo Fs o) (o := o)
    have h2 : (jsTo Fs o).length ≤ o := jsTo_len o
    simp only [jsTo]
    omega
end
end Go.Proofs.Ytckmmgepoccopaa
