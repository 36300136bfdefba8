import Derived.Test.YtmikoihpmhfafaaL4
import Derived.Test.YtmikoihpmhfafaaL5
import Derived.Test.YtmikoihpmhfafaaL6
import Derived.StillTailTactics
/- Renumbering of a move; the greatest number of a list; plain facts, no program. -/
namespace Go.Proofs.Ytmikoihpmhfafaa
open Go.RowKit

/-- The move in which the first k flags have got their new numbers. -/
def renTo (m p : List Int) (n : Nat) : Nat → List Int
  | 0 => List.replicate n 0
  | k + 1 => (renTo m p n k).set (fz p k).toNat (fz p (fz m k))
theorem renTo_length (m p : List Int) (n : Nat) : ∀ k, (renTo m p n k).length = n
  | 0 => by simp [renTo]
  | k + 1 => by simp [renTo, renTo_length m p n k]
theorem renTo_succ {m p : List Int} {n k a b : Nat} {z : Int} (h1 : p[k]? = some (a : Int)) (h2 : m[k]? = some (b : Int)) (h3 : p[b]? = some z) : (renTo m p n k).set a z = renTo m p n (k + 1) := by
  rw [renTo, fz_at h1, fz_at h2, fz_at h3, Int.toNat_natCast]
theorem renTo_at {m p : List Int} {n : Nat} (hpn : p.length = n) (hp : okP p = true) : ∀ k, k ≤ n → ∀ j : Nat, j < k → (renTo m p n k)[(fz p j).toNat]? = some (fz p (fz m j))
  | 0, _, j, h => absurd h (by omega)
  | k + 1, hk, j, h => by
    have hj := fz_in hpn hp (x := (j : Int)) (by omega) (by omega)
    have hk' := fz_in hpn hp (x := (k : Int)) (by omega) (by omega)
    rw [renTo]
    by_cases e : j = k
    · subst e
      rw [List.getElem?_set_self (by rw [renTo_length]; omega)]
    · have hne : (fz p k).toNat ≠ (fz p j).toNat := by
        intro h1
        have := fz_inj hpn hp (x := (k : Int)) (y := (j : Int)) (by omega) (by omega) (by omega) (by omega) (by omega)
        omega
      rw [List.getElem?_set_ne hne]
      exact renTo_at hpn hp k (by omega) j (by omega)
theorem renTo_all {m p : List Int} {n : Nat} (hmn : m.length = n) (hpn : p.length = n) (hm : okP m = true) (hp : okP p = true) : renTo m p n n = conjL m p := by
  refine list_fz (renTo_length m p n n) (conj_len hpn) fun y h0 h1 => ?_
  have i0 := fz_in (xs := invL p) (by rw [invL_len, hpn]) (okP_inv hp) h0 h1
  have e := fz_inv2 hpn hp h0 h1
  obtain ⟨j, hj⟩ := Int.eq_ofNat_of_zero_le i0.1
  rw [hj] at e i0
  have h2 := renTo_at (m := m) hpn hp n (Nat.le_refl _) j (by omega)
  have h3 := fz_conj hmn hpn hm hp i0.1 i0.2
  rw [e] at h2 h3
  rw [h3]
  obtain ⟨q, rfl⟩ := Int.eq_ofNat_of_zero_le h0
  exact fz_at h2
def renM (xss : List (List Int)) (p : List Int) : List (List Int) := xss.map fun m => conjL m p
theorem renM_length (xss : List (List Int)) (p : List Int) : (renM xss p).length = xss.length := by simp [renM]
theorem renM_at {xss : List (List Int)} {p m : List Int} {k : Nat} (h : xss[k]? = some m) : (renM xss p)[k]? = some (conjL m p) := by simp [renM, h]
theorem renM_row {xss : List (List Int)} {p : List Int} {n : Nat} (hpn : p.length = n) : ∀ xs ∈ renM xss p, xs.length = n := by
  intro xs h
  obtain ⟨m, _, rfl⟩ := List.mem_map.1 h
  exact conj_len hpn

/-- One more than the greatest number of a list of numbers of at least 0, as both programs find it. -/
def grtL (l : List Int) : Int := l.foldl (fun a x => if a ≤ x then x + 1 else a) 0
theorem grtL_succ {l : List Int} {k : Nat} {x : Int} (h : l[k]? = some x) : grtL (l.take (k + 1)) = if grtL (l.take k) ≤ x then x + 1 else grtL (l.take k) := by
  rw [List.take_add_one, h]
  unfold grtL
  rw [List.foldl_append]
  rfl
theorem grtL_one {l : List Int} {x : Int} (h : l[0]? = some x) (h0 : 0 ≤ x) : grtL (l.take 1) = x + 1 := by
  have := grtL_succ h
  rw [this, List.take_zero]
  simp [grtL, h0]
theorem grtL_bd {l : List Int} {n : Nat} (h : ∀ x ∈ l, 0 ≤ x ∧ x < (n : Int)) : ∀ k, 0 ≤ grtL (l.take k) ∧ grtL (l.take k) ≤ (n : Int)
  | 0 => by simp [grtL]
  | k + 1 => by
    have ih := grtL_bd h k
    by_cases hk : k < l.length
    · have hx := h l[k] (List.getElem_mem hk)
      rw [grtL_succ (List.getElem?_eq_getElem hk)]
      split <;> omega
    · rw [List.take_of_length_le (by omega)]
      rwa [List.take_of_length_le (by omega)] at ih
theorem grtL_max {l : List Int} {k : Nat} {x v : Int} (hx : l[k]? = some x) (hv : grtL (l.take k) = v + 1) : grtL (l.take (k + 1)) = max v x + 1 := by
  rw [grtL_succ hx, hv]
  split <;> omega

def mxL (l : List Int) : Int := l.foldl max 0
theorem mxL_succ {l : List Int} {k : Nat} {x : Int} (h : l[k]? = some x) : mxL (l.take (k + 1)) = max (mxL (l.take k)) x := by
  rw [List.take_add_one, h]
  unfold mxL
  rw [List.foldl_append]
  rfl
theorem mxL_one {l : List Int} {x : Int} (h : l[0]? = some x) (h0 : 0 ≤ x) : mxL (l.take 1) = x := by
  have := mxL_succ h
  rw [this, List.take_zero]
  simp [mxL]
  omega
theorem grt_mx {l : List Int} (hall : ∀ x ∈ l, 0 ≤ x) : ∀ k, k + 1 ≤ l.length → grtL (l.take (k + 1)) = mxL (l.take (k + 1)) + 1
  | 0, h => by
    have hx := List.getElem?_eq_getElem (show 0 < l.length by omega)
    have h0 := hall _ (List.mem_of_getElem? hx)
    rw [grtL_one hx h0, mxL_one hx h0]
  | k + 1, h => by
    have ih := grt_mx hall k (by omega)
    have hx := List.getElem?_eq_getElem (show k + 1 < l.length by omega)
    rw [grtL_max hx ih, mxL_succ hx]
theorem mxL_bd {l : List Int} {n : Nat} (h : ∀ x ∈ l, 0 ≤ x ∧ x < (n : Int)) : ∀ k, 0 ≤ mxL (l.take k) ∧ (mxL (l.take k) < (n : Int) ∨ mxL (l.take k) = 0)
  | 0 => by simp [mxL]
  | k + 1 => by
    have ih := mxL_bd h k
    by_cases hk : k < l.length
    · have hx := h l[k] (List.getElem_mem hk)
      rw [mxL_succ (List.getElem?_eq_getElem hk)]
      omega
    · rw [List.take_of_length_le (by omega)]
      rwa [List.take_of_length_le (by omega)] at ih
/-- Without one of the generators. -/
theorem okSys_erase {n : Int} {xss : List (List Int)} (h : okSys n xss = true) (i : Nat) : okSys n (xss.eraseIdx i) = true := by
  have h1 := sys_parts h
  refine decide_eq_true ⟨h1.1, h1.2.1, ?_, fun xs hx => h1.2.2.2 xs (List.mem_of_mem_eraseIdx hx)⟩
  have : (xss.eraseIdx i).length ≤ xss.length := List.length_eraseIdx_le _ _
  omega
theorem labL_in {n : Nat} {xss : List (List Int)} (hsys : okSys n xss = true) : ∀ x ∈ labL xss n, 0 ≤ x ∧ x < (n : Int) := by
  intro x hx
  obtain ⟨p, hp, rfl⟩ := List.mem_map.1 hx
  have hp : p < n := by simpa using hp
  have hc := (orbsTo_facts hsys n (Nat.le_refl _)).2.2.2 p hp
  obtain ⟨o, ho, hpo⟩ := List.mem_flatten.1 hc
  have hlt : (orbsTo xss n n).findIdx (fun o => decide ((p : Int) ∈ o)) < (orbsTo xss n n).length := List.findIdx_lt_length_of_exists ⟨o, ho, by simpa using hpo⟩
  have := orbs_cnt hsys (Nat.le_refl n)
  omega
end Go.Proofs.Ytmikoihpmhfafaa
/- What holds at the loops that find distances: facts outside the walks. -/
namespace Go.Proofs.Ytmikoihpmhfafaa
open Go.RowKit

/-- The list that is answered lies before the list of the points reached; the struct that came in is as it was. -/
structure DyS (w : World) (w1 : Nat) (wr : World) (v : Value) (T : TypeId) (g cg n : Nat) (A : Option Addr) (m c : Nat) (D O : List Int) : Prop where
  bx : Bx w wr v T
  out : wr.ownsRow (w.heap.size + 1) 2 1 (.slice (some ⟨g, 0, none⟩) n cg) n (ints D)
  rch : wr.ownsRow w1 2 1 (.slice A m c) m (ints O)
  lt : g < w1
  w1s : w1 ≤ wr.heap.size
section
variable {w wr w4 : World} {v : Value} {T : TypeId} {w1 g cg n m c c4 : Nat} {A A4 : Option Addr} {D O : List Int}
theorem DyS.go {w2 : World} (h : DyS w w1 wr v T g cg n A m c D O) (hb : Below wr.heap.size wr w2) : DyS w w1 w2 v T g cg n A m c D O :=
  ⟨h.bx.go hb, own_below h.out hb (Nat.le_refl _), own_below h.rch hb (Nat.le_refl _), h.lt, Nat.le_trans h.w1s hb.size⟩
theorem DyS.ne (h : DyS w w1 wr v T g cg n A m c D O) : (Value.slice (some ⟨g, 0, none⟩) n cg).ownBlock ≠ (Value.slice A m c).ownBlock := fun he => by
  have := (h.rch.lt g he.symm).1
  have := h.lt
  omega
theorem DyS.glo (h : DyS w w1 wr v T g cg n A m c D O) : w.heap.size + 1 ≤ g := (h.out.lt g rfl).1
theorem DyS.mark (h : DyS w w1 wr v T g cg n A m c D O) (q : Nat) (x : Value) : (wr.setCell ⟨g, q, none⟩ x).ownsRow w1 2 1 (.slice A m c) m (ints O) :=
  h.rch.kept (h.out.stored q x).2 (by
    cases hk : (Value.slice A m c).ownBlock with
    | none => exact .inl rfl
    | some k => exact .inr fun he => h.ne (by rw [hk]; exact he.symm))
theorem DyS.set (h : DyS w w1 wr v T g cg n A m c D O) (q : Nat) (x : Int) : DyS w w1 (wr.setCell ⟨g, q, none⟩ (.int .i64 x)) v T g cg n A m c (D.set q x) O := by
  have hst := h.out.stored q (.int .i64 x)
  refine ⟨⟨h.bx.bel.setCell (p := ⟨g, q, none⟩) h.glo _⟩, by have h1 := hst.1; rwa [ints_set] at h1, h.mark q _, h.lt, by have := h.w1s; simpa using this⟩
theorem DyS.push {o : Obj} {q x : Int} {p : Nat} (h : DyS w w1 wr v T g cg n A m c D O)
    (own4 : w4.ownsRow w1 2 1 (.slice A4 (m + 1) c4) (m + 1) (ints O ++ [.int .i64 q])) (gr : ((wr.setCell ⟨g, p, none⟩ (.int .i64 x)).alloc o).grownBy w4 (Value.slice A m c).ownBlock) :
    DyS w w1 w4 v T g cg n A4 (m + 1) c4 (D.set p x) (O ++ [q]) := by
  have hs := h.set p x
  have hsz : w.heap.size + 1 ≤ (wr.setCell ⟨g, p, none⟩ (.int .i64 x)).heap.size := hs.bx.size
  have hb2 := hs.bx.bel.alloc hsz o
  have hgz := gr.size
  have hws := hs.w1s
  refine ⟨⟨hb2.grown gr (by simp at hsz ⊢; omega) fun k hk => ?_⟩, (hs.out.alloc o).kept gr (.inr h.ne), by simpa using own4, h.lt, ?_⟩
  · have := (h.rch.lt k hk).1
    have := h.glo
    have := h.lt
    omega
  · simp at hgz hws
    omega
theorem DyS.len (h : DyS w w1 wr v T g cg n A m c D O) : O.length = m ∧ D.length = n := by
  have h1 := h.rch.1
  have h2 := h.out.1
  simp at h1 h2
  omega
end

/-- What is known while the points reached at the places before i are done, and the first j generators at the place i. -/
structure DyM (xss : List (List Int)) (n p i j : Nat) (x : Int) (d : Nat) (D O : List Int) : Prop where
  bf : bfs xss [] (n - (i + 1)) (bfsG [] x (xss.drop j) O) (i + 1) = orbL xss n p
  oi : OInv xss n (p : Int) i O
  di : DInv xss n (p : Int) O D
  hx : O[i]? = some x
  hd : IsD xss (p : Int) x d
  cl : ∀ g ∈ xss.take j, fz g x ∈ O
structure DyT (xss : List (List Int)) (n p i : Nat) (D O : List Int) : Prop where
  bf : bfs xss [] (n - i) O i = orbL xss n p
  oi : OInv xss n (p : Int) i O
  di : DInv xss n (p : Int) O D
section
variable {xss : List (List Int)} {n p i j : Nat} {x : Int} {d : Nat} {D O : List Int}
theorem dtop_start (hp : p < n) : DyT xss n p 0 ((List.replicate n (-1)).set p 0) [(p : Int)] := ⟨rfl, oinv_start hp, dinv_start hp⟩
theorem dtop_in (h : DyT xss n p i D O) (hx : O[i]? = some x) (hi : i < n) : ∃ d, DyM xss n p i 0 x d D O ∧ d ≤ i := by
  obtain ⟨d, hd⟩ := h.oi.ex x (List.mem_of_getElem? hx)
  exact ⟨d, ⟨(bfs_go hx hi).symm.trans h.bf, h.oi, h.di, hx, hd, by simp⟩, h.oi.idx i x d hx hd⟩
theorem dmid_old {g : List Int} {y : Int} (h : DyM xss n p i j x d D O) (hg : xss[j]? = some g) (hy : g.getD x.toNat 0 = y) (hin : y ∈ O) : DyM xss n p i (j + 1) x d D O := by
  have h1 := h.bf
  rw [bfsG_go hg hy, if_pos (by simpa using hin)] at h1
  refine ⟨h1, h.oi, h.di, h.hx, h.hd, fun g' hg' => ?_⟩
  rw [List.take_add_one, hg] at hg'
  rcases List.mem_append.1 hg' with h2 | h2
  · exact h.cl g' h2
  · simp at h2; subst h2; rw [show fz g' x = y from hy]; exact hin
theorem dmid_new {g : List Int} {q : Nat} (h : DyM xss n p i j x d D O) (hg : xss[j]? = some g) (hy : g.getD x.toNat 0 = (q : Int)) (hin : ¬ (q : Int) ∈ O) (hq : q < n) :
    DyM xss n p i (j + 1) x d (D.set q ((d : Int) + 1)) (O ++ [(q : Int)]) := by
  have h1 := h.bf
  have hf : fz g x = (q : Int) := hy
  rw [bfsG_go hg hy, if_neg (by simpa using hin)] at h1
  have hp := oinv_push h.oi h.hx (List.mem_of_getElem? hg) (by rw [hf]; exact hin) (by omega) (by omega) h.hd
  rw [hf] at hp
  have hdp := dinv_push h.di hq hp.2
  refine ⟨h1, hp.1, by simpa using hdp, ?_, h.hd, fun g' hg' => ?_⟩
  · rw [List.getElem?_append_left (List.getElem?_eq_some_iff.1 h.hx).1]; exact h.hx
  · rw [List.take_add_one, hg] at hg'
    rcases List.mem_append.1 hg' with h2 | h2
    · exact List.mem_append.2 (.inl (h.cl g' h2))
    · simp at h2; subst h2; rw [hf]; simp
theorem dmid_end (h : DyM xss n p i j x d D O) (hj : xss.length ≤ j) : DyT xss n p (i + 1) D O := by
  have h1 := h.bf
  rw [bfsG_end hj] at h1
  refine ⟨h1, oinv_next h.oi h.hx fun g hg => h.cl g ?_, h.di⟩
  rwa [List.take_of_length_le hj]
theorem dtop_end (h : DyT xss n p i D O) (hi : O.length ≤ i) (hall : (orbL xss n p).length = n) (hps : Passed n (orbL xss n p)) : D = distL xss n p := by
  have h1 := h.bf
  rw [bfs_done hi] at h1
  refine distL_eq (dinv_ok h.di fun y hy => ?_)
  rw [h1]
  exact mem_all hall hps hy
/-- The distance of a point, as the list has it. -/
theorem dinv_in {q : Nat} (h : DInv xss n (p : Int) O D) (hq : (q : Int) ∈ O) : ∃ e : Nat, D[q]? = some (e : Int) ∧ IsD xss p q e := h.on q hq
end
end Go.Proofs.Ytmikoihpmhfafaa
/- What holds at the loops of impl's distances: facts outside the walks. -/
namespace Go.Proofs.Ytmikoihpmhfafaa
open Go.RowKit

/-- The list that is answered lies behind the list of the points. -/
structure EyS (w wr : World) (v : Value) (T : TypeId) (g n : Nat) (A : Option Addr) (c : Nat) (D O : List Int) : Prop where
  bx : Bx w wr v T
  out : wr.ownsRow (w.heap.size + 1) 2 1 (.slice (some ⟨g, 0, none⟩) n n) n (ints D)
  rch : wr.ownsRow w.heap.size 2 1 (.slice A n c) n (ints O)
  hi : InB (.slice A n c) w.heap.size g
section
variable {w wr w2 : World} {v : Value} {T : TypeId} {g n c : Nat} {A : Option Addr} {D O : List Int}
theorem EyS.go (h : EyS w wr v T g n A c D O) (hb : Below wr.heap.size wr w2) : EyS w w2 v T g n A c D O :=
  ⟨h.bx.go hb, own_below h.out hb (Nat.le_refl _), own_below h.rch hb (Nat.le_refl _), h.hi⟩
theorem EyS.glo (h : EyS w wr v T g n A c D O) : w.heap.size + 1 ≤ g := (h.out.lt g rfl).1
theorem EyS.set (h : EyS w wr v T g n A c D O) (q : Nat) (x : Int) : EyS w (wr.setCell ⟨g, q, none⟩ (.int .i64 x)) v T g n A c (D.set q x) O := by
  have hst := h.out.stored q (.int .i64 x)
  refine ⟨⟨h.bx.bel.setCell (p := ⟨g, q, none⟩) h.glo _⟩, by have h1 := hst.1; rwa [ints_set] at h1, h.rch.kept hst.2 ?_, h.hi⟩
  cases hk : (Value.slice A n c).ownBlock with
  | none => exact .inl rfl
  | some k =>
    right
    intro he
    have h1 := h.hi k hk
    simp at he
    omega
theorem EyS.drewN (h : EyS w wr v T g n A c D O) (k : Nat) : EyS w (wr.drewN k) v T g n A c D O := h.go (below_drewN (Below.refl _ _) k)
theorem EyS.len (h : EyS w wr v T g n A c D O) : O.length = n ∧ D.length = n := by
  have h1 := h.rch.1
  have h2 := h.out.1
  simp at h1 h2
  omega
theorem eys_start {v : Value} {w1 : World} (own : w1.ownsRow w.heap.size 2 1 (.slice A n c) n (ints O)) (bx : Bx w w1 v T) (hm : n ≤ 400) :
    EyS w (w1.alloc (.cells (madeCells #[.int .i64 0] n) 2)) v T w1.heap.size n A c (List.replicate n 0) O := by
  have h0 := make_own w1 (.int .i64 0) n 2 (by unfold maxLen; omega)
  exact ⟨bx.al _, by simpa using own_base h0 bx.size, own_below own (below1 _ _) (Nat.le_refl _), own_in own⟩
end

def setAll (z : Int) (L D : List Int) : List Int := L.foldl (fun D x => D.set x.toNat z) D
theorem setAll_len (z : Int) : ∀ (L D : List Int), (setAll z L D).length = D.length
  | [], D => rfl
  | x :: L, D => by
    show (setAll z L (D.set x.toNat z)).length = D.length
    rw [setAll_len z L]; simp
theorem setAll_at (z : Int) : ∀ (L D : List Int) (y : Nat), (∀ x ∈ L, 0 ≤ x) → y < D.length → (setAll z L D)[y]? = if (y : Int) ∈ L then some z else D[y]?
  | [], D, y, _, _ => by simp [setAll]
  | x :: L, D, y, h, hy => by
    have e : setAll z (x :: L) D = setAll z L (D.set x.toNat z) := rfl
    rw [e, setAll_at z L _ y (fun a ha => h a (List.mem_cons.2 (.inr ha))) (by simpa using hy)]
    have hx := h x (by simp)
    by_cases h1 : (y : Int) ∈ L
    · rw [if_pos h1, if_pos (List.mem_cons.2 (.inr h1))]
    · rw [if_neg h1]
      by_cases h2 : x.toNat = y
      · rw [if_pos (by rw [List.mem_cons]; left; omega), h2, List.getElem?_set_self hy]
      · rw [if_neg (by rw [List.mem_cons]; rintro (h3 | h3); exact h2 (by omega); exact h1 h3), List.getElem?_set_ne h2]
theorem setAll_succ {z : Int} {L D : List Int} {k q : Nat} (h : L[k]? = some (q : Int)) : (setAll z (L.take k) D).set q z = setAll z (L.take (k + 1)) D := by
  rw [List.take_add_one, h]
  unfold setAll
  rw [List.foldl_append]
  simp
/-- All but the first point have got the number 400. -/
theorem far_all {n p : Nat} {O : List Int} (hps : Passed n O) (hl : O.length = n) (h0 : O[0]? = some (p : Int)) : setAll 400 (O.drop 1) (List.replicate n 0) = (List.replicate n 400).set p 0 := by
  have hO : O = (p : Int) :: O.drop 1 := by
    cases O with
    | nil => simp at h0
    | cons a r => simp at h0; subst h0; rfl
  apply List.ext_getElem?
  intro y
  by_cases hy : y < n
  · rw [setAll_at _ _ _ _ (fun x hx => (hps.1 x (List.mem_of_mem_drop hx)).1) (by simpa using hy)]
    have hm := mem_all hl hps hy
    have hnd := hps.2
    rw [hO] at hm hnd
    by_cases e : p = y
    · subst e
      rw [if_neg (List.nodup_cons.1 hnd).1, List.getElem?_set_self (by simpa using hy)]
      simp [hy]
    · rw [List.getElem?_set_ne e, if_pos (by rcases List.mem_cons.1 hm with h | h; omega; exact h)]
      simp [hy]
  · rw [List.getElem?_eq_none (by rw [setAll_len]; simp; omega), List.getElem?_eq_none (by simp; omega)]
end Go.Proofs.Ytmikoihpmhfafaa
namespace Go.Proofs.Ytmikoihpmhfafaa
open Go.RowKit

theorem bx_rd {w wr : World} {v : Value} {T : TypeId} {A : Option Addr} {xss : List (List Int)} (h : Bx w wr v T) (ha : RdSS w A xss) : RdSS wr A xss := ha.keep h.below
theorem fill_succ (k : Nat) : fillL (k + 1) = fillL k ++ [-1] := by unfold fillL; rw [List.replicate_succ']
theorem dys_start {w wr : World} {v : Value} {T : TypeId} {g cg n p : Nat} (bx : Bx w wr v T) (own : wr.ownsRow (w.heap.size + 1) 2 1 (.slice (some ⟨g, 0, none⟩) n cg) n (ints (fillL n))) :
    DyS w wr.heap.size ((wr.setCell ⟨g, p, none⟩ (.int .i64 0)).alloc (.cells #[.int .i64 p] 2)) v T g cg n (some ⟨wr.heap.size, 0, none⟩) 1 1 ((List.replicate n (-1)).set p 0) [(p : Int)] := by
  have hst := own.stored p (.int .i64 0)
  have hlo := (own.lt g rfl).1
  have h2 := World.ownsRow_lit (base := wr.heap.size) (e := 2) (size := 1) (wr.setCell ⟨g, p, none⟩ (.int .i64 0)) #[.int .i64 p] 1 (by simp) (by decide) (by simp)
  refine ⟨⟨(bx.bel.setCell (p := ⟨g, p, none⟩) hlo _).alloc (by have := bx.size; simp; omega) _⟩, ?_, by simpa using h2, (own.lt g rfl).2, by simp⟩
  have h1 := hst.1
  rw [ints_set] at h1
  exact h1.alloc _

end Go.Proofs.Ytmikoihpmhfafaa
namespace Go.Proofs.Ytmikoihpmhfafaa
open Go.RowKit

theorem own_cap {w : World} {base e n c g : Nat} {vs : List Value} (h : w.ownsRow base e 1 (.slice (some ⟨g, 0, none⟩) n c) n vs) : n ≤ c := by
  rcases h.2 with ⟨hv, _⟩ | ⟨g', cap, cur, hv, _, _, hc, _⟩
  · cases hv
  · simp only [Value.slice.injEq] at hv
    omega
theorem rinv_len {xss : List (List Int)} {n i j : Nat} {p : Int} {O D : List Int} (h : RInv xss n p O i j D) : D.length = n := h.1
/-- A list of at most 400 that stands for a distance or is 400. -/
theorem rinv_val {xss : List (List Int)} {n i j i' r : Nat} {p : Int} {O D : List Int} (ho : OInv xss n p i' O) (hall : ∀ y : Nat, y < n → (y : Int) ∈ O) (h : RInv xss n p O i j D) (hr : r < n) (hn : n ≤ 400) : ∃ v : Nat, D[r]? = some (v : Int) ∧ v ≤ 400 := by
  rcases h.2 r hr with ⟨d, h1, h2⟩ | ⟨h1, _⟩
  · obtain ⟨a, ha, hx⟩ := List.mem_iff_getElem.1 (hall r hr)
    have := ho.idx a r d (by rw [List.getElem?_eq_getElem ha, hx]) h2
    have := passed_len ho.ps
    exact ⟨d, h1, by omega⟩
  · exact ⟨400, h1, by omega⟩

end Go.Proofs.Ytmikoihpmhfafaa
namespace Go.Proofs.Ytmikoihpmhfafaa
open Go.RowKit

theorem iFlag_bel {b o c N n c0 : Nat} {A0 : Option Addr} {r : Bool} (f : Int) (w : World) (hN : 0 < N) (h0 : w.cell? ⟨b, o, none⟩ = some (.slice A0 n c0)) (_hn : n ≤ 1048576) (hr : flagB n f = r) :
    Calls Try.prog 101 #[.agg #[.slice (some ⟨b, o, none⟩) N c], .int .i64 f] w fun e w' => e = .returned (.bool r) ∧ Below w.heap.size w w' := by
  have HC0 := Lib.hid (cell_al h0 (.cells #[.slice (some ⟨b, o, none⟩) N c] 26))
  by_cases hf0 : 0 ≤ f
  · have HR := Lib.hid (show decide (f < (n : Int)) = r from by rw [← hr]; unfold flagB; congr 1; simp only [eq_iff_iff]; omega)
    clear h0 hr
    go_enter Try.func101, Try.ntmps101
    go_wp2_with fail
    refine (flags_bel _ hN HC0.out).mono ?_
    rintro e w1 ⟨rfl, bel⟩
    go_wp2
    go_ret
    exact ⟨ret_bool HR.out, (below1 w _).trans (bel.mono (by simp))⟩
  · have HR := Lib.hid (show false = r from by rw [← hr]; unfold flagB; rw [decide_eq_false (by omega)])
    clear h0 hr
    go_enter Try.func101, Try.ntmps101
    go_wp2
    go_ret
    exact ⟨ret_bool HR.out, below1 w _⟩

noncomputable def dfR (xss : List (List Int)) (f : Int) : List Int := if okMan xss then (if flagB (flN xss) f then distL xss (flN xss) f else []) else []
noncomputable def dfC (xss : List (List Int)) (f : Int) : Int := if okMan xss then (if flagB (flN xss) f then 0 else 2) else 1

theorem distL_le {xss : List (List Int)} {n : Nat} {p : Int} : (distL xss n p).length ≤ n := by
  unfold distL
  split
  · rename_i h
    exact Nat.le_of_eq h.choose_spec.1
  · simp
theorem dfR_le (xss : List (List Int)) (f : Int) : (dfR xss f).length ≤ 1048576 := by
  unfold dfR
  split
  · rename_i h
    have := (okMan_iff.1 h).f4
    split
    · exact Nat.le_trans distL_le (by omega)
    · simp
  · simp
end Go.Proofs.Ytmikoihpmhfafaa
namespace Go.Proofs.Ytmikoihpmhfafaa
open Go.RowKit

section
variable {xss : List (List Int)} {n p : Nat}
theorem dok_distL (hsys : okSys n xss = true) (hp : p < n) (hall : (orbL xss n p).length = n) : DOk xss n p (distL xss n p) := by
  obtain ⟨j, _, ho⟩ := oinv_orb hsys hp
  have hex : ∀ y : Nat, ∃ d : Nat, y < n → IsD xss p y d := fun y => by
    by_cases hy : y < n
    · obtain ⟨d, hd⟩ := ho.ex y (mem_all hall (orb_passed hsys hp) hy)
      exact ⟨d, fun _ => hd⟩
    · exact ⟨0, fun h => absurd h hy⟩
  have hD : DOk xss n p ((List.range n).map fun y => ((Classical.choose (hex y) : Nat) : Int)) :=
    ⟨by simp, fun y hy => ⟨Classical.choose (hex y), by simp [hy], Classical.choose_spec (hex y) hy⟩⟩
  rw [← distL_eq hD]
  exact hD
theorem distL_len (hsys : okSys n xss = true) (hp : p < n) (hall : (orbL xss n p).length = n) : (distL xss n p).length = n := (dok_distL hsys hp hall).1
theorem distL_at (hsys : okSys n xss = true) (hp : p < n) (hall : (orbL xss n p).length = n) {y : Nat} (hy : y < n) : ∃ d : Nat, (distL xss n p)[y]? = some (d : Int) ∧ d < n := by
  obtain ⟨d, h1, h2⟩ := (dok_distL hsys hp hall).2 y hy
  obtain ⟨j, _, ho⟩ := oinv_orb hsys hp
  obtain ⟨a, ha, hay⟩ := List.mem_iff_getElem.1 (mem_all hall (orb_passed hsys hp) hy)
  have := ho.idx a y d (by rw [List.getElem?_eq_getElem ha, hay]) h2
  exact ⟨d, h1, by omega⟩
theorem distL_in (hsys : okSys n xss = true) (hp : p < n) (hall : (orbL xss n p).length = n) : ∀ x ∈ distL xss n p, 0 ≤ x ∧ x < (n : Int) := by
  intro x hx
  obtain ⟨y, hy, rfl⟩ := List.mem_iff_getElem.1 hx
  obtain ⟨d, h1, h2⟩ := distL_at hsys hp hall (y := y) (by rw [distL_len hsys hp hall] at hy; exact hy)
  rw [List.getElem?_eq_getElem hy] at h1
  injection h1 with h1
  omega
end

set_option maxHeartbeats 800000 in
theorem max_any {A : Option Addr} {c n : Nat} {l : List Int} (w : World) (hx : l.length = n) (ha : Rd w A (ints l)) (hn0 : 0 < n) (hn : n ≤ 1048576) (hb : ∀ x ∈ l, 0 ≤ x) :
    Calls Try.prog 144 #[.slice A n c] w fun e w' => e = .returned (.int .i64 (mxL l)) ∧ w = w' := by
  have HX := Lib.hid hx
  have HA := Lib.hid ha
  obtain ⟨b, o, x0, rfl, hg0, hc0⟩ := ha.int (k := 0) (by omega)
  rw [Nat.add_zero] at hc0
  have H1 := Lib.hid (mxL_one hg0 (hb x0 (List.mem_of_getElem? hg0)))
  clear hx ha hg0 hb
  go_enter Try.func144, Try.ntmps144
  go_wp2
  go_loop [3, 4] (fun v i => ∃ k : Nat, 1 ≤ k ∧ k ≤ n ∧ i = .int .i64 k ∧ v = .int .i64 (mxL (l.take k))) (fun _ i => n - (intOf i).toNat)
  case atStart => exact ⟨1, by omega, by omega, rfl, by rw [H1.out]⟩
  case round =>
    obtain ⟨k, h1k, hk, rfl, rfl⟩ := hrel
    by_cases hlt : k < n
    · obtain ⟨b', o', x, he, hgx, hcx⟩ := HA.out.int (k := k) (by rw [HX.out]; exact hlt)
      obtain ⟨rfl, rfl⟩ : b = b' ∧ o = o' := by simpa using he
      have HS := Lib.hid (mxL_succ hgx)
      clear he hgx
      go_wp2
      go_round
      case rel => exact ⟨k + 1, by omega, by omega, by go_num, by first | (rw [HS.out]; done) | (rw [HS.out]; congr 1; rw [Int.max_def]; split <;> split <;> omega)⟩
      case measure => simp [intOf]; omega
    · have HS := Lib.hid (show l.take k = l from List.take_of_length_le (by rw [HX.out]; omega))
      go_wp2
      go_ret
      exact ⟨ret_i64 (by rw [HS.out]), rfl⟩
end Go.Proofs.Ytmikoihpmhfafaa
namespace Go.Proofs.Ytmikoihpmhfafaa
open Go.RowKit

noncomputable def colL (xss : List (List Int)) (n : Nat) : List Int := (distL xss n 0).map fun x => x % 2
/-- No move leads a flag to one of the same colour. -/
def ColOk (xss : List (List Int)) (n : Nat) (C : List Int) : Prop := ∀ g ∈ xss, ∀ f : Nat, f < n → fz C (fz g f) ≠ fz C f
noncomputable def colB (xss : List (List Int)) (n : Nat) : Bool := @decide (ColOk xss n (colL xss n)) (Classical.propDecidable _)
noncomputable def colR (xss : List (List Int)) (n : Nat) : List Int := if colB xss n then colL xss n else []
def RetSB (w : World) (L : List Int) (B : Bool) (e : Ending) (w' : World) : Prop :=
  ∃ A c, e = .returned (.tuple #[.slice A L.length c, .bool B]) ∧ w'.ownsRow w.heap.size 2 1 (.slice A L.length c) L.length (ints L) ∧ Below w.heap.size w w'
section
variable {xss : List (List Int)} {n : Nat} {g : List Int}
theorem colB_false (h : ¬ ColOk xss n (colL xss n)) : colB xss n = false := @decide_eq_false _ (Classical.propDecidable _) h
theorem colB_true (h : ColOk xss n (colL xss n)) : colB xss n = true := @decide_eq_true _ (Classical.propDecidable _) h
theorem retSB_no {w w' : World} (h : colB xss n = false) (bel : Below w.heap.size w w') : RetSB w (colR xss n) (colB xss n) (.returned (.tuple #[.slice none 0 0, .bool false])) w' := by
  have e : colR xss n = [] := by unfold colR; rw [h]; rfl
  rw [e, h]
  exact ⟨none, 0, rfl, World.ownsRow_nil _ _ _ _, bel⟩
theorem retSB_yes {w w' : World} {A : Option Addr} {c base : Nat} (h : colB xss n = true) (hl : (colL xss n).length = n) (own : w'.ownsRow base 2 1 (.slice A n c) n (ints (colL xss n))) (hb : w.heap.size ≤ base) (bel : Below w.heap.size w w') :
    RetSB w (colR xss n) (colB xss n) (.returned (.tuple #[.slice A n c, .bool true])) w' := by
  have e : colR xss n = colL xss n := by unfold colR; rw [h]; rfl
  rw [e, h]
  exact ⟨A, c, by rw [hl], by rw [hl]; exact own_base own hb, bel⟩
theorem mix_at {A B : List Int} {k : Nat} (hA : A.length = n) (hk : k < n) : (A.take k ++ B.drop k)[k]? = B[k]? := by
  have e : (A.take k).length = k := by simp; omega
  rw [List.getElem?_append_right (by omega), e, Nat.sub_self, List.getElem?_drop, Nat.add_zero]
theorem mix_step {A B : List Int} {k : Nat} {a : Int} (hA : A.length = n) (hB : B.length = n) (ha : A[k]? = some a) : (A.take k ++ B.drop k).set k a = A.take (k + 1) ++ B.drop (k + 1) := by
  have hk : k < A.length := (List.getElem?_eq_some_iff.1 ha).1
  have e : (A.take k).length = k := by simp; omega
  rw [List.set_append_right _ _ (by omega), e, Nat.sub_self, List.drop_eq_getElem_cons (by omega : k < B.length), List.set_cons_zero, List.take_add_one, ha]
  simp
theorem colL_len (h : (distL xss n 0).length = n) : (colL xss n).length = n := by simp [colL, h]
theorem colL_at {y d : Nat} (h : (distL xss n 0)[y]? = some (d : Int)) : (colL xss n)[y]? = some ((d : Int) % 2) := by simp [colL, h]

/-- Gone through flag by flag. -/
def CTo (xss : List (List Int)) (C : List Int) (f k : Nat) : Prop := (∀ f' : Nat, f' < f → ∀ g ∈ xss, fz C (fz g f') ≠ fz C f') ∧ ∀ g ∈ xss.take k, fz C (fz g f) ≠ fz C f
theorem cto_next {C : List Int} {f k : Nat} (h : CTo xss C f k) (hk : xss.length ≤ k) : CTo xss C (f + 1) 0 := by
  refine ⟨fun f' hf g hg => ?_, by simp⟩
  rcases Nat.lt_succ_iff_lt_or_eq.1 hf with h1 | rfl
  · exact h.1 f' h1 g hg
  · exact h.2 g (by rwa [List.take_of_length_le hk])
theorem cto_step {C : List Int} {f k : Nat} (h : CTo xss C f k) (hg : xss[k]? = some g) (hne : fz C (fz g f) ≠ fz C f) : CTo xss C f (k + 1) := by
  refine ⟨h.1, fun g' hg' => ?_⟩
  rw [List.take_add_one, hg] at hg'
  rcases List.mem_append.1 hg' with h1 | h1
  · exact h.2 g' h1
  · simp at h1; subst h1; exact hne
theorem cto_all {C : List Int} (h : CTo xss C n 0) : ColOk xss n C := fun g hg f hf => h.1 f hf g hg
/-- Gone through move by move. -/
def CMo (xss : List (List Int)) (n : Nat) (C : List Int) (k f : Nat) : Prop := (∀ g ∈ xss.take k, ∀ f' : Nat, f' < n → fz C (fz g f') ≠ fz C f') ∧ ∀ g : List Int, xss[k]? = some g → ∀ f' : Nat, f' < f → fz C (fz g f') ≠ fz C f'
theorem cmo_next {C : List Int} {k : Nat} (h : CMo xss n C k n) (hg : xss[k]? = some g) : CMo xss n C (k + 1) 0 := by
  refine ⟨fun g' hg' f' hf => ?_, fun _ _ f' hf => absurd hf (by omega)⟩
  rw [List.take_add_one, hg] at hg'
  rcases List.mem_append.1 hg' with h1 | h1
  · exact h.1 g' h1 f' hf
  · simp at h1; subst h1; exact h.2 _ hg f' hf
theorem cmo_step {C : List Int} {k f : Nat} (h : CMo xss n C k f) (hg : xss[k]? = some g) (hne : fz C (fz g f) ≠ fz C f) : CMo xss n C k (f + 1) := by
  refine ⟨h.1, fun g' hg' f' hf => ?_⟩
  rw [hg] at hg'
  injection hg' with hg'
  subst hg'
  rcases Nat.lt_succ_iff_lt_or_eq.1 hf with h1 | rfl
  · exact h.2 _ hg f' h1
  · exact hne
theorem cmo_all {C : List Int} {k : Nat} (h : CMo xss n C k 0) (hk : xss.length ≤ k) : ColOk xss n C := fun g hg f hf => h.1 g (by rwa [List.take_of_length_le hk]) f hf
end

end Go.Proofs.Ytmikoihpmhfafaa
namespace Go.Proofs.Ytmikoihpmhfafaa
open Go.RowKit

end Go.Proofs.Ytmikoihpmhfafaa
namespace Go.Proofs.Ytmikoihpmhfafaa
open Go.RowKit

noncomputable def isoR (xss : List (List Int)) : Bool := if okMan xss then colB xss (flN xss) else false
noncomputable def manC (xss : List (List Int)) : Int := if okMan xss then 0 else 1
noncomputable def colC (xss : List (List Int)) (n : Nat) : Int := if colB xss n then 0 else 5
noncomputable def coR (xss : List (List Int)) : List Int := if okMan xss then colR xss (flN xss) else []
noncomputable def coC (xss : List (List Int)) : Int := if okMan xss then colC xss (flN xss) else 1
noncomputable def diaTo (xss : List (List Int)) (n : Nat) : Nat → Int
  | 0 => 0
  | k + 1 => max (diaTo xss n k) (mxL (distL xss n k))
noncomputable def diR (xss : List (List Int)) : Int := if okMan xss then diaTo xss (flN xss) (flN xss) else 0
theorem retS_col {w w' : World} {xss : List (List Int)} {n : Nat} (h : colB xss n = false) (bel : Below w.heap.size w w') : RetS w (colR xss n) (colC xss n) (.returned (.tuple #[.slice none 0 0, .int .i64 5])) w' := by
  have e1 : colR xss n = [] := by unfold colR; rw [h]; rfl
  have e2 : colC xss n = 5 := by unfold colC; rw [h]; rfl
  rw [e1, e2]
  exact ⟨none, 0, rfl, World.ownsRow_nil _ _ _ _, bel⟩
theorem retS_col' {w w' : World} {xss : List (List Int)} {n c : Nat} {A : Option Addr} (h : colB xss n = true) (own : w'.ownsRow w.heap.size 2 1 (.slice A (colR xss n).length c) (colR xss n).length (ints (colR xss n))) (bel : Below w.heap.size w w') : RetS w (colR xss n) (colC xss n) (.returned (.tuple #[.slice A (colR xss n).length c, .int .i64 0])) w' := by
  have e2 : colC xss n = 0 := by unfold colC; rw [h]; rfl
  rw [e2]
  exact ⟨A, c, rfl, own, bel⟩
theorem colR_le {xss : List (List Int)} {n : Nat} : (colR xss n).length ≤ n := by
  unfold colR
  split
  · unfold colL
    rw [List.length_map]
    exact distL_le
  · simp
theorem coR_le (xss : List (List Int)) : (coR xss).length ≤ 1048576 := by
  unfold coR
  split
  · rename_i h
    have := (okMan_iff.1 h).f4
    exact Nat.le_trans colR_le (by omega)
  · simp

end Go.Proofs.Ytmikoihpmhfafaa
namespace Go.Proofs.Ytmikoihpmhfafaa
open Go.RowKit

theorem diaTo_nn {xss : List (List Int)} {n : Nat} : ∀ k, 0 ≤ diaTo xss n k
  | 0 => by simp [diaTo]
  | k + 1 => by
    have := diaTo_nn (xss := xss) (n := n) k
    rw [diaTo]
    omega
end Go.Proofs.Ytmikoihpmhfafaa
