import Derived.Test.YtmgoaabeopnopaaL4
import Derived.Test.YtmgoaabeopnopaaL5
import Derived.Test.YtmgoaabeopnopaaL6
import Derived.StillTailTactics
/- Renumbering of a move; the greatest number of a list; plain facts, no program. -/
namespace Go.Proofs.Ytmgoaabeopnopaa
open Go.RowKit

/-- The move in which the first k flags have got their new numbers. -/
def renTo (m p : List Int) (n : Nat) : Nat → List Int
  | 0 => List.replicate n 0
  | k + 1 => (renTo m p n k).set (fz p k).toNat (fz p (fz m k))
theorem renTo_length (m p : List Int) (n : Nat) : ∀ k, (renTo m p n k).length = n
  | 0 => by simp [renTo]
  | k + 1 => by simp [renTo, renTo_length m p n k]
theorem renTo_succ {m p : List Int} {n k a b : Nat} {z : Int} (h1 : p[k]? = some (a : Int)) (h2 : m[k]? = some (b : Int)) (h3 : p[b]? = some z) : (renTo m p n k).set a z = renTo m p n (k + 1) := by
  rw [renTo, fz_at h1, fz_at h2, fz_at h3, Int.toNat_natCast]
theorem renTo_at {m p : List Int} {n : Nat} (hpn : p.length = n) (hp : okP p = true) : ∀ k, k ≤ n → ∀ j : Nat, j < k → (renTo m p n k)[(fz p j).toNat]? = some (fz p (fz m j))
  | 0, _, j, h => absurd h (by omega)
  | k + 1, hk, j, h => by
    have hj := fz_in hpn hp (x := (j : Int)) (by omega) (by omega)
    have hk' := fz_in hpn hp (x := (k : Int)) (by omega) (by omega)
    rw [renTo]
    by_cases e : j = k
    · subst e
      rw [List.getElem?_set_self (by rw [renTo_length]; omega)]
    · have hne : (fz p k).toNat ≠ (fz p j).toNat := by
        intro h1
        have := fz_inj hpn hp (x := (k : Int)) (y := (j : Int)) (by omega) (by omega) (by omega) (by omega) (by omega)
        omega
      rw [List.getElem?_set_ne hne]
      exact renTo_at hpn hp k (by omega) j (by omega)
theorem renTo_all {m p : List Int} {n : Nat} (hmn : m.length = n) (hpn : p.length = n) (hm : okP m = true) (hp : okP p = true) : renTo m p n n = conjL m p := by
  refine list_fz (renTo_length m p n n) (conj_len hpn) fun y h0 h1 => ?_
  have i0 := fz_in (xs := invL p) (by rw [invL_len, hpn]) (okP_inv hp) h0 h1
  have e := fz_inv2 hpn hp h0 h1
  obtain ⟨j, hj⟩ := Int.eq_ofNat_of_zero_le i0.1
  rw [hj] at e i0
  have h2 := renTo_at (m := m) hpn hp n (Nat.le_refl _) j (by omega)
  have h3 := fz_conj hmn hpn hm hp i0.1 i0.2
  rw [e] at h2 h3
  rw [h3]
  obtain ⟨q, rfl⟩ := Int.eq_ofNat_of_zero_le h0
  exact fz_at h2
def renM (xss : List (List Int)) (p : List Int) : List (List Int) := xss.map fun m => conjL m p
theorem renM_length (xss : List (List Int)) (p : List Int) : (renM xss p).length = xss.length := by simp [renM]
theorem renM_at {xss : List (List Int)} {p m : List Int} {k : Nat} (h : xss[k]? = some m) : (renM xss p)[k]? = some (conjL m p) := by simp [renM, h]
theorem renM_row {xss : List (List Int)} {p : List Int} {n : Nat} (hpn : p.length = n) : ∀ xs ∈ renM xss p, xs.length = n := by
  intro xs h
  obtain ⟨m, _, rfl⟩ := List.mem_map.1 h
  exact conj_len hpn

/-- One more than the greatest number of a list of numbers of at least 0, as both programs find it. -/
def grtL (l : List Int) : Int := l.foldl (fun a x => if a ≤ x then x + 1 else a) 0
theorem grtL_succ {l : List Int} {k : Nat} {x : Int} (h : l[k]? = some x) : grtL (l.take (k + 1)) = if grtL (l.take k) ≤ x then x + 1 else grtL (l.take k) := by
  rw [List.take_add_one, h]
  unfold grtL
  rw [List.foldl_append]
  rfl
theorem grtL_one {l : List Int} {x : Int} (h : l[0]? = some x) (h0 : 0 ≤ x) : grtL (l.take 1) = x + 1 := by
  have := grtL_succ h
  rw [this, List.take_zero]
  simp [grtL, h0]
theorem grtL_bd {l : List Int} {n : Nat} (h : ∀ x ∈ l, 0 ≤ x ∧ x < (n : Int)) : ∀ k, 0 ≤ grtL (l.take k) ∧ grtL (l.take k) ≤ (n : Int)
  | 0 => by simp [grtL]
  | k + 1 => by
    have ih := grtL_bd h k
    by_cases hk : k < l.length
    · have hx := h l[k] (List.getElem_mem hk)
      rw [grtL_succ (List.getElem?_eq_getElem hk)]
      split <;> omega
    · rw [List.take_of_length_le (by omega)]
      rwa [List.take_of_length_le (by omega)] at ih
theorem grtL_max {l : List Int} {k : Nat} {x v : Int} (hx : l[k]? = some x) (hv : grtL (l.take k) = v + 1) : grtL (l.take (k + 1)) = max v x + 1 := by
  rw [grtL_succ hx, hv]
  split <;> omega

def mxL (l : List Int) : Int := l.foldl max 0
theorem mxL_succ {l : List Int} {k : Nat} {x : Int} (h : l[k]? = some x) : mxL (l.take (k + 1)) = max (mxL (l.take k)) x := by
  rw [List.take_add_one, h]
  unfold mxL
  rw [List.foldl_append]
  rfl
theorem mxL_one {l : List Int} {x : Int} (h : l[0]? = some x) (h0 : 0 ≤ x) : mxL (l.take 1) = x := by
  have := mxL_succ h
  rw [this, List.take_zero]
  simp [mxL]
  omega
theorem grt_mx {l : List Int} (hall : ∀ x ∈ l, 0 ≤ x) : ∀ k, k + 1 ≤ l.length → grtL (l.take (k + 1)) = mxL (l.take (k + 1)) + 1
  | 0, h => by
    have hx := List.getElem?_eq_getElem (show 0 < l.length by omega)
    have h0 := hall _ (List.mem_of_getElem? hx)
    rw [grtL_one hx h0, mxL_one hx h0]
  | k + 1, h => by
    have ih := grt_mx hall k (by omega)
    have hx := List.getElem?_eq_getElem (show k + 1 < l.length by omega)
    rw [grtL_max hx ih, mxL_succ hx]
theorem mxL_bd {l : List Int} {n : Nat} (h : ∀ x ∈ l, 0 ≤ x ∧ x < (n : Int)) : ∀ k, 0 ≤ mxL (l.take k) ∧ (mxL (l.take k) < (n : Int) ∨ mxL (l.take k) = 0)
  | 0 => by simp [mxL]
  | k + 1 => by
    have ih := mxL_bd h k
    by_cases hk : k < l.length
    · have hx := h l[k] (List.getElem_mem hk)
      rw [mxL_succ (List.getElem?_eq_getElem hk)]
      omega
    · rw [List.take_of_length_le (by omega)]
      rwa [List.take_of_length_le (by omega)] at ih
/-- Without one of the generators. -/
theorem okSys_erase {n : Int} {xss : List (List Int)} (h : okSys n xss = true) (i : Nat) : okSys n (xss.eraseIdx i) = true := by
  have h1 := sys_parts h
  refine decide_eq_true ⟨h1.1, h1.2.1, ?_, fun xs hx => h1.2.2.2 xs (List.mem_of_mem_eraseIdx hx)⟩
  have : (xss.eraseIdx i).length ≤ xss.length := List.length_eraseIdx_le _ _
  omega
theorem labL_in {n : Nat} {xss : List (List Int)} (hsys : okSys n xss = true) : ∀ x ∈ labL xss n, 0 ≤ x ∧ x < (n : Int) := by
  intro x hx
  obtain ⟨p, hp, rfl⟩ := List.mem_map.1 hx
  have hp : p < n := by simpa using hp
  have hc := (orbsTo_facts hsys n (Nat.le_refl _)).2.2.2 p hp
  obtain ⟨o, ho, hpo⟩ := List.mem_flatten.1 hc
  have hlt : (orbsTo xss n n).findIdx (fun o => decide ((p : Int) ∈ o)) < (orbsTo xss n n).length := List.findIdx_lt_length_of_exists ⟨o, ho, by simpa using hpo⟩
  have := orbs_cnt hsys (Nat.le_refl n)
  omega
end Go.Proofs.Ytmgoaabeopnopaa
/- What holds at the loops that find distances: facts outside the walks. -/
namespace Go.Proofs.Ytmgoaabeopnopaa
open Go.RowKit

/-- The list that is answered lies before the list of the points reached; the struct that came in is as it was. -/
structure DyS (w : World) (w1 : Nat) (wr : World) (v : Value) (T : TypeId) (g cg n : Nat) (A : Option Addr) (m c : Nat) (D O : List Int) : Prop where
  bx : Bx w wr v T
  out : wr.ownsRow (w.heap.size + 1) 2 1 (.slice (some ⟨g, 0, none⟩) n cg) n (ints D)
  rch : wr.ownsRow w1 2 1 (.slice A m c) m (ints O)
  lt : g < w1
  w1s : w1 ≤ wr.heap.size
section
variable {w wr w4 : World} {v : Value} {T : TypeId} {w1 g cg n m c c4 : Nat} {A A4 : Option Addr} {D O : List Int}
theorem DyS.go {w2 : World} (h : DyS w w1 wr v T g cg n A m c D O) (hb : Below wr.heap.size wr w2) : DyS w w1 w2 v T g cg n A m c D O :=
  ⟨h.bx.go hb, own_below h.out hb (Nat.le_refl _), own_below h.rch hb (Nat.le_refl _), h.lt, Nat.le_trans h.w1s hb.size⟩
theorem DyS.ne (h : DyS w w1 wr v T g cg n A m c D O) : (Value.slice (some ⟨g, 0, none⟩) n cg).ownBlock ≠ (Value.slice A m c).ownBlock := fun he => by
  have := (h.rch.lt g he.symm).1
  have := h.lt
  omega
theorem DyS.glo (h : DyS w w1 wr v T g cg n A m c D O) : w.heap.size + 1 ≤ g := (h.out.lt g rfl).1
theorem DyS.mark (h : DyS w w1 wr v T g cg n A m c D O) (q : Nat) (x : Value) : (wr.setCell ⟨g, q, none⟩ x).ownsRow w1 2 1 (.slice A m c) m (ints O) :=
  h.rch.kept (h.out.stored q x).2 (by
    cases hk : (Value.slice A m c).ownBlock with
    | none => exact .inl rfl
    | some k => exact .inr fun he => h.ne (by rw [hk]; exact he.symm))
theorem DyS.set (h : DyS w w1 wr v T g cg n A m c D O) (q : Nat) (x : Int) : DyS w w1 (wr.setCell ⟨g, q, none⟩ (.int .i64 x)) v T g cg n A m c (D.set q x) O := by
  have hst := h.out.stored q (.int .i64 x)
  refine ⟨⟨h.bx.bel.setCell (p := ⟨g, q, none⟩) h.glo _⟩, by have h1 := hst.1; rwa [ints_set] at h1, h.mark q _, h.lt, by have := h.w1s; simpa using this⟩
theorem DyS.push {o : Obj} {q x : Int} {p : Nat} (h : DyS w w1 wr v T g cg n A m c D O)
    (own4 : w4.ownsRow w1 2 1 (.slice A4 (m + 1) c4) (m + 1) (ints O ++ [.int .i64 q])) (gr : ((wr.setCell ⟨g, p, none⟩ (.int .i64 x)).alloc o).grownBy w4 (Value.slice A m c).ownBlock) :
    DyS w w1 w4 v T g cg n A4 (m + 1) c4 (D.set p x) (O ++ [q]) := by
  have hs := h.set p x
  have hsz : w.heap.size + 1 ≤ (wr.setCell ⟨g, p, none⟩ (.int .i64 x)).heap.size := hs.bx.size
  have hb2 := hs.bx.bel.alloc hsz o
  have hgz := gr.size
  have hws := hs.w1s
  refine ⟨⟨hb2.grown gr (by simp at hsz ⊢; omega) fun k hk => ?_⟩, (hs.out.alloc o).kept gr (.inr h.ne), by simpa using own4, h.lt, ?_⟩
  · have := (h.rch.lt k hk).1
    have := h.glo
    have := h.lt
    omega
  · simp at hgz hws
    omega
theorem DyS.len (h : DyS w w1 wr v T g cg n A m c D O) : O.length = m ∧ D.length = n := by
  have h1 := h.rch.1
  have h2 := h.out.1
  simp at h1 h2
  omega
end

/-- What is known while the points reached at the places before i are done, and the first j generators at the place i. -/
structure DyM (xss : List (List Int)) (n p i j : Nat) (x : Int) (d : Nat) (D O : List Int) : Prop where
  bf : bfs xss [] (n - (i + 1)) (bfsG [] x (xss.drop j) O) (i + 1) = orbL xss n p
  oi : OInv xss n (p : Int) i O
  di : DInv xss n (p : Int) O D
  hx : O[i]? = some x
  hd : IsD xss (p : Int) x d
  cl : ∀ g ∈ xss.take j, fz g x ∈ O
structure DyT (xss : List (List Int)) (n p i : Nat) (D O : List Int) : Prop where
  bf : bfs xss [] (n - i) O i = orbL xss n p
  oi : OInv xss n (p : Int) i O
  di : DInv xss n (p : Int) O D
section
variable {xss : List (List Int)} {n p i j : Nat} {x : Int} {d : Nat} {D O : List Int}
theorem dtop_start (hp : p < n) : DyT xss n p 0 ((List.replicate n (-1)).set p 0) [(p : Int)] := ⟨rfl, oinv_start hp, dinv_start hp⟩
theorem dtop_in (h : DyT xss n p i D O) (hx : O[i]? = some x) (hi : i < n) : ∃ d, DyM xss n p i 0 x d D O ∧ d ≤ i := by
  obtain ⟨d, hd⟩ := h.oi.ex x (List.mem_of_getElem? hx)
  exact ⟨d, ⟨(bfs_go hx hi).symm.trans h.bf, h.oi, h.di, hx, hd, by simp⟩, h.oi.idx i x d hx hd⟩
theorem dmid_old {g : List Int} {y : Int} (h : DyM xss n p i j x d D O) (hg : xss[j]? = some g) (hy : g.getD x.toNat 0 = y) (hin : y ∈ O) : DyM xss n p i (j + 1) x d D O := by
  have h1 := h.bf
  rw [bfsG_go hg hy, if_pos (by simpa using hin)] at h1
  refine ⟨h1, h.oi, h.di, h.hx, h.hd, fun g' hg' => ?_⟩
  rw [List.take_add_one, hg] at hg'
  rcases List.mem_append.1 hg' with h2 | h2
  · exact h.cl g' h2
  · simp at h2; subst h2; rw [show fz g' x = y from hy]; exact hin
theorem dmid_new {g : List Int} {q : Nat} (h : DyM xss n p i j x d D O) (hg : xss[j]? = some g) (hy : g.getD x.toNat 0 = (q : Int)) (hin : ¬ (q : Int) ∈ O) (hq : q < n) :
    DyM xss n p i (j + 1) x d (D.set q ((d : Int) + 1)) (O ++ [(q : Int)]) := by
  have h1 := h.bf
  have hf : fz g x = (q : Int) := hy
  rw [bfsG_go hg hy, if_neg (by simpa using hin)] at h1
  have hp := oinv_push h.oi h.hx (List.mem_of_getElem? hg) (by rw [hf]; exact hin) (by omega) (by omega) h.hd
  rw [hf] at hp
  have hdp := dinv_push h.di hq hp.2
  refine ⟨h1, hp.1, by simpa using hdp, ?_, h.hd, fun g' hg' => ?_⟩
  · rw [List.getElem?_append_left (List.getElem?_eq_some_iff.1 h.hx).1]; exact h.hx
  · rw [List.take_add_one, hg] at hg'
    rcases List.mem_append.1 hg' with h2 | h2
    · exact List.mem_append.2 (.inl (h.cl g' h2))
    · simp at h2; subst h2; rw [hf]; simp
theorem dmid_end (h : DyM xss n p i j x d D O) (hj : xss.length ≤ j) : DyT xss n p (i + 1) D O := by
  have h1 := h.bf
  rw [bfsG_end hj] at h1
  refine ⟨h1, oinv_next h.oi h.hx fun g hg => h.cl g ?_, h.di⟩
  rwa [List.take_of_length_le hj]
theorem dtop_end (h : DyT xss n p i D O) (hi : O.length ≤ i) (hall : (orbL xss n p).length = n) (hps : Passed n (orbL xss n p)) : D = distL xss n p := by
  have h1 := h.bf
  rw [bfs_done hi] at h1
  refine distL_eq (dinv_ok h.di fun y hy => ?_)
  rw [h1]
  exact mem_all hall hps hy
/-- The distance of a point, as the list has it. -/
theorem dinv_in {q : Nat} (h : DInv xss n (p : Int) O D) (hq : (q : Int) ∈ O) : ∃ e : Nat, D[q]? = some (e : Int) ∧ IsD xss p q e := h.on q hq
end
end Go.Proofs.Ytmgoaabeopnopaa
/- What holds at the loops of impl's distances: facts outside the walks. -/
namespace Go.Proofs.Ytmgoaabeopnopaa
open Go.RowKit

/-- The list that is answered lies behind the list of the points. -/
structure EyS (w wr : World) (v : Value) (T : TypeId) (g n : Nat) (A : Option Addr) (c : Nat) (D O : List Int) : Prop where
  bx : Bx w wr v T
  out : wr.ownsRow (w.heap.size + 1) 2 1 (.slice (some ⟨g, 0, none⟩) n n) n (ints D)
  rch : wr.ownsRow w.heap.size 2 1 (.slice A n c) n (ints O)
  hi : InB (.slice A n c) w.heap.size g
section
variable {w wr w2 : World} {v : Value} {T : TypeId} {g n c : Nat} {A : Option Addr} {D O : List Int}
theorem EyS.go (h : EyS w wr v T g n A c D O) (hb : Below wr.heap.size wr w2) : EyS w w2 v T g n A c D O :=
  ⟨h.bx.go hb, own_below h.out hb (Nat.le_refl _), own_below h.rch hb (Nat.le_refl _), h.hi⟩
theorem EyS.glo (h : EyS w wr v T g n A c D O) : w.heap.size + 1 ≤ g := (h.out.lt g rfl).1
theorem EyS.set (h : EyS w wr v T g n A c D O) (q : Nat) (x : Int) : EyS w (wr.setCell ⟨g, q, none⟩ (.int .i64 x)) v T g n A c (D.set q x) O := by
  have hst := h.out.stored q (.int .i64 x)
  refine ⟨⟨h.bx.bel.setCell (p := ⟨g, q, none⟩) h.glo _⟩, by have h1 := hst.1; rwa [ints_set] at h1, h.rch.kept hst.2 ?_, h.hi⟩
  cases hk : (Value.slice A n c).ownBlock with
  | none => exact .inl rfl
  | some k =>
    right
    intro he
    have h1 := h.hi k hk
    simp at he
    omega
theorem EyS.drewN (h : EyS w wr v T g n A c D O) (k : Nat) : EyS w (wr.drewN k) v T g n A c D O := h.go (below_drewN (Below.refl _ _) k)
theorem EyS.len (h : EyS w wr v T g n A c D O) : O.length = n ∧ D.length = n := by
  have h1 := h.rch.1
  have h2 := h.out.1
  simp at h1 h2
  omega
theorem eys_start {v : Value} {w1 : World} (own : w1.ownsRow w.heap.size 2 1 (.slice A n c) n (ints O)) (bx : Bx w w1 v T) (hm : n ≤ 400) :
    EyS w (w1.alloc (.cells (madeCells #[.int .i64 0] n) 2)) v T w1.heap.size n A c (List.replicate n 0) O := by
  have h0 := make_own w1 (.int .i64 0) n 2 (by unfold maxLen; omega)
  exact ⟨bx.al _, by simpa using own_base h0 bx.size, own_below own (below1 _ _) (Nat.le_refl _), own_in own⟩
end

def setAll (z : Int) (L D : List Int) : List Int := L.foldl (fun D x => D.set x.toNat z) D
theorem setAll_len (z : Int) : ∀ (L D : List Int), (setAll z L D).length = D.length
  | [], D => rfl
  | x :: L, D => by
    show (setAll z L (D.set x.toNat z)).length = D.length
    rw [setAll_len z L]; simp
theorem setAll_at (z : Int) : ∀ (L D : List Int) (y : Nat), (∀ x ∈ L, 0 ≤ x) → y < D.length → (setAll z L D)[y]? = if (y : Int) ∈ L then some z else D[y]?
  | [], D, y, _, _ => by simp [setAll]
  | x :: L, D, y, h, hy => by
    have e : setAll z (x :: L) D = setAll z L (D.set x.toNat z) := rfl
    rw [e, setAll_at z L _ y (fun a ha => h a (List.mem_cons.2 (.inr ha))) (by simpa using hy)]
    have hx := h x (by simp)
    by_cases h1 : (y : Int) ∈ L
    · rw [if_pos h1, if_pos (List.mem_cons.2 (.inr h1))]
    · rw [if_neg h1]
      by_cases h2 : x.toNat = y
      · rw [if_pos (by rw [List.mem_cons]; left; omega), h2, List.getElem?_set_self hy]
      · rw [if_neg (by rw [List.mem_cons]; rintro (h3 | h3); exact h2 (by omega); exact h1 h3), List.getElem?_set_ne h2]
theorem setAll_succ {z : Int} {L D : List Int} {k q : Nat} (h : L[k]? = some (q : Int)) : (setAll z (L.take k) D).set q z = setAll z (L.take (k + 1)) D := by
  rw [List.take_add_one, h]
  unfold setAll
  rw [List.foldl_append]
  simp
/-- All but the first point have got the number 400. -/
theorem far_all {n p : Nat} {O : List Int} (hps : Passed n O) (hl : O.length = n) (h0 : O[0]? = some (p : Int)) : setAll 400 (O.drop 1) (List.replicate n 0) = (List.replicate n 400).set p 0 := by
  have hO : O = (p : Int) :: O.drop 1 := by
    cases O with
    | nil => simp at h0
    | cons a r => simp at h0; subst h0; rfl
  apply List.ext_getElem?
  intro y
  by_cases hy : y < n
  · rw [setAll_at _ _ _ _ (fun x hx => (hps.1 x (List.mem_of_mem_drop hx)).1) (by simpa using hy)]
    have hm := mem_all hl hps hy
    have hnd := hps.2
    rw [hO] at hm hnd
    by_cases e : p = y
    · subst e
      rw [if_neg (List.nodup_cons.1 hnd).1, List.getElem?_set_self (by simpa using hy)]
      simp [hy]
    · rw [List.getElem?_set_ne e, if_pos (by rcases List.mem_cons.1 hm with h | h; omega; exact h)]
      simp [hy]
  · rw [List.getElem?_eq_none (by rw [setAll_len]; simp; omega), List.getElem?_eq_none (by simp; omega)]
end Go.Proofs.Ytmgoaabeopnopaa
namespace Go.Proofs.Ytmgoaabeopnopaa
open Go.RowKit

theorem bx_rd {w wr : World} {v : Value} {T : TypeId} {A : Option Addr} {xss : List (List Int)} (h : Bx w wr v T) (ha : RdSS w A xss) : RdSS wr A xss := ha.keep h.below
theorem fill_succ (k : Nat) : fillL (k + 1) = fillL k ++ [-1] := by unfold fillL; rw [List.replicate_succ']
theorem dys_start {w wr : World} {v : Value} {T : TypeId} {g cg n p : Nat} (bx : Bx w wr v T) (own : wr.ownsRow (w.heap.size + 1) 2 1 (.slice (some ⟨g, 0, none⟩) n cg) n (ints (fillL n))) :
    DyS w wr.heap.size ((wr.setCell ⟨g, p, none⟩ (.int .i64 0)).alloc (.cells #[.int .i64 p] 2)) v T g cg n (some ⟨wr.heap.size, 0, none⟩) 1 1 ((List.replicate n (-1)).set p 0) [(p : Int)] := by
  have hst := own.stored p (.int .i64 0)
  have hlo := (own.lt g rfl).1
  have h2 := World.ownsRow_lit (base := wr.heap.size) (e := 2) (size := 1) (wr.setCell ⟨g, p, none⟩ (.int .i64 0)) #[.int .i64 p] 1 (by simp) (by decide) (by simp)
  refine ⟨⟨(bx.bel.setCell (p := ⟨g, p, none⟩) hlo _).alloc (by have := bx.size; simp; omega) _⟩, ?_, by simpa using h2, (own.lt g rfl).2, by simp⟩
  have h1 := hst.1
  rw [ints_set] at h1
  exact h1.alloc _

set_option maxHeartbeats 6400000 in
set_option maxRecDepth 8000 in
theorem sdist_any {b o c N n c0 p : Nat} {A0 : Option Addr} {xss : List (List Int)} (w : World) (hx : xss.length = N) (ha : RdSS w (some ⟨b, o, none⟩) xss) (hN : N ≤ 1048576) (hsys : okSys n xss = true) (h0 : w.cell? ⟨b, o, none⟩ = some (.slice A0 n c0)) (hpos : 0 < N) (hp : p < n) (hall : (orbL xss n p).length = n) :
    Calls Try.prog 151 #[.agg #[.slice (some ⟨b, o, none⟩) N c], .int .i64 p] w (Ret1 w (distL xss n p)) := by
  have HX := Lib.hid hx
  have HA := Lib.hid ha
  have HS := Lib.hid hsys
  have HC0 := Lib.hid h0
  have HALL := Lib.hid hall
  have hn4 := (sys_parts hsys).2.1
  have BX0 := Lib.hid (Bx.start w (.slice (some ⟨b, o, none⟩) N c) 27)
  clear hx ha hsys h0 hall
  go_enter Try.func151, Try.ntmps151
  go_wp2
  go_loopw [5, 6] (fun v i wr => ∃ k : Nat, k ≤ n ∧ i = .int .i64 k ∧ ∃ A' c', v = .slice A' k c' ∧ wr.ownsRow (w.heap.size + 1) 2 1 (.slice A' k c') k (ints (fillL k)) ∧ Bx w wr (.slice (some ⟨b, o, none⟩) N c) 27) (fun _ i _ => n - (intOf i).toNat)
  case atStart => exact ⟨0, Nat.zero_le _, rfl, _, _, rfl, by simpa [fillL] using World.ownsRow_made (base := w.heap.size + 1) (e := 2) (size := 1) (w.alloc (.cells #[.slice (some ⟨b, o, none⟩) N c] 27)) #[] 0 (by simp) (Nat.zero_le _) (by simp), BX0.out.al _⟩
  case round =>
    obtain ⟨k, hk, rfl, A', c', rfl, own, bx⟩ := hrel
    have OWN := Lib.hid own
    have BX := Lib.hid bx
    have HCR := Lib.hid (cell_be HC0.out bx.below)
    have hbc := bx.cell
    clear own bx
    go_wp2_with fail
    refine (sFlags_bel wr hpos HCR.out).mono ?_
    rintro e w1 ⟨rfl, bel⟩
    have OWN1 := Lib.hid (own_below OWN.out bel (Nat.le_refl _))
    have BX1 := Lib.hid (BX.out.go bel)
    have hsz := BX1.out.size
    clear bel hbc
    by_cases hlt : k < n
    · go_wp2_with (at_builtin; refine wpList_push2 _ rfl _ _ 36 2 rfl Try.underlying36 (.int .i64 0) 8 Try.info2 rfl (w.heap.size + 1) _ _ _ rfl OWN1.out _ rfl rfl (by omega) (by omega) (by omega) ?_)
      intro A3 c3 w3 own3 gr3
      have OWN3 := Lib.hid own3
      have BX3 := Lib.hid (show Bx w w3 (.slice (some ⟨b, o, none⟩) N c) 27 from ⟨(BX1.out.bel.alloc (by omega) _).grown gr3 (by simp; omega) fun q hq => (OWN1.out.lt q hq).1⟩)
      clear own3 gr3
      go_wp2
      go_roundw
      case rel => exact ⟨k + 1, by omega, by go_num, A3, c3, rfl, by rw [fill_succ]; simpa using OWN3.out, BX3.out⟩
      case measure => simp [intOf]; omega
    · obtain rfl : k = n := by omega
      obtain ⟨g, rfl⟩ := own_shape OWN1.out (by omega)
      have hcell := own_cell OWN1.out (show (ints (fillL k))[p]? = some (.int .i64 (-1)) by simp [fillL, hp])
      have hfrz := OWN1.out.frozenAt p
      have ST := Lib.hid (dys_start (p := p) BX1.out OWN1.out)
      have TT := Lib.hid (dtop_start (xss := xss) hp)
      go_wp2
      clear hk hlt hsz hcell hfrz OWN BX HCR OWN1 BX1
      obtain ⟨w2, hw2⟩ : ∃ w2 : Nat, w1.heap.size = w2 := ⟨_, rfl⟩
      rw [hw2] at ST ⊢
      clear hw2
      go_loopw [7, 8] (fun v q wr => ∃ (i m c2 : Nat) (A2 : Option Addr) (D O : List Int), q = .int .i64 i ∧ v = .slice A2 m c2 ∧ i ≤ m ∧ DyS w w2 wr (.slice (some ⟨b, o, none⟩) N c) 27 g c' k A2 m c2 D O ∧ DyT xss k p i D O) (fun _ q _ => k - (intOf q).toNat)
      case atStart => exact ⟨0, 1, 1, _, _, _, rfl, rfl, by omega, ST.out, TT.out⟩
      case round =>
        obtain ⟨i, m, c2, A2, D, O, rfl, rfl, him, st, tt⟩ := hrel
        have hlen := st.len
        have hlen2 := passed_len tt.oi.ps
        have S := Lib.hid st
        have T := Lib.hid tt
        clear st tt ST TT
        by_cases hlt : i < m
        · obtain ⟨x, hxx⟩ : ∃ x, O[i]? = some x := ⟨_, List.getElem?_eq_getElem (by omega)⟩
          obtain ⟨d, hm0, hdi⟩ := dtop_in T.out hxx (by omega)
          have M0 := Lib.hid hm0
          clear hm0 hxx
          go_wp2
          go_loopw [7, 9] (fun v q wi => ∃ (j m2 c3 : Nat) (A3 : Option Addr) (D O : List Int), q = .int .i64 j ∧ v = .slice A3 m2 c3 ∧ j ≤ N ∧ DyS w w2 wi (.slice (some ⟨b, o, none⟩) N c) 27 g c' k A3 m2 c3 D O ∧ DyM xss k p i j x d D O) (fun _ q _ => N - (intOf q).toNat)
          case atStart => exact ⟨0, m, c2, A2, D, O, rfl, rfl, Nat.zero_le _, S.out, M0.out⟩
          case round =>
            obtain ⟨j, m2, c3, A3, D2, O2, rfl, rfl, hj, st2, mid⟩ := hrel
            have hl2 := st2.len
            have hl3 := passed_len mid.oi.ps
            have hi2 := (List.getElem?_eq_some_iff.1 mid.hx).1
            have S2 := Lib.hid st2
            have M := Lib.hid mid
            have hbc := st2.bx.cell
            clear st2 mid S M0 T
            by_cases hjl : j < N
            · obtain ⟨b3, o3, A4, c4, gg, he, hg, hc, hrd, hms⟩ := (bx_rd S2.out.bx HA.out).row (k := j) (by rw [HX.out]; exact hjl)
              obtain ⟨rfl, rfl⟩ : b = b3 ∧ o = o3 := by simpa using he
              have hlg := sys_len HS.out hg
              obtain ⟨l, hl⟩ : ∃ l, gg.length = l := ⟨_, rfl⟩
              rw [hl] at hc hms hlg
              have hxr := M.out.oi.ps.1 x (List.mem_of_getElem? M.out.hx)
              obtain ⟨xp, rfl⟩ := Int.eq_ofNat_of_zero_le hxr.1
              obtain ⟨b4, o4, y, rfl, hgy, hcy⟩ := hrd.int (k := xp) (by omega)
              obtain ⟨q, rfl, hq0⟩ := sys_at HS.out hg hgy
              obtain ⟨b5, o5, x5, rfl, hgx5, hcx5⟩ := (own_rd S2.out.rch).int (k := i) hi2
              rw [M.out.hx] at hgx5
              injection hgx5 with hgx5
              subst hgx5
              have hqn : q < k := by omega
              have hxn : xp < k := by omega
              have hD := dinv_in M.out.di (List.mem_of_getElem? M.out.hx)
              obtain ⟨d', hDx, hdd⟩ := hD
              obtain rfl : d' = d := isD_uniq hdd M.out.hd
              have hcx := own_cell S2.out.out (show (ints D2)[xp]? = some (.int .i64 d') by simp [hDx])
              have HG := Lib.hid hg
              have HGY := Lib.hid (show gg.getD ((xp : Int)).toNat 0 = (q : Int) by simp [hgy])
              have hd4 := M.out.oi.idx i _ _ M.out.hx hdd
              clear he hgy hrd hg hxr hdd hDx
              by_cases hin : (q : Int) ∈ O2
              · obtain ⟨e, hDq, _⟩ := dinv_in M.out.di hin
                have hcq := own_cell S2.out.out (show (ints D2)[q]? = some (.int .i64 e) by simp [hDq])
                have M2 := Lib.hid (dmid_old M.out HG.out HGY.out hin)
                clear hDq hin
                go_wp2
                go_quiet (fail)
                have S3 := Lib.hid (S2.out.go (below_drewN (Below.refl _ _) nq))
                go_wp2
                go_roundw
                case rel => exact ⟨j + 1, m2, c3, _, D2, O2, by go_num, rfl, by omega, S3.out, M2.out⟩
                case measure => simp [intOf]; omega
              · have hDq := M.out.di.off q hqn hin
                have hcq := own_cell S2.out.out (show (ints D2)[q]? = some (.int .i64 (-1)) by simp [hDq])
                have M2 := Lib.hid (dmid_new M.out HG.out HGY.out hin hqn)
                have hfr := S2.out.out.frozenAt q
                clear hDq hin
                go_wp2
                go_quiet (fail)
                have S3 := Lib.hid (S2.out.go (below_drewN (Below.refl _ _) nq))
                have OM := Lib.hid (S3.out.mark q (.int .i64 ((d' : Int) + 1)))
                have hws := S3.out.w1s
                have hbc2 : w2 ≤ ((wr.drewN nq).setCell ⟨g, q, none⟩ (.int .i64 ((d' : Int) + 1))).heap.size := by simpa using hws
                go_wp2_with (at_builtin; refine wpList_push2 _ rfl _ _ 36 2 rfl Try.underlying36 (.int .i64 0) 8 Try.info2 rfl w2 _ _ _ rfl OM.out _ rfl ?hx (by omega) (by omega) hbc2 ?_)
                case hx => simp [Act.eval]
                intro A5 c5 w5 own5 gr5
                have S6 := Lib.hid (S3.out.push own5 gr5)
                clear own5 gr5
                go_wp2
                go_roundw
                case rel => exact ⟨j + 1, m2 + 1, c5, A5, _, O2 ++ [(q : Int)], by go_num, rfl, by omega, S6.out, M2.out⟩
                case measure => simp [intOf]; omega
            · have M2 := Lib.hid (dmid_end M.out (by rw [HX.out]; omega))
              go_wp2
              go_roundw
              case rel => exact ⟨i + 1, m2, c3, A3, D2, O2, by go_num, rfl, by omega, S2.out, M2.out⟩
              case measure => simp [intOf]; omega
        · have hD := dtop_end T.out (by omega) HALL.out (orb_passed HS.out hp)
          obtain rfl : D = distL xss k p := hD
          obtain ⟨_, hdl⟩ := hlen
          have HDL := Lib.hid hdl
          clear hdl
          go_wp2
          go_ret
          exact ⟨_, c', by rw [HDL.out]; rfl, by rw [HDL.out]; exact own_base S.out.out (by omega), S.out.bx.below⟩
end Go.Proofs.Ytmgoaabeopnopaa
namespace Go.Proofs.Ytmgoaabeopnopaa
open Go.RowKit

theorem own_cap {w : World} {base e n c g : Nat} {vs : List Value} (h : w.ownsRow base e 1 (.slice (some ⟨g, 0, none⟩) n c) n vs) : n ≤ c := by
  rcases h.2 with ⟨hv, _⟩ | ⟨g', cap, cur, hv, _, _, hc, _⟩
  · cases hv
  · simp only [Value.slice.injEq] at hv
    omega
theorem rinv_len {xss : List (List Int)} {n i j : Nat} {p : Int} {O D : List Int} (h : RInv xss n p O i j D) : D.length = n := h.1
/-- A list of at most 400 that stands for a distance or is 400. -/
theorem rinv_val {xss : List (List Int)} {n i j i' r : Nat} {p : Int} {O D : List Int} (ho : OInv xss n p i' O) (hall : ∀ y : Nat, y < n → (y : Int) ∈ O) (h : RInv xss n p O i j D) (hr : r < n) (hn : n ≤ 400) : ∃ v : Nat, D[r]? = some (v : Int) ∧ v ≤ 400 := by
  rcases h.2 r hr with ⟨d, h1, h2⟩ | ⟨h1, _⟩
  · obtain ⟨a, ha, hx⟩ := List.mem_iff_getElem.1 (hall r hr)
    have := ho.idx a r d (by rw [List.getElem?_eq_getElem ha, hx]) h2
    have := passed_len ho.ps
    exact ⟨d, h1, by omega⟩
  · exact ⟨400, h1, by omega⟩

set_option maxHeartbeats 6400000 in
set_option maxRecDepth 8000 in
theorem idist_any {b o c N n c0 p : Nat} {A0 : Option Addr} {xss : List (List Int)} (w : World) (hx : xss.length = N) (ha : RdSS w (some ⟨b, o, none⟩) xss) (hN : N ≤ 1048576) (hsys : okSys n xss = true) (h0 : w.cell? ⟨b, o, none⟩ = some (.slice A0 n c0)) (hpos : 0 < N) (hp : p < n) (h2 : 2 ≤ n) (hall : (orbL xss n p).length = n) :
    Calls Try.prog 152 #[.agg #[.slice (some ⟨b, o, none⟩) N c], .int .i64 p] w (Ret1 w (distL xss n p)) := by
  have HX := Lib.hid hx
  have HA := Lib.hid ha
  have HS := Lib.hid hsys
  have HC0 := Lib.hid h0
  have HALL := Lib.hid hall
  have hn4 := (sys_parts hsys).2.1
  have hn4' : n ≤ 400 := by omega
  have BX0 := Lib.hid (Bx.start w (.slice (some ⟨b, o, none⟩) N c) 27)
  obtain ⟨j0, hj0, ho⟩ := oinv_orb hsys hp
  have HO := Lib.hid ho
  have HIN := Lib.hid (show ∀ y : Nat, y < n → (y : Int) ∈ orbL xss n p from fun y hy => mem_all hall (orb_passed hsys hp) hy)
  have FAR := Lib.hid (far_all (orb_passed hsys hp) hall ho.hd)
  clear hx ha hsys h0 hall ho hj0
  have hmk := run_make_row' (P := Try.prog) 36 2 (.int .i64 0) 8 Try.underlying36 Try.info2 rfl .i64 .i64 n (by omega) (by omega)
  go_enter Try.func152, Try.ntmps152
  go_wp2_with fail
  refine (flagsFrom_any _ HX.out (HA.out.al _) hN HS.out hpos hp).mono ?_
  rintro e w1 ⟨A1, c1, rfl, own, bel⟩
  rw [HALL.out] at own ⊢
  have BX1 := Lib.hid (BX0.out.go bel)
  have ST := Lib.hid (eys_start (own_base own (by simp)) BX1.out hn4')
  obtain ⟨g1, rfl⟩ := own_shape own (by omega)
  have hcap := own_cap own
  have h1c : 1 < c1 := by omega
  clear own bel BX0
  go_wp2
  clear hmk
  go_loopw [22] (fun i wr => ∃ j : Nat, j ≤ n - 1 ∧ i = .int .i64 j ∧ EyS w wr (.slice (some ⟨b, o, none⟩) N c) 27 w1.heap.size n (some ⟨g1, 0, none⟩) c1 (setAll 400 (((orbL xss n p).drop 1).take j) (List.replicate n 0)) (orbL xss n p)) (fun i _ => n - 1 - (intOf i).toNat)
  case atStart => exact ⟨0, Nat.zero_le _, rfl, by simpa [setAll] using ST.out⟩
  case round =>
    obtain ⟨j, hj, rfl, st⟩ := hrel
    have S := Lib.hid st
    clear st
    by_cases hlt : j < n - 1
    · obtain ⟨q, hq, hqn⟩ := orb_at HS.out hp (show j + 1 < (orbL xss n p).length by rw [HALL.out]; omega)
      have hcx := own_cell S.out.rch (show (ints (orbL xss n p))[j + 1]? = some (.int .i64 q) by simp [hq])
      rw [Nat.add_comm] at hcx
      obtain ⟨u, hu⟩ := ints_at S.out.len.2 hqn
      have hcq := own_cell S.out.out hu
      have hfr := S.out.out.frozenAt q
      have S2 := Lib.hid (S.out.set q 400)
      have HE := Lib.hid (setAll_succ (z := 400) (D := List.replicate n 0) (show ((orbL xss n p).drop 1)[j]? = some (q : Int) by rw [List.getElem?_drop, Nat.add_comm]; exact hq))
      clear hq hu
      go_wp2
      go_roundw
      case rel => exact ⟨j + 1, by omega, by go_num, by rw [← HE.out]; exact S2.out⟩
      case measure => simp [intOf]; omega
    · have h := S.out
      rw [List.take_of_length_le (by rw [List.length_drop, HALL.out]; omega), FAR.out] at h
      have S1 := Lib.hid h
      have R0 := Lib.hid (rinv_start (xss := xss) (O := orbL xss n p) hp)
      clear h S ST FAR
      obtain ⟨g, hg⟩ : ∃ g : Nat, w1.heap.size = g := ⟨_, rfl⟩
      rw [hg] at S1 ⊢
      clear hg
      go_wp2
      go_loopw [32] (fun i wr => ∃ (j : Nat) (D : List Int), j ≤ n ∧ i = .int .i64 j ∧ EyS w wr (.slice (some ⟨b, o, none⟩) N c) 27 g n (some ⟨g1, 0, none⟩) c1 D (orbL xss n p) ∧ RInv xss n p (orbL xss n p) j 0 D) (fun i _ => n - (intOf i).toNat)
      case atStart => exact ⟨0, _, Nat.zero_le _, rfl, S1.out, R0.out⟩
      case round =>
        obtain ⟨i, D, hi, rfl, st, ri⟩ := hrel
        have S := Lib.hid st
        have RI := Lib.hid ri
        have hbc := st.bx.cell
        clear st ri S1 R0
        by_cases hlt : i < n
        · obtain ⟨q, hq, hqn⟩ := orb_at HS.out hp (show i < (orbL xss n p).length by rw [HALL.out]; omega)
          have hcx := own_cell S.out.rch (show (ints (orbL xss n p))[i]? = some (.int .i64 q) by simp [hq])
          have HQ := Lib.hid hq
          clear hq
          go_wp2
          clear hcx hbc
          go_loopw [39] (fun v wi => ∃ (j : Nat) (D : List Int), j ≤ N ∧ v = .int .i64 j ∧ EyS w wi (.slice (some ⟨b, o, none⟩) N c) 27 g n (some ⟨g1, 0, none⟩) c1 D (orbL xss n p) ∧ RInv xss n p (orbL xss n p) i j D) (fun v _ => N - (intOf v).toNat)
          case atStart => exact ⟨0, D, Nat.zero_le _, rfl, S.out, RI.out⟩
          case round =>
            obtain ⟨j, D2, hj, rfl, st2, ri2⟩ := hrel
            have S2 := Lib.hid st2
            have R2 := Lib.hid ri2
            clear st2 ri2 S RI
            by_cases hjl : j < N
            · obtain ⟨b3, o3, A4, c4, gg, he, hg, hc, hrd, hms⟩ := (bx_rd S2.out.bx HA.out).row (k := j) (by rw [HX.out]; exact hjl)
              obtain ⟨rfl, rfl⟩ : b = b3 ∧ o = o3 := by simpa using he
              have hlg := sys_len HS.out hg
              obtain ⟨l, hl⟩ : ∃ l, gg.length = l := ⟨_, rfl⟩
              rw [hl] at hc hms hlg
              obtain ⟨b4, o4, y, rfl, hgy, hcy⟩ := hrd.int (k := q) (by omega)
              obtain ⟨r, rfl, hr0⟩ := sys_at HS.out hg hgy
              have hrn : r < n := by omega
              obtain ⟨d, hDq, hdd, hdi⟩ := rinv_at HO.out HIN.out HS.out R2.out HQ.out hqn
              obtain ⟨v, hDr, hv4⟩ := rinv_val HO.out HIN.out R2.out hrn hn4'
              have hcq := own_cell S2.out.out (show (ints D2)[q]? = some (.int .i64 d) by simp [hDq])
              have hcr := own_cell S2.out.out (show (ints D2)[r]? = some (.int .i64 v) by simp [hDr])
              have hfr := S2.out.out.frozenAt r
              have R3 := Lib.hid (rinv_step HO.out HIN.out HS.out R2.out HQ.out hg (show fz gg q = (r : Int) by simp [fz, hgy]) hn4' hdd hDr)
              have S3 := Lib.hid (S2.out.set r (min (v : Int) ((d : Int) + 1)))
              clear he hgy hrd hg hDq hDr hdd
              go_wp2
              go_still_tail 19, (by kernel_rfl)
              have S4 := Lib.hid (S2.out.drewN 1)
              have S5 := Lib.hid (S4.out.set r (min (v : Int) ((d : Int) + 1)))
              have hmin : (if (d : Int) + 1 < (v : Int) then (d : Int) + 1 else (v : Int)) = min (v : Int) ((d : Int) + 1) := by split <;> omega
              go_wp2
              go_roundw
              case rel =>
                first
                | exact ⟨j + 1, _, by omega, by go_num, S5.out, R3.out⟩
                | (rw [hmin]; exact ⟨j + 1, _, by omega, by go_num, S3.out.drewN 1, R3.out⟩)
                | exact ⟨j + 1, _, by omega, by go_num, by rw [hmin]; exact S3.out.drewN 1, R3.out⟩
              case measure => simp [intOf]; omega
            · have h := R2.out
              rw [show j = xss.length by rw [HX.out]; omega] at h
              have R3 := Lib.hid (rinv_next h)
              clear h
              go_wp2
              go_roundw
              case rel => exact ⟨i + 1, D2, by omega, by go_num, S2.out, R3.out⟩
              case measure => simp [intOf]; omega
        · have hD := distL_eq (rinv_done HO.out HIN.out HS.out RI.out (by rw [HALL.out]; omega))
          obtain rfl : D = distL xss n p := hD
          have HDL := Lib.hid S.out.len.2
          go_wp2
          go_ret
          exact ⟨_, n, by rw [HDL.out]; rfl, by rw [HDL.out]; exact own_base S.out.out (by omega), S.out.bx.below⟩
end Go.Proofs.Ytmgoaabeopnopaa
namespace Go.Proofs.Ytmgoaabeopnopaa
open Go.RowKit

theorem iFlag_bel {b o c N n c0 : Nat} {A0 : Option Addr} {r : Bool} (f : Int) (w : World) (hN : 0 < N) (h0 : w.cell? ⟨b, o, none⟩ = some (.slice A0 n c0)) (_hn : n ≤ 1048576) (hr : flagB n f = r) :
    Calls Try.prog 99 #[.agg #[.slice (some ⟨b, o, none⟩) N c], .int .i64 f] w fun e w' => e = .returned (.bool r) ∧ Below w.heap.size w w' := by
  have HC0 := Lib.hid (cell_al h0 (.cells #[.slice (some ⟨b, o, none⟩) N c] 27))
  by_cases hf0 : 0 ≤ f
  · have HR := Lib.hid (show decide (f < (n : Int)) = r from by rw [← hr]; unfold flagB; congr 1; simp only [eq_iff_iff]; omega)
    clear h0 hr
    go_enter Try.func99, Try.ntmps99
    go_wp2_with fail
    refine (flags_bel _ hN HC0.out).mono ?_
    rintro e w1 ⟨rfl, bel⟩
    go_wp2
    go_ret
    exact ⟨ret_bool HR.out, (below1 w _).trans (bel.mono (by simp))⟩
  · have HR := Lib.hid (show false = r from by rw [← hr]; unfold flagB; rw [decide_eq_false (by omega)])
    clear h0 hr
    go_enter Try.func99, Try.ntmps99
    go_wp2
    go_ret
    exact ⟨ret_bool HR.out, below1 w _⟩

noncomputable def dfR (xss : List (List Int)) (f : Int) : List Int := if okMan xss then (if flagB (flN xss) f then distL xss (flN xss) f else []) else []
noncomputable def dfC (xss : List (List Int)) (f : Int) : Int := if okMan xss then (if flagB (flN xss) f then 0 else 2) else 1

theorem distL_le {xss : List (List Int)} {n : Nat} {p : Int} : (distL xss n p).length ≤ n := by
  unfold distL
  split
  · rename_i h
    exact Nat.le_of_eq h.choose_spec.1
  · simp
theorem dfR_le (xss : List (List Int)) (f : Int) : (dfR xss f).length ≤ 1048576 := by
  unfold dfR
  split
  · rename_i h
    have := (okMan_iff.1 h).f4
    split
    · exact Nat.le_trans distL_le (by omega)
    · simp
  · simp
end Go.Proofs.Ytmgoaabeopnopaa
namespace Go.Proofs.Ytmgoaabeopnopaa
open Go.RowKit

section
variable {xss : List (List Int)} {n p : Nat}
theorem dok_distL (hsys : okSys n xss = true) (hp : p < n) (hall : (orbL xss n p).length = n) : DOk xss n p (distL xss n p) := by
  obtain ⟨j, _, ho⟩ := oinv_orb hsys hp
  have hex : ∀ y : Nat, ∃ d : Nat, y < n → IsD xss p y d := fun y => by
    by_cases hy : y < n
    · obtain ⟨d, hd⟩ := ho.ex y (mem_all hall (orb_passed hsys hp) hy)
      exact ⟨d, fun _ => hd⟩
    · exact ⟨0, fun h => absurd h hy⟩
  have hD : DOk xss n p ((List.range n).map fun y => ((Classical.choose (hex y) : Nat) : Int)) :=
    ⟨by simp, fun y hy => ⟨Classical.choose (hex y), by simp [hy], Classical.choose_spec (hex y) hy⟩⟩
  rw [← distL_eq hD]
  exact hD
theorem distL_len (hsys : okSys n xss = true) (hp : p < n) (hall : (orbL xss n p).length = n) : (distL xss n p).length = n := (dok_distL hsys hp hall).1
theorem distL_at (hsys : okSys n xss = true) (hp : p < n) (hall : (orbL xss n p).length = n) {y : Nat} (hy : y < n) : ∃ d : Nat, (distL xss n p)[y]? = some (d : Int) ∧ d < n := by
  obtain ⟨d, h1, h2⟩ := (dok_distL hsys hp hall).2 y hy
  obtain ⟨j, _, ho⟩ := oinv_orb hsys hp
  obtain ⟨a, ha, hay⟩ := List.mem_iff_getElem.1 (mem_all hall (orb_passed hsys hp) hy)
  have := ho.idx a y d (by rw [List.getElem?_eq_getElem ha, hay]) h2
  exact ⟨d, h1, by omega⟩
theorem distL_in (hsys : okSys n xss = true) (hp : p < n) (hall : (orbL xss n p).length = n) : ∀ x ∈ distL xss n p, 0 ≤ x ∧ x < (n : Int) := by
  intro x hx
  obtain ⟨y, hy, rfl⟩ := List.mem_iff_getElem.1 hx
  obtain ⟨d, h1, h2⟩ := distL_at hsys hp hall (y := y) (by rw [distL_len hsys hp hall] at hy; exact hy)
  rw [List.getElem?_eq_getElem hy] at h1
  injection h1 with h1
  omega
end

set_option maxHeartbeats 800000 in
theorem max_any {A : Option Addr} {c n : Nat} {l : List Int} (w : World) (hx : l.length = n) (ha : Rd w A (ints l)) (hn0 : 0 < n) (hn : n ≤ 1048576) (hb : ∀ x ∈ l, 0 ≤ x) :
    Calls Try.prog 133 #[.slice A n c] w fun e w' => e = .returned (.int .i64 (mxL l)) ∧ w = w' := by
  have HX := Lib.hid hx
  have HA := Lib.hid ha
  obtain ⟨b, o, x0, rfl, hg0, hc0⟩ := ha.int (k := 0) (by omega)
  rw [Nat.add_zero] at hc0
  have H1 := Lib.hid (mxL_one hg0 (hb x0 (List.mem_of_getElem? hg0)))
  clear hx ha hg0 hb
  go_enter Try.func133, Try.ntmps133
  go_wp2
  go_loop [3, 4] (fun v i => ∃ k : Nat, 1 ≤ k ∧ k ≤ n ∧ i = .int .i64 k ∧ v = .int .i64 (mxL (l.take k))) (fun _ i => n - (intOf i).toNat)
  case atStart => exact ⟨1, by omega, by omega, rfl, by rw [H1.out]⟩
  case round =>
    obtain ⟨k, h1k, hk, rfl, rfl⟩ := hrel
    by_cases hlt : k < n
    · obtain ⟨b', o', x, he, hgx, hcx⟩ := HA.out.int (k := k) (by rw [HX.out]; exact hlt)
      obtain ⟨rfl, rfl⟩ : b = b' ∧ o = o' := by simpa using he
      have HS := Lib.hid (mxL_succ hgx)
      clear he hgx
      go_wp2
      go_round
      case rel => exact ⟨k + 1, by omega, by omega, by go_num, by first | (rw [HS.out]; done) | (rw [HS.out]; congr 1; rw [Int.max_def]; split <;> split <;> omega)⟩
      case measure => simp [intOf]; omega
    · have HS := Lib.hid (show l.take k = l from List.take_of_length_le (by rw [HX.out]; omega))
      go_wp2
      go_ret
      exact ⟨ret_i64 (by rw [HS.out]), rfl⟩
end Go.Proofs.Ytmgoaabeopnopaa
namespace Go.Proofs.Ytmgoaabeopnopaa
open Go.RowKit

noncomputable def colL (xss : List (List Int)) (n : Nat) : List Int := (distL xss n 0).map fun x => x % 2
/-- No move leads a flag to one of the same colour. -/
def ColOk (xss : List (List Int)) (n : Nat) (C : List Int) : Prop := ∀ g ∈ xss, ∀ f : Nat, f < n → fz C (fz g f) ≠ fz C f
noncomputable def colB (xss : List (List Int)) (n : Nat) : Bool := @decide (ColOk xss n (colL xss n)) (Classical.propDecidable _)
noncomputable def colR (xss : List (List Int)) (n : Nat) : List Int := if colB xss n then colL xss n else []
def RetSB (w : World) (L : List Int) (B : Bool) (e : Ending) (w' : World) : Prop :=
  ∃ A c, e = .returned (.tuple #[.slice A L.length c, .bool B]) ∧ w'.ownsRow w.heap.size 2 1 (.slice A L.length c) L.length (ints L) ∧ Below w.heap.size w w'
section
variable {xss : List (List Int)} {n : Nat} {g : List Int}
theorem colB_false (h : ¬ ColOk xss n (colL xss n)) : colB xss n = false := @decide_eq_false _ (Classical.propDecidable _) h
theorem colB_true (h : ColOk xss n (colL xss n)) : colB xss n = true := @decide_eq_true _ (Classical.propDecidable _) h
theorem retSB_no {w w' : World} (h : colB xss n = false) (bel : Below w.heap.size w w') : RetSB w (colR xss n) (colB xss n) (.returned (.tuple #[.slice none 0 0, .bool false])) w' := by
  have e : colR xss n = [] := by unfold colR; rw [h]; rfl
  rw [e, h]
  exact ⟨none, 0, rfl, World.ownsRow_nil _ _ _ _, bel⟩
theorem retSB_yes {w w' : World} {A : Option Addr} {c base : Nat} (h : colB xss n = true) (hl : (colL xss n).length = n) (own : w'.ownsRow base 2 1 (.slice A n c) n (ints (colL xss n))) (hb : w.heap.size ≤ base) (bel : Below w.heap.size w w') :
    RetSB w (colR xss n) (colB xss n) (.returned (.tuple #[.slice A n c, .bool true])) w' := by
  have e : colR xss n = colL xss n := by unfold colR; rw [h]; rfl
  rw [e, h]
  exact ⟨A, c, by rw [hl], by rw [hl]; exact own_base own hb, bel⟩
theorem mix_at {A B : List Int} {k : Nat} (hA : A.length = n) (hk : k < n) : (A.take k ++ B.drop k)[k]? = B[k]? := by
  have e : (A.take k).length = k := by simp; omega
  rw [List.getElem?_append_right (by omega), e, Nat.sub_self, List.getElem?_drop, Nat.add_zero]
theorem mix_step {A B : List Int} {k : Nat} {a : Int} (hA : A.length = n) (hB : B.length = n) (ha : A[k]? = some a) : (A.take k ++ B.drop k).set k a = A.take (k + 1) ++ B.drop (k + 1) := by
  have hk : k < A.length := (List.getElem?_eq_some_iff.1 ha).1
  have e : (A.take k).length = k := by simp; omega
  rw [List.set_append_right _ _ (by omega), e, Nat.sub_self, List.drop_eq_getElem_cons (by omega : k < B.length), List.set_cons_zero, List.take_add_one, ha]
  simp
theorem colL_len (h : (distL xss n 0).length = n) : (colL xss n).length = n := by simp [colL, h]
theorem colL_at {y d : Nat} (h : (distL xss n 0)[y]? = some (d : Int)) : (colL xss n)[y]? = some ((d : Int) % 2) := by simp [colL, h]

/-- Gone through flag by flag. -/
def CTo (xss : List (List Int)) (C : List Int) (f k : Nat) : Prop := (∀ f' : Nat, f' < f → ∀ g ∈ xss, fz C (fz g f') ≠ fz C f') ∧ ∀ g ∈ xss.take k, fz C (fz g f) ≠ fz C f
theorem cto_next {C : List Int} {f k : Nat} (h : CTo xss C f k) (hk : xss.length ≤ k) : CTo xss C (f + 1) 0 := by
  refine ⟨fun f' hf g hg => ?_, by simp⟩
  rcases Nat.lt_succ_iff_lt_or_eq.1 hf with h1 | rfl
  · exact h.1 f' h1 g hg
  · exact h.2 g (by rwa [List.take_of_length_le hk])
theorem cto_step {C : List Int} {f k : Nat} (h : CTo xss C f k) (hg : xss[k]? = some g) (hne : fz C (fz g f) ≠ fz C f) : CTo xss C f (k + 1) := by
  refine ⟨h.1, fun g' hg' => ?_⟩
  rw [List.take_add_one, hg] at hg'
  rcases List.mem_append.1 hg' with h1 | h1
  · exact h.2 g' h1
  · simp at h1; subst h1; exact hne
theorem cto_all {C : List Int} (h : CTo xss C n 0) : ColOk xss n C := fun g hg f hf => h.1 f hf g hg
/-- Gone through move by move. -/
def CMo (xss : List (List Int)) (n : Nat) (C : List Int) (k f : Nat) : Prop := (∀ g ∈ xss.take k, ∀ f' : Nat, f' < n → fz C (fz g f') ≠ fz C f') ∧ ∀ g : List Int, xss[k]? = some g → ∀ f' : Nat, f' < f → fz C (fz g f') ≠ fz C f'
theorem cmo_next {C : List Int} {k : Nat} (h : CMo xss n C k n) (hg : xss[k]? = some g) : CMo xss n C (k + 1) 0 := by
  refine ⟨fun g' hg' f' hf => ?_, fun _ _ f' hf => absurd hf (by omega)⟩
  rw [List.take_add_one, hg] at hg'
  rcases List.mem_append.1 hg' with h1 | h1
  · exact h.1 g' h1 f' hf
  · simp at h1; subst h1; exact h.2 _ hg f' hf
theorem cmo_step {C : List Int} {k f : Nat} (h : CMo xss n C k f) (hg : xss[k]? = some g) (hne : fz C (fz g f) ≠ fz C f) : CMo xss n C k (f + 1) := by
  refine ⟨h.1, fun g' hg' f' hf => ?_⟩
  rw [hg] at hg'
  injection hg' with hg'
  subst hg'
  rcases Nat.lt_succ_iff_lt_or_eq.1 hf with h1 | rfl
  · exact h.2 _ hg f' h1
  · exact hne
theorem cmo_all {C : List Int} {k : Nat} (h : CMo xss n C k 0) (hk : xss.length ≤ k) : ColOk xss n C := fun g hg f hf => h.1 g (by rwa [List.take_of_length_le hk]) f hf
end

set_option maxHeartbeats 3200000 in
set_option maxRecDepth 8000 in
theorem scol_any {b o c N n c0 : Nat} {A0 : Option Addr} {xss : List (List Int)} (w : World) (hx : xss.length = N) (ha : RdSS w (some ⟨b, o, none⟩) xss) (hN : N ≤ 1048576) (hsys : okSys n xss = true) (h0 : w.cell? ⟨b, o, none⟩ = some (.slice A0 n c0)) (hpos : 0 < N) (h2 : 2 ≤ n) (hall : (orbL xss n ((0 : Nat) : Int)).length = n) :
    Calls Try.prog 104 #[.agg #[.slice (some ⟨b, o, none⟩) N c]] w (RetSB w (colR xss n) (colB xss n)) := by
  have hp : 0 < n := by omega
  have HX := Lib.hid hx
  have HA := Lib.hid ha
  have HS := Lib.hid hsys
  have HC0 := Lib.hid h0
  have HALL := Lib.hid hall
  have hdl := distL_len hsys hp hall
  have HDL := Lib.hid hdl
  have HCL := Lib.hid (colL_len hdl)
  have hn4 := (sys_parts hsys).2.1
  have BX0 := Lib.hid (Bx.start w (.slice (some ⟨b, o, none⟩) N c) 27)
  clear hx ha hsys h0 hall hdl
  go_enter Try.func104, Try.ntmps104
  go_wp2_with fail
  refine (sdist_any (p := 0) _ HX.out (HA.out.al _) hN HS.out (cell_al HC0.out _) hpos hp HALL.out).mono ?_
  rintro e w1 ⟨A1, c1, rfl, own, bel⟩
  have hdl := HDL.out
  simp only [Int.ofNat_zero] at own hdl ⊢
  rw [hdl] at own ⊢
  obtain ⟨g1, rfl⟩ := own_shape own (by omega)
  have BX1 := Lib.hid (BX0.out.go bel)
  have OWN := Lib.hid (own_base own (base' := w.heap.size + 1) (by simp))
  clear own bel BX0 hdl
  go_wp2
  go_loopw [5] (fun i wr => ∃ k : Nat, k ≤ n ∧ i = .int .i64 k ∧ wr.ownsRow (w.heap.size + 1) 2 1 (.slice (some ⟨g1, 0, none⟩) n c1) n (ints ((colL xss n).take k ++ (distL xss n 0).drop k)) ∧ Bx w wr (.slice (some ⟨b, o, none⟩) N c) 27) (fun i _ => n - (intOf i).toNat)
  case atStart => exact ⟨0, Nat.zero_le _, rfl, by simpa using OWN.out, BX1.out⟩
  case round =>
    obtain ⟨k, hk, rfl, own, bx⟩ := hrel
    have OW := Lib.hid own
    have BX := Lib.hid bx
    clear own bx
    by_cases hlt : k < n
    · obtain ⟨d, hd, hdn⟩ := distL_at HS.out hp HALL.out hlt
      have hcx := own_cell OW.out (show (ints ((colL xss n).take k ++ (distL xss n 0).drop k))[k]? = some (.int .i64 d) by rw [ints, List.getElem?_map, mix_at HCL.out hlt]; simpa using congrArg (Option.map (Value.int .i64)) hd)
      have hfr := OW.out.frozenAt k
      have hglo := (OW.out.lt g1 rfl).1
      have O2 := Lib.hid (OW.out.stored k (.int .i64 ((d : Int) % 2))).1
      have HE := Lib.hid (mix_step (B := distL xss n 0) HCL.out HDL.out (colL_at hd))
      clear hd
      go_wp2
      go_roundw
      case rel => exact ⟨k + 1, by omega, by go_num, by have h := O2.out; rwa [ints_set, HE.out] at h, ⟨BX.out.bel.setCell (p := ⟨g1, k, none⟩) hglo _⟩⟩
      case measure => simp [intOf]; omega
    · have h := OW.out
      rw [List.take_of_length_le (by rw [HCL.out]; omega), List.drop_of_length_le (by have := HDL.out; simp only [Int.natCast_zero] at this; omega), List.append_nil] at h
      have OC := Lib.hid h
      clear h hk
      go_wp2
      clear hlt
      go_loopw [6] (fun i wr => ∃ f : Nat, f ≤ n ∧ i = .int .i64 f ∧ CTo xss (colL xss n) f 0 ∧ wr.ownsRow (w.heap.size + 1) 2 1 (.slice (some ⟨g1, 0, none⟩) n c1) n (ints (colL xss n)) ∧ Bx w wr (.slice (some ⟨b, o, none⟩) N c) 27) (fun i _ => n - (intOf i).toNat)
      case atStart => exact ⟨0, Nat.zero_le _, rfl, ⟨fun f h => absurd h (by omega), by simp⟩, OC.out, BX.out⟩
      case round =>
        obtain ⟨f, hf, rfl, ct, own, bx⟩ := hrel
        have CT := Lib.hid ct
        have OWF := Lib.hid own
        have BXF := Lib.hid bx
        clear ct own bx OC BX OW
        by_cases hlt : f < n
        · go_wp2
          go_loopw [7] (fun v wi => ∃ j : Nat, j ≤ N ∧ v = .int .i64 j ∧ CTo xss (colL xss n) f j ∧ wi.ownsRow (w.heap.size + 1) 2 1 (.slice (some ⟨g1, 0, none⟩) n c1) n (ints (colL xss n)) ∧ Bx w wi (.slice (some ⟨b, o, none⟩) N c) 27) (fun v _ => N - (intOf v).toNat)
          case atStart => exact ⟨0, Nat.zero_le _, rfl, CT.out, OWF.out, BXF.out⟩
          case round =>
            obtain ⟨j, hj, rfl, ct2, own2, bx2⟩ := hrel
            have CT2 := Lib.hid ct2
            have OW2 := Lib.hid own2
            have BX2 := Lib.hid bx2
            have hbc := bx2.cell
            clear ct2 own2 bx2 CT OWF BXF
            by_cases hjl : j < N
            · obtain ⟨b3, o3, A4, c4, gg, he, hg, hc, hrd, hms⟩ := (bx_rd BX2.out HA.out).row (k := j) (by rw [HX.out]; exact hjl)
              obtain ⟨rfl, rfl⟩ : b = b3 ∧ o = o3 := by simpa using he
              have hlg := sys_len HS.out hg
              obtain ⟨l, hl⟩ : ∃ l, gg.length = l := ⟨_, rfl⟩
              rw [hl] at hc hms hlg
              obtain ⟨b4, o4, y, rfl, hgy, hcy⟩ := hrd.int (k := f) (by omega)
              obtain ⟨q, rfl, hq0⟩ := sys_at HS.out hg hgy
              have hqn : q < n := by omega
              obtain ⟨d1, hd1, hd1n⟩ := distL_at HS.out hp HALL.out hqn
              obtain ⟨d2, hd2, hd2n⟩ := distL_at HS.out hp HALL.out hlt
              have hcq := own_cell OW2.out (show (ints (colL xss n))[q]? = some (.int .i64 ((d1 : Int) % 2)) by rw [ints, List.getElem?_map, colL_at hd1]; rfl)
              have hcf := own_cell OW2.out (show (ints (colL xss n))[f]? = some (.int .i64 ((d2 : Int) % 2)) by rw [ints, List.getElem?_map, colL_at hd2]; rfl)
              have F1 := Lib.hid (show fz (colL xss n) (fz gg f) = (d1 : Int) % 2 by rw [show fz gg f = (q : Int) from by simp [fz, hgy]]; exact fz_at (colL_at hd1))
              have F2 := Lib.hid (show fz (colL xss n) f = (d2 : Int) % 2 from fz_at (colL_at hd2))
              have HG := Lib.hid hg
              clear he hgy hrd hg hd1 hd2
              by_cases heq : (d1 : Int) % 2 = (d2 : Int) % 2
              · have hbe : (((d1 : Int) % 2) == ((d2 : Int) % 2)) = true := by rw [beq_iff_eq]; exact heq
                have HB := Lib.hid (colB_false (xss := xss) (n := n) fun h => h gg (List.mem_of_getElem? HG.out) f hlt (by rw [F1.out, F2.out]; exact heq))
                clear heq
                go_wp2
                go_quiet (fail)
                go_wp2
                go_ret2
                exact retSB_no HB.out (BX2.out.drewN _).below
              · have hbe : (((d1 : Int) % 2) == ((d2 : Int) % 2)) = false := by rw [beq_eq_false_iff_ne]; exact heq
                have CT3 := Lib.hid (cto_step CT2.out HG.out (by rw [F1.out, F2.out]; exact heq))
                clear heq
                go_wp2
                go_quiet (fail)
                have O3 := Lib.hid (own_below OW2.out (below_drewN (Below.refl _ _) nq) (Nat.le_refl _))
                go_wp2
                go_roundw
                case rel => exact ⟨j + 1, by omega, by go_num, CT3.out, O3.out, BX2.out.drewN _⟩
                case measure => simp [intOf]; omega
            · have CT3 := Lib.hid (cto_next CT2.out (by rw [HX.out]; omega))
              go_wp2
              go_roundw
              case rel => exact ⟨f + 1, by omega, by go_num, CT3.out, OW2.out, BX2.out⟩
              case measure => simp [intOf]; omega
        · obtain rfl : f = n := by omega
          have HB := Lib.hid (colB_true (cto_all CT.out))
          go_wp2
          go_ret2
          exact retSB_yes HB.out HCL.out OWF.out (by omega) BXF.out.below
end Go.Proofs.Ytmgoaabeopnopaa
namespace Go.Proofs.Ytmgoaabeopnopaa
open Go.RowKit

set_option maxHeartbeats 3200000 in
set_option maxRecDepth 8000 in
theorem icol_any {b o c N n c0 : Nat} {A0 : Option Addr} {xss : List (List Int)} (w : World) (hx : xss.length = N) (ha : RdSS w (some ⟨b, o, none⟩) xss) (hN : N ≤ 1048576) (hsys : okSys n xss = true) (h0 : w.cell? ⟨b, o, none⟩ = some (.slice A0 n c0)) (hpos : 0 < N) (h2 : 2 ≤ n) (hall : (orbL xss n ((0 : Nat) : Int)).length = n) :
    Calls Try.prog 105 #[.agg #[.slice (some ⟨b, o, none⟩) N c]] w (RetSB w (colR xss n) (colB xss n)) := by
  have hp : 0 < n := by omega
  have HX := Lib.hid hx
  have HA := Lib.hid ha
  have HS := Lib.hid hsys
  have HC0 := Lib.hid h0
  have HALL := Lib.hid hall
  have hdl := distL_len hsys hp hall
  have HDL := Lib.hid hdl
  have HCL := Lib.hid (colL_len hdl)
  have hn4 := (sys_parts hsys).2.1
  have BX0 := Lib.hid (Bx.start w (.slice (some ⟨b, o, none⟩) N c) 27)
  clear hx ha hsys h0 hall hdl
  go_enter Try.func105, Try.ntmps105
  go_wp2_with fail
  refine (idist_any (p := 0) _ HX.out (HA.out.al _) hN HS.out (cell_al HC0.out _) hpos hp h2 HALL.out).mono ?_
  rintro e w1 ⟨A1, c1, rfl, own, bel⟩
  have hdl := HDL.out
  simp only [Int.ofNat_zero] at own hdl ⊢
  rw [hdl] at own ⊢
  obtain ⟨g1, rfl⟩ := own_shape own (by omega)
  have BX1 := Lib.hid (BX0.out.go bel)
  have OWN := Lib.hid (own_base own (base' := w.heap.size + 1) (by simp))
  clear own bel BX0 hdl
  go_wp2
  go_loopw [14] (fun i wr => ∃ k : Nat, k ≤ n ∧ i = .int .i64 k ∧ wr.ownsRow (w.heap.size + 1) 2 1 (.slice (some ⟨g1, 0, none⟩) n c1) n (ints ((colL xss n).take k ++ (distL xss n 0).drop k)) ∧ Bx w wr (.slice (some ⟨b, o, none⟩) N c) 27) (fun i _ => n - (intOf i).toNat)
  case atStart => exact ⟨0, Nat.zero_le _, rfl, by simpa using OWN.out, BX1.out⟩
  case round =>
    obtain ⟨k, hk, rfl, own, bx⟩ := hrel
    have OW := Lib.hid own
    have BX := Lib.hid bx
    clear own bx
    by_cases hlt : k < n
    · obtain ⟨d, hd, hdn⟩ := distL_at HS.out hp HALL.out hlt
      have hcx := own_cell OW.out (show (ints ((colL xss n).take k ++ (distL xss n 0).drop k))[k]? = some (.int .i64 d) by rw [ints, List.getElem?_map, mix_at HCL.out hlt]; simpa using congrArg (Option.map (Value.int .i64)) hd)
      have hfr := OW.out.frozenAt k
      have hglo := (OW.out.lt g1 rfl).1
      have O2 := Lib.hid (OW.out.stored k (.int .i64 ((d : Int) % 2))).1
      have HE := Lib.hid (mix_step (B := distL xss n 0) HCL.out HDL.out (colL_at hd))
      clear hd
      go_wp2
      go_roundw
      case rel => exact ⟨k + 1, by omega, by go_num, by have h := O2.out; rwa [ints_set, HE.out] at h, ⟨BX.out.bel.setCell (p := ⟨g1, k, none⟩) hglo _⟩⟩
      case measure => simp [intOf]; omega
    · have h := OW.out
      rw [List.take_of_length_le (by rw [HCL.out]; omega), List.drop_of_length_le (by have := HDL.out; simp only [Int.natCast_zero] at this; omega), List.append_nil] at h
      have OC := Lib.hid h
      have hbc0 := BX.out.cell
      clear h hk
      go_wp2
      clear hlt hbc0
      go_loopw [27] (fun i wr => ∃ j : Nat, j ≤ N ∧ i = .int .i64 j ∧ CMo xss n (colL xss n) j 0 ∧ wr.ownsRow (w.heap.size + 1) 2 1 (.slice (some ⟨g1, 0, none⟩) n c1) n (ints (colL xss n)) ∧ Bx w wr (.slice (some ⟨b, o, none⟩) N c) 27) (fun i _ => N - (intOf i).toNat)
      case atStart => exact ⟨0, Nat.zero_le _, rfl, ⟨by simp, fun _ _ f h => absurd h (by omega)⟩, OC.out, BX.out⟩
      case round =>
        obtain ⟨j, hj, rfl, ct, own, bx⟩ := hrel
        have CT := Lib.hid ct
        have OWF := Lib.hid own
        have BXF := Lib.hid bx
        clear ct own bx OC BX OW
        by_cases hjl : j < N
        · obtain ⟨b3, o3, A4, c4, gg, he, hg, hc, hrd, hms⟩ := (bx_rd BXF.out HA.out).row (k := j) (by rw [HX.out]; exact hjl)
          obtain ⟨rfl, rfl⟩ : b = b3 ∧ o = o3 := by simpa using he
          have hlg := sys_len HS.out hg
          obtain ⟨l, hl⟩ : ∃ l, gg.length = l := ⟨_, rfl⟩
          rw [hl] at hc hms hlg
          obtain rfl : n = l := by omega
          have HG := Lib.hid hg
          have HL := Lib.hid hl
          have HRD := Lib.hid hrd
          clear he hg hrd hl
          go_wp2
          clear hc
          obtain ⟨wo, rfl⟩ : ∃ wo : World, wo = wr := ⟨_, rfl⟩
          go_loopw [33] (fun v wi => ∃ f : Nat, f ≤ n ∧ v = .int .i64 f ∧ CMo xss n (colL xss n) j f ∧ wi.ownsRow (w.heap.size + 1) 2 1 (.slice (some ⟨g1, 0, none⟩) n c1) n (ints (colL xss n)) ∧ Bx w wi (.slice (some ⟨b, o, none⟩) N c) 27 ∧ Below wo.heap.size wo wi) (fun v _ => n - (intOf v).toNat)
          case atStart => exact ⟨0, Nat.zero_le _, rfl, CT.out, OWF.out, BXF.out, Below.refl _ _⟩
          case round =>
            obtain ⟨f, hf, rfl, ct2, own2, bx2, bel2⟩ := hrel
            have CT2 := Lib.hid ct2
            have OW2 := Lib.hid own2
            have BX2 := Lib.hid bx2
            have BE2 := Lib.hid bel2
            clear ct2 own2 bx2 bel2 CT OWF BXF
            by_cases hlt : f < n
            · obtain ⟨b4, o4, y, rfl, hgy, hcy⟩ := (HRD.out.keep BE2.out).int (k := f) (by rw [HL.out]; exact hlt)
              obtain ⟨q, rfl, hq0⟩ := sys_at HS.out HG.out hgy
              have hqn : q < n := by omega
              obtain ⟨d1, hd1, hd1n⟩ := distL_at HS.out hp HALL.out hqn
              obtain ⟨d2, hd2, hd2n⟩ := distL_at HS.out hp HALL.out hlt
              have hcq := own_cell OW2.out (show (ints (colL xss n))[q]? = some (.int .i64 ((d1 : Int) % 2)) by rw [ints, List.getElem?_map, colL_at hd1]; rfl)
              have hcf := own_cell OW2.out (show (ints (colL xss n))[f]? = some (.int .i64 ((d2 : Int) % 2)) by rw [ints, List.getElem?_map, colL_at hd2]; rfl)
              have F1 := Lib.hid (show fz (colL xss n) (fz gg f) = (d1 : Int) % 2 by rw [show fz gg f = (q : Int) from by simp [fz, hgy]]; exact fz_at (colL_at hd1))
              have F2 := Lib.hid (show fz (colL xss n) f = (d2 : Int) % 2 from fz_at (colL_at hd2))
              clear hgy hd1 hd2
              by_cases heq : (d2 : Int) % 2 = (d1 : Int) % 2
              · have hbe : (((d2 : Int) % 2) == ((d1 : Int) % 2)) = true := by rw [beq_iff_eq]; exact heq
                have HB := Lib.hid (colB_false (xss := xss) (n := n) fun h => h gg (List.mem_of_getElem? HG.out) f hlt (by rw [F1.out, F2.out]; exact heq.symm))
                clear heq
                go_wp2
                go_quiet (fail)
                go_wp2
                go_ret2
                exact retSB_no HB.out (BX2.out.drewN _).below
              · have hbe : (((d2 : Int) % 2) == ((d1 : Int) % 2)) = false := by rw [beq_eq_false_iff_ne]; exact heq
                have CT3 := Lib.hid (cmo_step CT2.out HG.out (by rw [F1.out, F2.out]; exact fun h => heq h.symm))
                clear heq
                go_wp2
                go_quiet (fail)
                have O3 := Lib.hid (own_below OW2.out (below_drewN (Below.refl _ _) nq) (Nat.le_refl _))
                go_wp2
                go_roundw
                case rel => exact ⟨f + 1, by omega, by go_num, CT3.out, O3.out, BX2.out.drewN _, below_drewN BE2.out _⟩
                case measure => simp [intOf]; omega
            · obtain rfl : f = n := by omega
              have CT3 := Lib.hid (cmo_next CT2.out HG.out)
              go_wp2
              go_roundw
              case rel => exact ⟨j + 1, by omega, by go_num, CT3.out, OW2.out, BX2.out⟩
              case measure => simp [intOf]; omega
        · have HB := Lib.hid (colB_true (cmo_all CT.out (by rw [HX.out]; omega)))
          go_wp2
          go_ret2
          exact retSB_yes HB.out HCL.out OWF.out (by omega) BXF.out.below
end Go.Proofs.Ytmgoaabeopnopaa
namespace Go.Proofs.Ytmgoaabeopnopaa
open Go.RowKit

noncomputable def isoR (xss : List (List Int)) : Bool := if okMan xss then colB xss (flN xss) else false
noncomputable def manC (xss : List (List Int)) : Int := if okMan xss then 0 else 1
noncomputable def colC (xss : List (List Int)) (n : Nat) : Int := if colB xss n then 0 else 5
noncomputable def coR (xss : List (List Int)) : List Int := if okMan xss then colR xss (flN xss) else []
noncomputable def coC (xss : List (List Int)) : Int := if okMan xss then colC xss (flN xss) else 1
noncomputable def diaTo (xss : List (List Int)) (n : Nat) : Nat → Int
  | 0 => 0
  | k + 1 => max (diaTo xss n k) (mxL (distL xss n k))
noncomputable def diR (xss : List (List Int)) : Int := if okMan xss then diaTo xss (flN xss) (flN xss) else 0
theorem retS_col {w w' : World} {xss : List (List Int)} {n : Nat} (h : colB xss n = false) (bel : Below w.heap.size w w') : RetS w (colR xss n) (colC xss n) (.returned (.tuple #[.slice none 0 0, .int .i64 5])) w' := by
  have e1 : colR xss n = [] := by unfold colR; rw [h]; rfl
  have e2 : colC xss n = 5 := by unfold colC; rw [h]; rfl
  rw [e1, e2]
  exact ⟨none, 0, rfl, World.ownsRow_nil _ _ _ _, bel⟩
theorem retS_col' {w w' : World} {xss : List (List Int)} {n c : Nat} {A : Option Addr} (h : colB xss n = true) (own : w'.ownsRow w.heap.size 2 1 (.slice A (colR xss n).length c) (colR xss n).length (ints (colR xss n))) (bel : Below w.heap.size w w') : RetS w (colR xss n) (colC xss n) (.returned (.tuple #[.slice A (colR xss n).length c, .int .i64 0])) w' := by
  have e2 : colC xss n = 0 := by unfold colC; rw [h]; rfl
  rw [e2]
  exact ⟨A, c, rfl, own, bel⟩
theorem colR_le {xss : List (List Int)} {n : Nat} : (colR xss n).length ≤ n := by
  unfold colR
  split
  · unfold colL
    rw [List.length_map]
    exact distL_le
  · simp
theorem coR_le (xss : List (List Int)) : (coR xss).length ≤ 1048576 := by
  unfold coR
  split
  · rename_i h
    have := (okMan_iff.1 h).f4
    exact Nat.le_trans colR_le (by omega)
  · simp

set_option maxHeartbeats 1600000 in
theorem iIsOrientable_any {A : Option Addr} {c N : Nat} {xss : List (List Int)} (w : World) (hx : xss.length = N) (ha : RdSS w A xss) (hN : N ≤ 1048576) (hr : ∀ xs ∈ xss, (xs.length : Int) ≤ 1048576) :
    Calls Try.prog 52 #[.agg #[.slice A N c]] w fun e w' => e = .returned (.tuple #[.bool (isoR xss), .int .i64 (manC xss)]) ∧ Below w.heap.size w w' := by
  have HX := Lib.hid hx
  have HA := Lib.hid ha
  have HR := Lib.hid hr
  cases ho : okMan xss
  · have h1 : isoR xss = false := by simp [isoR, ho]
    have h2 : manC xss = 1 := by simp [manC, ho]
    rw [h1, h2]
    have HO := Lib.hid ho
    clear hx ha hr ho h1 h2
    go_enter Try.func52, Try.ntmps52
    go_wp2_with fail
    refine (iMan_any _ HX.out (HA.out.al _) hN HR.out).mono ?_
    rintro e w1 ⟨rfl, bel⟩
    rw [HO.out]
    have BEL := Lib.hid bel
    clear bel
    go_wp2
    go_ret2
    exact ⟨rfl, (below1 w _).trans (BEL.out.mono (by simp))⟩
  · have hman := okMan_iff.1 ho
    have hsys := hman.sys
    have hn4 := hman.f4
    have hn2 := hman.f2
    have hpos := hman.pos hx
    have hallq : ∀ q : Nat, q < flN xss → (orbL xss (flN xss) q).length = flN xss := fun q hq => hman.all hq
    obtain ⟨b, o, A0, c0, rfl, hc0⟩ := man_row0 hman ha
    obtain ⟨n, hn⟩ : ∃ n, flN xss = n := ⟨_, rfl⟩
    rw [hn] at hc0 hsys hn4 hn2 hallq
    have HC0 := Lib.hid hc0
    have HO := Lib.hid ho
    have HSY := Lib.hid hsys
    have HALLQ := Lib.hid hallq
    have HMAN := Lib.hid hman
    have HFL := Lib.hid hn
    have BX0 := Lib.hid (Bx.start w (.slice (some ⟨b, o, none⟩) N c) 27)
    have hn6 : n ≤ 1048576 := by omega
    have h1 : isoR xss = colB xss n := by simp [isoR, ho, hn]
    have h2 : manC xss = 0 := by simp [manC, ho]
    rw [h1, h2]
    clear hx ha hr ho hman hn hc0 hsys hallq h1 h2
    go_enter Try.func52, Try.ntmps52
    go_wp2_with fail
    refine (iMan_any _ HX.out (HA.out.al _) hN HR.out).mono ?_
    rintro e w1 ⟨rfl, bel⟩
    rw [HO.out]
    have BX1 := Lib.hid (BX0.out.go bel)
    have HC1 := Lib.hid (cell_be (cell_al HC0.out _) bel)
    have hbc1 := BX1.out.cell
    clear bel BX0
    have HAB := Lib.hid (HA.out.keep BX1.out.below)
    go_wp2_with fail
    refine (icol_any _ HX.out HAB.out hN HSY.out HC1.out hpos hn2 (HALLQ.out 0 (by omega))).mono ?_
    rintro e w2 ⟨A9, c9, rfl, own, bel⟩
    have BX2 := Lib.hid (BX1.out.go bel)
    have OWN := Lib.hid (own_base own BX1.out.below.size)
    clear bel own hbc1
    go_wp2
    go_ret2
    exact ⟨rfl, BX2.out.below⟩
end Go.Proofs.Ytmgoaabeopnopaa
namespace Go.Proofs.Ytmgoaabeopnopaa
open Go.RowKit

theorem diaTo_nn {xss : List (List Int)} {n : Nat} : ∀ k, 0 ≤ diaTo xss n k
  | 0 => by simp [diaTo]
  | k + 1 => by
    have := diaTo_nn (xss := xss) (n := n) k
    rw [diaTo]
    omega
end Go.Proofs.Ytmgoaabeopnopaa
