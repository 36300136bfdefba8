import Derived.Test.YtmfddenjemoedaaL13
import Derived.Test.YtmfddenjemoedaaL8
import Derived.Test.YtmfddenjemoedaaL12
import Derived.Test.YtmfddenjemoedaaL9
import Derived.Test.YtmfddenjemoedaaL14
/- Replaced moves: facts outside the walks. -/
namespace Go.Proofs.Ytmfddenjemoedaa
open Go.RowKit

/-- The permutation that a word does. -/
def wpL (xss : List (List Int)) (n : Nat) (wd : List Int) : List Int := (List.range n).map fun (f : Nat) => runW xss (f : Int) wd
def wdsL (xss : List (List Int)) (n : Nat) (wss : List (List Int)) : List (List Int) := wss.map (wpL xss n)
section
variable {xss wss : List (List Int)} {wd : List Int} {n f k : Nat}
theorem wpL_len : (wpL xss n wd).length = n := by simp [wpL]
theorem wpL_succ (h : f < n) : (wpL xss n wd).take (f + 1) = (wpL xss n wd).take f ++ [runW xss (f : Int) wd] := by
  rw [List.take_add_one]
  simp [wpL, h]
theorem wdsL_len : (wdsL xss n wss).length = wss.length := by simp [wdsL]
theorem wdsL_succ (h : wss[k]? = some wd) : (wdsL xss n wss).take (k + 1) = (wdsL xss n wss).take k ++ [wpL xss n wd] := by
  rw [List.take_add_one]
  simp [wdsL, h]
theorem stepW_fz {xss : List (List Int)} {n : Nat} {p g : Int} (hsys : okSys n xss = true) (h0 : 0 ≤ g) (h1 : g < (xss.length : Int)) : ∃ xs, (xs.length : Int) = n ∧ okP xs = true ∧ stepW xss p g = fz xs p := by
  have hg : g.toNat < xss.length := by omega
  have h := (sys_parts hsys).2.2.2 xss[g.toNat] (List.getElem_mem hg)
  refine ⟨xss[g.toNat], h.1, h.2, ?_⟩
  simp [stepW, fz, List.getD, hg]
theorem wordOk_cons {x : Int} {l : List Int} (h : wordOk xss (x :: l) = true) : 0 ≤ x ∧ x < (xss.length : Int) ∧ wordOk xss l = true := by
  have h1 := of_decide_eq_true h
  have h2 := h1 x (by simp)
  exact ⟨h2.1, h2.2, decide_eq_true fun y hy => h1 y (by simp [hy])⟩
theorem runW_in (hsys : okSys n xss = true) : ∀ (l : List Int) (p : Int), wordOk xss l = true → 0 ≤ p → p < (n : Int) → 0 ≤ runW xss p l ∧ runW xss p l < (n : Int)
  | [], p, _, h0, h1 => ⟨h0, h1⟩
  | x :: l, p, hw, h0, h1 => by
    obtain ⟨a, b, c⟩ := wordOk_cons hw
    obtain ⟨xs, hl, ho, he⟩ := stepW_fz (p := p) hsys a b
    have h2 := fz_in (n := n) (by omega) ho h0 h1
    show 0 ≤ runW xss (stepW xss p x) l ∧ runW xss (stepW xss p x) l < (n : Int)
    rw [he]
    exact runW_in hsys l _ c h2.1 h2.2
theorem runW_inj (hsys : okSys n xss = true) : ∀ (l : List Int) (p q : Int), wordOk xss l = true → 0 ≤ p → p < (n : Int) → 0 ≤ q → q < (n : Int) → runW xss p l = runW xss q l → p = q
  | [], p, q, _, _, _, _, _, h => h
  | x :: l, p, q, hw, h0, h1, h2, h3, h => by
    obtain ⟨a, b, c⟩ := wordOk_cons hw
    obtain ⟨xs, hl, ho, he⟩ := stepW_fz (p := p) hsys a b
    obtain ⟨ys, hl', ho', he'⟩ := stepW_fz (p := q) hsys a b
    have hg : x.toNat < xss.length := by omega
    have e1 : stepW xss p x = fz xss[x.toNat] p := by simp [stepW, fz, List.getD, hg]
    have e2 : stepW xss q x = fz xss[x.toNat] q := by simp [stepW, fz, List.getD, hg]
    have hr := (sys_parts hsys).2.2.2 xss[x.toNat] (List.getElem_mem hg)
    have k1 := fz_in (n := n) (by omega) hr.2 h0 h1
    have k2 := fz_in (n := n) (by omega) hr.2 h2 h3
    have h' : runW xss (stepW xss p x) l = runW xss (stepW xss q x) l := h
    rw [e1, e2] at h'
    exact fz_inj (n := n) (by omega) hr.2 h0 h1 h2 h3 (runW_inj hsys l _ _ c k1.1 k1.2 k2.1 k2.2 h')
theorem wpL_ok (hsys : okSys n xss = true) (hw : wordOk xss wd = true) : okP (wpL xss n wd) = true := by
  have hn4 := (sys_parts hsys).2.1
  refine decide_eq_true ⟨by rw [wpL_len]; omega, fun x hx => ?_, ?_⟩
  · rw [wpL_len]
    obtain ⟨f, hf, rfl⟩ := List.mem_map.1 hx
    have := List.mem_range.1 hf
    exact runW_in hsys _ _ hw (by omega) (by omega)
  · refine List.pairwise_map.2 (List.Pairwise.imp_of_mem ?_ List.nodup_range)
    intro a b ha hb hab h
    have h1 := List.mem_range.1 ha
    have h2 := List.mem_range.1 hb
    have := runW_inj hsys _ _ _ hw (by omega) (by omega) (by omega) (by omega) h
    omega
theorem wdsL_sys (hsys : okSys n xss = true) (hl : wss.length ≤ 16) (hw : ∀ wd ∈ wss, wordOk xss wd = true) : okSys n (wdsL xss n wss) = true := by
  have h := sys_parts hsys
  refine decide_eq_true ⟨h.1, h.2.1, by rw [wdsL_len]; exact hl, fun xs hx => ?_⟩
  obtain ⟨wd, hwd, rfl⟩ := List.mem_map.1 hx
  exact ⟨by rw [wpL_len], wpL_ok hsys (hw wd hwd)⟩
end
end Go.Proofs.Ytmfddenjemoedaa
/- spec.l05Words. -/
namespace Go.Proofs.Ytmfddenjemoedaa
open Go.RowKit

end Go.Proofs.Ytmfddenjemoedaa
/- spec.l05Replace. -/
namespace Go.Proofs.Ytmfddenjemoedaa
open Go.RowKit

noncomputable def repL (xss : List (List Int)) (n : Nat) (wss : List (List Int)) : List (List Int) := secL (wdsL xss n wss) n 0
end Go.Proofs.Ytmfddenjemoedaa
/- spec.l05Dual, DualOf. -/
namespace Go.Proofs.Ytmfddenjemoedaa
open Go.RowKit

/-- The words of single moves, in reverse order. -/
def dualW (N : Nat) : List (List Int) := (List.range N).map fun (j : Nat) => [((N - 1 - j : Nat) : Int)]
noncomputable def dualL (xss : List (List Int)) (n : Nat) : List (List Int) := repL xss n (dualW xss.length)
noncomputable def duR (xss : List (List Int)) : List (List Int) := if okMan xss = true then dualL xss (flN xss) else []
noncomputable def duC (xss : List (List Int)) : Int := if okMan xss = true then 0 else 1
theorem dualW_len (N : Nat) : (dualW N).length = N := by simp [dualW]
theorem dualW_succ {N k : Nat} (h : k < N) : (dualW N).take (k + 1) = (dualW N).take k ++ [[((N - 1 - k : Nat) : Int)]] := by
  rw [List.take_add_one]
  simp [dualW, h]
theorem dualW_ok {xss : List (List Int)} {N : Nat} (hx : xss.length = N) : ∀ wd ∈ dualW N, wordOk xss wd = true ∧ (wd.length : Int) ≤ 1048576 := fun wd h => by
  obtain ⟨j, hj, rfl⟩ := List.mem_map.1 h
  have := List.mem_range.1 hj
  exact ⟨decide_eq_true fun x hx' => by simp at hx'; omega, by simp⟩
theorem repL_len {xss wss : List (List Int)} {n : Nat} : (repL xss n wss).length = wss.length := by rw [repL, secL_len, wdsL_len]

end Go.Proofs.Ytmfddenjemoedaa
/- spec.l05Three, OppositeOf, HalfOf. -/
namespace Go.Proofs.Ytmfddenjemoedaa
open Go.RowKit

theorem rd_blk {w : World} {g : Nat} {cs : Array Value} {t : TypeId} (h : Blk w g cs t) : Rd w (some ⟨g, 0, none⟩) cs.toList := fun _ => ⟨g, 0, rfl, fun k u hu => by
  rw [Nat.zero_add]
  exact h.cell (by simpa using hu)⟩
theorem rdSS3 {w : World} {g c1 c2 c3 n1 n2 n3 : Nat} {A1 A2 A3 : Option Addr} {a b c : List Int} {t : TypeId} (h : Blk w g #[.slice A1 n1 c1, .slice A2 n2 c2, .slice A3 n3 c3] t) (h1 : Rd w A1 (ints a)) (h2 : Rd w A2 (ints b)) (h3 : Rd w A3 (ints c)) (l1 : a.length = n1) (l2 : b.length = n2) (l3 : c.length = n3) (hb : n1 ≤ 1000 ∧ n2 ≤ 1000 ∧ n3 ≤ 1000) : RdSS w (some ⟨g, 0, none⟩) [a, b, c] := by
  subst l1
  subst l2
  subst l3
  refine ⟨[.slice A1 a.length c1, .slice A2 b.length c2, .slice A3 c.length c3], rd_blk h, rfl, fun j xs hj => ?_⟩
  match j, hj with
  | 0, hj => injection hj with hj; subst hj; exact ⟨A1, c1, rfl, h1, by omega⟩
  | 1, hj => injection hj with hj; subst hj; exact ⟨A2, c2, rfl, h2, by omega⟩
  | 2, hj => injection hj with hj; subst hj; exact ⟨A3, c3, rfl, h3, by omega⟩
noncomputable def thR (xss : List (List Int)) (n : Nat) (wss : List (List Int)) : List (List Int) := if xss.length = 3 ∧ okMan (repL xss n wss) = true then repL xss n wss else []
noncomputable def thC (xss : List (List Int)) (n : Nat) (wss : List (List Int)) : Int := if xss.length = 3 ∧ okMan (repL xss n wss) = true then 0 else 5

def op5W : List (List Int) := [[0], [1], [0, 2]]
noncomputable def op5R (xss : List (List Int)) : List (List Int) := if okMan xss = true then thR xss (flN xss) op5W else []
noncomputable def op5C (xss : List (List Int)) : Int := if okMan xss = true then thC xss (flN xss) op5W else 1

def ha5W : List (List Int) := [[0, 1, 0], [2], [1]]
noncomputable def ha5R (xss : List (List Int)) : List (List Int) := if okMan xss = true then thR xss (flN xss) ha5W else []
noncomputable def ha5C (xss : List (List Int)) : Int := if okMan xss = true then thC xss (flN xss) ha5W else 1

end Go.Proofs.Ytmfddenjemoedaa
/- spec.l05Singles, PetrieOf. -/
namespace Go.Proofs.Ytmfddenjemoedaa
open Go.RowKit

def sglW (N : Nat) : List (List Int) := (List.range N).map fun (j : Nat) => [(j : Int)]
def petW (N : Nat) : List (List Int) := (sglW N).set (N - 3) [((N - 3 : Nat) : Int), ((N - 1 : Nat) : Int)]
theorem sglW_len (N : Nat) : (sglW N).length = N := by simp [sglW]
theorem petW_len (N : Nat) : (petW N).length = N := by simp [petW, sglW_len]
theorem sglW_succ {N k : Nat} (h : k < N) : (sglW N).take (k + 1) = (sglW N).take k ++ [[(k : Int)]] := by
  rw [List.take_add_one]
  simp [sglW, h]
theorem sglW_ok {xss : List (List Int)} {N : Nat} (hx : xss.length = N) : ∀ wd ∈ sglW N, wordOk xss wd = true ∧ (wd.length : Int) ≤ 1048576 := fun wd h => by
  obtain ⟨j, hj, rfl⟩ := List.mem_map.1 h
  have := List.mem_range.1 hj
  exact ⟨decide_eq_true fun x hx' => by simp at hx'; omega, by simp⟩
theorem petW_ok {xss : List (List Int)} {N : Nat} (hx : xss.length = N) (h3 : 3 ≤ N) : ∀ wd ∈ petW N, wordOk xss wd = true ∧ (wd.length : Int) ≤ 1048576 := fun wd h => by
  rcases List.mem_or_eq_of_mem_set h with h | rfl
  · exact sglW_ok hx wd h
  · exact ⟨decide_eq_true fun x hx' => by simp at hx'; omega, by simp⟩
noncomputable def peR (xss : List (List Int)) : List (List Int) := if okMan xss = true ∧ 3 ≤ xss.length ∧ okMan (repL xss (flN xss) (petW xss.length)) = true then repL xss (flN xss) (petW xss.length) else []
noncomputable def peC (xss : List (List Int)) : Int := if okMan xss = true then (if 3 ≤ xss.length ∧ okMan (repL xss (flN xss) (petW xss.length)) = true then 0 else 5) else 1

end Go.Proofs.Ytmfddenjemoedaa
/- spec.l01Same2, l02Same, l01Own2, l02Own. -/
namespace Go.Proofs.Ytmfddenjemoedaa
open Go.RowKit

end Go.Proofs.Ytmfddenjemoedaa
/- spec.IsSelfPetrie. -/
namespace Go.Proofs.Ytmfddenjemoedaa
open Go.RowKit

/-- The least form of a maniplex. -/
noncomputable def leaL (xss : List (List Int)) : List (List Int) := lstTo xss (flN xss) (flN xss - 1)
theorem leaL_len (xss : List (List Int)) : (leaL xss).length = xss.length := lstTo_len _ _ _
theorem leaL_le {xss : List (List Int)} (h : okMan xss = true) : ∀ xs ∈ leaL xss, (xs.length : Int) ≤ 1048576 := fun xs hx => by
  have hman := okMan_iff.1 h
  have h1 := lstTo_row (fun q hq => hman.all hq) (flN xss - 1) (by have := hman.f2; omega) xs hx
  have h2 := (sys_parts hman.sys).2.1
  omega
theorem sleastM_any {A : Option Addr} {c N : Nat} {xss : List (List Int)} (w : World) (hm : okMan xss = true) (hx : xss.length = N) (ha : RdSS w A xss) :
    Calls Try.prog 63 #[.agg #[.slice A N c]] w fun e w' => ∃ A' c', e = .returned (.agg #[.slice A' N c']) ∧ OwnSS w' w.heap.size w'.heap.size 24 A' N c' (leaL xss) ∧ Below w.heap.size w w' := by
  have hman := okMan_iff.1 hm
  obtain ⟨b, o, A0, c0, rfl, hc0⟩ := man_row0 hman ha
  refine (sleast_any w hx ha hman.sys hc0 (hman.pos hx) (by have := hman.f2; omega) (fun q hq => hman.all hq)).mono ?_
  rintro e w' ⟨A', c', he, ho, hb⟩
  have hl : (lstTo xss (flN xss) (flN xss - 1)).length = N := by rw [lstTo_len, hx]
  rw [hl] at he ho
  exact ⟨A', c', he, ho, hb⟩

noncomputable def spB5 (xss : List (List Int)) : Bool := decide (peC xss = 0 ∧ leaL xss = leaL (peR xss))
theorem peC_zero {xss : List (List Int)} (h : peC xss = 0) : okMan xss = true ∧ okMan (peR xss) = true := by
  unfold peC at h
  split at h
  · rename_i h1
    split at h
    · rename_i h2
      exact ⟨h1, by rw [peR, if_pos ⟨h1, h2⟩]; exact h2.2⟩
    · omega
  · omega

end Go.Proofs.Ytmfddenjemoedaa
/- spec.IsSelfDual. -/
namespace Go.Proofs.Ytmfddenjemoedaa
open Go.RowKit

section
variable {xss : List (List Int)} {n : Nat}
theorem leaL_le2 (hsys : okSys (flN xss) xss = true) (hn : 0 < flN xss) (hall : ∀ q : Nat, q < flN xss → (orbL xss (flN xss) q).length = flN xss) : ∀ xs ∈ leaL xss, (xs.length : Int) ≤ 1048576 := fun xs hx => by
  have h1 := lstTo_row hall (flN xss - 1) (by omega) xs hx
  have h2 := (sys_parts hsys).2.1
  omega
theorem sleastW_any {A : Option Addr} {c N : Nat} (w : World) (hx : xss.length = N) (hpos : 0 < N) (hsys : okSys (flN xss) xss = true) (hn : 0 < flN xss) (hall : ∀ q : Nat, q < flN xss → (orbL xss (flN xss) q).length = flN xss) (ha : RdSS w A xss) :
    Calls Try.prog 63 #[.agg #[.slice A N c]] w fun e w' => ∃ A' c', e = .returned (.agg #[.slice A' N c']) ∧ OwnSS w' w.heap.size w'.heap.size 24 A' N c' (leaL xss) ∧ Below w.heap.size w w' := by
  obtain ⟨b, o, A0, c0, xs0, rfl, hg0, hc0, _, _⟩ := ha.row (k := 0) (by omega)
  rw [← fl_of hg0, Nat.add_zero] at hc0
  refine (sleast_any w hx ha hsys hc0 hpos hn hall).mono ?_
  rintro e w' ⟨A', c', he, ho, hb⟩
  have hl : (lstTo xss (flN xss) (flN xss - 1)).length = N := by rw [lstTo_len, hx]
  rw [hl] at he ho
  exact ⟨A', c', he, ho, hb⟩
/-- A section's first row is as long as its orbit. -/
theorem secL_fl {yss : List (List Int)} {f : Nat} (h : 0 < yss.length) : flN (secL yss n f) = (orbL yss n f).length := by
  cases yss with
  | nil => simp at h
  | cons a r => simp [flN, secL, secRow]
theorem dualL_whole (hsys : okSys n xss = true) (hn : 0 < n) (hpos : 0 < xss.length) :
    0 < flN (dualL xss n) ∧ okSys (flN (dualL xss n)) (dualL xss n) = true ∧ ∀ q : Nat, q < flN (dualL xss n) → (orbL (dualL xss n) (flN (dualL xss n)) q).length = flN (dualL xss n) := by
  have hK : okSys n (wdsL xss n (dualW xss.length)) = true := wdsL_sys hsys (by rw [dualW_len]; exact (sys_parts hsys).2.2.1) (fun wd h => (dualW_ok rfl wd h).1)
  have e1 : dualL xss n = secL (wdsL xss n (dualW xss.length)) n 0 := rfl
  have hf : flN (dualL xss n) = (orbL (wdsL xss n (dualW xss.length)) n ((0 : Nat) : Int)).length := by
    rw [e1]
    exact secL_fl (by rw [wdsL_len, dualW_len]; exact hpos)
  have hm := (orb_facts hK hn).2.1
  refine ⟨?_, ?_, fun q hq => ?_⟩
  · rw [hf]
    exact List.length_pos_of_mem hm
  · rw [hf, e1]
    exact secL_sys hK hn rfl
  · rw [hf] at hq ⊢
    rw [e1]
    exact secL_all hK hn rfl hq
end
noncomputable def sduB (xss : List (List Int)) : Bool := decide (okMan xss = true ∧ leaL xss = leaL (dualL xss (flN xss)))

end Go.Proofs.Ytmfddenjemoedaa
