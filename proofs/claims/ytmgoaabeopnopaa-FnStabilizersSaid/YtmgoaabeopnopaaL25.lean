import Derived.Test.YtmgoaabeopnopaaL21
import Derived.Test.YtmgoaabeopnopaaAe
import Derived.Test.YtmgoaabeopnopaaL8
import Derived.Test.YtmgoaabeopnopaaL9
import Derived.Lib.SliceRun
import Derived.Test.YtmgoaabeopnopaaIdn
import Derived.StillTailTactics
/- FlagOrbits and IsRegular: plain facts and walks, impl's and the spec's. -/
namespace Go.Proofs.Ytmgoaabeopnopaa
open Go.RowKit

noncomputable def irrB (xss : List (List Int)) : Bool := okMan xss && decide ((autL xss).length = flN xss)
section
variable {xss : List (List Int)}
end

end Go.Proofs.Ytmgoaabeopnopaa
/- The numbers of the orbits of flags, and to which orbits moves lead them. Plain facts. -/
namespace Go.Proofs.Ytmgoaabeopnopaa
open Go.RowKit

section
variable {xss : List (List Int)} {f p q : Nat} {g : List Int}
/-- How many orbits there are. -/
noncomputable def ocn (xss : List (List Int)) : Nat := (orbsTo (autL xss) (flN xss) (flN xss)).length
noncomputable def oL (xss : List (List Int)) : List Int := labL (autL xss) (flN xss)
theorem oL_len : (oL xss).length = flN xss := labL_length _ _
theorem oL_ok (hm : IsMan xss) {i : Nat} {o : List Int} (ho : (orbsTo (autL xss) (flN xss) (flN xss))[i]? = some o) (hp : (p : Int) ∈ o) : (oL xss)[p]? = some (i : Int) := by
  have hpa := (Big.orbsTo_facts (aut_big hm) (flN xss) (Nat.le_refl _)).1
  have hpr := hpa.1 _ (List.mem_flatten.2 ⟨o, List.mem_of_getElem? ho, hp⟩)
  have hex : ∃ x ∈ orbsTo (autL xss) (flN xss) (flN xss), decide ((p : Int) ∈ x) = true := ⟨o, List.mem_of_getElem? ho, by simpa using hp⟩
  have hlt := List.findIdx_lt_length_of_exists hex
  have hat := List.findIdx_getElem (w := hlt)
  have hat : (p : Int) ∈ (orbsTo (autL xss) (flN xss) (flN xss))[(orbsTo (autL xss) (flN xss) (flN xss)).findIdx fun x => decide ((p : Int) ∈ x)] := by simpa using hat
  have e := flat_idx hpa.2 (List.getElem?_eq_getElem hlt) ho hat hp
  unfold oL labL
  rw [List.getElem?_map, List.getElem?_range (by omega)]
  simp only [Option.map_some]
  rw [e]
theorem oL_at (hm : IsMan xss) (hf : f < flN xss) : ∃ j : Nat, j < ocn xss ∧ (oL xss)[f]? = some (j : Int) := by
  obtain ⟨i, o, ho, hp⟩ := labA_has hm (f := flN xss) (Nat.le_refl _) hf
  exact ⟨i, (List.getElem?_eq_some_iff.1 ho).1, oL_ok hm ho hp⟩
theorem oL_same (hm : IsMan xss) (hp : p < flN xss) (hq : q < flN xss) : fz (oL xss) p = fz (oL xss) q ↔ SameF xss p q := by
  obtain ⟨i, o, ho, hpo⟩ := labA_has hm (f := flN xss) (Nat.le_refl _) hp
  obtain ⟨j, o', ho', hqo⟩ := labA_has hm (f := flN xss) (Nat.le_refl _) hq
  rw [fz_at (oL_ok hm ho hpo), fz_at (oL_ok hm ho' hqo), ← orb_idx hm (Nat.le_refl _) hp hq ho hpo]
  constructor
  · intro h
    have : i = j := by omega
    subst this
    rw [ho] at ho'
    injection ho' with ho'
    rw [ho']
    exact hqo
  · intro h
    have := flat_idx (Big.orbsTo_facts (aut_big hm) (flN xss) (Nat.le_refl _)).1.2 ho ho' h hqo
    omega
theorem ocn_le (hm : IsMan xss) : ocn xss ≤ flN xss := (Big.orbsTo_facts (aut_big hm) (flN xss) (Nat.le_refl _)).2.2.1
theorem grt_fold : ∀ (l : List Int) (a b : Int), a ≤ b → (∀ x ∈ l, x < b) → (a = b ∨ (b - 1) ∈ l) → l.foldl (fun a x => if a ≤ x then x + 1 else a) a = b
  | [], a, b, _, _, h => by
    rcases h with h | h
    · exact h
    · simp at h
  | x :: l, a, b, hab, hx, h => by
    rw [List.foldl_cons]
    have hxb := hx x (by simp)
    refine grt_fold l _ b ?_ (fun y hy => hx y (by simp [hy])) ?_
    · split <;> omega
    · rcases h with h | h
      · left
        rw [if_neg (by omega)]; exact h
      · rcases List.mem_cons.1 h with h1 | h1
        · left
          split <;> omega
        · exact .inr h1
/-- To which orbits a move leads the orbits. -/
noncomputable def stRow (xss : List (List Int)) (g : List Int) : List Int := (List.range (ocn xss)).map fun (o : Nat) => fz (oL xss) (fz g (idxL (oL xss) (o : Int)))
noncomputable def stL (xss : List (List Int)) : List (List Int) := xss.map (stRow xss)
end
noncomputable def chB (xss : List (List Int)) : Bool := okMan xss && @decide (∀ r ∈ stL xss, r = [1, 0]) (Classical.propDecidable _)
end Go.Proofs.Ytmgoaabeopnopaa
/- Automorphisms are a group that commutes with the moves; their number times that of the orbits of flags is the number of flags. Plain facts. -/
namespace Go.Proofs.Ytmgoaabeopnopaa
open Go.RowKit

section
variable {xss : List (List Int)} {n p q : Nat} {L L' M : List Int}
/-- Two automorphisms that agree at one flag are equal. -/
theorem aut_uniq (hm : IsMan xss) (h : L ∈ autL xss) (h' : L' ∈ autL xss) (hp : p < flN xss) (he : fz L p = fz L' p) : L = L' := by
  have hL := (aut_iff hm).1 h
  have hL' := (aut_iff hm).1 h'
  have hf := hm.f2
  have hS : ∀ z : Int, z ∈ ((List.range (flN xss)).filter fun k : Nat => fz L k == fz L' k).map (fun k : Nat => (k : Int)) ↔ ∃ k : Nat, k < flN xss ∧ z = (k : Int) ∧ fz L k = fz L' k := fun z => by
    simp only [List.mem_map, List.mem_filter, List.mem_range, beq_iff_eq]
    exact ⟨fun ⟨k, ⟨h1, h2⟩, h3⟩ => ⟨k, h1, h3.symm, h2⟩, fun ⟨k, h1, h3, h2⟩ => ⟨k, ⟨h1, h2⟩, h3.symm⟩⟩
  have hcl : Closed xss (((List.range (flN xss)).filter fun k : Nat => fz L k == fz L' k).map fun k : Nat => (k : Int)) := by
    intro g hg x hx
    obtain ⟨k, hk, rfl, he⟩ := (hS x).1 hx
    obtain ⟨i, hi, hgi⟩ := List.mem_iff_getElem.1 hg
    have h1 : xss[i]? = some g := by rw [List.getElem?_eq_getElem hi, hgi]
    have hr := (sys_parts hm.sys).2.2.2 g hg
    have h2 := fz_in (n := flN xss) (by have := hr.1; omega) hr.2 (x := (k : Int)) (by omega) (by omega)
    obtain ⟨j, hj⟩ := Int.eq_ofNat_of_zero_le h2.1
    refine (hS _).2 ⟨j, by omega, hj, ?_⟩
    rw [← hj, hL.mv i g g h1 h1 k hk, hL'.mv i g g h1 h1 k hk, he]
  have h0 := orb_sub (n := flN xss) hcl ((hS _).2 ⟨p, hp, rfl, he⟩) ((0 : Nat) : Int) (mem_all (hm.all hp) (orb_passed hm.sys hp) (by omega))
  obtain ⟨k, _, hk, he0⟩ := (hS _).1 h0
  have : k = 0 := by omega
  subst this
  exact hom_uniq hm.sys rfl (by omega) (hm.all (by omega)) hL hL' he0
theorem autTo_nodup : ∀ k, (autTo xss n k).Nodup
  | 0 => by simp [autTo]
  | k + 1 => by
    have ih := autTo_nodup k
    rw [autTo]
    split
    · rename_i L hL
      refine List.nodup_append.2 ⟨ih, by simp, fun a ha b hb hab => ?_⟩
      simp at hb
      subst hb
      subst hab
      obtain ⟨q, hq, h3⟩ := autTo_mem ha
      have h1 := (isoL_hom h3).2
      have h2 := (isoL_hom hL).2
      omega
    · exact ih
theorem autL_nodup : (autL xss).Nodup := autTo_nodup _
theorem aut_img (hm : IsMan xss) (h : L ∈ autL xss) (hp : p < flN xss) : ∃ q : Nat, q < flN xss ∧ fz L p = (q : Int) := by
  have := ((aut_iff hm).1 h).im p hp
  obtain ⟨q, hq⟩ := Int.eq_ofNat_of_zero_le this.1
  exact ⟨q, by omega, hq⟩
/-- Done one after the other, two automorphisms are one. -/
theorem aut_then (hm : IsMan xss) (h : L ∈ autL xss) (h' : M ∈ autL xss) : ((List.range (flN xss)).map fun k : Nat => fz M (fz L k)) ∈ autL xss :=
  (aut_iff hm).2 (hom_then hm.sys rfl ((aut_iff hm).1 h) ((aut_iff hm).1 h'))
/-- What the law of automorphisms asks. -/
structure AutF (xss : List (List Int)) : Prop where
  pos : 0 < (autL xss).length
  cnt : (autL xss).length * ocn xss = flN xss
  rg : irrB xss = decide (ocn xss = 1)
  ch : chB xss = true → ocn xss = 2
  grp : ∀ L ∈ autL xss, ∀ M ∈ autL xss, ((List.range (flN xss)).map fun k : Nat => fz M (fz L k)) ∈ autL xss
  lab : ∀ L ∈ autL xss, ∀ f : Nat, f < flN xss → ∃ q : Nat, q < flN xss ∧ fz L f = (q : Int) ∧ fz (oL xss) q = fz (oL xss) f
  mv : ∀ L ∈ autL xss, ∀ g ∈ xss, ∀ f : Nat, f < flN xss → fz L (fz g f) = fz g (fz L f)
  at0 : ∀ L ∈ autL xss, atR xss (fz L 0) = L ∧ atC xss (fz L 0) = 0
end
end Go.Proofs.Ytmgoaabeopnopaa
/- FlagOrbits and IsRegular: impl's and the spec's. -/
namespace Go.Proofs.Ytmgoaabeopnopaa
open Go.RowKit

theorem retS_own {w w' : World} {L : List Int} {C : Int} {A : Option Addr} {n c : Nat} (hl : L.length = n) (own : w'.ownsRow w.heap.size 2 1 (.slice A n c) n (ints L)) (hb : Below w.heap.size w w') : RetS w L C (.returned (.tuple #[.slice A n c, .int .i64 C])) w' := by
  subst hl
  exact ⟨A, c, rfl, own, hb⟩
end Go.Proofs.Ytmgoaabeopnopaa
/- slices.Equal at []int64. -/
namespace Go.Proofs.Ytmgoaabeopnopaa
open Go.RowKit

end Go.Proofs.Ytmgoaabeopnopaa
/- impl.symmetryType. -/
namespace Go.Proofs.Ytmgoaabeopnopaa
open Go.RowKit

abbrev syPs (h0 : Nat) (m : Value) (g n : Nat) (OL : List Int) (gI N : Nat) (vals : List Value) (L : List (List Int)) : List Pc :=
  [.blk h0 #[m] 27, .own 2 (some ⟨g, 0, none⟩) n n (ints OL), .rows 2 36 (some ⟨gI, 0, none⟩) N N vals L]

end Go.Proofs.Ytmgoaabeopnopaa
/- SymmetryType and IsChiral: impl's and the spec's. -/
namespace Go.Proofs.Ytmgoaabeopnopaa
open Go.RowKit

end Go.Proofs.Ytmgoaabeopnopaa
