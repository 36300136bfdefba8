import Derived.Test.YtmgoaabeopnopaaL20
import Derived.Deep.WholeRow
import Derived.Maps.OwnSet
import Derived.DeepKeys4
import Derived.Test.YtmgoaabeopnopaaL16
import Derived.Test.YtmgoaabeopnopaaL9
import Derived.Laws.CopyOwn
import Derived.Test.YtmgoaabeopnopaaL17
/- Forms as arrays: closed facts on their type. -/
namespace Go.Proofs.Ytmgoaabeopnopaa
open Go.RowKit

theorem faInfo : (Try.prog.info? 143).map (fun i => (i.zero, i.size)) = some (some (.agg (Array.replicate 2000 (.int .i16 0))), 2000) := by kernel_rfl
theorem faRow : 143 < Try.prog.types.size := of_decide_eq_true (by kernel_rfl)
theorem faKeyT : Try.prog.keyTypeAt 4 143 = true := by kernel_rfl
theorem faUnd : Try.prog.underlying 143 = some (.array 5 141) := by kernel_rfl
theorem faUnd2 : Try.prog.underlying 141 = some (.array 400 140) := by kernel_rfl
theorem faUnd3 : Try.prog.underlying 140 = some (.int .i16) := by kernel_rfl
theorem faCells : Try.prog.cellsOf 143 = 2000 := by kernel_rfl
theorem faCells2 : Try.prog.cellsOf 141 = 400 := by kernel_rfl
theorem faCells3 : Try.prog.cellsOf 140 = 1 := by kernel_rfl
theorem faMap : Try.prog.underlying 139 = some (.map 143 2) := by kernel_rfl
theorem faLaid : laidOutB Try.prog = true := by kernel_rfl
theorem faLaw : WideMaps.KeyLaw Try.prog 143 := deep_law_laid faLaid (m := 4) (by omega) faRow faKeyT (by rw [faUnd])
theorem faKeyed : Go.Maps.Keyed Try.prog 143 := .of_law faLaw
end Go.Proofs.Ytmgoaabeopnopaa
/- Forms as arrays: plain facts, and that each is a key of a map. -/
namespace Go.Proofs.Ytmgoaabeopnopaa
open Go.RowKit

/-- The numbers of the array when the rows below i, and k numbers of the row i, are in it. -/
def frA (L : List (List Int)) (i k : Nat) : List Int := (List.range 2000).map fun p => if p / 400 < i ∨ (p / 400 = i ∧ p % 400 < k) then (L.getD (p / 400) []).getD (p % 400) 0 else 0
def arrC (xs : List Int) : Array Value := (xs.map (.int .i16)).toArray
theorem frA_len (L : List (List Int)) (i k : Nat) : (frA L i k).length = 2000 := by unfold frA; rw [List.length_map, List.length_range]
theorem frA_at {L : List (List Int)} {i k p : Nat} (hp : p < 2000) : (frA L i k)[p]? = some (if p / 400 < i ∨ (p / 400 = i ∧ p % 400 < k) then (L.getD (p / 400) []).getD (p % 400) 0 else 0) := by
  unfold frA
  rw [List.getElem?_map, List.getElem?_range hp]
  rfl
theorem frA_zero (L : List (List Int)) : frA L 0 0 = List.replicate 2000 0 := by
  apply List.ext_getElem?
  intro p
  by_cases hp : p < 2000
  · rw [frA_at hp, if_neg (by omega), List.getElem?_replicate_of_lt hp]
  · rw [List.getElem?_eq_none (by rw [frA_len]; omega), List.getElem?_eq_none (by rw [List.length_replicate]; omega)]
theorem frA_step {L : List (List Int)} {row : List Int} {i k : Nat} {v : Int} (hr : L[i]? = some row) (hv : row[k]? = some v) (hk : k < 400) : (frA L i k).set (i * 400 + k) v = frA L i (k + 1) := by
  apply List.ext_getElem?
  intro p
  by_cases hp : p < 2000
  · by_cases e : i * 400 + k = p
    · subst e
      rw [List.getElem?_set_self (by rw [frA_len]; exact hp), frA_at hp]
      have e1 : (i * 400 + k) / 400 = i := by omega
      have e2 : (i * 400 + k) % 400 = k := by omega
      rw [e1, e2, if_pos (by omega)]
      rw [List.getD_eq_getElem?_getD, List.getD_eq_getElem?_getD, hr]
      simp [hv]
    · rw [List.getElem?_set_ne e, frA_at hp, frA_at hp]
      congr 1
      by_cases hc : p / 400 < i ∨ (p / 400 = i ∧ p % 400 < k)
      · rw [if_pos hc, if_pos (by omega)]
      · rw [if_neg hc, if_neg (by omega)]
  · rw [List.getElem?_eq_none (by simp [frA_len]; omega), List.getElem?_eq_none (by rw [frA_len]; omega)]
theorem frA_next {L : List (List Int)} {row : List Int} {i n : Nat} (hr : L[i]? = some row) (hn : row.length = n) : frA L i n = frA L (i + 1) 0 := by
  apply List.ext_getElem?
  intro p
  by_cases hp : p < 2000
  · rw [frA_at hp, frA_at hp]
    congr 1
    by_cases hc : p / 400 < i ∨ (p / 400 = i ∧ p % 400 < n)
    · rw [if_pos hc, if_pos (by omega)]
    · rw [if_neg hc]
      by_cases hc2 : p / 400 < i + 1 ∨ (p / 400 = i + 1 ∧ p % 400 < 0)
      · rw [if_pos hc2, show p / 400 = i by omega]
        have : row[p % 400]? = none := List.getElem?_eq_none (by omega)
        rw [List.getD_eq_getElem?_getD, List.getD_eq_getElem?_getD, hr]
        simp [this]
      · rw [if_neg hc2]
  · rw [List.getElem?_eq_none (by rw [frA_len]; omega), List.getElem?_eq_none (by rw [frA_len]; omega)]
theorem frA_inj {L M : List (List Int)} {N n : Nat} (hL : L.length = N) (hM : M.length = N) (hN : N ≤ 5) (hl : ∀ xs ∈ L, xs.length = n) (hm : ∀ xs ∈ M, xs.length = n) (hn4 : n ≤ 400) (h : frA L N 0 = frA M N 0) : L = M := by
  apply List.ext_getElem (by omega)
  intro i h1 h2
  refine ext_fz (n := n) (hl _ (List.getElem_mem h1)) (hm _ (List.getElem_mem h2)) fun k hk => ?_
  have h3 : (frA L N 0)[i * 400 + k]? = (frA M N 0)[i * 400 + k]? := congrArg (fun z => z[i * 400 + k]?) h
  rw [frA_at (by omega), frA_at (by omega)] at h3
  have e1 : (i * 400 + k) / 400 = i := by omega
  have e2 : (i * 400 + k) % 400 = k := by omega
  rw [e1, e2, if_pos (by omega), if_pos (by omega)] at h3
  have h3 := Option.some.inj h3
  have g1 : L.getD i [] = L[i] := by rw [List.getD_eq_getElem?_getD, List.getElem?_eq_getElem h1]; rfl
  have g2 : M.getD i [] = M[i] := by rw [List.getD_eq_getElem?_getD, List.getElem?_eq_getElem h2]; rfl
  rw [g1, g2] at h3
  exact h3
theorem frA_in {L : List (List Int)} {i k n : Nat} (hn4 : n ≤ 400) (hl : ∀ xs ∈ L, ∀ x ∈ xs, 0 ≤ x ∧ x < (n : Int)) : ∀ x ∈ frA L i k, 0 ≤ x ∧ x < 400 := by
  intro x hx
  rw [frA, List.mem_map] at hx
  obtain ⟨p, _, he⟩ := hx
  rw [← he]
  clear he
  split
  · rw [List.getD_eq_getElem?_getD, List.getD_eq_getElem?_getD]
    cases h1 : L[p / 400]? with
    | none => simp
    | some row =>
      rw [Option.getD_some]
      cases h2 : row[p % 400]? with
      | none => simp
      | some v =>
        have := hl row (List.mem_of_getElem? h1) v (List.mem_of_getElem? h2)
        rw [Option.getD_some]
        omega
  · omega
theorem arrC_size (xs : List Int) : (arrC xs).size = xs.length := by simp [arrC]
theorem arrC_set (xs : List Int) (p : Nat) (v : Int) : (arrC xs).setIfInBounds p (.int .i16 v) = arrC (xs.set p v) := by simp [arrC]
theorem arrC_one (xs : List Int) : (arrC xs).all (·.oneCell') = true := by simp [arrC, Value.oneCell']
theorem arrC_inj {xs ys : List Int} (h : Value.agg (arrC xs) = Value.agg (arrC ys)) : xs = ys := by
  injection h with h
  have h2 := congrArg Array.toList h
  simp only [arrC] at h2
  exact (List.map_inj_right (fun a b hab => by injection hab)).1 h2
theorem mapM_some' {α β : Type} {f : α → Option β} : ∀ l : List α, (∀ x ∈ l, ∃ y, f x = some y) → ∃ ys, l.mapM f = some ys
  | [], _ => ⟨[], rfl⟩
  | a :: l, h => by
    obtain ⟨y, hy⟩ := h a (by simp)
    obtain ⟨ys, hys⟩ := mapM_some' l fun x hx => h x (by simp [hx])
    exact ⟨y :: ys, by simp [List.mapM_cons, hy, hys]⟩
theorem keyLits_array {P : Program} {d n : Nat} {t e : TypeId} {cs : List Value} (hu : P.underlying t = some (.array n e)) (hl : cs.length = P.cellsOf t) : P.keyLits (d + 1) t cs = ((List.range n).mapM fun i => P.keyLits d e ((cs.drop (i * P.cellsOf e)).take (P.cellsOf e))).map List.flatten := by
  conv => lhs; unfold Program.keyLits
  rw [hu]
  exact if_pos hl
theorem faKeyType : Try.prog.keyType 143 = true := by kernel_rfl
/-- Each array of small numbers is a key. -/
theorem fa_key {xs : List Int} (hl : xs.length = 2000) (hx : ∀ x ∈ xs, 0 ≤ x ∧ x < 400) : ∃ kl, keyOf Try.prog 143 (.agg (arrC xs)) = some kl := by
  obtain ⟨d, hd⟩ : ∃ d, Try.prog.types.size + 1 = d + 3 := ⟨Try.prog.types.size - 2, by have := faRow; omega⟩
  have hf : (Value.agg (arrC xs)).formed Try.prog 143 = true := by simp [Value.formed, faCells, arrC_size, hl]
  have hk : ∃ ls, Try.prog.keyLits (d + 3) 143 (xs.map (.int .i16)) = some ls := by
    have h3 : ∀ i, i < 5 → ∃ y, Try.prog.keyLits (d + 2) 141 (((xs.map (Value.int .i16)).drop (i * 400)).take 400) = some y := by
      intro i hi
      obtain ⟨ys, hys⟩ := mapM_some' (f := fun j => Try.prog.keyLits (d + 1) 140 (((((xs.map (Value.int .i16)).drop (i * 400)).take 400).drop (j * 1)).take 1)) (List.range 400) (fun j hj => by
        have hj : j < 400 := by simpa using hj
        have hlt : i * 400 + j < xs.length := by omega
        have e : ((((xs.map (Value.int .i16)).drop (i * 400)).take 400).drop (j * 1)).take 1 = [.int .i16 xs[i * 400 + j]] := by
          apply List.ext_getElem?
          intro p
          by_cases hp : p = 0
          · subst hp
            simp [List.getElem?_drop, hj, List.getElem?_eq_getElem hlt]
          · rw [List.getElem?_take, if_neg (by omega)]
            exact (List.getElem?_eq_none (by simp; omega)).symm
        have hb := hx _ (List.getElem_mem hlt)
        have hw : (Lit.int .i16 xs[i * 400 + j]).wf = true := WalkArith.wf_i16 (by omega)
        exact ⟨[.int .i16 xs[i * 400 + j]], by rw [e]; simp [Program.keyLits, hw]⟩)
      refine ⟨ys.flatten, ?_⟩
      have hlen : (((xs.map (Value.int .i16)).drop (i * 400)).take 400).length = 400 := by simp; omega
      rw [keyLits_array faUnd2 (by rw [faCells2]; exact hlen), faCells3, hys]; rfl
    obtain ⟨ys, hys⟩ := mapM_some' (f := fun i => Try.prog.keyLits (d + 2) 141 (((xs.map (Value.int .i16)).drop (i * 400)).take 400)) (List.range 5) (fun i hi => h3 i (by simpa using hi))
    refine ⟨ys.flatten, ?_⟩
    rw [keyLits_array faUnd (by rw [faCells, List.length_map]; exact hl), faCells2, hys]; rfl
  obtain ⟨ls, hls⟩ := hk
  refine ⟨.string (keyBytes ls), ?_⟩
  unfold keyOf
  simp only [faUnd, faKeyType, hf, Bool.and_self, if_true]
  rw [show (Value.agg (arrC xs)).cells.toList = xs.map (.int .i16) by simp [arrC, Value.cells], hd, hls]
  rfl
end Go.Proofs.Ytmgoaabeopnopaa
/- impl.formArrayFrom. -/
namespace Go.Proofs.Ytmgoaabeopnopaa
open Go.RowKit

theorem run_loadAt_row {P : Program} (w : World) (g : Nat) (t : TypeId) (c : Array Value) (n : Nat) (e : TypeId) (hg : w.heap[g]? = some (.cells c t (0, 0))) (hu : P.underlying t = some (.array n e)) (hi : (P.info? t).map (·.size) = some c.size) :
    (Instr.loadAt t (.pointer (some ⟨g, 0, none⟩))).run P w = .ok (.agg c) w := by
  simp only [Instr.loadAt, Instr.sureAddr, Sem.run_bind, Sem.run_pure, Result.andThen]
  exact run_loadVar_row w g t t c (0, 0) _ hg hu rfl hi
theorem run_storeAt_row {P : Program} (w : World) (g : Nat) (t : TypeId) (c c' : Array Value) (hg : w.heap[g]? = some (.cells c t (0, 0))) (hi : (P.info? t).map (·.size) = some c'.size) (ho : c.size = c'.size) (h1 : c'.all (·.oneCell') = true) :
    (Instr.storeAt t (.pointer (some ⟨g, 0, none⟩)) (.agg c')).run P w = .ok () (w.setRow g c') := by
  simp only [Instr.storeAt, Instr.sureAddr, Sem.run_bind, Sem.run_pure, Result.andThen]
  exact run_storeVar_row w g t t c c' hg hi ho h1
theorem wpList_load_row {P : Program} (w : World) {ops : Array Oper} {rest : List Oper} {o : Oper} {a : Act} {Q : Exit → Act → World → Prop} (hg : o.guard = none) (x : Operand) (t : TypeId) (hop : o.op = Op.load t x) (p : Value) (c : Array Value) (hx : a.eval x = p)
    (hrun : (Instr.loadAt t p).run P w = .ok (.agg c) w) (hK : wpList P ops Q rest (a.put o.dst (.agg c)) w) : wpList P ops Q (o :: rest) a w := by
  refine wpList_plain hg fun K' hK' => ?_
  unfold Oper.wp
  simp [execOp, hop, hx, hrun, Result.andThen]
  exact hK' _ _ hK
theorem wpList_store_row {P : Program} (w : World) {ops : Array Oper} {rest : List Oper} {o : Oper} {a : Act} {Q : Exit → Act → World → Prop} (hg : o.guard = none) (x y : Operand) (t : TypeId) (hop : o.op = Op.store t x y) (p : Value) (c : Array Value) (w' : World) (hx : a.eval x = p) (hy : a.eval y = .agg c)
    (hrun : (Instr.storeAt t p (.agg c)).run P w = .ok () w') (hK : wpList P ops Q rest (a.put o.dst undef) w') : wpList P ops Q (o :: rest) a w := by
  refine wpList_plain hg fun K' hK' => ?_
  unfold Oper.wp
  simp [execOp, hop, hx, hy, hrun, Result.andThen]
  exact hK' _ _ hK
theorem results_cell1 {P : Program} {fn : Func} {tmps : Array Value} {a : Nat} {t : TypeId} {g : Nat} {c : Array Value} {w : World} (hr : fn.results = #[.cell a t]) (ha : tmps.getD a undef = .pointer (some ⟨g, 0, none⟩)) (hl : (loadVar t ⟨g, 0, none⟩).run P w = .ok (.agg c) w) :
    (results fn tmps).run P w = .ok (.agg c) w := by
  unfold results
  rw [hr]
  have h2 : (tmps[a]?.getD undef) = .pointer (some ⟨g, 0, none⟩) := by rw [← ha]; simp
  simp [asAddr, h2, hl]
abbrev faPs (h0 : Nat) (m : Value) (Z C : Array Value) (g1 N c1 : Nat) (vals : List Value) (L : List (List Int)) : List Pc :=
  [.blk h0 #[m] 27, .blk (h0 + 1) Z 143, .blk (h0 + 1 + 1) C 143, .rows 2 36 (some ⟨g1, 0, none⟩) N c1 vals L]

set_option maxHeartbeats 6400000 in
set_option maxRecDepth 100000 in
theorem iform2_any {b o c N n p : Nat} {xss : List (List Int)} (w : World) (hx : xss.length = N) (ha : RdSS w (some ⟨b, o, none⟩) xss) (hN : N ≤ 5) (hsys : okSys n xss = true) (hp : p < n) (hpos : 0 < N) (hall : (orbL xss n p).length = n) (hfv : ∀ xs ∈ frmL xss n p, ∀ x ∈ xs, 0 ≤ x ∧ x < (n : Int)) :
    Calls Try.prog 162 #[.agg #[.slice (some ⟨b, o, none⟩) N c], .int .i64 p] w fun e w' => e = .returned (.agg (arrC (frA (frmL xss n p) N 0))) ∧ Below w.heap.size w w' := by
  have HX := Lib.hid hx
  have HA := Lib.hid ha
  have HS := Lib.hid hsys
  have HALL := Lib.hid hall
  have HFV := Lib.hid hfv
  have hn4 := (sys_parts hsys).2.1
  have hz := zero_of_info faInfo
  have HZ := Lib.hid hz
  obtain ⟨Z, hZ⟩ : ∃ Z : Array Value, Array.replicate 2000 (.int .i16 0) = Z := ⟨_, rfl⟩
  have hzv := hz.1
  rw [hZ] at hzv
  have st0 := (((St.start w).addBlk #[.slice (some ⟨b, o, none⟩) N c] 27).addBlk Z 143).addBlk Z 143
  simp at st0
  have S0 := Lib.hid st0
  have hbc := (st0.blk (i := 0) rfl).cell (i := 0) rfl
  have HZZ := Lib.hid hZ
  clear st0 hx ha hsys hall hz hZ hfv
  have hfd : ∀ (A : Option Addr) (n c : Nat) (w : World), (Instr.field 27 (.agg #[.slice A n c]) 0).run Try.prog w = .ok (.slice A n c) w := fun _ _ _ _ => by kernel_rfl
  go_enter Try.func162, Try.ntmps162
  go_wp2_with fail
  refine (iform_any _ HX.out (HA.out.keep S0.out.below) (by omega) HS.out hp hpos HALL.out).mono ?_
  rintro e w1 ⟨A1, c1, rfl, own, bel⟩
  obtain ⟨L, hL⟩ : ∃ L, frmL xss n p = L := ⟨_, rfl⟩
  have hLN : L.length = N := by rw [← hL, frmL_len, HX.out]
  have hLR : ∀ xs ∈ L, xs.length = n := by rw [← hL]; exact frmL_row HALL.out
  rw [hL, hLN] at own
  rw [hL, hLN]
  obtain ⟨vals, st1⟩ := S0.out.addRows bel own (Nat.le_refl _) (Nat.le_refl _)
  obtain ⟨g1, rfl⟩ := own_shape (st1.rows (i := 3) rfl) hpos
  have HLE := Lib.hid hL
  have HLV := Lib.hid (show ∀ xs ∈ L, ∀ x ∈ xs, 0 ≤ x ∧ x < (n : Int) from by rw [← hL]; exact HFV.out)
  have HLN := Lib.hid hLN
  have HLR := Lib.hid hLR
  have S1 := Lib.hid (show St w w1 (faPs w.heap.size (.slice (some ⟨b, o, none⟩) N c) Z (arrC (frA L 0 0)) g1 N c1 vals L) from by
    have h := st1
    have e : Z = arrC (frA L 0 0) := by rw [← HZZ.out, frA_zero, arrC, List.map_replicate, List.toArray_replicate]
    rw [faPs, ← e]
    simpa using h)
  clear hL hLN hLR own bel st1 hbc
  go_wp2
  go_loopw [15] (fun i wr => ∃ i' : Nat, i' ≤ N ∧ i = .int .i64 i' ∧ St w wr (faPs w.heap.size (.slice (some ⟨b, o, none⟩) N c) Z (arrC (frA L i' 0)) g1 N c1 vals L)) (fun i _ => N - (intOf i).toNat)
  case atStart => exact ⟨0, Nat.zero_le _, rfl, S1.out⟩
  case round =>
    obtain ⟨i, hi, rfl, st⟩ := hrel
    have S := Lib.hid st
    clear st S1
    by_cases hlt : i < N
    · obtain ⟨row, hrow⟩ : ∃ row, L[i]? = some row := ⟨_, List.getElem?_eq_getElem (by rw [HLN.out]; exact hlt)⟩
      obtain ⟨A3, c3, hv, hown⟩ := S.out.rowAt (i := 3) (k := i) rfl hrow
      have hrl := HLR.out row (List.mem_of_getElem? hrow)
      rw [hrl] at hv hown
      have hcx := own_cell (S.out.rows (i := 3) rfl) hv
      obtain ⟨g3, rfl⟩ := own_shape hown (by omega)
      have HROW := Lib.hid hrow
      have HRL := Lib.hid hrl
      have HV := Lib.hid hv
      clear hrow hrl hv hown
      go_wp2
      clear hcx
      go_loopw [22] (fun v wi => ∃ k : Nat, k ≤ n ∧ v = .int .i64 k ∧ St w wi (faPs w.heap.size (.slice (some ⟨b, o, none⟩) N c) Z (arrC (frA L i k)) g1 N c1 vals L)) (fun v _ => n - (intOf v).toNat)
      case atStart => exact ⟨0, Nat.zero_le _, rfl, S.out⟩
      case round =>
        obtain ⟨k, hk, rfl, st2⟩ := hrel
        have S2 := Lib.hid st2
        clear st2 S
        by_cases hkl : k < n
        · obtain ⟨A4, c4, hv4, hown⟩ := S2.out.rowAt (i := 3) (k := i) rfl HROW.out
          rw [HRL.out, HV.out] at hv4
          simp only [Option.some.injEq, Value.slice.injEq, true_and] at hv4
          obtain ⟨rfl, rfl⟩ := hv4
          obtain ⟨b5, o5, x, he, hgx, hcv⟩ := (own_rd hown).int (k := k) (by rw [HRL.out]; exact hkl)
          obtain ⟨rfl, rfl⟩ : g3 = b5 ∧ 0 = o5 := by simpa using he
          rw [Nat.zero_add] at hcv
          have hxv := HLV.out row (List.mem_of_getElem? HROW.out) x (List.mem_of_getElem? hgx)
          have hlt5 : i < 5 := by omega
          have hlt4 : k < 400 := by omega
          have hcell := (S2.out.blk (i := 2) rfl).cell (i := i * 400 + k) (by rw [arrC]; simp [frA_at (show i * 400 + k < 2000 by omega)]; rfl)
          have hfr := (S2.out.blk (i := 2) rfl).free (i * 400 + k)
          have hI5 : (i : Int) < 5 := by omega
          have hI4 : (k : Int) < 400 := by omega
          have hw16 : IntKind.i16.wrap x = x := IntWalk.i16_in x (by omega)
          have hu1 := faUnd
          have hu2 := faUnd2
          have S3 := Lib.hid (show St w (_ : World) (faPs w.heap.size (.slice (some ⟨b, o, none⟩) N c) Z (arrC (frA L i (k + 1))) g1 N c1 vals L) from by
            have h := S2.out.blkSet (i := 2) rfl (i * 400 + k) (.int .i16 x)
            rw [arrC_set, frA_step HROW.out hgx hlt4] at h
            exact h)
          clear hgx
          go_wp2
          go_roundw
          case rel => exact ⟨k + 1, by omega, by go_num, S3.out⟩
          case measure => simp [intOf]; omega
        · obtain rfl : k = n := by omega
          have S3 := Lib.hid (show St w _ (faPs w.heap.size (.slice (some ⟨b, o, none⟩) N c) Z (arrC (frA L (i + 1) 0)) g1 N c1 vals L) from by rw [← frA_next HROW.out HRL.out]; exact S2.out)
          go_wp2
          go_roundw
          case rel => exact ⟨i + 1, by omega, by go_num, S3.out⟩
          case measure => simp [intOf]; omega
    · obtain rfl : i = N := by omega
      obtain ⟨C, hC⟩ : ∃ C, arrC (frA L i 0) = C := ⟨_, rfl⟩
      have hCs : C.size = 2000 := by rw [← hC, arrC_size, frA_len]
      have hZs : Z.size = 2000 := by rw [← HZZ.out, Array.size_replicate]
      have hC1 : C.all (·.oneCell') = true := by rw [← hC]; exact arrC_one _
      have hb2 := S.out.blk (i := 2) rfl
      have hb1 := S.out.blk (i := 1) rfl
      rw [hC] at hb2
      have hld := run_loadAt_row _ _ _ C 5 141 hb2 faUnd (by rw [HZ.out.2, hCs])
      have hst := run_storeAt_row _ _ _ Z C hb1 (by rw [HZ.out.2, hCs]) (by rw [hZs, hCs]) hC1
      have hrs := run_loadVar_row _ _ _ 143 C (0, 0) _ (setRow_heap _ _ Z C _ (0, 0) hb1) faUnd rfl (by rw [HZ.out.2, hCs])
      have HB := Lib.hid (below_setRow S.out.below (show w.heap.size ≤ w.heap.size + 1 by omega) C)
      clear hC1 hb1 hb2
      go_wp2_with (first
        | (refine wpList_load_row _ rfl _ 143 rfl _ C rfl hld ?_)
        | (refine wpList_store_row _ rfl _ _ 143 rfl _ C _ rfl rfl hst ?_))
      have hCC : C = arrC (frA (frmL xss n p) i 0) := by rw [HLE.out, hC]
      refine bodyPost_ret (v := .agg C) ?_ rfl ⟨by rw [hCC], HB.out⟩
      exact results_cell1 Try.results162 rfl hrs
end Go.Proofs.Ytmgoaabeopnopaa
/- impl.flagOrbits. -/
namespace Go.Proofs.Ytmgoaabeopnopaa
open Go.RowKit Go.Maps

/-- The array of the form from a flag, as a key. -/
structure FKey (xss : List (List Int)) (p : Nat) (kl : Lit) : Prop where
  eq : keyOf Try.prog 143 (.agg (arrC (frA (frmL xss (flN xss) p) xss.length 0))) = some kl
theorem flat_idx {α : Type} {ls : List (List α)} {i j : Nat} {o o' : List α} {x : α} (hnd : ls.flatten.Nodup) (hi : ls[i]? = some o) (hj : ls[j]? = some o') (hx : x ∈ o) (hx' : x ∈ o') : i = j := by
  apply Classical.byContradiction
  intro hne
  have h2 := (List.pairwise_flatten.1 hnd).2
  rw [List.pairwise_iff_getElem] at h2
  have a := List.getElem?_eq_some_iff.1 hi
  have b := List.getElem?_eq_some_iff.1 hj
  rcases Nat.lt_or_ge i j with h | h
  · exact h2 i j a.1 b.1 h x (by rw [a.2]; exact hx) x (by rw [b.2]; exact hx') rfl
  · exact h2 j i b.1 a.1 (by omega) x (by rw [b.2]; exact hx') x (by rw [a.2]; exact hx) rfl
section
variable {xss : List (List Int)} {f p q : Nat} {kl : Lit} {D : List Int} {Dm : DataW Unit}
theorem frm_val (hm : IsMan xss) (hp : p < flN xss) : ∀ xs ∈ frmL xss (flN xss) p, ∀ x ∈ xs, 0 ≤ x ∧ x < ((flN xss : Nat) : Int) := by
  intro xs hxs x hx
  have hsm := frm_same hm hp
  have hm2 := hsm.man
  have hl := frmL_row (hm.all hp) xs hxs
  obtain ⟨k, hk⟩ := List.mem_iff_getElem?.1 hx
  obtain ⟨m, rfl, hmn⟩ := okP_at (hm2.row xs hxs).2.1 hl hk
  omega
theorem fkey_ex (hm : IsMan xss) (hp : p < flN xss) : ∃ kl, FKey xss p kl := by
  obtain ⟨kl, h⟩ := fa_key (frA_len (frmL xss (flN xss) p) xss.length 0) (frA_in hm.f4 (frm_val hm hp))
  exact ⟨kl, ⟨h⟩⟩
theorem fkey_same (hm : IsMan xss) (hp : p < flN xss) (hq : q < flN xss) (h : FKey xss p kl) : FKey xss q kl ↔ SameF xss p q := by
  rw [sameF_frm hm hp hq]
  constructor
  · intro h2
    have h3 := arrC_inj (faKeyed.inj h.eq h2.eq)
    exact frA_inj (n := flN xss) (frmL_len _ _ _) (frmL_len _ _ _) hm.r5 (frmL_row (hm.all hp)) (frmL_row (hm.all hq)) hm.f4 h3
  · intro h2
    exact ⟨by rw [← h2]; exact h.eq⟩
theorem fkey_uniq {kl' : Lit} (h : FKey xss p kl) (h' : FKey xss p kl') : kl' = kl := Option.some.inj (h'.eq.symm.trans h.eq)
theorem fkey_key (h : FKey xss p kl) : WideAt.IsKeyLit kl := faKeyed.key h.eq
/-- What the map holds of the flags below f. -/
structure MapA (xss : List (List Int)) (f : Nat) (Dm : DataW Unit) : Prop where
  ins : ∀ p : Nat, p < f → ∀ kl, FKey xss p kl → ∀ (i : Nat) (o : List Int), (orbsTo (autL xss) (flN xss) f)[i]? = some o → (p : Int) ∈ o → Dm.atKey kl (.lit (.int .i64 0)) = .lit (.int .i64 (i : Int)) ∧ has Dm kl = true
  out : ∀ kl, has Dm kl = true → ∃ p : Nat, p < f ∧ FKey xss p kl
  siz : Maps.size Dm = (orbsTo (autL xss) (flN xss) f).length
theorem mapA_start : MapA xss 0 (.map [] : DataW Unit) := ⟨fun p hp => by omega, fun kl h => by simp [has] at h, by simp [Maps.size, orbsTo]⟩
/-- A flag whose form is known. -/
theorem mapA_old (hm : IsMan xss) (hf : f < flN xss) (hM : MapA xss f Dm) (hL : LabA xss f D) (hk : FKey xss f kl) (hh : has Dm kl = true) : ∃ i : Nat, i < flN xss ∧ Dm.atKey kl (.lit (.int .i64 0)) = .lit (.int .i64 (i : Int)) ∧ MapA xss (f + 1) Dm ∧ LabA xss (f + 1) (D.set f (i : Int)) := by
  obtain ⟨p, hp, hpk⟩ := hM.out kl hh
  have hs := (fkey_same hm (by omega) hf hpk).1 hk
  have hin : (f : Int) ∈ (orbsTo (autL xss) (flN xss) f).flatten := (aorbs_mem hm hf f (by omega)).2 ⟨p, hp, hs⟩
  obtain ⟨i, o, ho, hpo⟩ := labA_has hm (by omega) hp
  have hfo : (f : Int) ∈ o := (orb_idx hm (by omega) (by omega) hf ho hpo).2 hs
  have hat := (hM.ins p hp kl hpk i o ho hpo).1
  have hil := (List.getElem?_eq_some_iff.1 ho).1
  have hcn := (Big.orbsTo_facts (aut_big hm) f (by omega)).2.2.1
  have huniq : ∀ (j : Nat) (o' : List Int), (orbsTo (autL xss) (flN xss) f)[j]? = some o' → (f : Int) ∈ o' → j = i := fun j o' ho' hfo' => by
    have hnd := (Big.orbsTo_facts (aut_big hm) f (by omega)).1.2
    exact flat_idx hnd ho' ho hfo' hfo
  refine ⟨i, by omega, hat, ⟨fun r hr kl' hk' j o' ho' hro' => ?_, fun kl' h => ?_, by rw [orbsTo_in hin]; exact hM.siz⟩, ⟨by simp [hL.len], fun r hr j o' ho' hro' => ?_⟩⟩
  · rw [orbsTo_in hin] at ho'
    rcases Nat.lt_succ_iff_lt_or_eq.1 hr with h1 | rfl
    · exact hM.ins r h1 kl' hk' j o' ho' hro'
    · have e := huniq j o' ho' hro'
      subst e
      have : kl' = kl := fkey_uniq hk hk'
      subst this
      exact ⟨hat, hh⟩
  · obtain ⟨r, hr, h2⟩ := hM.out kl' h
    exact ⟨r, by omega, h2⟩
  · rw [orbsTo_in hin] at ho'
    rcases Nat.lt_succ_iff_lt_or_eq.1 hr with h1 | rfl
    · rw [List.getElem?_set_ne (by omega)]
      exact hL.lab r h1 j o' ho' hro'
    · rw [huniq j o' ho' hro', List.getElem?_set_self (by rw [hL.len]; exact hf)]
/-- A flag whose form is new. -/
theorem mapA_new (hm : IsMan xss) (hf : f < flN xss) (hM : MapA xss f Dm) (hT : Tidy Dm) (hL : LabA xss f D) (hk : FKey xss f kl) (hh : has Dm kl = false) : Maps.size Dm ≤ f ∧ MapA xss (f + 1) (Dm.put kl (.lit (.int .i64 (Maps.size Dm : Int)))) ∧ LabA xss (f + 1) (D.set f (Maps.size Dm : Int)) := by
  have hcn := (Big.orbsTo_facts (aut_big hm) f (by omega)).2.2.1
  have hnin : ¬ (f : Int) ∈ (orbsTo (autL xss) (flN xss) f).flatten := fun h => by
    obtain ⟨p, hp, hs⟩ := (aorbs_mem hm hf f (by omega)).1 h
    obtain ⟨i, o, ho, hpo⟩ := labA_has hm (f := f) (by omega) hp
    have hpk := (fkey_same hm hf (by omega) hk).2 (sameF_symm hm (by omega) hf hs)
    have := (hM.ins p hp kl hpk i o ho hpo).2
    rw [hh] at this
    cases this
  have hne : ∀ p : Nat, p < f → ∀ kl', FKey xss p kl' → kl' ≠ kl := fun p hp kl' hpk e => by
    subst e
    have hs := (fkey_same hm (by omega) hf hpk).1 hk
    exact hnin ((aorbs_mem hm hf f (by omega)).2 ⟨p, hp, hs⟩)
  have hkl := fkey_key hk
  have hsz := hM.siz
  have hlast : ∀ (j : Nat) (o' : List Int), (orbsTo (autL xss) (flN xss) (f + 1))[j]? = some o' → (f : Int) ∈ o' → j = Maps.size Dm := fun j o' ho' hfo' => by
    rw [orbsTo_out hnin] at ho'
    rcases Nat.lt_or_ge j (orbsTo (autL xss) (flN xss) f).length with h1 | h1
    · rw [List.getElem?_append_left h1] at ho'
      exact absurd (List.mem_flatten.2 ⟨o', List.mem_of_getElem? ho', hfo'⟩) hnin
    · have := (List.getElem?_eq_some_iff.1 ho').1
      simp at this
      omega
  have hold : ∀ (r j : Nat) (o' : List Int), r < f → (orbsTo (autL xss) (flN xss) (f + 1))[j]? = some o' → (r : Int) ∈ o' → (orbsTo (autL xss) (flN xss) f)[j]? = some o' := fun r j o' hr ho' hro' => by
    have hnd := (Big.orbsTo_facts (aut_big hm) (f + 1) (by omega)).1.2
    obtain ⟨i, o, ho, hro⟩ := labA_has hm (f := f) (by omega) hr
    have ho2 : (orbsTo (autL xss) (flN xss) (f + 1))[i]? = some o := by
      rw [orbsTo_out hnin, List.getElem?_append_left (List.getElem?_eq_some_iff.1 ho).1]; exact ho
    have e := flat_idx hnd ho' ho2 hro' hro
    subst e
    rw [ho2] at ho'
    injection ho' with ho'
    rw [← ho']
    exact ho
  refine ⟨by omega, ⟨fun r hr kl' hk' j o' ho' hro' => ?_, fun kl' h => ?_, ?_⟩, ⟨by simp [hL.len], fun r hr j o' ho' hro' => ?_⟩⟩
  · rcases Nat.lt_succ_iff_lt_or_eq.1 hr with h1 | rfl
    · rw [atKey_put_other (hne r h1 kl' hk'), has_put_other (hne r h1 kl' hk')]
      exact hM.ins r h1 kl' hk' j o' (hold r j o' h1 ho' hro') hro'
    · have e := hlast j o' ho' hro'
      subst e
      have : kl' = kl := fkey_uniq hk hk'
      subst this
      exact ⟨atKey_put_same hT.isMap hkl _ _, has_put_same hT.isMap hkl _⟩
  · by_cases e : kl' = kl
    · subst e
      exact ⟨f, by omega, hk⟩
    · rw [has_put_other e] at h
      obtain ⟨r, hr, h2⟩ := hM.out kl' h
      exact ⟨r, by omega, h2⟩
  · rw [size_put hT, hh, orbsTo_out hnin]
    simp [hsz]
  · rcases Nat.lt_succ_iff_lt_or_eq.1 hr with h1 | rfl
    · rw [List.getElem?_set_ne (by omega)]
      exact hL.lab r h1 j o' (hold r j o' h1 ho' hro') hro'
    · rw [hlast j o' ho' hro', List.getElem?_set_self (by rw [hL.len]; exact hf)]
end
/-- What the memory holds while flags are numbered. -/
structure FoS (w wr : World) (mv : Value) (g n B k : Nat) (D : List Int) (Dm : DataW Unit) : Prop where
  bel : Below w.heap.size w wr
  bx : Blk wr w.heap.size #[mv] 27
  own : wr.ownsRow w.heap.size 2 1 (.slice (some ⟨g, 0, none⟩) n n) n (ints D)
  hx : w.heap.size < g
  gB : g < B
  map : wr.ownsMap Try.prog 143 (plainElem Try.prog 2) B k Dm
section
variable {w wr w2 : World} {mv : Value} {g n B k : Nat} {D : List Int} {Dm : DataW Unit}
theorem FoS.go (h : FoS w wr mv g n B k D Dm) (hb : Below wr.heap.size wr w2) : FoS w w2 mv g n B k D Dm := by
  refine ⟨h.bel.trans (hb.mono h.bel.size), h.bx.go hb, own_below h.own hb (Nat.le_refl _), h.hx, h.gB, ?_⟩
  exact h.map.kept (row := none) ⟨hb.os, hb.tape, hb.output, hb.size, fun j hj _ => hb.block j hj⟩ (by simp)
theorem FoS.set (h : FoS w wr mv g n B k D Dm) (q : Nat) (x : Int) : FoS w (wr.setCell ⟨g, q, none⟩ (.int .i64 x)) mv g n B k (D.set q x) Dm := by
  have hst := h.own.stored q (.int .i64 x)
  have h1 := hst.1
  rw [ints_set] at h1
  exact ⟨h.bel.setCell (p := ⟨g, q, none⟩) (h.own.lt g rfl).1 _, h.bx.set_ne (by have := h.hx; omega) _ _, h1, h.hx, h.gB, h.map.setCell (a := ⟨g, q, none⟩) (by have := h.gB; simp; omega) _⟩
theorem FoS.upd {k' : Nat} {Dm' : DataW Unit} (h : FoS w wr mv g n B k D Dm) (gr : wr.grownBy w2 (some B)) (hm : w2.ownsMap Try.prog 143 (plainElem Try.prog 2) B k' Dm') : FoS w w2 mv g n B k' D Dm' := by
  have hB := h.gB
  have hx := h.hx
  refine ⟨h.bel.grown gr h.bel.size (fun q hq => by injection hq with hq; omega), ?_, h.own.kept gr (.inr (by simp [Value.ownBlock]; omega)), h.hx, h.gB, hm⟩
  have := gr.block w.heap.size h.bx.lt (by simp; omega)
  exact this.trans h.bx
theorem FoS.len (h : FoS w wr mv g n B k D Dm) : D.length = n := by
  have := h.own.1
  simpa using this
end
end Go.Proofs.Ytmgoaabeopnopaa
/- impl.flagOrbits, the walk. -/
namespace Go.Proofs.Ytmgoaabeopnopaa
open Go.RowKit Go.Maps

theorem zeroI (w : World) : (zeroValue 2).run Try.prog w = .ok (.int .i64 0) w := by kernel_rfl

set_option maxHeartbeats 6400000 in
set_option maxRecDepth 100000 in
theorem iforb_any {A : Option Addr} {c N : Nat} {xss : List (List Int)} (w : World) (hm : okMan xss = true) (hx : xss.length = N) (ha : RdSS w A xss) :
    Calls Try.prog 122 #[.agg #[.slice A N c]] w fun e w' => ∃ g n, e = .returned (.tuple #[.slice (some ⟨g, 0, none⟩) n n, .int .i64 ((orbsTo (autL xss) (flN xss) (flN xss)).length : Int)]) ∧ n = flN xss ∧ w'.ownsRow w.heap.size 2 1 (.slice (some ⟨g, 0, none⟩) n n) n (ints (labL (autL xss) (flN xss))) ∧ Below w.heap.size w w' := by
  have hman := okMan_iff.1 hm
  have hsys := hman.sys
  have hn4 := hman.f4
  have hn2 := hman.f2
  have hpos := hman.pos hx
  have hN : N ≤ 5 := by have := hman.r5; omega
  have hall : ∀ q, q < flN xss → (orbL xss (flN xss) q).length = flN xss := fun q hq => hman.all hq
  obtain ⟨b, o, A0, c0, rfl, hc0⟩ := man_row0 hman ha
  have HM := Lib.hid hman
  have HX := Lib.hid hx
  have HA := Lib.hid ha
  have HC0 := Lib.hid hc0
  have HS := Lib.hid hsys
  have HALL := Lib.hid hall
  have hmk := run_make_row' (P := Try.prog) 36 2 (.int .i64 0) 8 Try.underlying36 Try.info2 rfl .i64 .i64 (flN xss) (by omega) (by omega)
  have hmm := @run_makeMap Try.prog
  have hz := zero_of_info faInfo
  have HZ := Lib.hid hz
  obtain ⟨Z, hZ⟩ : ∃ Z : Array Value, Array.replicate 2000 (.int .i16 0) = Z := ⟨_, rfl⟩
  have hzv := hz.1
  rw [hZ] at hzv
  have HZZ := Lib.hid hZ
  have st0 := (St.start w).addBlk #[.slice (some ⟨b, o, none⟩) N c] 27
  have S0 := Lib.hid st0
  have hbc := (st0.blk (i := 0) rfl).cell (i := 0) rfl
  have START := Lib.hid (labA_start (xss := xss) (D := List.replicate (flN xss) 0) (by simp))
  obtain ⟨n, hn⟩ : ∃ n, flN xss = n := ⟨_, rfl⟩
  rw [hn] at hn4 hn2
  have HN := Lib.hid hn
  rw [hn] at hmk
  clear st0 hx ha hc0 hsys hall hman hm hz hZ hn
  go_enter Try.func122, Try.ntmps122
  go_wp2_with fail
  refine (flags_bel _ hpos (cell_be HC0.out S0.out.below)).mono ?_
  rintro e w1 ⟨rfl, bel⟩
  rw [HN.out]
  have st1 := (S0.out.go bel).addMake (.int .i64 0) n 2 (by unfold maxLen; omega)
  have hb1 := (st1.blk (i := 0) rfl).cell (i := 0) rfl
  have hlo : w.heap.size + 1 ≤ w1.heap.size := by have := bel.size; simpa using this
  have F0 := Lib.hid (show FoS w ((w1.alloc (.cells (madeCells #[.int .i64 0] n) 2)).alloc (.map #[] 0)) (.slice (some ⟨b, o, none⟩) N c) w1.heap.size n (w1.heap.size + 1) 0 (List.replicate n 0) (.map []) from by
    have st2 := st1.al (.map #[] 0)
    have hmap := World.ownsMap_made (H := Unit) (w1.alloc (.cells (madeCells #[.int .i64 0] n) 2)) Try.prog 143 (plainElem Try.prog 2)
    refine ⟨st2.below, st2.blk (i := 0) rfl, ?_, by omega, by omega, by simpa using hmap⟩
    have h := st2.own (i := 1) rfl
    simpa [ints] using h)
  have hb0 := F0.out.bx.cell (i := 0) rfl
  clear bel hbc st1
  go_wp2_with fail
  refine (flags_bel _ hpos (cell_be HC0.out F0.out.bel)).mono ?_
  rintro e w2 ⟨rfl, bel⟩
  rw [HN.out]
  have F1 := Lib.hid (F0.out.go bel)
  clear bel hb1 hb0 F0 hmk hmm S0
  go_wp2
  clear hlo
  obtain ⟨g, hg⟩ : ∃ g, w1.heap.size = g := ⟨_, rfl⟩
  rw [hg] at F1 ⊢
  clear hg
  go_loopw [16] (fun i wr => ∃ (f k : Nat) (D : List Int) (Dm : DataW Unit), f ≤ n ∧ k ≤ f ∧ i = .int .i64 f ∧ FoS w wr (.slice (some ⟨b, o, none⟩) N c) g n (g + 1) k D Dm ∧ MapA xss f Dm ∧ LabA xss f D) (fun i _ => n - (intOf i).toNat)
  case atStart => exact ⟨0, 0, _, _, Nat.zero_le _, Nat.le_refl _, rfl, F1.out, mapA_start, by rw [← HN.out]; exact START.out⟩
  case round =>
    obtain ⟨f, k, D, Dm, hf, hkf, rfl, fs, ma, la⟩ := hrel
    have F := Lib.hid fs
    have MA := Lib.hid ma
    have LA := Lib.hid la
    have hbc := fs.bx.cell (i := 0) rfl
    clear fs ma la F1
    by_cases hlt : f < n
    · have hfl : f < flN xss := by rw [HN.out]; exact hlt
      obtain ⟨kl, hkl⟩ := fkey_ex HM.out hfl
      obtain ⟨C, hC⟩ : ∃ C, arrC (frA (frmL xss (flN xss) f) N 0) = C := ⟨_, rfl⟩
      have hkey : keyOf Try.prog 143 (.agg C) = some kl := by have := hkl.eq; rw [HX.out, hC] at this; exact this
      have hCs : C.size = 2000 := by rw [← hC, arrC_size, frA_len]
      have hZs : Z.size = 2000 := by rw [← HZZ.out, Array.size_replicate]
      have hC1 : C.all (·.oneCell') = true := by rw [← hC]; exact arrC_one _
      have HCS := Lib.hid hCs
      have HZS := Lib.hid hZs
      have HC1 := Lib.hid hC1
      have HKEY := Lib.hid hkey
      have HKL := Lib.hid hkl
      have HCC := Lib.hid hC
      have HSZ := Lib.hid (show (Try.prog.info? 143).map (·.size) = some C.size from by rw [HZ.out.2, hCs])
      clear hC hkey hCs hZs hC1 hkl
      go_wp2_with fail
      refine (iform2_any (p := f) _ HX.out (HA.out.keep F.out.bel) hN HS.out hfl hpos (HALL.out f hfl) (frm_val HM.out hfl)).mono ?_
      rintro e w3 ⟨rfl, bel⟩
      rw [HCC.out]
      have hst := run_storeAt_new (P := Try.prog) w3 143 Z C HSZ.out (by rw [HZS.out, HCS.out]) HC1.out
      have hld := run_loadAt_new (P := Try.prog) w3 143 C 5 141 faUnd HSZ.out
      have F3 := Lib.hid ((F.out.go bel).go ((Below.refl w3.heap.size w3).alloc (Nat.le_refl _) (.cells C 143)))
      clear bel hbc
      obtain ⟨u, hu⟩ := ints_at F3.out.len hlt
      have hcu := own_cell F3.out.own hu
      have hfr := F3.out.own.frozenAt f
      have HU := Lib.hid hu
      clear hu
      cases hh : has Dm kl
      · obtain ⟨hsz, ma2, la2⟩ := mapA_new HM.out hfl MA.out (F3.out.map.tidy faKeyed) LA.out HKL.out hh
        obtain ⟨s, hs⟩ : ∃ s, Maps.size Dm = s := ⟨_, rfl⟩
        rw [hs] at hsz ma2 la2
        have MA2 := Lib.hid ma2
        have LA2 := Lib.hid la2
        have HSI := Lib.hid hs
        have hkm : k < maxLen := by unfold maxLen; omega
        clear ma2 la2 hs
        go_wp2_with (first
          | (refine wpList_load_row _ rfl _ 143 rfl _ C rfl hld ?_)
          | (refine wpList_store_row _ rfl _ _ 143 rfl _ C _ rfl rfl hst ?_)
          | (at_lookup; refine wpList_lookup_own_ok_int _ rfl _ _ 139 rfl 143 2 .i64 faKeyed faMap Try.underlying2 (zeroI _) (g + 1) k Dm rfl F3.out.map _ kl rfl HKEY.out ?_; intro cc hat hwc)
          | (at_len; refine wpList_len_own _ rfl _ 139 rfl 143 2 faMap _ (g + 1) k Dm rfl F3.out.map ?_; rw [HSI.out])
          | (at_mapUpdate; refine wpList_mapUpdate_own _ rfl _ _ _ 139 rfl 143 2 faKeyed faMap _ (g + 1) k Dm rfl F3.out.map hkm _ _ kl rfl rfl HKEY.out _ [] (plainElem_int Try.underlying2 (WalkArith.wf_i64 (by omega))) ?_; intro w5 hown5 hgr5; have F5 := Lib.hid (F3.out.upd hgr5 hown5); have hcu5 := own_cell F5.out.own HU.out; have hfr5 := F5.out.own.frozenAt f))
        have F6 := Lib.hid (F5.out.set f (s : Int))
        clear hown5 hgr5 hcu5 hfr5
        go_roundw
        case rel => exact ⟨f + 1, k + 1, _, _, by omega, by omega, by go_num, F6.out, MA2.out, LA2.out⟩
        case measure => simp [intOf]; omega
      · obtain ⟨i, hin, hat0, ma2, la2⟩ := mapA_old HM.out hfl MA.out LA.out HKL.out hh
        have HAT := Lib.hid hat0
        have MA2 := Lib.hid ma2
        have LA2 := Lib.hid la2
        clear hat0 ma2 la2
        go_wp2_with (first
          | (refine wpList_load_row _ rfl _ 143 rfl _ C rfl hld ?_)
          | (refine wpList_store_row _ rfl _ _ 143 rfl _ C _ rfl rfl hst ?_)
          | (at_lookup; refine wpList_lookup_own_ok_int _ rfl _ _ 139 rfl 143 2 .i64 faKeyed faMap Try.underlying2 (zeroI _) (g + 1) k Dm rfl F3.out.map _ kl rfl HKEY.out ?_; intro cc hat hwc))
        have hci : (i : Int) = cc := by
          have h := HAT.out.symm.trans hat
          injection h with h
          injection h
        subst hci
        have F5 := Lib.hid (F3.out.set f (i : Int))
        clear hat hwc
        go_roundw
        case rel => exact ⟨f + 1, k, _, Dm, by omega, by omega, by go_num, F5.out, MA2.out, LA2.out⟩
        case measure => simp [intOf]; omega
    · obtain rfl : f = n := by omega
      have hla := LA.out
      have hma := MA.out
      rw [← HN.out] at hla hma
      have hD := labA_done HM.out hla
      have hsz := hma.siz
      have HD := Lib.hid hD
      have HSZ := Lib.hid hsz
      clear hla hma hD hsz
      go_wp2_with (at_len; refine wpList_len_own _ rfl _ 139 rfl 143 2 faMap _ (g + 1) k Dm rfl F.out.map ?_)
      go_ret2
      exact ⟨g, f, by rw [← HSZ.out]; rfl, HN.out.symm, by have h := F.out.own; rw [HD.out] at h; exact h, F.out.bel⟩
end Go.Proofs.Ytmgoaabeopnopaa
