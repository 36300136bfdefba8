import Derived.Test.YtmikoihpmhfafaaL8
import Derived.StillTailTactics
/- What holds while the moves of a renumbered maniplex are made: facts outside the walks. -/
namespace Go.Proofs.Ytmikoihpmhfafaa
open Go.RowKit

/-- What a call gives back that makes a maniplex. -/
def RetM (w : World) (L : List (List Int)) (e : Ending) (w' : World) : Prop :=
  ∃ A c, e = .returned (.agg #[.slice A L.length c]) ∧ OwnSS w' w.heap.size w'.heap.size 31 A L.length c L ∧ Below w.heap.size w w'
def RetMC (w : World) (L : List (List Int)) (C : Int) (e : Ending) (w' : World) : Prop :=
  ∃ A c, e = .returned (.tuple #[.agg #[.slice A L.length c], .int .i64 C]) ∧ OwnSS w' w.heap.size w'.heap.size 31 A L.length c L ∧ Below w.heap.size w w'

/-- The struct that came in, the one that is answered and the one that is made lie in the first three blocks behind w. -/
structure NSt (w wr : World) (v : Value) (hi : Nat) (A : Option Addr) (k c : Nat) (L : List (List Int)) : Prop where
  bel : Below (w.heap.size + 2) ((w.alloc (.cells #[v] 26)).alloc (.cells #[.slice none 0 0] 26)) wr
  out : wr.ownsRow (w.heap.size + 2) 26 1 (.slice (some ⟨w.heap.size + 1 + 1, 0, none⟩) 1 1) 1 [.slice A k c]
  rows : OwnSS wr (w.heap.size + 3) hi 31 A k c L
  hi3 : w.heap.size + 3 ≤ hi
  his : hi ≤ wr.heap.size
section
variable {w wr w2 : World} {v : Value} {hi k c : Nat} {A : Option Addr} {L : List (List Int)}
theorem NSt.go (h : NSt w wr v hi A k c L) (hb : Below wr.heap.size wr w2) : NSt w w2 v hi A k c L :=
  ⟨h.bel.trans (hb.mono (by have := h.hi3; have := h.his; omega)), own_below h.out hb (Nat.le_refl _), ownSS_below h.rows hb (Nat.le_refl _), h.hi3, Nat.le_trans h.his hb.size⟩
theorem NSt.below (h : NSt w wr v hi A k c L) : Below w.heap.size w wr := (below2 w _ _).trans (h.bel.mono (by omega))
theorem NSt.size (h : NSt w wr v hi A k c L) : w.heap.size + 3 ≤ wr.heap.size := Nat.le_trans h.hi3 h.his
theorem NSt.cell0 (h : NSt w wr v hi A k c L) : wr.cell? ⟨w.heap.size, 0, none⟩ = some v :=
  (h.bel.cell (p := ⟨w.heap.size, 0, none⟩) (by simp)).trans (cell_al (Bx.start w v 26).cell _)
theorem NSt.cell1 (h : NSt w wr v hi A k c L) : wr.cell? ⟨w.heap.size + 1, 0, none⟩ = some (.slice none 0 0) :=
  (h.bel.cell (p := ⟨w.heap.size + 1, 0, none⟩) (by simp)).trans (by simp)
theorem NSt.free1 (h : NSt w wr v hi A k c L) : wr.frozen? ⟨w.heap.size + 1, 0, none⟩ = false :=
  (h.bel.frozen (p := ⟨w.heap.size + 1, 0, none⟩) (by simp)).trans (by simp)
theorem NSt.cell2 (h : NSt w wr v hi A k c L) : wr.cell? ⟨w.heap.size + 1 + 1, 0, none⟩ = some (.slice A k c) := own_cell h.out rfl
theorem NSt.free2 (h : NSt w wr v hi A k c L) : wr.frozen? ⟨w.heap.size + 1 + 1, 0, none⟩ = false := h.out.frozenAt 0
theorem nst_start (w : World) (v : Value) : NSt w (((w.alloc (.cells #[v] 26)).alloc (.cells #[.slice none 0 0] 26)).alloc (.cells #[.slice none 0 0] 26)) v (w.heap.size + 3) none 0 0 [] := by
  have h2 := World.ownsRow_lit (base := w.heap.size + 2) (e := 26) (size := 1) ((w.alloc (.cells #[v] 26)).alloc (.cells #[.slice none 0 0] 26)) #[.slice none 0 0] 1 (by simp) (by decide) (by simp)
  exact ⟨(Below.refl _ _).alloc (by simp) _, by simpa using h2, ownSS_nil _ _ _ _, Nat.le_refl _, by simp⟩
/-- One row is filled. -/
structure NIn (w wr : World) (v : Value) (g : Nat) (A : Option Addr) (k c n : Nat) (L : List (List Int)) (D : List Int) : Prop where
  st : NSt w wr v g A k c L
  row : wr.ownsRow g 2 1 (.slice (some ⟨g, 0, none⟩) n n) n (ints D)
theorem nin_start {n : Nat} (h : NSt w wr v hi A k c L) (hn : n ≤ 400) : NIn w (wr.alloc (.cells (madeCells #[.int .i64 0] n) 2)) v wr.heap.size A k c n L (List.replicate n 0) := by
  have h1 := h.go (below1 wr (.cells (madeCells #[.int .i64 0] n) 2))
  exact ⟨⟨h1.bel, h1.out, ownSS_wide h1.rows (Nat.le_refl _) h.his, h.size, by simp⟩, by simpa using make_own wr (.int .i64 0) n 2 (by unfold maxLen; omega)⟩
theorem NIn.go {n g : Nat} {D : List Int} (h : NIn w wr v g A k c n L D) (hb : Below wr.heap.size wr w2) : NIn w w2 v g A k c n L D := ⟨h.st.go hb, own_below h.row hb (Nat.le_refl _)⟩
theorem NIn.set {n g : Nat} {D : List Int} (h : NIn w wr v g A k c n L D) (q : Nat) (x : Int) : NIn w (wr.setCell ⟨g, q, none⟩ (.int .i64 x)) v g A k c n L (D.set q x) := by
  have hst := h.row.stored q (.int .i64 x)
  refine ⟨⟨h.st.bel.setCell (p := ⟨g, q, none⟩) (show w.heap.size + 2 ≤ g by have := h.st.hi3; omega) _, h.st.out.kept hst.2 (own_ne h.st.out h.row (by decide)), h.st.rows.turns2 q g _ (.inr (Nat.le_refl _)), h.st.hi3, by have := h.st.his; simpa using this⟩, by have h1 := hst.1; rwa [ints_set] at h1⟩
/-- The row is put behind the others, and the struct that is made has the new slice. -/
theorem nin_push {n g c2 : Nat} {A2 : Option Addr} {D : List Int} {o : Obj} {w4 : World} (h : NIn w wr v g A k c n L D) (hD : D.length = n)
    (hnew : ∀ vals, wr.ownsRow (w.heap.size + 3) 31 1 (.slice A k c) k vals → w4.ownsRow (w.heap.size + 3) 31 1 (.slice A2 (k + 1) c2) (k + 1) (vals ++ [.slice (some ⟨g, 0, none⟩) n n])) (hg : (wr.alloc o).grownBy w4 (Value.slice A k c).ownBlock) :
    (w4.cell? ⟨w.heap.size + 1 + 1, 0, none⟩ = some (.slice A k c) ∧ w4.frozen? ⟨w.heap.size + 1 + 1, 0, none⟩ = false) ∧
    NSt w (w4.setCell ⟨w.heap.size + 1 + 1, 0, none⟩ (.slice A2 (k + 1) c2)) v w4.heap.size A2 (k + 1) c2 (L ++ [D]) := by
  subst hD
  have hr := ownSS_push (xs := D) h.st.rows (by decide) h.row (Nat.le_refl _) h.st.hi3 hnew hg
  obtain ⟨vals, hv, hvin, _⟩ := h.st.rows
  have ho := (h.st.out.alloc o).kept hg (own_ne (h.st.out.alloc o) (hv.alloc o) (by decide))
  have hst := ho.stored 0 (.slice A2 (k + 1) c2)
  have hgz := hg.size
  have hz := h.st.size
  have hb : Below (w.heap.size + 2) ((w.alloc (.cells #[v] 26)).alloc (.cells #[.slice none 0 0] 26)) w4 :=
    (h.st.bel.alloc (by omega) o).grown hg (by simp; omega) fun q hq => by have := (hvin q hq).1; omega
  refine ⟨⟨own_cell ho rfl, ho.frozenAt 0⟩, hb.setCell (p := ⟨w.heap.size + 1 + 1, 0, none⟩) (Nat.le_refl _) _, by simpa using hst.1, hr.turns2 0 (w.heap.size + 2) _ (.inl (by omega)), ?_, by simp⟩
  simp at hgz
  omega
/-- The struct is answered. -/
theorem nst_done (h : NSt w wr v hi A k c L) (hk : L.length = k) : RetM w L (.returned (.agg #[.slice A k c])) (wr.setCell ⟨w.heap.size + 1, 0, none⟩ (.slice A k c)) := by
  subst hk
  exact ⟨A, c, rfl, ownSS_wide (h.rows.turns2 0 (w.heap.size + 1) _ (.inl (by omega))) (by omega) (by have := h.his; simpa using this), ((below2 w _ _).trans (h.bel.mono (by omega))).setCell (p := ⟨w.heap.size + 1, 0, none⟩) (by simp) _⟩
end
end Go.Proofs.Ytmikoihpmhfafaa
namespace Go.Proofs.Ytmikoihpmhfafaa
open Go.RowKit

theorem take_renM {xss : List (List Int)} {p m : List Int} {k : Nat} (h : xss[k]? = some m) : (renM xss p).take (k + 1) = (renM xss p).take k ++ [conjL m p] := by
  rw [List.take_add_one, renM_at h]; rfl

set_option maxHeartbeats 3200000 in
set_option maxRecDepth 8000 in
theorem sren_any {b o c N n c2 : Nat} {A2 : Option Addr} {xss : List (List Int)} {p : List Int} (w : World) (hx : xss.length = N) (ha : RdSS w (some ⟨b, o, none⟩) xss) (hsys : okSys n xss = true) (hp : p.length = n) (ha2 : Rd w A2 (ints p)) (okp : okP p = true) :
    Calls Try.prog 127 #[.agg #[.slice (some ⟨b, o, none⟩) N c], .slice A2 n c2] w (RetM w (renM xss p)) := by
  have hN := (sys_parts hsys).2.2.1
  rw [hx] at hN
  have hn4 : n ≤ 400 := by have := (sys_parts hsys).2.1; omega
  have HX := Lib.hid hx
  have HA := Lib.hid ha
  have HS := Lib.hid hsys
  have HP := Lib.hid hp
  have HA2 := Lib.hid ha2
  have OP := Lib.hid okp
  have ST0 := Lib.hid (nst_start w (.slice (some ⟨b, o, none⟩) N c))
  have hmk := run_make_row' (P := Try.prog) 31 2 (.int .i64 0) 8 Try.underlying31 Try.info2 rfl .i64 .i64 n (by omega) (by omega)
  clear hx ha hsys hp ha2 okp
  go_enter Try.func127, Try.ntmps127
  go_wp2
  go_loopw [6] (fun i wr => ∃ (k hi c' : Nat) (A' : Option Addr), k ≤ N ∧ i = .int .i64 k ∧ NSt w wr (.slice (some ⟨b, o, none⟩) N c) hi A' k c' ((renM xss p).take k)) (fun i _ => N - (intOf i).toNat)
  case atStart => exact ⟨0, _, _, _, Nat.zero_le _, rfl, by simpa using ST0.out⟩
  case round =>
    obtain ⟨k, hi, c', A', hk, rfl, st⟩ := hrel
    have S := Lib.hid st
    have hbc := st.cell0
    clear st ST0
    by_cases hlt : k < N
    · obtain ⟨b3, o3, A4, c4, m, he, hg, hc, hrd, hms⟩ := (HA.out.keep S.out.below).row (k := k) (by rw [HX.out]; exact hlt)
      obtain ⟨rfl, rfl⟩ : b = b3 ∧ o = o3 := by simpa using he
      have hlg := sys_len HS.out hg
      obtain ⟨l, hl⟩ : ∃ l, m.length = l := ⟨_, rfl⟩
      rw [hl] at hc hms hlg
      obtain rfl : n = l := by omega
      have HG := Lib.hid hg
      have HL := Lib.hid hl
      have OM := Lib.hid ((sys_parts HS.out).2.2.2 m (List.mem_of_getElem? hg)).2
      have IN0 := Lib.hid (nin_start (n := n) S.out hn4)
      have hsz := S.out.size
      clear he hg hl hrd hc hlg
      obtain ⟨wo, rfl⟩ : ∃ wo : World, wo = wr := ⟨_, rfl⟩
      obtain ⟨g, hgg⟩ : ∃ g : Nat, wo.heap.size = g := ⟨_, rfl⟩
      rw [hgg] at IN0 hsz
      go_wp2
      clear hgg
      go_loopw [8] (fun q wi => ∃ f : Nat, f ≤ n ∧ q = .int .i64 f ∧ NIn w wi (.slice (some ⟨b, o, none⟩) N c) g A' k c' n ((renM xss p).take k) (renTo m p n f)) (fun q _ => n - (intOf q).toNat)
      case atStart => exact ⟨0, Nat.zero_le _, rfl, IN0.out⟩
      case round =>
        obtain ⟨f, hf, rfl, ni⟩ := hrel
        have I := Lib.hid ni
        have hbc := ni.st.cell0
        clear ni IN0
        by_cases hfn : f < n
        · obtain ⟨b3, o3, A4, c4, m2, he, hg, hc, hrd, hms⟩ := (HA.out.keep I.out.st.below).row (k := k) (by rw [HX.out]; exact hlt)
          obtain ⟨rfl, rfl⟩ : b = b3 ∧ o = o3 := by simpa using he
          obtain rfl : m2 = m := by rw [HG.out] at hg; injection hg with hg; exact hg.symm
          rw [HL.out] at hc
          obtain ⟨b4, o4, x, rfl, hgx, hcx⟩ := (HA2.out.keep I.out.st.below).int (k := f) (by rw [HP.out]; exact hfn)
          obtain ⟨x, rfl, hxn⟩ := okP_at OP.out HP.out hgx
          obtain ⟨b5, o5, y, rfl, hgy, hcy⟩ := hrd.int (k := f) (by rw [HL.out]; exact hfn)
          obtain ⟨y, rfl, hyn⟩ := okP_at OM.out HL.out hgy
          obtain ⟨b6, o6, z, he6, hgz, hcz⟩ := (HA2.out.keep I.out.st.below).int (k := y) (by rw [HP.out]; exact hyn)
          obtain ⟨rfl, rfl⟩ : b4 = b6 ∧ o4 = o6 := by simpa using he6
          obtain ⟨u, hu⟩ := ints_at (renTo_length m2 p n f) hxn
          have hcg := own_cell I.out.row hu
          have hfr := I.out.row.frozenAt x
          have HE := Lib.hid (renTo_succ (n := n) hgx hgy hgz)
          have I2 := Lib.hid ((I.out.go (below_drewN (Below.refl _ _) 1)).set x z)
          clear he hg hrd hgx hgy hgz he6 hu
          go_wp2
          go_still_tail 17, (by kernel_rfl)
          go_wp2
          go_roundw
          case rel => exact ⟨f + 1, by omega, by go_num, by rw [← HE.out]; exact I2.out⟩
          case measure => simp [intOf]; omega
        · obtain rfl : f = n := by omega
          have HE := Lib.hid (renTo_all (m := m) HL.out HP.out OM.out OP.out)
          have h := I.out
          rw [HE.out] at h
          have I2 := Lib.hid h
          clear h I
          have hc2 := I2.out.st.cell2
          obtain ⟨vals, hv, hvin, hvr⟩ := I2.out.st.rows
          have VR := Lib.hid hv
          have hz := I2.out.st.size
          have HDL := Lib.hid (conj_len (xs := m) HP.out)
          clear hv hvin hvr
          go_wp2_with (at_builtin; refine wpList_push2 _ rfl _ _ 24 31 rfl Try.underlying24 (.slice none 0 0) 24 Try.infoS rfl (w.heap.size + 3) _ _ _ rfl VR.out _ rfl rfl (by omega) (by omega) (by omega) ?_)
          intro A5 c5 w4 own4 gr4
          obtain ⟨⟨hc4, hf4⟩, st4⟩ := nin_push I2.out HDL.out (fun vals' h' => by rw [row_unique h' VR.out]; exact own4) gr4
          have S4 := Lib.hid st4
          have HT := Lib.hid (take_renM (p := p) HG.out)
          clear own4 gr4 st4 hc2
          go_wp2
          go_roundw
          case rel => exact ⟨k + 1, _, c5, A5, by omega, by go_num, by rw [HT.out]; exact S4.out⟩
          case measure => simp [intOf]; omega
    · obtain rfl : k = N := by omega
      have h := S.out
      rw [List.take_of_length_le (by rw [renM_length, HX.out]; omega)] at h
      have S2 := Lib.hid h
      have hc1 := h.cell1
      have hf1 := h.free1
      have hc2 := h.cell2
      have HLL := Lib.hid (show (renM xss p).length = k by rw [renM_length, HX.out])
      clear h
      go_wp2
      exact bodyPost_ret (v := .agg #[.slice A' k c']) (by simp [results, Try.results127, go_sem, hc1]) rfl (nst_done S2.out HLL.out)
end Go.Proofs.Ytmikoihpmhfafaa
namespace Go.Proofs.Ytmikoihpmhfafaa
open Go.RowKit

theorem ssto_bel {w wr : World} {n k : Nat} {xss : List (List Int)} (h : SSTo w wr n k xss) : Below w.heap.size w wr := by obtain ⟨_, _, _, _, _, _, h⟩ := h; exact h
set_option maxHeartbeats 3200000 in
set_option maxRecDepth 8000 in
theorem iren_any {b o c N n c2 : Nat} {A2 : Option Addr} {xss : List (List Int)} {p : List Int} (w : World) (hx : xss.length = N) (ha : RdSS w (some ⟨b, o, none⟩) xss) (hsys : okSys n xss = true) (hp : p.length = n) (ha2 : Rd w A2 (ints p)) (okp : okP p = true) :
    Calls Try.prog 134 #[.agg #[.slice (some ⟨b, o, none⟩) N c], .slice A2 n c2] w (RetM w (renM xss p)) := by
  have hN := (sys_parts hsys).2.2.1
  rw [hx] at hN
  have hn4 : n ≤ 400 := by have := (sys_parts hsys).2.1; omega
  have HX := Lib.hid hx
  have HA := Lib.hid ha
  have HS := Lib.hid hsys
  have HP := Lib.hid hp
  have HA2 := Lib.hid ha2
  have OP := Lib.hid okp
  have HIL := Lib.hid (show (invL p).length = n by rw [invL_len, hp])
  have HIR := Lib.hid (show InR (invL p) n by have := inR_inv p; rwa [hp] at this)
  have HPR := Lib.hid (show InR p n by have := inR_ok okp; rwa [hp] at this)
  have hmk := run_make_row' (P := Try.prog) 24 31 (.slice none 0 0) 24 Try.underlying24 Try.infoS rfl .i64 .i64 N (by omega) (by omega)
  clear hx ha hsys hp ha2 okp
  have hc0 := cell_al (Bx.start w (.slice (some ⟨b, o, none⟩) N c) 26).cell (.cells #[.slice none 0 0] 26)
  go_enter Try.func134, Try.ntmps134
  go_wp2_with fail
  refine (inverse_any _ HP.out (HA2.out.keep (below2 w _ _)) (by omega) OP.out).mono ?_
  rintro e w1 ⟨A3, c3, rfl, own, bel⟩
  rw [HIL.out] at own ⊢
  have OB := Lib.hid own
  have B1 := Lib.hid ((below2 w (.cells #[.slice (some ⟨b, o, none⟩) N c] 26) (.cells #[.slice none 0 0] 26)).trans (bel.mono (by simp; omega)))
  have hc0 := cell_be hc0 bel
  have hr1 : w1.cell? ⟨w.heap.size + 1, 0, none⟩ = some (.slice none 0 0) := (bel.cell (p := ⟨w.heap.size + 1, 0, none⟩) (by simp)).trans (by simp)
  have hf1 : w1.frozen? ⟨w.heap.size + 1, 0, none⟩ = false := (bel.frozen (p := ⟨w.heap.size + 1, 0, none⟩) (by simp)).trans (by simp)
  have hz1 : w.heap.size + 2 ≤ w1.heap.size := by have := bel.size; simp at this; omega
  clear own bel
  go_wp2_with fail
  refine (rank_any _).mono ?_
  rintro e w' ⟨rfl, rfl⟩
  obtain ⟨W, hW⟩ : ∃ W : World, W = w1.alloc (.cells #[.slice (some ⟨b, o, none⟩) N c] 26) := ⟨_, rfl⟩
  have HC0 := Lib.hid (hW ▸ cell_al hc0 _)
  have HR1 := Lib.hid (hW ▸ cell_al hr1 _)
  have HF1 := Lib.hid (show W.frozen? ⟨w.heap.size + 1, 0, none⟩ = false by rw [hW]; exact ((below1 w1 _).frozen (p := ⟨w.heap.size + 1, 0, none⟩) (show w.heap.size + 1 < w1.heap.size by omega)).trans hf1)
  have OBW := Lib.hid (show W.ownsRow (w.heap.size + 2) 2 1 (.slice A3 n c3) n (ints (invL p)) by rw [hW]; exact own_below (own_base OB.out (by simp)) (below1 _ _) (Nat.le_refl _))
  have BW := Lib.hid (show Below w.heap.size w W by rw [hW]; exact B1.out.trans ((below1 w1 _).mono B1.out.size))
  have HZW := Lib.hid (show w.heap.size + 2 ≤ W.heap.size by rw [hW]; simp; omega)
  rw [← hW]
  have ST0 := Lib.hid (ssto_start W N (renM xss p) (by unfold maxLen; omega))
  have hc := cell_be HC0.out (ssto_bel ST0.out)
  clear hW hc0 hr1 hf1 OB B1 hz1
  go_wp2
  clear hmk hc
  go_loopw [17] (fun i wr => ∃ k : Nat, k ≤ N ∧ i = .int .i64 k ∧ SSTo W wr N k (renM xss p)) (fun i _ => N - (intOf i).toNat)
  case atStart => exact ⟨0, Nat.zero_le _, rfl, ST0.out⟩
  case round =>
    obtain ⟨k, hk, rfl, st⟩ := hrel
    have S := Lib.hid st
    have BS := Lib.hid (ssto_bel st)
    have BR := Lib.hid (BW.out.trans ((ssto_bel st).mono BW.out.size))
    clear st ST0
    by_cases hlt : k < N
    · obtain ⟨b3, o3, A4, c4, m, he, hg, hc, hrd, hms⟩ := (HA.out.keep BR.out).row (k := k) (by rw [HX.out]; exact hlt)
      obtain ⟨rfl, rfl⟩ : b = b3 ∧ o = o3 := by simpa using he
      have hlg := sys_len HS.out hg
      obtain ⟨l, hl⟩ : ∃ l, m.length = l := ⟨_, rfl⟩
      rw [hl] at hc hms hlg
      obtain rfl : n = l := by omega
      have HG := Lib.hid (renM_at (p := p) hg)
      have HL := Lib.hid hl
      have HRD := Lib.hid hrd
      have HMR := Lib.hid (show InR m n by have := inR_ok ((sys_parts HS.out).2.2.2 m (List.mem_of_getElem? hg)).2; rwa [hl] at this)
      have OBR := Lib.hid (own_below OBW.out BS.out (Nat.le_refl _))
      clear he hg hl hrd hlg
      go_wp2_with fail
      refine (ithen_any _ HIL.out (own_rd OBR.out) (by omega) HL.out HRD.out HIR.out).mono ?_
      rintro e wa ⟨Aa, ca, rfl, owna, bela⟩
      rw [thenL_length, HIL.out] at owna ⊢
      have OA := Lib.hid owna
      have BA := Lib.hid bela
      have HTL := Lib.hid (show (thenL (invL p) m).length = n by rw [thenL_length, HIL.out])
      have HTR := Lib.hid (inR_then (m := n) (HL.out.symm ▸ HIR.out) HMR.out)
      clear owna bela hc
      go_wp2_with fail
      refine (ithen_any _ HTL.out (own_rd OA.out) (by omega) HP.out (HA2.out.keep (BR.out.trans (BA.out.mono BR.out.size))) HTR.out).mono ?_
      rintro e wb ⟨Ab, cb, rfl, ownb, belb⟩
      rw [thenL_length, HTL.out] at ownb ⊢
      have HCL := Lib.hid (conj_len (xs := m) HP.out)
      obtain ⟨⟨hcc, hff⟩, st2⟩ := ssto_step (A1 := Ab) (c1 := cb) S.out hlt HG.out (BA.out.trans (belb.mono BA.out.size)) (by rw [HCL.out]; exact own_base ownb BA.out.size)
      rw [HCL.out] at st2
      have S2 := Lib.hid st2
      clear ownb belb st2
      go_wp2
      go_roundw
      case rel => exact ⟨k + 1, by omega, by go_num, S2.out⟩
      case measure => simp [intOf]; omega
    · obtain rfl : k = N := by omega
      obtain ⟨own, bel⟩ := ssto_done S.out (Nat.le_refl _) (by rw [renM_length, HX.out])
      have OW := Lib.hid own
      have HLL := Lib.hid (show (renM xss p).length = k by rw [renM_length, HX.out])
      have hr1 := cell_be HR1.out bel
      have hf1 : wr.frozen? ⟨w.heap.size + 1, 0, none⟩ = false := (bel.frozen (p := ⟨w.heap.size + 1, 0, none⟩) (show w.heap.size + 1 < W.heap.size by have := HZW.out; omega)).trans HF1.out
      clear own bel
      go_wp2
      refine bodyPost_ret (v := .agg #[.slice (some ⟨W.heap.size, 0, none⟩) k k]) (by simp [results, Try.results134, go_sem, hr1]) rfl ⟨_, k, by rw [HLL.out], ?_, ?_⟩
      · rw [HLL.out]
        exact ownSS_wide (OW.out.turns2 0 (w.heap.size + 1) _ (.inl (by have := HZW.out; omega))) BW.out.size (by simp)
      · exact BR.out.setCell (p := ⟨w.heap.size + 1, 0, none⟩) (by simp) _
end Go.Proofs.Ytmikoihpmhfafaa
/- A struct that came in and one that is answered, in the first two blocks behind the world. -/
namespace Go.Proofs.Ytmikoihpmhfafaa
open Go.RowKit

structure Bx2 (w wr : World) (v : Value) : Prop where
  bel : Below (w.heap.size + 2) ((w.alloc (.cells #[v] 26)).alloc (.cells #[.slice none 0 0] 26)) wr
section
variable {w wr w2 : World} {v : Value}
theorem Bx2.start (w : World) (v : Value) : Bx2 w ((w.alloc (.cells #[v] 26)).alloc (.cells #[.slice none 0 0] 26)) v := ⟨Below.refl _ _⟩
theorem Bx2.below (h : Bx2 w wr v) : Below w.heap.size w wr := (below2 w _ _).trans (h.bel.mono (by omega))
theorem Bx2.size (h : Bx2 w wr v) : w.heap.size + 2 ≤ wr.heap.size := by have := h.bel.size; simp at this; omega
theorem Bx2.go (h : Bx2 w wr v) (hb : Below wr.heap.size wr w2) : Bx2 w w2 v := ⟨h.bel.trans (hb.mono h.size)⟩
theorem Bx2.cell (h : Bx2 w wr v) : wr.cell? ⟨w.heap.size, 0, none⟩ = some v :=
  (h.bel.cell (p := ⟨w.heap.size, 0, none⟩) (by simp)).trans (cell_al (Bx.start w v 26).cell _)
theorem Bx2.cell1 (h : Bx2 w wr v) : wr.cell? ⟨w.heap.size + 1, 0, none⟩ = some (.slice none 0 0) :=
  (h.bel.cell (p := ⟨w.heap.size + 1, 0, none⟩) (by simp)).trans (by simp)
theorem Bx2.free1 (h : Bx2 w wr v) : wr.frozen? ⟨w.heap.size + 1, 0, none⟩ = false :=
  (h.bel.frozen (p := ⟨w.heap.size + 1, 0, none⟩) (by simp)).trans (by simp)
theorem Bx2.set (h : Bx2 w wr v) (x : Value) : Below w.heap.size w (wr.setCell ⟨w.heap.size + 1, 0, none⟩ x) := h.below.setCell (p := ⟨w.heap.size + 1, 0, none⟩) (by simp) _
theorem retMC_no (h : Bx2 w wr v) (C : Int) (x : Value) : RetMC w [] C (.returned (.tuple #[.agg #[.slice none 0 0], .int .i64 C])) (wr.setCell ⟨w.heap.size + 1, 0, none⟩ x) :=
  ⟨none, 0, rfl, ownSS_nil _ _ _ _, h.set x⟩
theorem retMC_yes {L : List (List Int)} {A : Option Addr} {c base hi : Nat} (h : Bx2 w wr v) (own : OwnSS wr base hi 31 A L.length c L) (hb : w.heap.size + 2 ≤ base) (hh : hi ≤ wr.heap.size) (x : Value) (C : Int) :
    RetMC w L C (.returned (.tuple #[.agg #[.slice A L.length c], .int .i64 C])) (wr.setCell ⟨w.heap.size + 1, 0, none⟩ x) :=
  ⟨A, c, rfl, ownSS_wide (own.turns2 0 (w.heap.size + 1) _ (.inl (by omega))) (by omega) (by simpa using hh), h.set x⟩
theorem retM_yes {L : List (List Int)} {A : Option Addr} {c base hi : Nat} (h : Bx2 w wr v) (own : OwnSS wr base hi 31 A L.length c L) (hb : w.heap.size + 2 ≤ base) (hh : hi ≤ wr.heap.size) (x : Value) :
    RetM w L (.returned (.agg #[.slice A L.length c])) (wr.setCell ⟨w.heap.size + 1, 0, none⟩ x) :=
  ⟨A, c, rfl, ownSS_wide (own.turns2 0 (w.heap.size + 1) _ (.inl (by omega))) (by omega) (by simpa using hh), h.set x⟩
end
end Go.Proofs.Ytmikoihpmhfafaa
namespace Go.Proofs.Ytmikoihpmhfafaa
open Go.RowKit

theorem okP_orb {xss : List (List Int)} {n p : Nat} (hsys : okSys n xss = true) (hp : p < n) (hall : (orbL xss n p).length = n) : okP (orbL xss n p) = true := by
  have h := orb_passed hsys hp
  have h4 := (sys_parts hsys).2.1
  refine decide_eq_true ⟨by omega, fun x hx => ?_, h.2⟩
  rw [hall]
  exact h.1 x hx
/-- The form from a flag. -/
def frmL (xss : List (List Int)) (n p : Nat) : List (List Int) := renM xss (invL (orbL xss n p))
theorem inv_orb_len {xss : List (List Int)} {n p : Nat} (hall : (orbL xss n p).length = n) : (invL (orbL xss n p)).length = n := by rw [invL_len, hall]

set_option maxHeartbeats 3200000 in
set_option maxRecDepth 8000 in
theorem iform_any {b o c N n p : Nat} {xss : List (List Int)} (w : World) (hx : xss.length = N) (ha : RdSS w (some ⟨b, o, none⟩) xss) (hN : N ≤ 1048576) (hsys : okSys n xss = true) (hp : p < n) (hpos : 0 < N) (hall : (orbL xss n p).length = n) :
    Calls Try.prog 104 #[.agg #[.slice (some ⟨b, o, none⟩) N c], .int .i64 p] w (RetM w (frmL xss n p)) := by
  have OP := Lib.hid (okP_inv (okP_orb hsys hp hall))
  have OPO := Lib.hid (okP_orb hsys hp hall)
  have hn6 : n ≤ 1048576 := by have := (sys_parts hsys).2.1; omega
  have HX := Lib.hid hx
  have HA := Lib.hid ha
  have HS := Lib.hid hsys
  have HALL := Lib.hid hall
  have HIL := Lib.hid (inv_orb_len hall)
  have BX0 := Lib.hid (Bx2.start w (.slice (some ⟨b, o, none⟩) N c))
  have BXD := Lib.hid (show Bx2 w ((w.alloc (.cells #[.slice (some ⟨b, o, none⟩) N c] 26)).alloc (.cells #[.slice none 0 0] 26)).drew (.slice (some ⟨b, o, none⟩) N c) from BX0.out.go (below_drewN (Below.refl _ _) 1))
  have HAD := Lib.hid (ha.keep BXD.out.below)
  have hcb := (Bx2.start w (.slice (some ⟨b, o, none⟩) N c)).cell
  clear hx ha hsys hall
  go_enter Try.func104, Try.ntmps104
  go_wp2_with fail
  go_region_held3 (fun w' => w'.cell? ⟨w.heap.size, 0, none⟩ = some (.slice (some ⟨b, o, none⟩) N c)) (first | (exact hcb) | (exact q) | (go_keep; done))
    (first
      | (go_at_call 107
         (with_reducible refine (flagsFrom_any _ HX.out HAD.out hN HS.out hpos hp).mono ?_)
         rintro e w0 ⟨A0, c0, rfl, own0, bel0⟩
         rw [HALL.out] at own0 ⊢
         have bx0 := BXD.out.go bel0
         have q := bx0.cell)
      | (go_at_call 163
         (with_reducible refine (inverse_any _ HALL.out (own_rd own0) hn6 OPO.out).mono ?_)
         rintro e w1 ⟨A1, c1, rfl, own, bel⟩
         rw [HIL.out] at own ⊢
         have bx := bx0.go bel
         have q := bx.cell)
      | (go_at_call 134
         (with_reducible refine (iren_any _ HX.out (HA.out.keep bx.below) HS.out HIL.out (own_rd own) OP.out).mono ?_)
         rintro e w2 ⟨A2, c2, rfl, own2, bel2⟩
         have bx2 := bx.go bel2
         have q := bx2.cell
         have hc1 := bx2.cell1
         have hf1 := bx2.free1))
  go_wp2
  exact bodyPost_ret (v := .agg #[.slice A2 (renM xss (invL (orbL xss n p))).length c2]) (by simp [results, Try.results104, go_sem, hc1]) rfl (retM_yes bx2 own2 bx.size (Nat.le_refl _) _)
end Go.Proofs.Ytmikoihpmhfafaa
namespace Go.Proofs.Ytmikoihpmhfafaa
open Go.RowKit

noncomputable def ffR (xss : List (List Int)) (f : Int) : List (List Int) := if okMan xss then (if flagB (flN xss) f then frmL xss (flN xss) f.toNat else []) else []
noncomputable def ffC (xss : List (List Int)) (f : Int) : Int := if okMan xss then (if flagB (flN xss) f then 0 else 2) else 1
noncomputable def rnR (xss : List (List Int)) (p : List Int) : List (List Int) := if okMan xss then (if p.length = flN xss ∧ okP p = true then renM xss p else []) else []
noncomputable def rnC (xss : List (List Int)) (p : List Int) : Int := if okMan xss then (if p.length = flN xss ∧ okP p = true then 0 else 2) else 1
theorem man_small {xss : List (List Int)} {p : List Int} (h : IsMan xss) (hp : p.length = flN xss) : (renM xss p).length ≤ 1048576 ∧ ∀ xs ∈ renM xss p, (xs.length : Int) ≤ 1048576 := by
  have h1 := h.r5
  have h2 := h.f4
  refine ⟨by rw [renM_length]; omega, fun xs hx => ?_⟩
  rw [renM_row hp xs hx]
  omega
theorem ffR_le (xss : List (List Int)) (f : Int) : (ffR xss f).length ≤ 1048576 ∧ ∀ xs ∈ ffR xss f, (xs.length : Int) ≤ 1048576 := by
  unfold ffR
  split
  · rename_i h
    split
    · rename_i hf
      obtain ⟨p, rfl, hp⟩ := flagB_true hf
      have hm := okMan_iff.1 h
      exact man_small hm (inv_orb_len (hm.all hp))
    · simp
  · simp
theorem rnR_le (xss : List (List Int)) (p : List Int) : (rnR xss p).length ≤ 1048576 ∧ ∀ xs ∈ rnR xss p, (xs.length : Int) ≤ 1048576 := by
  unfold rnR
  split
  · rename_i h
    split
    · rename_i hp
      exact man_small (okMan_iff.1 h) hp.1
    · simp
  · simp

set_option maxHeartbeats 1600000 in
theorem iFormFrom_any {A : Option Addr} {c N : Nat} {xss : List (List Int)} (k1 : Int) (w : World) (hx : xss.length = N) (ha : RdSS w A xss) (hN : N ≤ 1048576) (hr : ∀ xs ∈ xss, (xs.length : Int) ≤ 1048576) :
    Calls Try.prog 31 #[.agg #[.slice A N c], .int .i64 k1] w (RetMC w (ffR xss k1) (ffC xss k1)) := by
  have HX := Lib.hid hx
  have HA := Lib.hid ha
  have HR := Lib.hid hr
  cases ho : okMan xss
  · have h1 : ffR xss k1 = [] := by simp [ffR, ho]
    have h2 : ffC xss k1 = 1 := by simp [ffC, ho]
    have BX0 := Lib.hid (Bx2.start w (.slice A N c))
    rw [h1, h2]
    have HO := Lib.hid ho
    clear hx ha hr ho h1 h2
    go_enter Try.func31, Try.ntmps31
    go_wp2_with fail
    refine (iMan_any _ HX.out ((HA.out.al _).al _) hN HR.out).mono ?_
    rintro e w1 ⟨rfl, bel⟩
    rw [HO.out]
    have BX1 := Lib.hid (BX0.out.go bel)
    clear bel
    have hc1 := BX1.out.cell1
    have hf1 := BX1.out.free1
    have hbz := BX1.out.size
    go_wp2
    exact bodyPost_ret (v := .tuple #[.agg #[.slice none 0 0], .int .i64 1]) (by simp [results, Try.results31, go_sem, hc1]) rfl (retMC_no BX1.out 1 _)
  · have hman := okMan_iff.1 ho
    have hsys := hman.sys
    have hn4 := hman.f4
    have hn2 := hman.f2
    have hpos := hman.pos hx
    have hallq : ∀ q : Nat, q < flN xss → (orbL xss (flN xss) q).length = flN xss := fun q hq => hman.all hq
    obtain ⟨b, o, A0, c0, rfl, hc0⟩ := man_row0 hman ha
    obtain ⟨n, hn⟩ : ∃ n, flN xss = n := ⟨_, rfl⟩
    rw [hn] at hc0 hsys hn4 hn2 hallq
    have HC0 := Lib.hid hc0
    have HO := Lib.hid ho
    have HSY := Lib.hid hsys
    have HALLQ := Lib.hid hallq
    have HMAN := Lib.hid hman
    have BX0 := Lib.hid (Bx2.start w (.slice (some ⟨b, o, none⟩) N c))
    have hn6 : n ≤ 1048576 := by omega
    cases hf0 : flagB n k1
    · have h1 : ffR xss k1 = [] := by simp [ffR, ho, hn, hf0]
      have h2 : ffC xss k1 = 2 := by simp [ffC, ho, hn, hf0]
      rw [h1, h2]
      have HF0 := Lib.hid hf0
      clear hx ha hr ho hman hn hc0 hsys hallq h1 h2 hf0
      go_enter Try.func31, Try.ntmps31
      go_wp2_with fail
      refine (iMan_any _ HX.out ((HA.out.al _).al _) hN HR.out).mono ?_
      rintro e w1 ⟨rfl, bel⟩
      rw [HO.out]
      have BX1 := Lib.hid (BX0.out.go bel)
      clear bel
      have HC1 := Lib.hid (cell_be HC0.out BX1.out.below)
      have hbc := BX1.out.cell
      go_wp2_with fail
      refine (iFlag_bel _ _ hpos HC1.out hn6 HF0.out).mono ?_
      rintro e w2 ⟨rfl, bel⟩
      have BX2 := Lib.hid (BX1.out.go bel)
      clear bel hbc
      have hc1 := BX2.out.cell1
      have hf1 := BX2.out.free1
      have hbz := BX2.out.size
      go_wp2
      exact bodyPost_ret (v := .tuple #[.agg #[.slice none 0 0], .int .i64 2]) (by simp [results, Try.results31, go_sem, hc1]) rfl (retMC_no BX2.out 2 _)
    · obtain ⟨p0, rfl, hp0⟩ := flagB_true hf0
      have h1 : ffR xss (p0 : Int) = frmL xss n p0 := by simp [ffR, ho, hn, hf0]
      have h2 : ffC xss (p0 : Int) = 0 := by simp [ffC, ho, hn, hf0]
      rw [h1, h2]
      have HF0 := Lib.hid hf0
      clear hx ha hr ho hman hn hc0 hsys hallq h1 h2 hf0
      go_enter Try.func31, Try.ntmps31
      go_wp2_with fail
      refine (iMan_any _ HX.out ((HA.out.al _).al _) hN HR.out).mono ?_
      rintro e w1 ⟨rfl, bel⟩
      rw [HO.out]
      have BX1 := Lib.hid (BX0.out.go bel)
      clear bel
      have HC1 := Lib.hid (cell_be HC0.out BX1.out.below)
      have hbc := BX1.out.cell
      go_wp2_with fail
      refine (iFlag_bel _ _ hpos HC1.out hn6 HF0.out).mono ?_
      rintro e w2 ⟨rfl, bel⟩
      have BX2 := Lib.hid (BX1.out.go bel)
      clear bel hbc
      have HC2 := Lib.hid (cell_be HC0.out BX2.out.below)
      have hbc := BX2.out.cell
      have HAB := Lib.hid (HA.out.keep BX2.out.below)
      go_wp2_with fail
      refine (iform_any _ HX.out HAB.out hN HSY.out hp0 hpos (HALLQ.out _ hp0)).mono ?_
      rintro e w9 ⟨A9, c9, rfl, own, bel⟩
      have OWN := Lib.hid own
      have BX9 := Lib.hid (BX2.out.go bel)
      have hsz := BX2.out.size
      have hc1 := BX9.out.cell1
      have hf1 := BX9.out.free1
      have hbz := BX9.out.size
      clear own bel hbc
      go_wp2
      exact bodyPost_ret (v := .tuple #[.agg #[.slice A9 _ c9], .int .i64 0]) (by simp [results, Try.results31, go_sem, hc1]) rfl (retMC_yes BX9.out OWN.out hsz (Nat.le_refl _) _ 0)
set_option maxHeartbeats 1600000 in
theorem iRenumberFlags_any {A : Option Addr} {c N : Nat} {xss : List (List Int)} {B1 : Option Addr} {d1 m1 : Nat} {y1 : List Int} (w : World) (hx : xss.length = N) (ha : RdSS w A xss) (hN : N ≤ 1048576) (hr : ∀ xs ∈ xss, (xs.length : Int) ≤ 1048576) (hx1 : y1.length = m1) (ha1 : Rd w B1 (ints y1)) (hm1 : m1 ≤ 1048576) :
    Calls Try.prog 59 #[.agg #[.slice A N c], .slice B1 m1 d1] w (RetMC w (rnR xss y1) (rnC xss y1)) := by
  have HX := Lib.hid hx
  have HA := Lib.hid ha
  have HR := Lib.hid hr
  have HX1 := Lib.hid hx1
  have HA1 := Lib.hid ha1
  clear ha1
  cases ho : okMan xss
  · have h1 : rnR xss y1 = [] := by simp [rnR, ho]
    have h2 : rnC xss y1 = 1 := by simp [rnC, ho]
    have BX0 := Lib.hid (Bx2.start w (.slice A N c))
    rw [h1, h2]
    have HO := Lib.hid ho
    clear hx ha hr ho h1 h2 hx1
    go_enter Try.func59, Try.ntmps59
    go_wp2_with fail
    refine (iMan_any _ HX.out ((HA.out.al _).al _) hN HR.out).mono ?_
    rintro e w1 ⟨rfl, bel⟩
    rw [HO.out]
    have BX1 := Lib.hid (BX0.out.go bel)
    clear bel
    have hc1 := BX1.out.cell1
    have hf1 := BX1.out.free1
    have hbz := BX1.out.size
    go_wp2
    exact bodyPost_ret (v := .tuple #[.agg #[.slice none 0 0], .int .i64 1]) (by simp [results, Try.results59, go_sem, hc1]) rfl (retMC_no BX1.out 1 _)
  · have hman := okMan_iff.1 ho
    have hsys := hman.sys
    have hn4 := hman.f4
    have hn2 := hman.f2
    have hpos := hman.pos hx
    have hallq : ∀ q : Nat, q < flN xss → (orbL xss (flN xss) q).length = flN xss := fun q hq => hman.all hq
    obtain ⟨b, o, A0, c0, rfl, hc0⟩ := man_row0 hman ha
    obtain ⟨n, hn⟩ : ∃ n, flN xss = n := ⟨_, rfl⟩
    rw [hn] at hc0 hsys hn4 hn2 hallq
    have HC0 := Lib.hid hc0
    have HO := Lib.hid ho
    have HSY := Lib.hid hsys
    have HALLQ := Lib.hid hallq
    have HMAN := Lib.hid hman
    have BX0 := Lib.hid (Bx2.start w (.slice (some ⟨b, o, none⟩) N c))
    have hn6 : n ≤ 1048576 := by omega
    by_cases hl : m1 = n
    · subst hl
      have hne : ((m1 : Int) != (m1 : Int)) = false := by simp
      cases hp : okP y1
      · have h1 : rnR xss y1 = [] := by simp [rnR, ho, hn, hx1, hp]
        have h2 : rnC xss y1 = 2 := by simp [rnC, ho, hn, hx1, hp]
        rw [h1, h2]
        have HP := Lib.hid hp
        clear hx ha hr ho hman hn hc0 hsys hallq h1 h2 hx1 hp
        go_enter Try.func59, Try.ntmps59
        go_wp2_with fail
        refine (iMan_any _ HX.out ((HA.out.al _).al _) hN HR.out).mono ?_
        rintro e w1 ⟨rfl, bel⟩
        rw [HO.out]
        have BX1 := Lib.hid (BX0.out.go bel)
        clear bel
        have HC1 := Lib.hid (cell_be HC0.out BX1.out.below)
        have hbc := BX1.out.cell
        go_wp2_with fail
        refine (flags_bel _ hpos HC1.out).mono ?_
        rintro e w2 ⟨rfl, bel⟩
        have BX2 := Lib.hid (BX1.out.go bel)
        clear bel hbc
        have hbc := BX2.out.cell
        go_wp2_with fail
        refine (iperm_any _ HX1.out (HA1.out.keep BX2.out.below) hm1).mono ?_
        rintro e w3 ⟨rfl, bel⟩
        rw [HP.out]
        have BX3 := Lib.hid (BX2.out.go bel)
        clear bel hbc
        have hc1 := BX3.out.cell1
        have hf1 := BX3.out.free1
        have hbz := BX3.out.size
        go_wp2
        exact bodyPost_ret (v := .tuple #[.agg #[.slice none 0 0], .int .i64 2]) (by simp [results, Try.results59, go_sem, hc1]) rfl (retMC_no BX3.out 2 _)
      · have h1 : rnR xss y1 = renM xss y1 := by simp [rnR, ho, hn, hx1, hp]
        have h2 : rnC xss y1 = 0 := by simp [rnC, ho, hn, hx1, hp]
        rw [h1, h2]
        have HP := Lib.hid hp
        clear hx ha hr ho hman hn hc0 hsys hallq h1 h2 hx1 hp
        go_enter Try.func59, Try.ntmps59
        go_wp2_with fail
        refine (iMan_any _ HX.out ((HA.out.al _).al _) hN HR.out).mono ?_
        rintro e w1 ⟨rfl, bel⟩
        rw [HO.out]
        have BX1 := Lib.hid (BX0.out.go bel)
        clear bel
        have HC1 := Lib.hid (cell_be HC0.out BX1.out.below)
        have hbc := BX1.out.cell
        go_wp2_with fail
        refine (flags_bel _ hpos HC1.out).mono ?_
        rintro e w2 ⟨rfl, bel⟩
        have BX2 := Lib.hid (BX1.out.go bel)
        clear bel hbc
        have hbc := BX2.out.cell
        go_wp2_with fail
        refine (iperm_any _ HX1.out (HA1.out.keep BX2.out.below) hm1).mono ?_
        rintro e w3 ⟨rfl, bel⟩
        rw [HP.out]
        have BX3 := Lib.hid (BX2.out.go bel)
        clear bel hbc
        have HC3 := Lib.hid (cell_be HC0.out BX3.out.below)
        have hbc := BX3.out.cell
        have HAB := Lib.hid (HA.out.keep BX3.out.below)
        have HAB1 := Lib.hid (HA1.out.keep BX3.out.below)
        go_wp2_with fail
        refine (iren_any _ HX.out HAB.out HSY.out HX1.out HAB1.out HP.out).mono ?_
        rintro e w9 ⟨A9, c9, rfl, own, bel⟩
        have OWN := Lib.hid own
        have BX9 := Lib.hid (BX3.out.go bel)
        have hsz := BX3.out.size
        have hc1 := BX9.out.cell1
        have hf1 := BX9.out.free1
        have hbz := BX9.out.size
        clear own bel hbc
        go_wp2
        exact bodyPost_ret (v := .tuple #[.agg #[.slice A9 _ c9], .int .i64 0]) (by simp [results, Try.results59, go_sem, hc1]) rfl (retMC_yes BX9.out OWN.out hsz (Nat.le_refl _) _ 0)
    · have hne : ((m1 : Int) != (n : Int)) = true := by rw [bne_iff_ne]; omega
      have hl2 : ¬ m1 = flN xss := by omega
      have h1 : rnR xss y1 = [] := by simp [rnR, ho, hx1, hl2]
      have h2 : rnC xss y1 = 2 := by simp [rnC, ho, hx1, hl2]
      rw [h1, h2]
      clear hx ha hr ho hman hn hc0 hsys hallq h1 h2 hx1 hl hl2
      go_enter Try.func59, Try.ntmps59
      go_wp2_with fail
      refine (iMan_any _ HX.out ((HA.out.al _).al _) hN HR.out).mono ?_
      rintro e w1 ⟨rfl, bel⟩
      rw [HO.out]
      have BX1 := Lib.hid (BX0.out.go bel)
      clear bel
      have HC1 := Lib.hid (cell_be HC0.out BX1.out.below)
      have hbc := BX1.out.cell
      go_wp2_with fail
      refine (flags_bel _ hpos HC1.out).mono ?_
      rintro e w2 ⟨rfl, bel⟩
      have BX2 := Lib.hid (BX1.out.go bel)
      clear bel hbc
      have hc1 := BX2.out.cell1
      have hf1 := BX2.out.free1
      have hbz := BX2.out.size
      go_wp2
      exact bodyPost_ret (v := .tuple #[.agg #[.slice none 0 0], .int .i64 2]) (by simp [results, Try.results59, go_sem, hc1]) rfl (retMC_no BX2.out 2 _)
end Go.Proofs.Ytmikoihpmhfafaa
namespace Go.Proofs.Ytmikoihpmhfafaa
open Go.RowKit

/-- -1, 0 or 1, us the first list is before the second one, equal to it or behind it. -/
def cmpL : List Int → List Int → Int
  | [], [] => 0
  | [], _ :: _ => -1
  | _ :: _, [] => 1
  | x :: xs, y :: ys => if x < y then -1 else if y < x then 1 else cmpL xs ys
def cmpLL : List (List Int) → List (List Int) → Int
  | [], [] => 0
  | [], _ :: _ => -1
  | _ :: _, [] => 1
  | x :: xs, y :: ys => if cmpL x y = 0 then cmpLL xs ys else cmpL x y
theorem cmpL_zero : ∀ (a b : List Int), cmpL a b = 0 ↔ a = b
  | [], [] => by simp [cmpL]
  | [], _ :: _ => by simp [cmpL]
  | _ :: _, [] => by simp [cmpL]
  | x :: xs, y :: ys => by
    have ih := cmpL_zero xs ys
    unfold cmpL
    by_cases h1 : x < y
    · rw [if_pos h1]; simp; intro h; omega
    · rw [if_neg h1]
      by_cases h2 : y < x
      · rw [if_pos h2]; simp; intro h; omega
      · rw [if_neg h2, ih]
        have : x = y := by omega
        simp [this]
theorem cmpL_bd : ∀ (a b : List Int), -1 ≤ cmpL a b ∧ cmpL a b ≤ 1
  | [], [] => by simp [cmpL]
  | [], _ :: _ => by simp [cmpL]
  | _ :: _, [] => by simp [cmpL]
  | x :: xs, y :: ys => by
    have ih := cmpL_bd xs ys
    unfold cmpL
    split
    · omega
    · split
      · omega
      · exact ih
theorem cmpLL_bd : ∀ (a b : List (List Int)), -1 ≤ cmpLL a b ∧ cmpLL a b ≤ 1
  | [], [] => by simp [cmpLL]
  | [], _ :: _ => by simp [cmpLL]
  | _ :: _, [] => by simp [cmpLL]
  | x :: xs, y :: ys => by
    have ih := cmpLL_bd xs ys
    have h := cmpL_bd x y
    unfold cmpLL
    split
    · exact ih
    · exact h
section
variable {a b : List Int} {k : Nat} {x y : Int} {us vs : List (List Int)} {xs ys : List Int}
theorem cmpL_at (hx : a[k]? = some x) (hy : b[k]? = some y) : cmpL (a.drop k) (b.drop k) = if x < y then -1 else if y < x then 1 else cmpL (a.drop (k + 1)) (b.drop (k + 1)) := by
  obtain ⟨h1, h2⟩ := List.getElem?_eq_some_iff.1 hx
  obtain ⟨h3, h4⟩ := List.getElem?_eq_some_iff.1 hy
  rw [List.drop_eq_getElem_cons h1, List.drop_eq_getElem_cons h3, h2, h4]
  rfl
theorem cmpL_endl (ha : a.length ≤ k) : cmpL (a.drop k) (b.drop k) = if k < b.length then -1 else 0 := by
  rw [List.drop_of_length_le ha]
  split
  · rename_i h
    rw [List.drop_eq_getElem_cons h]; rfl
  · rename_i h
    rw [List.drop_of_length_le (by omega)]; rfl
theorem cmpL_endr (ha : k < a.length) (hb : b.length ≤ k) : cmpL (a.drop k) (b.drop k) = 1 := by
  rw [List.drop_of_length_le hb, List.drop_eq_getElem_cons ha]; rfl
theorem cmpLL_at (hx : us[k]? = some xs) (hy : vs[k]? = some ys) : cmpLL (us.drop k) (vs.drop k) = if cmpL xs ys = 0 then cmpLL (us.drop (k + 1)) (vs.drop (k + 1)) else cmpL xs ys := by
  obtain ⟨h1, h2⟩ := List.getElem?_eq_some_iff.1 hx
  obtain ⟨h3, h4⟩ := List.getElem?_eq_some_iff.1 hy
  rw [List.drop_eq_getElem_cons h1, List.drop_eq_getElem_cons h3, h2, h4]
  rfl
theorem cmpLL_endl (ha : us.length ≤ k) : cmpLL (us.drop k) (vs.drop k) = if k < vs.length then -1 else 0 := by
  rw [List.drop_of_length_le ha]
  split
  · rename_i h
    rw [List.drop_eq_getElem_cons h]; rfl
  · rename_i h
    rw [List.drop_of_length_le (by omega)]; rfl
theorem cmpLL_endr (ha : k < us.length) (hb : vs.length ≤ k) : cmpLL (us.drop k) (vs.drop k) = 1 := by
  rw [List.drop_of_length_le hb, List.drop_eq_getElem_cons ha]; rfl
end

theorem nan_any (x : Int) (w : World) : Calls Try.prog 219 #[.int .i64 x] w fun e w' => e = .returned (.bool false) ∧ w = w' := by
  have hb : (x != x) = false := by simp
  go_enter Try.func219, Try.ntmps219
  go_wp2
  go_ret
  exact ⟨rfl, rfl⟩
def cmpI (x y : Int) : Int := if x < y then -1 else if y < x then 1 else 0
theorem ccmp_any (x y : Int) (w : World) : Calls Try.prog 218 #[.int .i64 x, .int .i64 y] w fun e w' => e = .returned (.int .i64 (cmpI x y)) ∧ w = w' := by
  have hN := fun w => nan_any x w
  by_cases h1 : x < y
  · have HS := Lib.hid (show cmpI x y = -1 by simp [cmpI, h1])
    go_enter Try.func218, Try.ntmps218
    go_wp2_with fail
    refine (nan_any x _).mono ?_
    rintro e w1 ⟨rfl, rfl⟩
    go_wp2_with fail
    refine (nan_any y _).mono ?_
    rintro e w1 ⟨rfl, rfl⟩
    go_wp2
    go_ret
    exact ⟨ret_i64 HS.out.symm, rfl⟩
  · by_cases h2 : y < x
    · have HS := Lib.hid (show cmpI x y = 1 by simp [cmpI, h1, h2])
      go_enter Try.func218, Try.ntmps218
      go_wp2_with fail
      refine (nan_any x _).mono ?_
      rintro e w1 ⟨rfl, rfl⟩
      go_wp2_with fail
      refine (nan_any y _).mono ?_
      rintro e w1 ⟨rfl, rfl⟩
      go_wp2
      go_ret
      exact ⟨ret_i64 HS.out.symm, rfl⟩
    · have HS := Lib.hid (show cmpI x y = 0 by simp [cmpI, h1, h2])
      go_enter Try.func218, Try.ntmps218
      go_wp2_with fail
      refine (nan_any x _).mono ?_
      rintro e w1 ⟨rfl, rfl⟩
      go_wp2_with fail
      refine (nan_any y _).mono ?_
      rintro e w1 ⟨rfl, rfl⟩
      go_wp2
      go_ret
      exact ⟨ret_i64 HS.out.symm, rfl⟩
theorem cmpL_cI {a b : List Int} {k : Nat} {x y : Int} (hx : a[k]? = some x) (hy : b[k]? = some y) : cmpL (a.drop k) (b.drop k) = if cmpI x y = 0 then cmpL (a.drop (k + 1)) (b.drop (k + 1)) else cmpI x y := by
  rw [cmpL_at hx hy]
  unfold cmpI
  by_cases h1 : x < y
  · simp [h1]
  · by_cases h2 : y < x
    · simp [h1, h2]
    · simp [h1, h2]

set_option maxHeartbeats 800000 in
theorem scmp_any {A B : Option Addr} {c d n m : Nat} {xs ys : List Int} (w : World) (hx : xs.length = n) (hy : ys.length = m) (ha : Rd w A (ints xs)) (hb : Rd w B (ints ys)) (hn : n ≤ 1048576) (_hm : m ≤ 1048576) :
    Calls Try.prog 215 #[.slice A n c, .slice B m d] w fun e w' => e = .returned (.int .i64 (cmpL xs ys)) ∧ w = w' := by
  have HX := Lib.hid hx
  have HY := Lib.hid hy
  have HA := Lib.hid ha
  have HB := Lib.hid hb
  clear ha hb hx hy
  go_enter Try.func215, Try.ntmps215
  go_wp2
  go_loop [11] (fun i => ∃ k : Nat, k ≤ n ∧ i = .int .i64 k ∧ cmpL (xs.drop k) (ys.drop k) = cmpL xs ys) (fun i => n - (intOf i).toNat)
  case atStart => exact ⟨0, Nat.zero_le _, rfl, by simp⟩
  case round =>
    obtain ⟨k, hk, rfl, hc⟩ := hrel
    have HC := Lib.hid hc
    clear hc
    by_cases hlt : k < n
    · obtain ⟨b1, o1, x, rfl, hgx, hcx⟩ := HA.out.int (k := k) (by rw [HX.out]; exact hlt)
      by_cases hlm : k < m
      · obtain ⟨b2, o2, y, rfl, hgy, hcy⟩ := HB.out.int (k := k) (by rw [HY.out]; exact hlm)
        have HE := Lib.hid (cmpL_cI hgx hgy)
        clear hgx hgy
        go_wp2_with fail
        refine (ccmp_any x y _).mono ?_
        rintro e w1 ⟨rfl, rfl⟩
        obtain ⟨r, hr⟩ : ∃ r, cmpI x y = r := ⟨_, rfl⟩
        rw [hr] at HE ⊢
        clear hr
        by_cases he : r = 0
        · subst he
          have HS := Lib.hid (show cmpL (xs.drop (k + 1)) (ys.drop (k + 1)) = cmpL xs ys by rw [← HC.out, HE.out, if_pos rfl])
          go_wp2
          go_round
          case rel => exact ⟨k + 1, by omega, by go_num, HS.out⟩
          case measure => simp [intOf]; omega
        · have hb2 : (r != 0) = true := by rw [bne_iff_ne]; exact he
          have HS := Lib.hid (show r = cmpL xs ys by rw [← HC.out, HE.out, if_neg he])
          clear he
          go_wp2
          go_ret
          exact ⟨ret_i64 HS.out, rfl⟩
      · have HS := Lib.hid (show cmpL xs ys = 1 by rw [← HC.out, cmpL_endr (by rw [HX.out]; exact hlt) (by rw [HY.out]; omega)])
        clear hgx
        go_wp2
        go_ret
        exact ⟨ret_i64 HS.out.symm, rfl⟩
    · have hkn : k = n := by omega
      have hE := cmpL_endl (a := xs) (b := ys) (k := k) (by rw [HX.out]; omega)
      rw [HC.out, HY.out, hkn] at hE
      by_cases h : n < m
      · rw [if_pos h] at hE
        have HS := Lib.hid hE
        clear hE hkn
        go_wp2
        go_ret
        exact ⟨ret_i64 HS.out.symm, rfl⟩
      · rw [if_neg h] at hE
        have HS := Lib.hid hE
        clear hE hkn
        go_wp2
        go_ret
        exact ⟨ret_i64 HS.out.symm, rfl⟩
end Go.Proofs.Ytmikoihpmhfafaa
namespace Go.Proofs.Ytmikoihpmhfafaa
open Go.RowKit

/-- A callee that only draws, in a world behind draws. -/
theorem quiet_more {P : Program} {f : FuncId} {args : Array Value} {w : World} {a n : Nat} {v : Value} (h : ∀ W, W = w.drewN (a + n) → Calls P f args W fun e w' => e = .returned v ∧ ∃ j, w' = W.drewN j) :
    Calls P f args (w.drewN (a + n)) fun e w' => e = .returned v ∧ ∃ j, w' = w.drewN (a + j) :=
  (h _ rfl).mono fun _ _ ⟨he, j, hj⟩ => ⟨he, n + j, by rw [hj, World.drewN_drewN, Nat.add_assoc]⟩

set_option maxHeartbeats 1600000 in
theorem cmpf_any {A B : Option Addr} {c d n m : Nat} {xss yss : List (List Int)} (w : World) (hx : xss.length = n) (hy : yss.length = m) (ha : RdSS w A xss) (hb : RdSS w B yss) (hn : n ≤ 1048576) (_hm : m ≤ 1048576) (hrx : ∀ xs ∈ xss, (xs.length : Int) ≤ 1048576) (hry : ∀ xs ∈ yss, (xs.length : Int) ≤ 1048576) :
    Calls Try.prog 214 #[.slice A n c, .slice B m d, .func (.func 215) #[] #[]] w fun e w' => e = .returned (.int .i64 (cmpLL xss yss)) ∧ w = w' := by
  have HX := Lib.hid hx
  have HY := Lib.hid hy
  have HA := Lib.hid ha
  have HB := Lib.hid hb
  have HRX := Lib.hid hrx
  have HRY := Lib.hid hry
  clear ha hb hx hy hrx hry
  go_enter Try.func214, Try.ntmps214
  go_wp2
  go_loop [13] (fun i => ∃ k : Nat, k ≤ n ∧ i = .int .i64 k ∧ cmpLL (xss.drop k) (yss.drop k) = cmpLL xss yss) (fun i => n - (intOf i).toNat)
  case atStart => exact ⟨0, Nat.zero_le _, rfl, by simp⟩
  case round =>
    obtain ⟨k, hk, rfl, hc⟩ := hrel
    have HC := Lib.hid hc
    clear hc
    by_cases hlt : k < n
    · obtain ⟨b1, o1, A1, c1, xs, rfl, hgx, hcx, hrd1, hm1⟩ := HA.out.row (k := k) (by rw [HX.out]; exact hlt)
      have l1 := HRX.out xs (List.mem_of_getElem? hgx)
      obtain ⟨n1, hn1⟩ : ∃ n1, xs.length = n1 := ⟨_, rfl⟩
      rw [hn1] at hcx hm1 l1
      have L1 := Lib.hid hn1
      have R1 := Lib.hid hrd1
      have l1' : n1 ≤ 1048576 := by omega
      by_cases hlm : k < m
      · obtain ⟨b2, o2, A2, c2, ys, rfl, hgy, hcy, hrd2, hm2⟩ := HB.out.row (k := k) (by rw [HY.out]; exact hlm)
        have HE := Lib.hid (cmpLL_at hgx hgy)
        have l2 := HRY.out ys (List.mem_of_getElem? hgy)
        obtain ⟨n2, hn2⟩ : ∃ n2, ys.length = n2 := ⟨_, rfl⟩
        rw [hn2] at hcy hm2 l2
        have L2 := Lib.hid hn2
        have R2 := Lib.hid hrd2
        have l2' : n2 ≤ 1048576 := by omega
        clear hgx hgy hn1 hn2 hrd1 hrd2
        go_wp2_with fail
        refine (scmp_any w L1.out L2.out R1.out R2.out l1' l2').mono ?_
        rintro e w1 ⟨rfl, rfl⟩
        obtain ⟨r, hr⟩ : ∃ r, cmpL xs ys = r := ⟨_, rfl⟩
        rw [hr] at HE ⊢
        clear hr
        by_cases he : r = 0
        · subst he
          have HS := Lib.hid (show cmpLL (xss.drop (k + 1)) (yss.drop (k + 1)) = cmpLL xss yss by rw [← HC.out, HE.out, if_pos rfl])
          go_wp2
          go_round
          case rel => exact ⟨k + 1, by omega, by go_num, HS.out⟩
          case measure => simp [intOf]; omega
        · have hb2 : (r != 0) = true := by rw [bne_iff_ne]; exact he
          have HS := Lib.hid (show r = cmpLL xss yss by rw [← HC.out, HE.out, if_neg he])
          clear he
          go_wp2
          go_ret
          exact ⟨ret_i64 HS.out, rfl⟩
      · have HS := Lib.hid (show cmpLL xss yss = 1 by rw [← HC.out, cmpLL_endr (by rw [HX.out]; exact hlt) (by rw [HY.out]; omega)])
        clear hgx hn1 hrd1
        go_wp2
        go_ret
        exact ⟨ret_i64 HS.out.symm, rfl⟩
    · have hkn : k = n := by omega
      have hE := cmpLL_endl (us := xss) (vs := yss) (k := k) (by rw [HX.out]; omega)
      rw [HC.out, HY.out, hkn] at hE
      by_cases h : n < m
      · rw [if_pos h] at hE
        have HS := Lib.hid hE
        clear hE hkn
        go_wp2
        go_ret
        exact ⟨ret_i64 HS.out.symm, rfl⟩
      · rw [if_neg h] at hE
        have HS := Lib.hid hE
        clear hE hkn
        go_wp2
        go_ret
        exact ⟨ret_i64 HS.out.symm, rfl⟩
theorem icmp_any {A B : Option Addr} {c d n m : Nat} {xss yss : List (List Int)} (w : World) (hx : xss.length = n) (hy : yss.length = m) (ha : RdSS w A xss) (hb : RdSS w B yss) (hn : n ≤ 1048576) (hm : m ≤ 1048576) (hrx : ∀ xs ∈ xss, (xs.length : Int) ≤ 1048576) (hry : ∀ xs ∈ yss, (xs.length : Int) ≤ 1048576) :
    Calls Try.prog 205 #[.agg #[.slice A n c], .agg #[.slice B m d]] w fun e w' => e = .returned (.int .i64 (cmpLL xss yss)) ∧ Below w.heap.size w w' := by
  have HX := Lib.hid hx
  have HY := Lib.hid hy
  have HA := Lib.hid (ha.keep (below2 w (.cells #[.slice A n c] 26) (.cells #[.slice B m d] 26)))
  have HB := Lib.hid (hb.keep (below2 w (.cells #[.slice A n c] 26) (.cells #[.slice B m d] 26)))
  have HRX := Lib.hid hrx
  have HRY := Lib.hid hry
  clear ha hb hx hy hrx hry
  go_enter Try.func205, Try.ntmps205
  go_wp2_with fail
  refine (cmpf_any _ HX.out HY.out HA.out HB.out hn hm HRX.out HRY.out).mono ?_
  rintro e w1 ⟨rfl, rfl⟩
  go_wp2
  go_ret
  exact ⟨rfl, below2 w _ _⟩
end Go.Proofs.Ytmikoihpmhfafaa
namespace Go.Proofs.Ytmikoihpmhfafaa
open Go.RowKit

/-- The least of the forms from the flags 0 to k. -/
def lstTo (xss : List (List Int)) (n : Nat) : Nat → List (List Int)
  | 0 => frmL xss n 0
  | k + 1 => if cmpLL (frmL xss n (k + 1)) (lstTo xss n k) < 0 then frmL xss n (k + 1) else lstTo xss n k
theorem frmL_len (xss : List (List Int)) (n p : Nat) : (frmL xss n p).length = xss.length := renM_length _ _
theorem frmL_row {xss : List (List Int)} {n p : Nat} (hall : (orbL xss n p).length = n) : ∀ xs ∈ frmL xss n p, xs.length = n := renM_row (inv_orb_len hall)
theorem lstTo_len (xss : List (List Int)) (n : Nat) : ∀ k, (lstTo xss n k).length = xss.length
  | 0 => frmL_len _ _ _
  | k + 1 => by
    unfold lstTo
    split
    · exact frmL_len _ _ _
    · exact lstTo_len xss n k
theorem lstTo_row {xss : List (List Int)} {n : Nat} (hall : ∀ q : Nat, q < n → (orbL xss n q).length = n) : ∀ k, k < n → ∀ xs ∈ lstTo xss n k, xs.length = n
  | 0, hk => frmL_row (hall 0 hk)
  | k + 1, hk => by
    unfold lstTo
    split
    · exact frmL_row (hall (k + 1) hk)
    · exact lstTo_row hall k (by omega)
structure LSt2 (w wr : World) (v : Value) (g3 N : Nat) (A : Option Addr) (c : Nat) (L : List (List Int)) : Prop where
  bx : Bx2 w wr v
  box : wr.ownsRow (w.heap.size + 2) 26 1 (.slice (some ⟨g3, 0, none⟩) 1 1) 1 [.slice A N c]
  rows : ∃ lo hi, OwnSS wr lo hi 31 A N c L ∧ w.heap.size + 2 ≤ lo ∧ hi ≤ wr.heap.size ∧ (hi ≤ g3 ∨ g3 < lo)
section
variable {w wr w2 : World} {v : Value} {g3 N c : Nat} {A : Option Addr} {L : List (List Int)}
theorem LSt2.go (h : LSt2 w wr v g3 N A c L) (hb : Below wr.heap.size wr w2) : LSt2 w w2 v g3 N A c L := by
  obtain ⟨lo, hi, h1, h2, h3, h4⟩ := h.rows
  exact ⟨h.bx.go hb, own_below h.box hb (Nat.le_refl _), lo, hi, ownSS_below h1 hb (Nat.le_refl _), h2, Nat.le_trans h3 hb.size, h4⟩
theorem LSt2.rd (h : LSt2 w wr v g3 N A c L) : RdSS wr A L := by obtain ⟨lo, hi, h1, _⟩ := h.rows; exact ownSS_rd h1
theorem LSt2.cell (h : LSt2 w wr v g3 N A c L) : wr.cell? ⟨g3, 0, none⟩ = some (.slice A N c) := own_cell h.box rfl
theorem LSt2.free (h : LSt2 w wr v g3 N A c L) : wr.frozen? ⟨g3, 0, none⟩ = false := h.box.frozenAt 0
theorem LSt2.glt (h : LSt2 w wr v g3 N A c L) : w.heap.size + 2 ≤ g3 ∧ g3 < wr.heap.size := h.box.lt g3 rfl
theorem lst2_start {lo : Nat} (bx : Bx2 w wr v) (own : OwnSS wr lo wr.heap.size 31 A N c L) (hlo : w.heap.size + 2 ≤ lo) (hl : lo ≤ wr.heap.size) : LSt2 w (wr.alloc (.cells #[.slice A N c] 26)) v wr.heap.size N A c L := by
  have h2 := World.ownsRow_lit (base := w.heap.size + 2) (e := 26) (size := 1) wr #[.slice A N c] 1 (by omega) (by decide) (by simp)
  exact ⟨bx.go (below1 _ _), by simpa using h2, lo, wr.heap.size, ownSS_below own (below1 _ _) (Nat.le_refl _), hlo, by simp, .inl (Nat.le_refl _)⟩
/-- Another maniplex takes its place. -/
theorem LSt2.put {A2 : Option Addr} {c2 lo hi : Nat} {L2 : List (List Int)} (h : LSt2 w wr v g3 N A c L) (own : OwnSS wr lo hi 31 A2 N c2 L2) (hlo : w.heap.size + 2 ≤ lo) (hg : g3 < lo) (hi2 : hi ≤ wr.heap.size) :
    LSt2 w (wr.setCell ⟨g3, 0, none⟩ (.slice A2 N c2)) v g3 N A2 c2 L2 := by
  have hst := h.box.stored 0 (.slice A2 N c2)
  exact ⟨⟨h.bx.bel.setCell (p := ⟨g3, 0, none⟩) h.glt.1 _⟩, by simpa using hst.1, lo, hi, own.turns2 0 g3 _ (.inl hg), hlo, by simpa using hi2, .inr hg⟩
theorem lst2_done (h : LSt2 w wr v g3 N A c L) (hl : L.length = N) (x : Value) : RetM w L (.returned (.agg #[.slice A N c])) (wr.setCell ⟨w.heap.size + 1, 0, none⟩ x) := by
  subst hl
  obtain ⟨lo, hi, h1, h2, h3, _⟩ := h.rows
  exact retM_yes h.bx h1 h2 h3 x
end
theorem rows_le {L : List (List Int)} {n : Nat} (h : ∀ xs ∈ L, xs.length = n) (hn : n ≤ 400) : ∀ xs ∈ L, (xs.length : Int) ≤ 1048576 := fun xs hx => by rw [h xs hx]; omega

set_option maxHeartbeats 3200000 in
set_option maxRecDepth 8000 in
theorem ileast_any {b o c N n c0 : Nat} {A0 : Option Addr} {xss : List (List Int)} (w : World) (hx : xss.length = N) (ha : RdSS w (some ⟨b, o, none⟩) xss) (hsys : okSys n xss = true) (h0 : w.cell? ⟨b, o, none⟩ = some (.slice A0 n c0)) (hpos : 0 < N) (hn : 0 < n) (hall : ∀ q : Nat, q < n → (orbL xss n q).length = n) :
    Calls Try.prog 167 #[.agg #[.slice (some ⟨b, o, none⟩) N c]] w (RetM w (lstTo xss n (n - 1))) := by
  have hN := (sys_parts hsys).2.2.1
  rw [hx] at hN
  have hN6 : N ≤ 1048576 := by omega
  have hn4 : n ≤ 400 := by have := (sys_parts hsys).2.1; omega
  have HX := Lib.hid hx
  have HA := Lib.hid ha
  have HS := Lib.hid hsys
  have HC0 := Lib.hid h0
  have HALL := Lib.hid hall
  have BX0 := Lib.hid (Bx2.start w (.slice (some ⟨b, o, none⟩) N c))
  clear hx ha hsys h0 hall
  go_enter Try.func167, Try.ntmps167
  go_wp2_with fail
  refine (iform_any (p := 0) _ HX.out (HA.out.keep BX0.out.below) hN6 HS.out hn hpos (HALL.out 0 hn)).mono ?_
  rintro e w1 ⟨A1, c1, rfl, own, bel⟩
  rw [frmL_len, HX.out] at own ⊢
  have BX1 := Lib.hid (BX0.out.go bel)
  have ST := Lib.hid (lst2_start BX1.out own (by simp) bel.size)
  clear own bel
  go_wp2
  obtain ⟨g3, hg3⟩ : ∃ g3 : Nat, w1.heap.size = g3 := ⟨_, rfl⟩
  rw [hg3] at ST ⊢
  clear hg3
  go_loopw [4] (fun i wr => ∃ (k c' : Nat) (A' : Option Addr), k < n ∧ i = .int .i64 ((k : Int) + 1) ∧ LSt2 w wr (.slice (some ⟨b, o, none⟩) N c) g3 N A' c' (lstTo xss n k)) (fun i _ => n - (intOf i).toNat)
  case atStart => exact ⟨0, c1, A1, hn, rfl, ST.out⟩
  case round =>
    obtain ⟨k, c', A', hk, rfl, st⟩ := hrel
    have S := Lib.hid st
    have hbc := st.bx.cell
    have HCR := Lib.hid (cell_be HC0.out st.bx.below)
    clear st ST
    go_wp2_with fail
    refine (flags_bel _ hpos HCR.out).mono ?_
    rintro e w2 ⟨rfl, bel⟩
    have S2 := Lib.hid (S.out.go bel)
    have hbc := S2.out.bx.cell
    have HA2 := Lib.hid (HA.out.keep S2.out.bx.below)
    have HC2 := Lib.hid (cell_be HCR.out bel)
    clear bel S HCR
    by_cases hlt : k + 1 < n
    · have hlt' : (k : Int) + 1 < (n : Int) := by omega
      have e1 : (k : Int) + 1 = ((k + 1 : Nat) : Int) := by omega
      rw [e1] at hlt' ⊢
      clear e1
      go_wp2_with fail
      refine (iform_any (p := k + 1) _ HX.out HA2.out hN6 HS.out hlt hpos (HALL.out _ hlt)).mono ?_
      rintro e w3 ⟨A3, c3, rfl, own, bel⟩
      rw [frmL_len, HX.out] at own ⊢
      have S3 := Lib.hid ((S2.out.go bel).go (below1 _ (.cells #[.slice A3 N c3] 26)))
      have OW3 := Lib.hid (ownSS_below own (below1 _ (.cells #[.slice A3 N c3] 26)) (Nat.le_refl _))
      have hz2 := S2.out.bx.size
      have hg2 := S2.out.glt
      have hz3 := bel.size
      have hcb := S3.out.cell
      have R1 := Lib.hid (rows_le (frmL_row (HALL.out (k + 1) hlt)) hn4)
      have R2 := Lib.hid (rows_le (lstTo_row HALL.out k hk) hn4)
      have L1 := Lib.hid (show (frmL xss n (k + 1)).length = N by rw [frmL_len, HX.out])
      have L2 := Lib.hid (show (lstTo xss n k).length = N by rw [lstTo_len, HX.out])
      clear own bel hbc
      go_wp2_with fail
      refine (icmp_any _ L1.out L2.out (ownSS_rd OW3.out) S3.out.rd hN6 hN6 R1.out R2.out).mono ?_
      rintro e w4 ⟨rfl, bel4⟩
      have S4 := Lib.hid (S3.out.go bel4)
      have OW4 := Lib.hid (ownSS_below OW3.out bel4 (Nat.le_refl _))
      obtain ⟨hr0, hr1⟩ := cmpLL_bd (frmL xss n (k + 1)) (lstTo xss n k)
      by_cases hc : cmpLL (frmL xss n (k + 1)) (lstTo xss n k) < 0
      · have HE := Lib.hid (show lstTo xss n (k + 1) = frmL xss n (k + 1) by rw [lstTo, if_pos hc])
        obtain ⟨r, hr⟩ : ∃ r, cmpLL (frmL xss n (k + 1)) (lstTo xss n k) = r := ⟨_, rfl⟩
        rw [hr] at hc hr0 hr1 ⊢
        have hlt0 : decide (r < 0) = true := decide_eq_true hc
        clear hr
        have hfr := S4.out.free
        have hcb := S4.out.cell
        have hc5 := cell_be (Bx.start w3 (.slice A3 N c3) 26).cell bel4
        have S5 := Lib.hid (S4.out.put OW4.out (by omega) (by omega) (Nat.le_trans (by simp) bel4.size))
        clear hc bel4
        go_wp2
        go_roundw
        case rel => exact ⟨k + 1, c3, A3, hlt, by go_num, by rw [HE.out]; exact S5.out⟩
        case measure => simp [intOf]; omega
      · have HE := Lib.hid (show lstTo xss n (k + 1) = lstTo xss n k by rw [lstTo, if_neg hc])
        obtain ⟨r, hr⟩ : ∃ r, cmpLL (frmL xss n (k + 1)) (lstTo xss n k) = r := ⟨_, rfl⟩
        rw [hr] at hc hr0 hr1 ⊢
        have hlt0 : decide (r < 0) = false := decide_eq_false hc
        clear hr
        clear hc bel4
        go_wp2
        go_roundw
        case rel => exact ⟨k + 1, c', A', hlt, by go_num, by rw [HE.out]; exact S4.out⟩
        case measure => simp [intOf]; omega
    · obtain rfl : n = k + 1 := by omega
      have hge : ¬ ((k : Int) + 1 < ((k + 1 : Nat) : Int)) := by omega
      have hc1 := S2.out.bx.cell1
      have hf1 := S2.out.bx.free1
      have hcb := S2.out.cell
      have HLL := Lib.hid (show (lstTo xss (k + 1) k).length = N by rw [lstTo_len, HX.out])
      clear hlt
      go_wp2
      exact bodyPost_ret (v := .agg #[.slice A' N c']) (by simp [results, Try.results167, go_sem, hc1]) rfl (lst2_done S2.out HLL.out _)
end Go.Proofs.Ytmikoihpmhfafaa
namespace Go.Proofs.Ytmikoihpmhfafaa
open Go.RowKit

noncomputable def lfR (xss : List (List Int)) : List (List Int) := if okMan xss then lstTo xss (flN xss) (flN xss - 1) else []
theorem lfR_le (xss : List (List Int)) : (lfR xss).length ≤ 1048576 ∧ ∀ xs ∈ lfR xss, (xs.length : Int) ≤ 1048576 := by
  unfold lfR
  split
  · rename_i h
    have hm := okMan_iff.1 h
    have h1 := hm.r5
    have h2 := hm.f2
    exact ⟨by rw [lstTo_len]; omega, rows_le (lstTo_row (fun q hq => hm.all hq) _ (by omega)) hm.f4⟩
  · simp

set_option maxHeartbeats 1600000 in
theorem iLeastForm_any {A : Option Addr} {c N : Nat} {xss : List (List Int)} (w : World) (hx : xss.length = N) (ha : RdSS w A xss) (hN : N ≤ 1048576) (hr : ∀ xs ∈ xss, (xs.length : Int) ≤ 1048576) :
    Calls Try.prog 110 #[.agg #[.slice A N c]] w (RetMC w (lfR xss) (manC xss)) := by
  have HX := Lib.hid hx
  have HA := Lib.hid ha
  have HR := Lib.hid hr
  cases ho : okMan xss
  · have h1 : lfR xss = [] := by simp [lfR, ho]
    have h2 : manC xss = 1 := by simp [manC, ho]
    have BX0 := Lib.hid (Bx2.start w (.slice A N c))
    rw [h1, h2]
    have HO := Lib.hid ho
    clear hx ha hr ho h1 h2
    go_enter Try.func110, Try.ntmps110
    go_wp2_with fail
    refine (iMan_any _ HX.out ((HA.out.al _).al _) hN HR.out).mono ?_
    rintro e w1 ⟨rfl, bel⟩
    rw [HO.out]
    have BX1 := Lib.hid (BX0.out.go bel)
    clear bel
    have hc1 := BX1.out.cell1
    have hf1 := BX1.out.free1
    have hbz := BX1.out.size
    go_wp2
    exact bodyPost_ret (v := .tuple #[.agg #[.slice none 0 0], .int .i64 1]) (by simp [results, Try.results110, go_sem, hc1]) rfl (retMC_no BX1.out 1 _)
  · have hman := okMan_iff.1 ho
    have hsys := hman.sys
    have hn4 := hman.f4
    have hn2 := hman.f2
    have hpos := hman.pos hx
    have hallq : ∀ q : Nat, q < flN xss → (orbL xss (flN xss) q).length = flN xss := fun q hq => hman.all hq
    obtain ⟨b, o, A0, c0, rfl, hc0⟩ := man_row0 hman ha
    obtain ⟨n, hn⟩ : ∃ n, flN xss = n := ⟨_, rfl⟩
    rw [hn] at hc0 hsys hn4 hn2 hallq
    have HC0 := Lib.hid hc0
    have HO := Lib.hid ho
    have HSY := Lib.hid hsys
    have HALLQ := Lib.hid hallq
    have HMAN := Lib.hid hman
    have BX0 := Lib.hid (Bx2.start w (.slice (some ⟨b, o, none⟩) N c))
    have hn6 : n ≤ 1048576 := by omega
    have h1 : lfR xss = lstTo xss n (n - 1) := by simp [lfR, ho, hn]
    have h2 : manC xss = 0 := by simp [manC, ho]
    rw [h1, h2]
    clear hx ha hr ho hman hn hc0 hsys hallq h1 h2
    go_enter Try.func110, Try.ntmps110
    go_wp2_with fail
    refine (iMan_any _ HX.out ((HA.out.al _).al _) hN HR.out).mono ?_
    rintro e w1 ⟨rfl, bel⟩
    rw [HO.out]
    have BX1 := Lib.hid (BX0.out.go bel)
    clear bel
    have HC1 := Lib.hid (cell_be HC0.out BX1.out.below)
    have hbc := BX1.out.cell
    have HAB := Lib.hid (HA.out.keep BX1.out.below)
    go_wp2_with fail
    refine (ileast_any _ HX.out HAB.out HSY.out HC1.out hpos (by omega) HALLQ.out).mono ?_
    rintro e w9 ⟨A9, c9, rfl, own, bel⟩
    have OWN := Lib.hid own
    have BX9 := Lib.hid (BX1.out.go bel)
    have hsz := BX1.out.size
    have hc1 := BX9.out.cell1
    have hf1 := BX9.out.free1
    have hbz := BX9.out.size
    clear own bel hbc
    go_wp2
    exact bodyPost_ret (v := .tuple #[.agg #[.slice A9 _ c9], .int .i64 0]) (by simp [results, Try.results110, go_sem, hc1]) rfl (retMC_yes BX9.out OWN.out hsz (Nat.le_refl _) _ 0)
end Go.Proofs.Ytmikoihpmhfafaa
