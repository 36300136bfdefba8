import Derived.Test.YtmgoaabeopnopaaL8
import Derived.StillTailTactics
/- What holds while the moves of a renumbered maniplex are made: facts outside the walks. -/
namespace Go.Proofs.Ytmgoaabeopnopaa
open Go.RowKit

/-- What a call gives back that makes a maniplex. -/
def RetM (w : World) (L : List (List Int)) (e : Ending) (w' : World) : Prop :=
  ∃ A c, e = .returned (.agg #[.slice A L.length c]) ∧ OwnSS w' w.heap.size w'.heap.size 36 A L.length c L ∧ Below w.heap.size w w'
def RetMC (w : World) (L : List (List Int)) (C : Int) (e : Ending) (w' : World) : Prop :=
  ∃ A c, e = .returned (.tuple #[.agg #[.slice A L.length c], .int .i64 C]) ∧ OwnSS w' w.heap.size w'.heap.size 36 A L.length c L ∧ Below w.heap.size w w'

/-- The struct that came in, the one that is answered and the one that is made lie in the first three blocks behind w. -/
structure NSt (w wr : World) (v : Value) (hi : Nat) (A : Option Addr) (k c : Nat) (L : List (List Int)) : Prop where
  bel : Below (w.heap.size + 2) ((w.alloc (.cells #[v] 27)).alloc (.cells #[.slice none 0 0] 27)) wr
  out : wr.ownsRow (w.heap.size + 2) 27 1 (.slice (some ⟨w.heap.size + 1 + 1, 0, none⟩) 1 1) 1 [.slice A k c]
  rows : OwnSS wr (w.heap.size + 3) hi 36 A k c L
  hi3 : w.heap.size + 3 ≤ hi
  his : hi ≤ wr.heap.size
section
variable {w wr w2 : World} {v : Value} {hi k c : Nat} {A : Option Addr} {L : List (List Int)}
theorem NSt.go (h : NSt w wr v hi A k c L) (hb : Below wr.heap.size wr w2) : NSt w w2 v hi A k c L :=
  ⟨h.bel.trans (hb.mono (by have := h.hi3; have := h.his; omega)), own_below h.out hb (Nat.le_refl _), ownSS_below h.rows hb (Nat.le_refl _), h.hi3, Nat.le_trans h.his hb.size⟩
theorem NSt.below (h : NSt w wr v hi A k c L) : Below w.heap.size w wr := (below2 w _ _).trans (h.bel.mono (by omega))
theorem NSt.size (h : NSt w wr v hi A k c L) : w.heap.size + 3 ≤ wr.heap.size := Nat.le_trans h.hi3 h.his
theorem NSt.cell0 (h : NSt w wr v hi A k c L) : wr.cell? ⟨w.heap.size, 0, none⟩ = some v :=
  (h.bel.cell (p := ⟨w.heap.size, 0, none⟩) (by simp)).trans (cell_al (Bx.start w v 27).cell _)
theorem NSt.cell1 (h : NSt w wr v hi A k c L) : wr.cell? ⟨w.heap.size + 1, 0, none⟩ = some (.slice none 0 0) :=
  (h.bel.cell (p := ⟨w.heap.size + 1, 0, none⟩) (by simp)).trans (by simp)
theorem NSt.free1 (h : NSt w wr v hi A k c L) : wr.frozen? ⟨w.heap.size + 1, 0, none⟩ = false :=
  (h.bel.frozen (p := ⟨w.heap.size + 1, 0, none⟩) (by simp)).trans (by simp)
theorem NSt.cell2 (h : NSt w wr v hi A k c L) : wr.cell? ⟨w.heap.size + 1 + 1, 0, none⟩ = some (.slice A k c) := own_cell h.out rfl
theorem NSt.free2 (h : NSt w wr v hi A k c L) : wr.frozen? ⟨w.heap.size + 1 + 1, 0, none⟩ = false := h.out.frozenAt 0
theorem nst_start (w : World) (v : Value) : NSt w (((w.alloc (.cells #[v] 27)).alloc (.cells #[.slice none 0 0] 27)).alloc (.cells #[.slice none 0 0] 27)) v (w.heap.size + 3) none 0 0 [] := by
  have h2 := World.ownsRow_lit (base := w.heap.size + 2) (e := 27) (size := 1) ((w.alloc (.cells #[v] 27)).alloc (.cells #[.slice none 0 0] 27)) #[.slice none 0 0] 1 (by simp) (by decide) (by simp)
  exact ⟨(Below.refl _ _).alloc (by simp) _, by simpa using h2, ownSS_nil _ _ _ _, Nat.le_refl _, by simp⟩
/-- One row is filled. -/
structure NIn (w wr : World) (v : Value) (g : Nat) (A : Option Addr) (k c n : Nat) (L : List (List Int)) (D : List Int) : Prop where
  st : NSt w wr v g A k c L
  row : wr.ownsRow g 2 1 (.slice (some ⟨g, 0, none⟩) n n) n (ints D)
theorem nin_start {n : Nat} (h : NSt w wr v hi A k c L) (hn : n ≤ 400) : NIn w (wr.alloc (.cells (madeCells #[.int .i64 0] n) 2)) v wr.heap.size A k c n L (List.replicate n 0) := by
  have h1 := h.go (below1 wr (.cells (madeCells #[.int .i64 0] n) 2))
  exact ⟨⟨h1.bel, h1.out, ownSS_wide h1.rows (Nat.le_refl _) h.his, h.size, by simp⟩, by simpa using make_own wr (.int .i64 0) n 2 (by unfold maxLen; omega)⟩
theorem NIn.go {n g : Nat} {D : List Int} (h : NIn w wr v g A k c n L D) (hb : Below wr.heap.size wr w2) : NIn w w2 v g A k c n L D := ⟨h.st.go hb, own_below h.row hb (Nat.le_refl _)⟩
theorem NIn.set {n g : Nat} {D : List Int} (h : NIn w wr v g A k c n L D) (q : Nat) (x : Int) : NIn w (wr.setCell ⟨g, q, none⟩ (.int .i64 x)) v g A k c n L (D.set q x) := by
  have hst := h.row.stored q (.int .i64 x)
  refine ⟨⟨h.st.bel.setCell (p := ⟨g, q, none⟩) (show w.heap.size + 2 ≤ g by have := h.st.hi3; omega) _, h.st.out.kept hst.2 (own_ne h.st.out h.row (by decide)), h.st.rows.turns2 q g _ (.inr (Nat.le_refl _)), h.st.hi3, by have := h.st.his; simpa using this⟩, by have h1 := hst.1; rwa [ints_set] at h1⟩
/-- The row is put behind the others, and the struct that is made has the new slice. -/
theorem nin_push {n g c2 : Nat} {A2 : Option Addr} {D : List Int} {o : Obj} {w4 : World} (h : NIn w wr v g A k c n L D) (hD : D.length = n)
    (hnew : ∀ vals, wr.ownsRow (w.heap.size + 3) 36 1 (.slice A k c) k vals → w4.ownsRow (w.heap.size + 3) 36 1 (.slice A2 (k + 1) c2) (k + 1) (vals ++ [.slice (some ⟨g, 0, none⟩) n n])) (hg : (wr.alloc o).grownBy w4 (Value.slice A k c).ownBlock) :
    (w4.cell? ⟨w.heap.size + 1 + 1, 0, none⟩ = some (.slice A k c) ∧ w4.frozen? ⟨w.heap.size + 1 + 1, 0, none⟩ = false) ∧
    NSt w (w4.setCell ⟨w.heap.size + 1 + 1, 0, none⟩ (.slice A2 (k + 1) c2)) v w4.heap.size A2 (k + 1) c2 (L ++ [D]) := by
  subst hD
  have hr := ownSS_push (xs := D) h.st.rows (by decide) h.row (Nat.le_refl _) h.st.hi3 hnew hg
  obtain ⟨vals, hv, hvin, _⟩ := h.st.rows
  have ho := (h.st.out.alloc o).kept hg (own_ne (h.st.out.alloc o) (hv.alloc o) (by decide))
  have hst := ho.stored 0 (.slice A2 (k + 1) c2)
  have hgz := hg.size
  have hz := h.st.size
  have hb : Below (w.heap.size + 2) ((w.alloc (.cells #[v] 27)).alloc (.cells #[.slice none 0 0] 27)) w4 :=
    (h.st.bel.alloc (by omega) o).grown hg (by simp; omega) fun q hq => by have := (hvin q hq).1; omega
  refine ⟨⟨own_cell ho rfl, ho.frozenAt 0⟩, hb.setCell (p := ⟨w.heap.size + 1 + 1, 0, none⟩) (Nat.le_refl _) _, by simpa using hst.1, hr.turns2 0 (w.heap.size + 2) _ (.inl (by omega)), ?_, by simp⟩
  simp at hgz
  omega
/-- The struct is answered. -/
theorem nst_done (h : NSt w wr v hi A k c L) (hk : L.length = k) : RetM w L (.returned (.agg #[.slice A k c])) (wr.setCell ⟨w.heap.size + 1, 0, none⟩ (.slice A k c)) := by
  subst hk
  exact ⟨A, c, rfl, ownSS_wide (h.rows.turns2 0 (w.heap.size + 1) _ (.inl (by omega))) (by omega) (by have := h.his; simpa using this), ((below2 w _ _).trans (h.bel.mono (by omega))).setCell (p := ⟨w.heap.size + 1, 0, none⟩) (by simp) _⟩
end
end Go.Proofs.Ytmgoaabeopnopaa
namespace Go.Proofs.Ytmgoaabeopnopaa
open Go.RowKit

theorem take_renM {xss : List (List Int)} {p m : List Int} {k : Nat} (h : xss[k]? = some m) : (renM xss p).take (k + 1) = (renM xss p).take k ++ [conjL m p] := by
  rw [List.take_add_one, renM_at h]; rfl

set_option maxHeartbeats 3200000 in
set_option maxRecDepth 8000 in
theorem sren_any {b o c N n c2 : Nat} {A2 : Option Addr} {xss : List (List Int)} {p : List Int} (w : World) (hx : xss.length = N) (ha : RdSS w (some ⟨b, o, none⟩) xss) (hsys : okSys n xss = true) (hp : p.length = n) (ha2 : Rd w A2 (ints p)) (okp : okP p = true) :
    Calls Try.prog 160 #[.agg #[.slice (some ⟨b, o, none⟩) N c], .slice A2 n c2] w (RetM w (renM xss p)) := by
  have hN := (sys_parts hsys).2.2.1
  rw [hx] at hN
  have hn4 : n ≤ 400 := by have := (sys_parts hsys).2.1; omega
  have HX := Lib.hid hx
  have HA := Lib.hid ha
  have HS := Lib.hid hsys
  have HP := Lib.hid hp
  have HA2 := Lib.hid ha2
  have OP := Lib.hid okp
  have ST0 := Lib.hid (nst_start w (.slice (some ⟨b, o, none⟩) N c))
  have hmk := run_make_row' (P := Try.prog) 36 2 (.int .i64 0) 8 Try.underlying36 Try.info2 rfl .i64 .i64 n (by omega) (by omega)
  clear hx ha hsys hp ha2 okp
  go_enter Try.func160, Try.ntmps160
  go_wp2
  go_loopw [6] (fun i wr => ∃ (k hi c' : Nat) (A' : Option Addr), k ≤ N ∧ i = .int .i64 k ∧ NSt w wr (.slice (some ⟨b, o, none⟩) N c) hi A' k c' ((renM xss p).take k)) (fun i _ => N - (intOf i).toNat)
  case atStart => exact ⟨0, _, _, _, Nat.zero_le _, rfl, by simpa using ST0.out⟩
  case round =>
    obtain ⟨k, hi, c', A', hk, rfl, st⟩ := hrel
    have S := Lib.hid st
    have hbc := st.cell0
    clear st ST0
    by_cases hlt : k < N
    · obtain ⟨b3, o3, A4, c4, m, he, hg, hc, hrd, hms⟩ := (HA.out.keep S.out.below).row (k := k) (by rw [HX.out]; exact hlt)
      obtain ⟨rfl, rfl⟩ : b = b3 ∧ o = o3 := by simpa using he
      have hlg := sys_len HS.out hg
      obtain ⟨l, hl⟩ : ∃ l, m.length = l := ⟨_, rfl⟩
      rw [hl] at hc hms hlg
      obtain rfl : n = l := by omega
      have HG := Lib.hid hg
      have HL := Lib.hid hl
      have OM := Lib.hid ((sys_parts HS.out).2.2.2 m (List.mem_of_getElem? hg)).2
      have IN0 := Lib.hid (nin_start (n := n) S.out hn4)
      have hsz := S.out.size
      clear he hg hl hrd hc hlg
      obtain ⟨wo, rfl⟩ : ∃ wo : World, wo = wr := ⟨_, rfl⟩
      obtain ⟨g, hgg⟩ : ∃ g : Nat, wo.heap.size = g := ⟨_, rfl⟩
      rw [hgg] at IN0 hsz
      go_wp2
      clear hgg
      go_loopw [8] (fun q wi => ∃ f : Nat, f ≤ n ∧ q = .int .i64 f ∧ NIn w wi (.slice (some ⟨b, o, none⟩) N c) g A' k c' n ((renM xss p).take k) (renTo m p n f)) (fun q _ => n - (intOf q).toNat)
      case atStart => exact ⟨0, Nat.zero_le _, rfl, IN0.out⟩
      case round =>
        obtain ⟨f, hf, rfl, ni⟩ := hrel
        have I := Lib.hid ni
        have hbc := ni.st.cell0
        clear ni IN0
        by_cases hfn : f < n
        · obtain ⟨b3, o3, A4, c4, m2, he, hg, hc, hrd, hms⟩ := (HA.out.keep I.out.st.below).row (k := k) (by rw [HX.out]; exact hlt)
          obtain ⟨rfl, rfl⟩ : b = b3 ∧ o = o3 := by simpa using he
          obtain rfl : m2 = m := by rw [HG.out] at hg; injection hg with hg; exact hg.symm
          rw [HL.out] at hc
          obtain ⟨b4, o4, x, rfl, hgx, hcx⟩ := (HA2.out.keep I.out.st.below).int (k := f) (by rw [HP.out]; exact hfn)
          obtain ⟨x, rfl, hxn⟩ := okP_at OP.out HP.out hgx
          obtain ⟨b5, o5, y, rfl, hgy, hcy⟩ := hrd.int (k := f) (by rw [HL.out]; exact hfn)
          obtain ⟨y, rfl, hyn⟩ := okP_at OM.out HL.out hgy
          obtain ⟨b6, o6, z, he6, hgz, hcz⟩ := (HA2.out.keep I.out.st.below).int (k := y) (by rw [HP.out]; exact hyn)
          obtain ⟨rfl, rfl⟩ : b4 = b6 ∧ o4 = o6 := by simpa using he6
          obtain ⟨u, hu⟩ := ints_at (renTo_length m2 p n f) hxn
          have hcg := own_cell I.out.row hu
          have hfr := I.out.row.frozenAt x
          have HE := Lib.hid (renTo_succ (n := n) hgx hgy hgz)
          have I2 := Lib.hid ((I.out.go (below_drewN (Below.refl _ _) 1)).set x z)
          clear he hg hrd hgx hgy hgz he6 hu
          go_wp2
          go_still_tail 17, (by kernel_rfl)
          go_wp2
          go_roundw
          case rel => exact ⟨f + 1, by omega, by go_num, by rw [← HE.out]; exact I2.out⟩
          case measure => simp [intOf]; omega
        · obtain rfl : f = n := by omega
          have HE := Lib.hid (renTo_all (m := m) HL.out HP.out OM.out OP.out)
          have h := I.out
          rw [HE.out] at h
          have I2 := Lib.hid h
          clear h I
          have hc2 := I2.out.st.cell2
          obtain ⟨vals, hv, hvin, hvr⟩ := I2.out.st.rows
          have VR := Lib.hid hv
          have hz := I2.out.st.size
          have HDL := Lib.hid (conj_len (xs := m) HP.out)
          clear hv hvin hvr
          go_wp2_with (at_builtin; refine wpList_push2 _ rfl _ _ 22 36 rfl Try.underlying22 (.slice none 0 0) 24 Try.infoS rfl (w.heap.size + 3) _ _ _ rfl VR.out _ rfl rfl (by omega) (by omega) (by omega) ?_)
          intro A5 c5 w4 own4 gr4
          obtain ⟨⟨hc4, hf4⟩, st4⟩ := nin_push I2.out HDL.out (fun vals' h' => by rw [row_unique h' VR.out]; exact own4) gr4
          have S4 := Lib.hid st4
          have HT := Lib.hid (take_renM (p := p) HG.out)
          clear own4 gr4 st4 hc2
          go_wp2
          go_roundw
          case rel => exact ⟨k + 1, _, c5, A5, by omega, by go_num, by rw [HT.out]; exact S4.out⟩
          case measure => simp [intOf]; omega
    · obtain rfl : k = N := by omega
      have h := S.out
      rw [List.take_of_length_le (by rw [renM_length, HX.out]; omega)] at h
      have S2 := Lib.hid h
      have hc1 := h.cell1
      have hf1 := h.free1
      have hc2 := h.cell2
      have HLL := Lib.hid (show (renM xss p).length = k by rw [renM_length, HX.out])
      clear h
      go_wp2
      exact bodyPost_ret (v := .agg #[.slice A' k c']) (by simp [results, Try.results160, go_sem, hc1]) rfl (nst_done S2.out HLL.out)
end Go.Proofs.Ytmgoaabeopnopaa
namespace Go.Proofs.Ytmgoaabeopnopaa
open Go.RowKit

theorem ssto_bel {w wr : World} {n k : Nat} {xss : List (List Int)} (h : SSTo w wr n k xss) : Below w.heap.size w wr := by obtain ⟨_, _, _, _, _, _, h⟩ := h; exact h
set_option maxHeartbeats 3200000 in
set_option maxRecDepth 8000 in
theorem iren_any {b o c N n c2 : Nat} {A2 : Option Addr} {xss : List (List Int)} {p : List Int} (w : World) (hx : xss.length = N) (ha : RdSS w (some ⟨b, o, none⟩) xss) (hsys : okSys n xss = true) (hp : p.length = n) (ha2 : Rd w A2 (ints p)) (okp : okP p = true) :
    Calls Try.prog 185 #[.agg #[.slice (some ⟨b, o, none⟩) N c], .slice A2 n c2] w (RetM w (renM xss p)) := by
  have hN := (sys_parts hsys).2.2.1
  rw [hx] at hN
  have hn4 : n ≤ 400 := by have := (sys_parts hsys).2.1; omega
  have HX := Lib.hid hx
  have HA := Lib.hid ha
  have HS := Lib.hid hsys
  have HP := Lib.hid hp
  have HA2 := Lib.hid ha2
  have OP := Lib.hid okp
  have HIL := Lib.hid (show (invL p).length = n by rw [invL_len, hp])
  have HIR := Lib.hid (show InR (invL p) n by have := inR_inv p; rwa [hp] at this)
  have HPR := Lib.hid (show InR p n by have := inR_ok okp; rwa [hp] at this)
  have hmk := run_make_row' (P := Try.prog) 22 36 (.slice none 0 0) 24 Try.underlying22 Try.infoS rfl .i64 .i64 N (by omega) (by omega)
  clear hx ha hsys hp ha2 okp
  have hc0 := cell_al (Bx.start w (.slice (some ⟨b, o, none⟩) N c) 27).cell (.cells #[.slice none 0 0] 27)
  go_enter Try.func185, Try.ntmps185
  go_wp2_with fail
  refine (inverse_any _ HP.out (HA2.out.keep (below2 w _ _)) (by omega) OP.out).mono ?_
  rintro e w1 ⟨A3, c3, rfl, own, bel⟩
  rw [HIL.out] at own ⊢
  have OB := Lib.hid own
  have B1 := Lib.hid ((below2 w (.cells #[.slice (some ⟨b, o, none⟩) N c] 27) (.cells #[.slice none 0 0] 27)).trans (bel.mono (by simp; omega)))
  have hc0 := cell_be hc0 bel
  have hr1 : w1.cell? ⟨w.heap.size + 1, 0, none⟩ = some (.slice none 0 0) := (bel.cell (p := ⟨w.heap.size + 1, 0, none⟩) (by simp)).trans (by simp)
  have hf1 : w1.frozen? ⟨w.heap.size + 1, 0, none⟩ = false := (bel.frozen (p := ⟨w.heap.size + 1, 0, none⟩) (by simp)).trans (by simp)
  have hz1 : w.heap.size + 2 ≤ w1.heap.size := by have := bel.size; simp at this; omega
  clear own bel
  go_wp2_with fail
  refine (rank_any _).mono ?_
  rintro e w' ⟨rfl, rfl⟩
  obtain ⟨W, hW⟩ : ∃ W : World, W = w1.alloc (.cells #[.slice (some ⟨b, o, none⟩) N c] 27) := ⟨_, rfl⟩
  have HC0 := Lib.hid (hW ▸ cell_al hc0 _)
  have HR1 := Lib.hid (hW ▸ cell_al hr1 _)
  have HF1 := Lib.hid (show W.frozen? ⟨w.heap.size + 1, 0, none⟩ = false by rw [hW]; exact ((below1 w1 _).frozen (p := ⟨w.heap.size + 1, 0, none⟩) (show w.heap.size + 1 < w1.heap.size by omega)).trans hf1)
  have OBW := Lib.hid (show W.ownsRow (w.heap.size + 2) 2 1 (.slice A3 n c3) n (ints (invL p)) by rw [hW]; exact own_below (own_base OB.out (by simp)) (below1 _ _) (Nat.le_refl _))
  have BW := Lib.hid (show Below w.heap.size w W by rw [hW]; exact B1.out.trans ((below1 w1 _).mono B1.out.size))
  have HZW := Lib.hid (show w.heap.size + 2 ≤ W.heap.size by rw [hW]; simp; omega)
  rw [← hW]
  have ST0 := Lib.hid (ssto_start W N (renM xss p) (by unfold maxLen; omega))
  have hc := cell_be HC0.out (ssto_bel ST0.out)
  clear hW hc0 hr1 hf1 OB B1 hz1
  go_wp2
  clear hmk hc
  go_loopw [17] (fun i wr => ∃ k : Nat, k ≤ N ∧ i = .int .i64 k ∧ SSTo W wr N k (renM xss p)) (fun i _ => N - (intOf i).toNat)
  case atStart => exact ⟨0, Nat.zero_le _, rfl, ST0.out⟩
  case round =>
    obtain ⟨k, hk, rfl, st⟩ := hrel
    have S := Lib.hid st
    have BS := Lib.hid (ssto_bel st)
    have BR := Lib.hid (BW.out.trans ((ssto_bel st).mono BW.out.size))
    clear st ST0
    by_cases hlt : k < N
    · obtain ⟨b3, o3, A4, c4, m, he, hg, hc, hrd, hms⟩ := (HA.out.keep BR.out).row (k := k) (by rw [HX.out]; exact hlt)
      obtain ⟨rfl, rfl⟩ : b = b3 ∧ o = o3 := by simpa using he
      have hlg := sys_len HS.out hg
      obtain ⟨l, hl⟩ : ∃ l, m.length = l := ⟨_, rfl⟩
      rw [hl] at hc hms hlg
      obtain rfl : n = l := by omega
      have HG := Lib.hid (renM_at (p := p) hg)
      have HL := Lib.hid hl
      have HRD := Lib.hid hrd
      have HMR := Lib.hid (show InR m n by have := inR_ok ((sys_parts HS.out).2.2.2 m (List.mem_of_getElem? hg)).2; rwa [hl] at this)
      have OBR := Lib.hid (own_below OBW.out BS.out (Nat.le_refl _))
      clear he hg hl hrd hlg
      go_wp2_with fail
      refine (ithen_any _ HIL.out (own_rd OBR.out) (by omega) HL.out HRD.out HIR.out).mono ?_
      rintro e wa ⟨Aa, ca, rfl, owna, bela⟩
      rw [thenL_length, HIL.out] at owna ⊢
      have OA := Lib.hid owna
      have BA := Lib.hid bela
      have HTL := Lib.hid (show (thenL (invL p) m).length = n by rw [thenL_length, HIL.out])
      have HTR := Lib.hid (inR_then (m := n) (HL.out.symm ▸ HIR.out) HMR.out)
      clear owna bela hc
      go_wp2_with fail
      refine (ithen_any _ HTL.out (own_rd OA.out) (by omega) HP.out (HA2.out.keep (BR.out.trans (BA.out.mono BR.out.size))) HTR.out).mono ?_
      rintro e wb ⟨Ab, cb, rfl, ownb, belb⟩
      rw [thenL_length, HTL.out] at ownb ⊢
      have HCL := Lib.hid (conj_len (xs := m) HP.out)
      obtain ⟨⟨hcc, hff⟩, st2⟩ := ssto_step (A1 := Ab) (c1 := cb) S.out hlt HG.out (BA.out.trans (belb.mono BA.out.size)) (by rw [HCL.out]; exact own_base ownb BA.out.size)
      rw [HCL.out] at st2
      have S2 := Lib.hid st2
      clear ownb belb st2
      go_wp2
      go_roundw
      case rel => exact ⟨k + 1, by omega, by go_num, S2.out⟩
      case measure => simp [intOf]; omega
    · obtain rfl : k = N := by omega
      obtain ⟨own, bel⟩ := ssto_done S.out (Nat.le_refl _) (by rw [renM_length, HX.out])
      have OW := Lib.hid own
      have HLL := Lib.hid (show (renM xss p).length = k by rw [renM_length, HX.out])
      have hr1 := cell_be HR1.out bel
      have hf1 : wr.frozen? ⟨w.heap.size + 1, 0, none⟩ = false := (bel.frozen (p := ⟨w.heap.size + 1, 0, none⟩) (show w.heap.size + 1 < W.heap.size by have := HZW.out; omega)).trans HF1.out
      clear own bel
      go_wp2
      refine bodyPost_ret (v := .agg #[.slice (some ⟨W.heap.size, 0, none⟩) k k]) (by simp [results, Try.results185, go_sem, hr1]) rfl ⟨_, k, by rw [HLL.out], ?_, ?_⟩
      · rw [HLL.out]
        exact ownSS_wide (OW.out.turns2 0 (w.heap.size + 1) _ (.inl (by have := HZW.out; omega))) BW.out.size (by simp)
      · exact BR.out.setCell (p := ⟨w.heap.size + 1, 0, none⟩) (by simp) _
end Go.Proofs.Ytmgoaabeopnopaa
/- A struct that came in and one that is answered, in the first two blocks behind the world. -/
namespace Go.Proofs.Ytmgoaabeopnopaa
open Go.RowKit

structure Bx2 (w wr : World) (v : Value) : Prop where
  bel : Below (w.heap.size + 2) ((w.alloc (.cells #[v] 27)).alloc (.cells #[.slice none 0 0] 27)) wr
section
variable {w wr w2 : World} {v : Value}
theorem Bx2.start (w : World) (v : Value) : Bx2 w ((w.alloc (.cells #[v] 27)).alloc (.cells #[.slice none 0 0] 27)) v := ⟨Below.refl _ _⟩
theorem Bx2.below (h : Bx2 w wr v) : Below w.heap.size w wr := (below2 w _ _).trans (h.bel.mono (by omega))
theorem Bx2.size (h : Bx2 w wr v) : w.heap.size + 2 ≤ wr.heap.size := by have := h.bel.size; simp at this; omega
theorem Bx2.go (h : Bx2 w wr v) (hb : Below wr.heap.size wr w2) : Bx2 w w2 v := ⟨h.bel.trans (hb.mono h.size)⟩
theorem Bx2.cell (h : Bx2 w wr v) : wr.cell? ⟨w.heap.size, 0, none⟩ = some v :=
  (h.bel.cell (p := ⟨w.heap.size, 0, none⟩) (by simp)).trans (cell_al (Bx.start w v 27).cell _)
theorem Bx2.cell1 (h : Bx2 w wr v) : wr.cell? ⟨w.heap.size + 1, 0, none⟩ = some (.slice none 0 0) :=
  (h.bel.cell (p := ⟨w.heap.size + 1, 0, none⟩) (by simp)).trans (by simp)
theorem Bx2.free1 (h : Bx2 w wr v) : wr.frozen? ⟨w.heap.size + 1, 0, none⟩ = false :=
  (h.bel.frozen (p := ⟨w.heap.size + 1, 0, none⟩) (by simp)).trans (by simp)
theorem Bx2.set (h : Bx2 w wr v) (x : Value) : Below w.heap.size w (wr.setCell ⟨w.heap.size + 1, 0, none⟩ x) := h.below.setCell (p := ⟨w.heap.size + 1, 0, none⟩) (by simp) _
theorem retMC_no (h : Bx2 w wr v) (C : Int) (x : Value) : RetMC w [] C (.returned (.tuple #[.agg #[.slice none 0 0], .int .i64 C])) (wr.setCell ⟨w.heap.size + 1, 0, none⟩ x) :=
  ⟨none, 0, rfl, ownSS_nil _ _ _ _, h.set x⟩
theorem retMC_yes {L : List (List Int)} {A : Option Addr} {c base hi : Nat} (h : Bx2 w wr v) (own : OwnSS wr base hi 36 A L.length c L) (hb : w.heap.size + 2 ≤ base) (hh : hi ≤ wr.heap.size) (x : Value) (C : Int) :
    RetMC w L C (.returned (.tuple #[.agg #[.slice A L.length c], .int .i64 C])) (wr.setCell ⟨w.heap.size + 1, 0, none⟩ x) :=
  ⟨A, c, rfl, ownSS_wide (own.turns2 0 (w.heap.size + 1) _ (.inl (by omega))) (by omega) (by simpa using hh), h.set x⟩
theorem retM_yes {L : List (List Int)} {A : Option Addr} {c base hi : Nat} (h : Bx2 w wr v) (own : OwnSS wr base hi 36 A L.length c L) (hb : w.heap.size + 2 ≤ base) (hh : hi ≤ wr.heap.size) (x : Value) :
    RetM w L (.returned (.agg #[.slice A L.length c])) (wr.setCell ⟨w.heap.size + 1, 0, none⟩ x) :=
  ⟨A, c, rfl, ownSS_wide (own.turns2 0 (w.heap.size + 1) _ (.inl (by omega))) (by omega) (by simpa using hh), h.set x⟩
end
end Go.Proofs.Ytmgoaabeopnopaa
namespace Go.Proofs.Ytmgoaabeopnopaa
open Go.RowKit

theorem okP_orb {xss : List (List Int)} {n p : Nat} (hsys : okSys n xss = true) (hp : p < n) (hall : (orbL xss n p).length = n) : okP (orbL xss n p) = true := by
  have h := orb_passed hsys hp
  have h4 := (sys_parts hsys).2.1
  refine decide_eq_true ⟨by omega, fun x hx => ?_, h.2⟩
  rw [hall]
  exact h.1 x hx
/-- The form from a flag. -/
def frmL (xss : List (List Int)) (n p : Nat) : List (List Int) := renM xss (invL (orbL xss n p))
theorem inv_orb_len {xss : List (List Int)} {n p : Nat} (hall : (orbL xss n p).length = n) : (invL (orbL xss n p)).length = n := by rw [invL_len, hall]

set_option maxHeartbeats 3200000 in
set_option maxRecDepth 8000 in
theorem iform_any {b o c N n p : Nat} {xss : List (List Int)} (w : World) (hx : xss.length = N) (ha : RdSS w (some ⟨b, o, none⟩) xss) (hN : N ≤ 1048576) (hsys : okSys n xss = true) (hp : p < n) (hpos : 0 < N) (hall : (orbL xss n p).length = n) :
    Calls Try.prog 178 #[.agg #[.slice (some ⟨b, o, none⟩) N c], .int .i64 p] w (RetM w (frmL xss n p)) := by
  have OP := Lib.hid (okP_inv (okP_orb hsys hp hall))
  have OPO := Lib.hid (okP_orb hsys hp hall)
  have hn6 : n ≤ 1048576 := by have := (sys_parts hsys).2.1; omega
  have HX := Lib.hid hx
  have HA := Lib.hid ha
  have HS := Lib.hid hsys
  have HALL := Lib.hid hall
  have HIL := Lib.hid (inv_orb_len hall)
  have BX0 := Lib.hid (Bx2.start w (.slice (some ⟨b, o, none⟩) N c))
  have BXD := Lib.hid (show Bx2 w ((w.alloc (.cells #[.slice (some ⟨b, o, none⟩) N c] 27)).alloc (.cells #[.slice none 0 0] 27)).drew (.slice (some ⟨b, o, none⟩) N c) from BX0.out.go (below_drewN (Below.refl _ _) 1))
  have HAD := Lib.hid (ha.keep BXD.out.below)
  have hcb := (Bx2.start w (.slice (some ⟨b, o, none⟩) N c)).cell
  clear hx ha hsys hall
  go_enter Try.func178, Try.ntmps178
  go_wp2_with fail
  go_region_held3 (fun w' => w'.cell? ⟨w.heap.size, 0, none⟩ = some (.slice (some ⟨b, o, none⟩) N c)) (first | (exact hcb) | (exact q) | (go_keep; done))
    (first
      | (go_at_call 146
         (with_reducible refine (flagsFrom_any _ HX.out HAD.out hN HS.out hpos hp).mono ?_)
         rintro e w0 ⟨A0, c0, rfl, own0, bel0⟩
         rw [HALL.out] at own0 ⊢
         have bx0 := BXD.out.go bel0
         have q := bx0.cell)
      | (go_at_call 186
         (with_reducible refine (inverse_any _ HALL.out (own_rd own0) hn6 OPO.out).mono ?_)
         rintro e w1 ⟨A1, c1, rfl, own, bel⟩
         rw [HIL.out] at own ⊢
         have bx := bx0.go bel
         have q := bx.cell)
      | (go_at_call 185
         (with_reducible refine (iren_any _ HX.out (HA.out.keep bx.below) HS.out HIL.out (own_rd own) OP.out).mono ?_)
         rintro e w2 ⟨A2, c2, rfl, own2, bel2⟩
         have bx2 := bx.go bel2
         have q := bx2.cell
         have hc1 := bx2.cell1
         have hf1 := bx2.free1))
  go_wp2
  exact bodyPost_ret (v := .agg #[.slice A2 (renM xss (invL (orbL xss n p))).length c2]) (by simp [results, Try.results178, go_sem, hc1]) rfl (retM_yes bx2 own2 bx.size (Nat.le_refl _) _)
end Go.Proofs.Ytmgoaabeopnopaa
namespace Go.Proofs.Ytmgoaabeopnopaa
open Go.RowKit

noncomputable def ffR (xss : List (List Int)) (f : Int) : List (List Int) := if okMan xss then (if flagB (flN xss) f then frmL xss (flN xss) f.toNat else []) else []
noncomputable def ffC (xss : List (List Int)) (f : Int) : Int := if okMan xss then (if flagB (flN xss) f then 0 else 2) else 1
noncomputable def rnR (xss : List (List Int)) (p : List Int) : List (List Int) := if okMan xss then (if p.length = flN xss ∧ okP p = true then renM xss p else []) else []
noncomputable def rnC (xss : List (List Int)) (p : List Int) : Int := if okMan xss then (if p.length = flN xss ∧ okP p = true then 0 else 2) else 1
theorem man_small {xss : List (List Int)} {p : List Int} (h : IsMan xss) (hp : p.length = flN xss) : (renM xss p).length ≤ 1048576 ∧ ∀ xs ∈ renM xss p, (xs.length : Int) ≤ 1048576 := by
  have h1 := h.r5
  have h2 := h.f4
  refine ⟨by rw [renM_length]; omega, fun xs hx => ?_⟩
  rw [renM_row hp xs hx]
  omega
theorem ffR_le (xss : List (List Int)) (f : Int) : (ffR xss f).length ≤ 1048576 ∧ ∀ xs ∈ ffR xss f, (xs.length : Int) ≤ 1048576 := by
  unfold ffR
  split
  · rename_i h
    split
    · rename_i hf
      obtain ⟨p, rfl, hp⟩ := flagB_true hf
      have hm := okMan_iff.1 h
      exact man_small hm (inv_orb_len (hm.all hp))
    · simp
  · simp
theorem rnR_le (xss : List (List Int)) (p : List Int) : (rnR xss p).length ≤ 1048576 ∧ ∀ xs ∈ rnR xss p, (xs.length : Int) ≤ 1048576 := by
  unfold rnR
  split
  · rename_i h
    split
    · rename_i hp
      exact man_small (okMan_iff.1 h) hp.1
    · simp
  · simp

end Go.Proofs.Ytmgoaabeopnopaa
namespace Go.Proofs.Ytmgoaabeopnopaa
open Go.RowKit

/-- -1, 0 or 1, us the first list is before the second one, equal to it or behind it. -/
def cmpL : List Int → List Int → Int
  | [], [] => 0
  | [], _ :: _ => -1
  | _ :: _, [] => 1
  | x :: xs, y :: ys => if x < y then -1 else if y < x then 1 else cmpL xs ys
def cmpLL : List (List Int) → List (List Int) → Int
  | [], [] => 0
  | [], _ :: _ => -1
  | _ :: _, [] => 1
  | x :: xs, y :: ys => if cmpL x y = 0 then cmpLL xs ys else cmpL x y
theorem cmpL_zero : ∀ (a b : List Int), cmpL a b = 0 ↔ a = b
  | [], [] => by simp [cmpL]
  | [], _ :: _ => by simp [cmpL]
  | _ :: _, [] => by simp [cmpL]
  | x :: xs, y :: ys => by
    have ih := cmpL_zero xs ys
    unfold cmpL
    by_cases h1 : x < y
    · rw [if_pos h1]; simp; intro h; omega
    · rw [if_neg h1]
      by_cases h2 : y < x
      · rw [if_pos h2]; simp; intro h; omega
      · rw [if_neg h2, ih]
        have : x = y := by omega
        simp [this]
theorem cmpL_bd : ∀ (a b : List Int), -1 ≤ cmpL a b ∧ cmpL a b ≤ 1
  | [], [] => by simp [cmpL]
  | [], _ :: _ => by simp [cmpL]
  | _ :: _, [] => by simp [cmpL]
  | x :: xs, y :: ys => by
    have ih := cmpL_bd xs ys
    unfold cmpL
    split
    · omega
    · split
      · omega
      · exact ih
theorem cmpLL_bd : ∀ (a b : List (List Int)), -1 ≤ cmpLL a b ∧ cmpLL a b ≤ 1
  | [], [] => by simp [cmpLL]
  | [], _ :: _ => by simp [cmpLL]
  | _ :: _, [] => by simp [cmpLL]
  | x :: xs, y :: ys => by
    have ih := cmpLL_bd xs ys
    have h := cmpL_bd x y
    unfold cmpLL
    split
    · exact ih
    · exact h
section
variable {a b : List Int} {k : Nat} {x y : Int} {us vs : List (List Int)} {xs ys : List Int}
theorem cmpL_at (hx : a[k]? = some x) (hy : b[k]? = some y) : cmpL (a.drop k) (b.drop k) = if x < y then -1 else if y < x then 1 else cmpL (a.drop (k + 1)) (b.drop (k + 1)) := by
  obtain ⟨h1, h2⟩ := List.getElem?_eq_some_iff.1 hx
  obtain ⟨h3, h4⟩ := List.getElem?_eq_some_iff.1 hy
  rw [List.drop_eq_getElem_cons h1, List.drop_eq_getElem_cons h3, h2, h4]
  rfl
theorem cmpL_endl (ha : a.length ≤ k) : cmpL (a.drop k) (b.drop k) = if k < b.length then -1 else 0 := by
  rw [List.drop_of_length_le ha]
  split
  · rename_i h
    rw [List.drop_eq_getElem_cons h]; rfl
  · rename_i h
    rw [List.drop_of_length_le (by omega)]; rfl
theorem cmpL_endr (ha : k < a.length) (hb : b.length ≤ k) : cmpL (a.drop k) (b.drop k) = 1 := by
  rw [List.drop_of_length_le hb, List.drop_eq_getElem_cons ha]; rfl
theorem cmpLL_at (hx : us[k]? = some xs) (hy : vs[k]? = some ys) : cmpLL (us.drop k) (vs.drop k) = if cmpL xs ys = 0 then cmpLL (us.drop (k + 1)) (vs.drop (k + 1)) else cmpL xs ys := by
  obtain ⟨h1, h2⟩ := List.getElem?_eq_some_iff.1 hx
  obtain ⟨h3, h4⟩ := List.getElem?_eq_some_iff.1 hy
  rw [List.drop_eq_getElem_cons h1, List.drop_eq_getElem_cons h3, h2, h4]
  rfl
theorem cmpLL_endl (ha : us.length ≤ k) : cmpLL (us.drop k) (vs.drop k) = if k < vs.length then -1 else 0 := by
  rw [List.drop_of_length_le ha]
  split
  · rename_i h
    rw [List.drop_eq_getElem_cons h]; rfl
  · rename_i h
    rw [List.drop_of_length_le (by omega)]; rfl
theorem cmpLL_endr (ha : k < us.length) (hb : vs.length ≤ k) : cmpLL (us.drop k) (vs.drop k) = 1 := by
  rw [List.drop_of_length_le hb, List.drop_eq_getElem_cons ha]; rfl
end

set_option maxHeartbeats 800000 in
theorem same_any {A B : Option Addr} {c d n m : Nat} {xs ys : List Int} (w : World) (hx : xs.length = n) (hy : ys.length = m) (ha : Rd w A (ints xs)) (hb : Rd w B (ints ys)) (hn : n ≤ 1048576) (hm : m ≤ 1048576) :
    Calls Try.prog 149 #[.slice A n c, .slice B m d] w fun e w' => e = .returned (.bool (decide (xs = ys))) ∧ ∃ j, w' = w.drewN j := by
  have HX := Lib.hid hx
  have HY := Lib.hid hy
  have HA := Lib.hid ha
  have HB := Lib.hid hb
  clear ha hb
  by_cases hl : n = m
  · subst hl
    have hne : ((n : Int) != (n : Int)) = false := by simp
    clear hx hy
    go_enter Try.func149, Try.ntmps149
    go_wp2
    go_loopw [5] (fun i wr => ∃ k : Nat, k ≤ n ∧ i = .int .i64 k ∧ (∀ j : Nat, j < k → xs[j]? = ys[j]?) ∧ ∃ j, wr = w.drewN j) (fun i _ => n - (intOf i).toNat)
    case atStart => exact ⟨0, Nat.zero_le _, rfl, fun j h => absurd h (by omega), 0, rfl⟩
    case round =>
      obtain ⟨k, hk, rfl, hall, j, rfl⟩ := hrel
      have HALL := Lib.hid hall
      clear hall
      by_cases hlt : k < n
      · obtain ⟨b1, o1, x, rfl, hgx, hcx⟩ := HA.out.int (k := k) (by rw [HX.out]; exact hlt)
        obtain ⟨b2, o2, y, rfl, hgy, hcy⟩ := HB.out.int (k := k) (by rw [HY.out]; exact hlt)
        have GX := Lib.hid hgx
        have GY := Lib.hid hgy
        clear hgx hgy
        by_cases he : x = y
        · subst he
          have hb2 : (x != x) = false := by simp
          have HS := Lib.hid (show ∀ j : Nat, j < k + 1 → xs[j]? = ys[j]? from fun j hj => by
            rcases Nat.lt_succ_iff_lt_or_eq.1 hj with h | rfl
            · exact HALL.out j h
            · rw [GX.out, GY.out])
          go_wp2
          go_quiet (fail)
          go_wp2
          go_roundw
          case rel => exact ⟨k + 1, by omega, by go_num, HS.out, j + nq, by simp⟩
          case measure => simp [intOf]; omega
        · have hb2 : (x != y) = true := by rw [bne_iff_ne]; exact he
          have HS := Lib.hid (show decide (xs = ys) = false from decide_eq_false fun h => he (by have := GX.out; rw [h, GY.out] at this; injection this with this; exact this.symm))
          clear he
          go_wp2
          go_quiet (fail)
          go_wp2
          go_ret
          exact ⟨ret_bool HS.out.symm, j + nq, World.drewN_drewN _ _ _⟩
      · have HS := Lib.hid (show decide (xs = ys) = true from decide_eq_true (List.ext_getElem? fun i => by
          by_cases hi : i < k
          · exact HALL.out i hi
          · rw [List.getElem?_eq_none (by rw [HX.out]; omega), List.getElem?_eq_none (by rw [HY.out]; omega)]))
        go_wp2
        go_ret
        exact ⟨ret_bool HS.out.symm, j, rfl⟩
  · have hne : ((n : Int) != (m : Int)) = true := by rw [bne_iff_ne]; omega
    have HS := Lib.hid (show decide (xs = ys) = false from decide_eq_false fun h => hl (by rw [← hx, ← hy, h]))
    clear hl hx hy
    go_enter Try.func149, Try.ntmps149
    go_wp2
    go_ret
    exact ⟨ret_bool HS.out.symm, 0, rfl⟩

def cmpI (x y : Int) : Int := if x < y then -1 else if y < x then 1 else 0
theorem cmpL_cI {a b : List Int} {k : Nat} {x y : Int} (hx : a[k]? = some x) (hy : b[k]? = some y) : cmpL (a.drop k) (b.drop k) = if cmpI x y = 0 then cmpL (a.drop (k + 1)) (b.drop (k + 1)) else cmpI x y := by
  rw [cmpL_at hx hy]
  unfold cmpI
  by_cases h1 : x < y
  · simp [h1]
  · by_cases h2 : y < x
    · simp [h1, h2]
    · simp [h1, h2]

end Go.Proofs.Ytmgoaabeopnopaa
namespace Go.Proofs.Ytmgoaabeopnopaa
open Go.RowKit

theorem same_val {A B : Option Addr} {c d n m : Nat} {xs ys : List Int} {r : Bool} (w : World) (hx : xs.length = n) (hy : ys.length = m) (ha : Rd w A (ints xs)) (hb : Rd w B (ints ys)) (hn : n ≤ 1048576) (hm : m ≤ 1048576) (hr : decide (xs = ys) = r) :
    Calls Try.prog 149 #[.slice A n c, .slice B m d] w fun e w' => e = .returned (.bool r) ∧ ∃ j, w' = w.drewN j :=
  (same_any w hx hy ha hb hn hm).mono fun _ _ ⟨he, hj⟩ => ⟨by rw [he, hr], hj⟩
/-- A callee that only draws, in a world behind draws. -/
theorem quiet_more {P : Program} {f : FuncId} {args : Array Value} {w : World} {a n : Nat} {v : Value} (h : ∀ W, W = w.drewN (a + n) → Calls P f args W fun e w' => e = .returned v ∧ ∃ j, w' = W.drewN j) :
    Calls P f args (w.drewN (a + n)) fun e w' => e = .returned v ∧ ∃ j, w' = w.drewN (a + j) :=
  (h _ rfl).mono fun _ _ ⟨he, j, hj⟩ => ⟨he, n + j, by rw [hj, World.drewN_drewN, Nat.add_assoc]⟩

end Go.Proofs.Ytmgoaabeopnopaa
namespace Go.Proofs.Ytmgoaabeopnopaa
open Go.RowKit

/-- The least of the forms from the flags 0 to k. -/
def lstTo (xss : List (List Int)) (n : Nat) : Nat → List (List Int)
  | 0 => frmL xss n 0
  | k + 1 => if cmpLL (frmL xss n (k + 1)) (lstTo xss n k) < 0 then frmL xss n (k + 1) else lstTo xss n k
theorem frmL_len (xss : List (List Int)) (n p : Nat) : (frmL xss n p).length = xss.length := renM_length _ _
theorem frmL_row {xss : List (List Int)} {n p : Nat} (hall : (orbL xss n p).length = n) : ∀ xs ∈ frmL xss n p, xs.length = n := renM_row (inv_orb_len hall)
theorem lstTo_len (xss : List (List Int)) (n : Nat) : ∀ k, (lstTo xss n k).length = xss.length
  | 0 => frmL_len _ _ _
  | k + 1 => by
    unfold lstTo
    split
    · exact frmL_len _ _ _
    · exact lstTo_len xss n k
theorem lstTo_row {xss : List (List Int)} {n : Nat} (hall : ∀ q : Nat, q < n → (orbL xss n q).length = n) : ∀ k, k < n → ∀ xs ∈ lstTo xss n k, xs.length = n
  | 0, hk => frmL_row (hall 0 hk)
  | k + 1, hk => by
    unfold lstTo
    split
    · exact frmL_row (hall (k + 1) hk)
    · exact lstTo_row hall k (by omega)
structure LSt2 (w wr : World) (v : Value) (g3 N : Nat) (A : Option Addr) (c : Nat) (L : List (List Int)) : Prop where
  bx : Bx2 w wr v
  box : wr.ownsRow (w.heap.size + 2) 27 1 (.slice (some ⟨g3, 0, none⟩) 1 1) 1 [.slice A N c]
  rows : ∃ lo hi, OwnSS wr lo hi 36 A N c L ∧ w.heap.size + 2 ≤ lo ∧ hi ≤ wr.heap.size ∧ (hi ≤ g3 ∨ g3 < lo)
section
variable {w wr w2 : World} {v : Value} {g3 N c : Nat} {A : Option Addr} {L : List (List Int)}
theorem LSt2.go (h : LSt2 w wr v g3 N A c L) (hb : Below wr.heap.size wr w2) : LSt2 w w2 v g3 N A c L := by
  obtain ⟨lo, hi, h1, h2, h3, h4⟩ := h.rows
  exact ⟨h.bx.go hb, own_below h.box hb (Nat.le_refl _), lo, hi, ownSS_below h1 hb (Nat.le_refl _), h2, Nat.le_trans h3 hb.size, h4⟩
theorem LSt2.rd (h : LSt2 w wr v g3 N A c L) : RdSS wr A L := by obtain ⟨lo, hi, h1, _⟩ := h.rows; exact ownSS_rd h1
theorem LSt2.cell (h : LSt2 w wr v g3 N A c L) : wr.cell? ⟨g3, 0, none⟩ = some (.slice A N c) := own_cell h.box rfl
theorem LSt2.free (h : LSt2 w wr v g3 N A c L) : wr.frozen? ⟨g3, 0, none⟩ = false := h.box.frozenAt 0
theorem LSt2.glt (h : LSt2 w wr v g3 N A c L) : w.heap.size + 2 ≤ g3 ∧ g3 < wr.heap.size := h.box.lt g3 rfl
theorem lst2_start {lo : Nat} (bx : Bx2 w wr v) (own : OwnSS wr lo wr.heap.size 36 A N c L) (hlo : w.heap.size + 2 ≤ lo) (hl : lo ≤ wr.heap.size) : LSt2 w (wr.alloc (.cells #[.slice A N c] 27)) v wr.heap.size N A c L := by
  have h2 := World.ownsRow_lit (base := w.heap.size + 2) (e := 27) (size := 1) wr #[.slice A N c] 1 (by omega) (by decide) (by simp)
  exact ⟨bx.go (below1 _ _), by simpa using h2, lo, wr.heap.size, ownSS_below own (below1 _ _) (Nat.le_refl _), hlo, by simp, .inl (Nat.le_refl _)⟩
/-- Another maniplex takes its place. -/
theorem LSt2.put {A2 : Option Addr} {c2 lo hi : Nat} {L2 : List (List Int)} (h : LSt2 w wr v g3 N A c L) (own : OwnSS wr lo hi 36 A2 N c2 L2) (hlo : w.heap.size + 2 ≤ lo) (hg : g3 < lo) (hi2 : hi ≤ wr.heap.size) :
    LSt2 w (wr.setCell ⟨g3, 0, none⟩ (.slice A2 N c2)) v g3 N A2 c2 L2 := by
  have hst := h.box.stored 0 (.slice A2 N c2)
  exact ⟨⟨h.bx.bel.setCell (p := ⟨g3, 0, none⟩) h.glt.1 _⟩, by simpa using hst.1, lo, hi, own.turns2 0 g3 _ (.inl hg), hlo, by simpa using hi2, .inr hg⟩
theorem lst2_done (h : LSt2 w wr v g3 N A c L) (hl : L.length = N) (x : Value) : RetM w L (.returned (.agg #[.slice A N c])) (wr.setCell ⟨w.heap.size + 1, 0, none⟩ x) := by
  subst hl
  obtain ⟨lo, hi, h1, h2, h3, _⟩ := h.rows
  exact retM_yes h.bx h1 h2 h3 x
end
theorem rows_le {L : List (List Int)} {n : Nat} (h : ∀ xs ∈ L, xs.length = n) (hn : n ≤ 400) : ∀ xs ∈ L, (xs.length : Int) ≤ 1048576 := fun xs hx => by rw [h xs hx]; omega

end Go.Proofs.Ytmgoaabeopnopaa
namespace Go.Proofs.Ytmgoaabeopnopaa
open Go.RowKit

noncomputable def lfR (xss : List (List Int)) : List (List Int) := if okMan xss then lstTo xss (flN xss) (flN xss - 1) else []
theorem lfR_le (xss : List (List Int)) : (lfR xss).length ≤ 1048576 ∧ ∀ xs ∈ lfR xss, (xs.length : Int) ≤ 1048576 := by
  unfold lfR
  split
  · rename_i h
    have hm := okMan_iff.1 h
    have h1 := hm.r5
    have h2 := hm.f2
    exact ⟨by rw [lstTo_len]; omega, rows_le (lstTo_row (fun q hq => hm.all hq) _ (by omega)) hm.f4⟩
  · simp

end Go.Proofs.Ytmgoaabeopnopaa
