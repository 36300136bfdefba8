/- spec.l02Draw; what spec.l02Spoil hands back. -/
import Derived.Test.YtckmmgepoccopaaAny
import Derived.Test.YtckmmgepoccopaaL9
namespace Go.Proofs.Ytckmmgepoccopaa
open Go.RowKit

theorem get_fz {l : List Int} {n x : Nat} (hl : l.length = n) (hx : x < n) : l[x]? = some (fz l x) := by
  have h := List.getElem?_eq_getElem (show x < l.length by omega)
  rw [h, fz_at h]
theorem conj_invL {m p : List Int} {n : Nat} (h : InvL n m) (hn : n ≤ 400) (hpn : p.length = n) (hp : okP p = true) : InvL n (conjL m p) := by
  have hm := h.okP hn
  have hcl : (conjL m p).length = n := conj_len hpn
  refine ⟨hcl, fun x hx => ?_⟩
  have i0 := fz_in (xs := invL p) (by rw [invL_len, hpn]) (okP_inv hp) (x := (x : Int)) (by omega) (by omega)
  have e := fz_inv2 hpn hp (show (0 : Int) ≤ (x : Int) by omega) (by omega)
  obtain ⟨j, hj⟩ := Int.eq_ofNat_of_zero_le i0.1
  rw [hj] at e i0
  obtain ⟨k, hk, e1, e2⟩ := h.2 j (by omega)
  have hy := fz_in hpn hp (x := (k : Int)) (by omega) (by omega)
  obtain ⟨y, hyy⟩ := Int.eq_ofNat_of_zero_le hy.1
  have c1 := fz_conj h.1 hpn hm hp (x := (j : Int)) (by omega) (by omega)
  have c2 := fz_conj h.1 hpn hm hp (x := (k : Int)) (by omega) (by omega)
  rw [e, fz_at e1, hyy] at c1
  rw [hyy, fz_at e2, e] at c2
  refine ⟨y, by omega, ?_, ?_⟩
  · rw [get_fz hcl hx, c1]
  · rw [get_fz hcl (by omega), c2]
theorem ren_ok {xss : List (List Int)} {p : List Int} {n : Nat} (h : OkI n xss) (hpn : p.length = n) (hp : okP p = true) : OkI n (renM xss p) := by
  refine ⟨fun xs hx => ?_, h.n2, h.n4, by rw [renM_length]; exact h.r1, by rw [renM_length]; exact h.r5⟩
  obtain ⟨m, hm, rfl⟩ := List.mem_map.1 hx
  exact conj_invL (h.inv m hm) h.n4 hpn hp
theorem rows_holds {w : World} {F : Nat → Prop} {e n c : Nat} {A : Option Addr} {vals : List Value} {xss : List (List Int)} (h : (Pc.rows 2 e A n c vals xss).holds w F) : OwnSS w 0 w.heap.size e A n c xss := by
  obtain ⟨g1, g2, g3, g4, g5⟩ := h
  refine ⟨vals, g1, fun k hk => ⟨Nat.zero_le _, (g1.lt k hk).2⟩, g3, fun j xs hj => ?_, g5⟩
  obtain ⟨A', c', a1, a2, a3⟩ := g4 j xs hj
  exact ⟨A', c', a1, a2, fun k hk => ⟨Nat.zero_le _, (a2.lt k hk).2⟩⟩
theorem rows_rds {w : World} {F : Nat → Prop} {e n c : Nat} {A : Option Addr} {vals : List Value} {xss : List (List Int)} (h : (Pc.rows 2 e A n c vals xss).holds w F) : (Pc.rds A xss).holds w F := by
  have ho := rows_holds h
  obtain ⟨g1, g2, g3, g4, g5⟩ := h
  refine ⟨ownSS_rd ho, fun b o e hl => ?_, fun b o j A' m c' e hj hc b' o' e' hm => ?_⟩
  · obtain ⟨g, hg⟩ := own_shape g1 (by omega)
    rw [hg] at e
    simp only [Option.some.injEq, Addr.mk.injEq] at e
    obtain ⟨rfl, _, _⟩ := e
    exact g2 g (by rw [hg]; rfl)
  · obtain ⟨g, hg⟩ := own_shape g1 (by omega)
    subst hg
    simp only [Option.some.injEq, Addr.mk.injEq] at e
    obtain ⟨rfl, rfl, _⟩ := e
    rw [Nat.zero_add] at hc
    obtain ⟨A2, c2, a1, a2, a3⟩ := g4 j _ (List.getElem?_eq_getElem hj)
    rw [own_cell g1 a1] at hc
    simp only [Option.some.injEq, Value.slice.injEq] at hc
    obtain ⟨rfl, h2, _⟩ := hc
    obtain ⟨g', hg'⟩ := own_shape a2 (by omega)
    rw [hg'] at e'
    simp only [Option.some.injEq, Addr.mk.injEq] at e'
    obtain ⟨rfl, _, _⟩ := e'
    exact a3 g' (by rw [hg']; rfl)
theorem rows_rds1 {w : World} {F : Nat → Prop} {e n c g : Nat} {vals : List Value} {xss : List (List Int)} (h : (Pc.rows 2 e (some ⟨g, 0, none⟩) n c vals xss).holds w F) : (Pc.rds (some ⟨g, 1, none⟩) (xss.drop 1)).holds w F := by
  obtain ⟨h1, h2, h3⟩ := rows_rds h
  refine ⟨rdSS_drop (i := 1) h1, fun b o e hl => ?_, fun b o j A' m c' e hj hc b' o' e' hm => ?_⟩
  · simp only [Option.some.injEq, Addr.mk.injEq] at e
    obtain ⟨rfl, _, _⟩ := e
    exact h2 g 0 rfl (by simp at hl; omega)
  · simp only [Option.some.injEq, Addr.mk.injEq] at e
    obtain ⟨rfl, rfl, _⟩ := e
    simp at hj
    exact h3 g 0 (1 + j) A' m c' rfl (by omega) (by rw [Nat.zero_add]; exact hc) b' o' e' hm
theorem nil_rds {w : World} {F : Nat → Prop} (A : Option Addr) : (Pc.rds A []).holds w F :=
  ⟨⟨[], fun h => absurd h (by simp), rfl, fun j xs h => by simp at h⟩, fun b o _ h => absurd h (by simp), fun b o j A' m c _ h => absurd h (by simp)⟩

section
variable {A : Option Addr} {g n c : Nat} {bs : List Value}
set_option maxRecDepth 100000 in
set_option maxHeartbeats 3200000 in
theorem draw2P {most : Nat} (w : World) (hs : SrcE w g A n c bs) (hn : n ≤ 1048576) (h8 : 8 ≤ most) (h4 : most ≤ 400) :
    Calls Try.prog 122 #[.pointer (some ⟨g, 0, none⟩), .int .i64 most] w (RetDM w g A n c bs most) := by
  have S0 := Lib.hid ((St.start w).addBlk #[.slice none 0 0] 26)
  have D0 := Lib.hid (Dr.start hs)
  clear hs
  go_enter Try.func122, Try.ntmps122
  go_wp2_with fail
  refine (anyP _ (D0.out.now S0.out) hn h8 h4).mono ?_
  rintro e w1 ⟨wb0, A1, N, c1, m, vals, xss, rfl, hl, ok, hm, d1, st1⟩
  obtain ⟨wb1, d2, st2⟩ := D0.out.join S0.out d1 st1
  have hN1 := ok.r1
  have hN5 := ok.r5
  have hm1 := ok.n2
  have hm4 := ok.n4
  rw [hl] at hN1 hN5
  obtain ⟨gM, rfl⟩ := own_shape (st2.rows (i := 1) rfl) (show 0 < N by omega)
  have D1 := Lib.hid d2
  have S1 := Lib.hid (show St wb1 (w1.alloc (.cells #[.slice (some ⟨gM, 0, none⟩) N c1] 26)) [.blk w.heap.size #[.slice none 0 0] 26, .rows 2 28 (some ⟨gM, 0, none⟩) N c1 vals xss, .blk w1.heap.size #[.slice (some ⟨gM, 0, none⟩) N c1] 26] from st2.addBlk #[.slice (some ⟨gM, 0, none⟩) N c1] 26)
  have HL := Lib.hid hl
  have HO := Lib.hid ok
  clear d1 st1 d2 st2 hl ok S0 D0
  go_wp2_with fail
  refine (nextE (N := 4) _ (D1.out.now S1.out) hn (by omega)).mono ?_
  rintro e w2 ⟨r, rfl, ⟨h0r, h1r⟩, hs_, tu_⟩
  obtain ⟨wb2, d_, st_⟩ := D1.out.num S1.out hs_ tu_
  have D2 := Lib.hid d_
  have S2 := Lib.hid st_
  clear d_ st_ hs_ tu_
  by_cases hr : 0 < r
  · obtain ⟨x0, hx0⟩ : ∃ x0, xss[0]? = some x0 := ⟨_, List.getElem?_eq_getElem (by rw [HL.out]; omega)⟩
    have hlen := (HO.out.inv x0 (List.mem_of_getElem? hx0)).1
    have Sd := Lib.hid (S2.out.go (below_drewN (Below.refl _ _) 1))
    obtain ⟨A0, c0, hv0, ow0⟩ := Sd.out.rowAt (i := 1) rfl hx0
    rw [hlen] at hv0
    have HC0 := Lib.hid (own_cell (Sd.out.rows (i := 1) rfl) hv0)
    have x1 := (S2.out.blk (i := 2) rfl).cell (i := 0) rfl
    clear hx0 hv0 ow0
    go_wp2
    go_region_law ((first
      | (refine step_call rfl 118 #[.tmp 14] #[26] (by rfl) Try.func118 (by rfl) (by rfl) #[.agg #[.slice (some ⟨gM, 0, none⟩) N c1]] (by first | (simp [Act.eval]; done) | simp [Act.eval, Act.put]) _ (sFlags_bel (n := m) (c0 := c0) (A0 := A0) _ (by omega) HC0.out) ?_
         rintro e w3 ⟨rfl, bel⟩
         refine ⟨_, rfl, ?_⟩
         have S3 := Lib.hid (Sd.out.go bel)
         have y1 := (S3.out.blk (i := 2) rfl).cell (i := 0) rfl
         clear bel)
      | (refine step_call rfl 159 #[.tmp 13, .tmp 15] #[77, 2] (by rfl) Try.func159 (by rfl) (by rfl) #[.pointer (some ⟨g, 0, none⟩), .int .i64 m] (by first | (simp [Act.eval]; done) | simp [Act.eval, Act.put]) _ (drawP _ (D2.out.now S3.out) hn hm4) ?_
         rintro e w4 ⟨wb4, A4, c4, p, rfl, hpl, hpo, d4, st4⟩
         refine ⟨_, rfl, ?_⟩
         obtain ⟨wb5, d5, st5⟩ := D2.out.join S3.out d4 st4
         have D5 := Lib.hid d5
         have S5 := Lib.hid st5
         have HPL := Lib.hid hpl
         have HPO := Lib.hid hpo
         have z1 := (S5.out.blk (i := 2) rfl).cell (i := 0) rfl
         clear d4 st4 d5 st5 hpl hpo)
      | (refine step_call rfl 158 #[.tmp 12, .tmp 16] #[26, 28] (by rfl) Try.func158 (by rfl) (by rfl) #[.agg #[.slice (some ⟨gM, 0, none⟩) N c1], .slice A4 m c4] (by first | (simp [Act.eval]; done) | simp [Act.eval, Act.put]) _ (sren_any _ HL.out (ownSS_rd (S5.out.sep.ownSS (i := 1) rfl)) HO.out.sys HPL.out (own_rd (S5.out.own (i := 3) rfl)) HPO.out) ?_
         rintro e w6 ⟨A6, c6, rfl, own6, bel6⟩
         refine ⟨_, rfl, ?_⟩
         obtain ⟨vals6, st6⟩ := S5.out.addRows bel6 own6 (Nat.le_refl _) (Nat.le_refl _)
         have S6 := Lib.hid st6
         have z0 := (S6.out.blk (i := 0) rfl).cell (i := 0) rfl
         have f0 := (S6.out.blk (i := 0) rfl).free 0
         have HO6 := Lib.hid (ren_ok HO.out HPL.out HPO.out)
         clear own6 bel6 st6)))
    all_goals
      have hl6 : (renM xss p).length = N := by rw [renM_length, HL.out]
      rw [hl6] at S6 ⊢
      have HL6 := Lib.hid hl6
      have st4 := S6.out.blkSet (i := 0) rfl 0 (.slice A6 N c6)
      have y0 := (st4.blk (i := 0) rfl).cell (i := 0) rfl
      clear hl6
      go_wp2
      refine bodyPost_ret (v := .agg #[.slice A6 N c6]) (by simp [results, Try.results122, go_sem, y0]) rfl ⟨wb5, A6, N, c6, m, vals6, renM xss p, rfl, HL6.out, HO6.out, hm, D5.out, ?_⟩
      exact st4.pick (fun i => i + 4) (fun i hi => by simp at hi ⊢; omega) (fun i hi => by match i, hi with | 0, _ => rfl) (fun i j _ _ h => by omega)
  · have x1 := (S2.out.blk (i := 2) rfl).cell (i := 0) rfl
    have z0 := (S2.out.blk (i := 0) rfl).cell (i := 0) rfl
    have f0 := (S2.out.blk (i := 0) rfl).free 0
    go_wp2
    have st4 := S2.out.blkSet (i := 0) rfl 0 (.slice (some ⟨gM, 0, none⟩) N c1)
    have y0 := (st4.blk (i := 0) rfl).cell (i := 0) rfl
    refine bodyPost_ret (v := .agg #[.slice (some ⟨gM, 0, none⟩) N c1]) (by simp [results, Try.results122, go_sem, y0]) rfl ⟨wb2, some ⟨gM, 0, none⟩, N, c1, m, vals, xss, rfl, HL.out, HO.out, hm, D2.out, ?_⟩
    exact st4.pick (fun i => i + 1) (fun i hi => by simp at hi ⊢; omega) (fun i hi => by match i, hi with | 0, _ => rfl) (fun i j _ _ h => by omega)
end
end Go.Proofs.Ytckmmgepoccopaa
