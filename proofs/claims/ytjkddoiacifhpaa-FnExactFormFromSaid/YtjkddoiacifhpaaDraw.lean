import Derived.Test.YtjkddoiacifhpaaSrc
import Derived.Test.YtjkddoiacifhpaaL4
namespace Go.Proofs.Ytjkddoiacifhpaa
open Go.RowKit

/-- A source as the draws use it: its numbers don't matter. -/
def SrcE (w : World) (g : Nat) (A : Option Addr) (n c : Nat) (bs : List Value) : Prop := ∃ (a : Nat) (h : Int), Src w g A n c a h bs
/-- What a call hands back that only turns the source: a number that meets p. -/
def RetD (w : World) (g : Nat) (A : Option Addr) (n c : Nat) (bs : List Value) (p : Int → Prop) (e : Ending) (w' : World) : Prop :=
  ∃ r : Int, e = .returned (.int .i64 r) ∧ p r ∧ SrcE w' g A n c bs ∧ Turns g (g + 1) w w'
section
variable {A : Option Addr} {g n c : Nat} {bs : List Value}
theorem nextE {N : Int} (w : World) (hs : SrcE w g A n c bs) (hn : n ≤ 1048576) (hN : 1 ≤ N) :
    Calls Try.prog 140 #[.pointer (some ⟨g, 0, none⟩), .int .i64 N] w (RetD w g A n c bs fun r => 0 ≤ r ∧ r < N) := by
  obtain ⟨a, h, hs⟩ := hs
  refine (next_any w hs hn hN).mono ?_
  rintro e w' ⟨r, a', h', rfl, h1, h2, h3⟩
  exact ⟨r, rfl, ⟨by omega, h1⟩, ⟨a', h', h2⟩, h3⟩
theorem belowE {N : Int} (w : World) (hs : SrcE w g A n c bs) (hn : n ≤ 1048576) (hN : 1 ≤ N) :
    Calls Try.prog 37 #[.pointer (some ⟨g, 0, none⟩), .int .i64 N] w (RetD w g A n c bs fun r => 0 ≤ r ∧ r < N) := by
  obtain ⟨a, h, hs⟩ := hs
  refine (below_any w hs hn hN).mono ?_
  rintro e w' ⟨r, a', h', rfl, h1, h2, h3⟩
  exact ⟨r, rfl, ⟨by omega, h1⟩, ⟨a', h', h2⟩, h3⟩
theorem pickE {A2 : Option Addr} {m c2 : Nat} {xs : List Int} (w : World) (hs : SrcE w g A n c bs) (hn : n ≤ 1048576) (hx : xs.length = m) (hm : 1 ≤ m) (hm2 : m ≤ 1048576) (hr : Rd w A2 (ints xs)) (hg : ∀ b o, A2 = some ⟨b, o, none⟩ → b < g ∨ g + 1 ≤ b) :
    Calls Try.prog 114 #[.pointer (some ⟨g, 0, none⟩), .slice A2 m c2] w (RetD w g A n c bs fun r => r ∈ xs) := by
  have HS := Lib.hid hs
  have HX := Lib.hid hx
  have HR := Lib.hid hr
  have HG := Lib.hid hg
  clear hs hx hr hg
  go_enter Try.func114, Try.ntmps114
  go_wp2_with fail
  refine (nextE w HS.out hn (by omega)).mono ?_
  rintro e w1 ⟨r, rfl, ⟨h0, h1⟩, hs1, tu⟩
  obtain ⟨k, rfl⟩ := Int.eq_ofNat_of_zero_le h0
  obtain ⟨b, o, x, rfl, hgx, hcx⟩ := (tu.rd HR.out HG.out).int (k := k) (by rw [HX.out]; omega)
  have HGX := Lib.hid (List.mem_of_getElem? hgx)
  have HS1 := Lib.hid hs1
  have TU := Lib.hid tu
  clear hgx hs1 tu
  go_wp2
  go_ret
  exact ⟨x, rfl, HGX.out, HS1.out, TU.out⟩
theorem Src.turns {w w' : World} {a lo hi : Nat} {h : Int} (hs : Src w g A n c a h bs) (ht : Turns lo hi w w') (hlo : g < lo) : Src w' g A n c a h bs := by
  have hg := World.block_lt_of_cell? w _ hs.c0
  have hb := ht.block g hg (by omega)
  have hc : ∀ k, w'.cell? ⟨g, k, none⟩ = w.cell? ⟨g, k, none⟩ := fun k => by unfold World.cell?; simp only [hb]
  have hf : ∀ k, w'.frozen? ⟨g, k, none⟩ = w.frozen? ⟨g, k, none⟩ := fun k => by unfold World.frozen?; simp only [hb]
  refine ⟨(hc 0).trans hs.c0, (hc 1).trans hs.c1, (hc 2).trans hs.c2, (hf 1).trans hs.f1, (hf 2).trans hs.f2, hs.le, ?_, hs.len, hs.u8, hs.out⟩
  intro hl
  obtain ⟨b, o, e, hcc⟩ := hs.rd hl
  refine ⟨b, o, e, fun k u hu => ?_⟩
  have h1 := hcc k u hu
  have h2 := ht.block b (World.block_lt_of_cell? w _ h1) (by have := hs.out hl b o e; omega)
  rw [← h1]
  unfold World.cell?
  simp only [h2]
theorem SrcE.turns {w w' : World} {lo hi : Nat} (hs : SrcE w g A n c bs) (ht : Turns lo hi w w') (hlo : g < lo) : SrcE w' g A n c bs := by
  obtain ⟨a, h, hs⟩ := hs
  exact ⟨a, h, hs.turns ht hlo⟩
theorem SrcE.lt {w : World} (hs : SrcE w g A n c bs) : g < w.heap.size := by
  obtain ⟨a, h, hs⟩ := hs
  exact World.block_lt_of_cell? w _ hs.c0
/-- A drawn list of N numbers, whatever they are. -/
def RetL (w : World) (g : Nat) (A : Option Addr) (n c : Nat) (bs : List Value) (N : Nat) (e : Ending) (w' : World) : Prop :=
  ∃ (A' : Option Addr) (c' : Nat) (L : List Int), e = .returned (.slice A' N c') ∧ L.length = N ∧ w'.ownsRow w.heap.size 2 1 (.slice A' N c') N (ints L) ∧ SrcE w' g A n c bs ∧ Turns g (g + 1) w w'
structure DSt (w wr : World) (g : Nat) (A : Option Addr) (n c : Nat) (bs : List Value) (A' : Option Addr) (N c' : Nat) (L : List Int) : Prop where
  len : L.length = N
  own : wr.ownsRow w.heap.size 2 1 (.slice A' N c') N (ints L)
  src : SrcE wr g A n c bs
  tu : Turns g (g + 1) w wr
  lt : g < w.heap.size
theorem DSt.next {w wr w2 : World} {A' : Option Addr} {N c' : Nat} {L : List Int} (h : DSt w wr g A n c bs A' N c' L) (hs : SrcE w2 g A n c bs) (tu : Turns g (g + 1) wr w2) : DSt w w2 g A n c bs A' N c' L :=
  ⟨h.len, tu.own h.own (own_in h.own) (.inr h.lt), hs, h.tu.trans tu, h.lt⟩
theorem DSt.set {w wr : World} {b N c' k : Nat} {L : List Int} {x : Int} (h : DSt w wr g A n c bs (some ⟨b, 0, none⟩) N c' L) : DSt w (wr.setCell ⟨b, k, none⟩ (.int .i64 x)) g A n c bs (some ⟨b, 0, none⟩) N c' (L.set k x) := by
  have hst := h.own.stored k (.int .i64 x)
  have hb := (h.own.lt b rfl).1
  have h1 := hst.1
  rw [ints_set] at h1
  have hlt := h.lt
  exact ⟨by simp [h.len], h1, h.src.turns (lo := b) (hi := b + 1) (turns_set wr b k _) (by omega), turns_grown h.tu hst.2 fun k hk => .inl (by simp at hk; omega), h.lt⟩

set_option maxHeartbeats 1600000 in
theorem drawE {N : Nat} (w : World) (hs : SrcE w g A n c bs) (hn : n ≤ 1048576) (hN : N ≤ 1048576) :
    Calls Try.prog 162 #[.pointer (some ⟨g, 0, none⟩), .int .i64 N] w (RetL w g A n c bs N) := by
  have HS := Lib.hid hs
  have hlt := hs.lt
  clear hs
  go_enter Try.func162, Try.ntmps162
  go_wp2_with fail
  refine (unit_any N w hN).mono ?_
  rintro e w1 ⟨A1, c1, rfl, own, bel⟩
  have ST := Lib.hid (show DSt w w1 g A n c bs A1 N c1 (unitL N) from ⟨by simp [unitL], own, HS.out.turns (lo := w.heap.size) (hi := w.heap.size) (Turns.of_below bel (Nat.le_refl _)) hlt, Turns.of_below bel (Nat.le_refl _), hlt⟩)
  clear own bel
  go_wp2
  go_loopw [6] (fun q wr => ∃ (i : Int) (L : List Int), -1 ≤ i ∧ i < N ∧ q = .int .i64 i ∧ DSt w wr g A n c bs A1 N c1 L) (fun q _ => (intOf q).toNat)
  case atStart => exact ⟨(N : Int) - 1, unitL N, by omega, by omega, by first | rfl | go_num, ST.out⟩
  case round =>
    obtain ⟨i, L, hi0, hi1, rfl, st⟩ := hrel
    have S := Lib.hid st
    clear st ST
    by_cases h0 : 0 < i
    · obtain ⟨b, rfl⟩ := own_shape S.out.own (by omega)
      obtain ⟨j, rfl⟩ := Int.eq_ofNat_of_zero_le (show 0 ≤ i by omega)
      go_wp2_with fail
      refine (nextE wr S.out.src hn (by omega)).mono ?_
      rintro e w2 ⟨r, rfl, ⟨hr0, hr1⟩, hs2, tu2⟩
      obtain ⟨k, rfl⟩ := Int.eq_ofNat_of_zero_le hr0
      have S2 := Lib.hid (S.out.next hs2 tu2)
      clear hs2 tu2
      obtain ⟨x, hx⟩ := ints_at S2.out.len (show j < N by omega)
      obtain ⟨y, hy⟩ := ints_at S2.out.len (show k < N by omega)
      have hcx := own_cell S2.out.own hx
      have hcy := own_cell S2.out.own hy
      have hfx := S2.out.own.frozenAt j
      have S3 := Lib.hid (S2.out.set (k := j) (x := y))
      obtain ⟨z, hz⟩ := ints_at S3.out.len (show k < N by omega)
      have hcz := own_cell S3.out.own hz
      have hfz := S3.out.own.frozenAt k
      have S4 := Lib.hid (S3.out.set (k := k) (x := x))
      clear hx hy hz
      go_wp2
      go_roundw
      case rel => exact ⟨(j : Int) - 1, _, by omega, by omega, by go_num, S4.out⟩
      case measure => simp [intOf]; omega
    · go_wp2
      go_ret
      exact ⟨A1, c1, L, rfl, S.out.len, S.out.own, S.out.src, S.out.tu⟩
end
end Go.Proofs.Ytjkddoiacifhpaa
